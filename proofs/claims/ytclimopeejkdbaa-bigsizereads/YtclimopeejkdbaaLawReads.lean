/- Proved: for every slice of bytes the statement BigsizeReads (P1.1: what any bytes begin with; and no longer form is taken) returns true over the code at the commit, and changes none of its arguments. No condition. -/
import Derived.Test.YtclimopeejkdbaaRows
import Derived.Test.YtclimopeejkdbaaBigLives
import Derived.WalkKit
import Derived.ProofKit
import Derived.OpenShut
import Derived.SizedLaws
namespace Go.Proofs.Ytclimopeejkdbaa.bigsizeReads
open Go.ChangeShapes Go.WideShapes Go.ChangeAt Go.RowKit
set_option linter.unusedVariables false

/-- a slice of numbers that came in: nil, or a row of cells -/
def IsRow (k : IntKind) (size : Nat) (w : World) (a : Option Addr) (len cap : Nat) (zs : List Int) : Prop :=
  (a = none ∧ len = 0 ∧ cap = 0 ∧ zs = []) ∨
  ∃ x, a = some x ∧ len ≤ cap ∧ cap ≤ maxLen ∧ zs.length = cap ∧ cap * size ≤ 140737488351232 ∧ (∀ i, i < zs.length → w.cell? (x.add i) = some (.int k (zs.getD i 0))) ∧ ∀ n ∈ zs, (Lit.int k n).wf = true

/-- such bytes, as the contracts ask them -/
theorem row_isB {w : World} {a : Option Addr} {len cap : Nat} {zs : List Int} (h : IsRow .u8 1 w a len cap zs) :
    ∃ L : List Int, L.length = len ∧ IsB w a cap L ∧ len ≤ cap ∧ cap ≤ 140737488351232 ∧ ∀ k, k < L.length → 0 ≤ L.getD k 0 ∧ L.getD k 0 ≤ 255 := by
  rcases h with ⟨rfl, rfl, rfl, rfl⟩ | ⟨x, rfl, hl, hm, hz, hr, hc, hw⟩
  · exact ⟨[], rfl, .inl ⟨rfl, rfl, rfl⟩, by omega, by omega, fun k hk => absurd hk (Nat.not_lt_zero _)⟩
  · have hlen : (zs.take len).length = len := by rw [List.length_take]; omega
    have hget : ∀ k, k < len → (zs.take len).getD k 0 = zs.getD k 0 := fun k hk => by
      rw [List.getD_eq_getElem?_getD, List.getD_eq_getElem?_getD, List.getElem?_take, if_pos hk]
    refine ⟨zs.take len, hlen, .inr ⟨x, rfl, fun j u hu => ?_⟩, hl, by omega, fun k hk => ?_⟩
    · have hj : j < len := by
        have := (List.getElem?_eq_some_iff.1 hu).1
        rw [U8_length, hlen] at this
        exact this
      rw [U8_at _ _ (by omega), hget j hj] at hu
      cases hu
      exact hc j (by omega)
    · rw [hlen] at hk
      rw [hget k hk]
      have hkz : k < zs.length := by omega
      have hmem : zs.getD k 0 ∈ zs := by rw [List.getD_eq_getElem?_getD, List.getElem?_eq_getElem hkz]; exact List.getElem_mem hkz
      exact bounds_u8 (hw _ hmem)

theorem own_empty (w : World) : (w.alloc (.cells #[] 5)).ownsRow w.heap.size 5 1 (.slice (some ⟨w.heap.size, 0, none⟩) 0 0) 0 (U8 []) :=
  ⟨rfl, .inr ⟨w.heap.size, 0, #[], rfl, Nat.le_refl _, heap_alloc_new w _, Nat.le_refl _, by unfold maxLen; omega, rfl, rfl⟩⟩

set_option maxHeartbeats 1000000 in
theorem walk_any (ao : Option Addr) (cap : Nat) (L : List Int) (w : World) (hB : IsB w ao cap L) (hlc : L.length ≤ cap) (hcap : cap ≤ 140737488351232) (hz : ∀ k, k < L.length → 0 ≤ L.getD k 0 ∧ L.getD k 0 ≤ 255) :
    Calls Try.prog 4 #[.slice ao L.length cap] w fun e w' => e = .returned (.bool true) ∧ Below w.heap.size w w' := by
  have HI := hide hB
  have HR := hide (fun ao cap w (h1 : IsB w ao cap L) (h2 : L.length ≤ cap) (h3 : cap ≤ 9223372036854775807) => read_any ao cap L w h1 h2 h3 hz)
  have HT := hide (fun ao cap w (h1 : IsB w ao cap L) (h2 : L.length ≤ cap) (h3 : cap ≤ 9223372036854775807) => rread_any ao cap L w h1 h2 h3 hz)
  generalize rdX L = X at *
  generalize rdN L = N at *
  generalize rdE L = E at *
  obtain ⟨len, hlen⟩ : ∃ len, L.length = len := ⟨_, rfl⟩
  rw [hlen] at HR HT hlc ⊢
  have HL := hide hlen
  clear hB hz hlen
  go_enter Try.func4, Try.ntmps4
  go_wp2_with (at_builtin; refine wpList_append_ownx rfl (.tmp 10) (.tmp 11) rfl w.heap.size _ 0 [] rfl (own_empty w) ao len cap L rfl HL.out ?c1 (by omega) (by simp) ?_)
  case c1 => exact HI.out.below ((Below.refl _ _).alloc (Nat.le_refl _) _)
  intro v1 w1 ho hg
  have B1 := ((Below.refl w.heap.size w).alloc (Nat.le_refl _) (.cells #[] 5)).grown hg (by simp) (fun k hk => by cases hk; exact Nat.le_refl _)
  have HB1 := hide B1
  have hI1 := hide (HI.out.below B1)
  have z1 := B1.size
  rw [← HL.out] at ho
  obtain ⟨ao1, cp1, hv1, hO1, hc1, hc2⟩ := own_isB ho
  rw [HL.out] at hv1 hc1
  have HO1 := hide hO1
  rw [hv1]
  clear ho hg B1 hO1 hv1
  go_wp2_with fail
  refine (HR.out _ _ _ HO1.out hc1 hc2).mono ?_
  rintro e w2 ⟨rfl, rfl⟩
  go_wp2_with fail
  refine (HT.out _ _ _ hI1.out hlc (by omega)).mono ?_
  rintro e w3 ⟨rfl, hb⟩
  have HB3 := hide (HB1.out.trans (hb.mono z1))
  have hI3 := hide (hI1.out.below hb)
  have hO3 := hide (HO1.out.below hb)
  have z3 := hb.size
  clear hb
  go_wp2_with fail
  refine (lives_any _).mono ?_
  rintro e w4 ⟨rfl, hb⟩
  have HB4 := hide (HB3.out.trans (hb.mono (by omega)))
  have cv1 := conv_any (hI3.out.below hb)
  have cv2 := conv_any (hO3.out.below hb)
  rw [HL.out] at cv1 cv2
  clear hb
  go_wp2
  go_ret
  exact ⟨by simp, HB4.out⟩

theorem walk (ao : Option Addr) (len cap : Nat) (zs : List Int) (w : World) (w0 : IsRow .u8 1 w ao len cap zs) :
    Calls Try.prog 4 #[.slice ao len cap] w fun e w' => e = .returned (.bool true) ∧ Below w.heap.size w w' := by
  obtain ⟨L, rfl, hB, h1, h2, h3⟩ := row_isB w0
  exact walk_any ao cap L w hB h1 h2 h3

theorem own : ownKnob Try.prog.godebug = none := by kernel_rfl
theorem laidOut : laidOutB Try.prog = true := by kernel_rfl
theorem bytesEbytes : Try.prog.bytesOf 5 = 1 := by kernel_rfl

set_option maxRecDepth 100000 in
theorem lifted (os : Os) (started : os.Started) (H : Type) (enc : TypeId × Value → H) :
    ReturnsInHanded {} Try.checked os 4 .any (Rows.bigsizeReadsSpec.pre6 enc Try.prog Try.f4 Rows.bigsizeReadsRow.domain false) (Rows.bigsizeReadsSpec.post enc Try.prog Try.f4 false true false false) := by
  refine returnsInHanded_of_change_sized (C := Try.checked) own started (by kernel_rfl) Try.func4
    (ChangeSpec.witness6 (enc := enc) (C := Try.checked) false ⟨#[], #[.slice none 0 0], []⟩ 8 (by kernel_rfl) (by kernel_rfl) (by kernel_rfl) (by kernel_rfl)) ?_
  intro W base args ds gs before hval0 hW hcnd hsz0 _
  have hsz : (DataW.weightsEach Try.prog (Try.f4.params.toList ++ Rows.bigsizeReadsSpec.plain.varTypes Try.prog) (ds ++ gs)).all (· ≤ reachBytes) = true := hsz0
  have hval : ∀ (j : Nat) t v, Try.f4.params[j]? = some t → args[j]? = some v → Value.okWide Try.prog W .any base t v := hval0
  have hW' := hW
  obtain ⟨p, q, hA0, hV, rfl, hfz, hnd⟩ := hW
  have hA : DataW.TrodAll enc Try.prog W 0 (fun _ => true) true Try.f4.params.toList args.toList ds p := hA0
  rw [Try.params4] at hA hval hsz
  obtain ⟨v0, vs0, d0, ds0, p0, q0, hargs, rfl, rfl, h0, r0⟩ := trodAll_cons hA
  obtain ⟨rfl, rfl, rfl⟩ := trodAll_nil r0
  obtain rfl : args = #[v0] := by cases args; simp_all
  obtain ⟨rfl, rfl⟩ := trodVars_none hV
  have k0 := h0
  have lt0 : ∀ x ∈ p0, x.block < W.heap.size := by obtain ⟨m, hm⟩ := k0; exact DataW.trod_lt m _ _ _ hm
  obtain ⟨a0, len0, cap0, rfl⟩ := okWide_slice Try.underlying23 (hval 0 23 v0 rfl rfl)
  obtain ⟨z0, w0⟩ : ∃ zs, IsRow .u8 1 W a0 len0 cap0 zs := by
    obtain ⟨fuel, hf⟩ := h0
    rcases open_ints Try.underlying23 Try.underlying5 (by kernel_rfl) hf with ⟨hcs, _⟩ | ⟨x, l, c, zs, hcs, _, hl, hm, hz, hx, hcell, hwz⟩
    · simp [Value.cells] at hcs
      obtain ⟨rfl, rfl, rfl⟩ := hcs
      exact ⟨[], .inl ⟨rfl, rfl, rfl, rfl⟩⟩
    · simp [Value.cells] at hcs
      obtain ⟨rfl, rfl, rfl⟩ := hcs
      simp only [Prod.mk.injEq] at hx
      have hxd := hx.1
      subst hxd
      have hrch := sized_slice hsz (j := 0) (t := 23) (e := 5) rfl rfl Try.underlying23
      rw [bytesEbytes] at hrch
      simp only [lits, List.length_map, List.length_take, List.length_drop, reachBytes] at hrch
      exact ⟨zs, .inr ⟨_, rfl, hl, hm, by simpa using hz, by simp at hz; omega, hcell, hwz⟩⟩
  clear hA0 hval0 hsz0 hsz
  refine (walk a0 len0 cap0 z0 W w0).mono fun e W' ⟨he, bel⟩ => ?_
  subst he
  exact ⟨_, rfl, _, _, _, [], _, [], hW', trodAll_mk1 (shut_bool Try.underlying4 _), (trodAll_cons_mk (Below.trod laidOut (by kernel_rfl) (of_decide_eq_true (by kernel_rfl)) k0 bel lt0) trodAll_mk0), rfl, bel.frame _, fun h => by cases h⟩

theorem over : Rows.bigsizeReadsRow.holds Try.pinned (OpenSpec.ofChange Rows.bigsizeReadsSpec) :=
  OpenClaim.holds_of_wide 4 Try.f4 rfl rfl rfl rfl rfl rfl rfl ⟨rfl, rfl, rfl, rfl, rfl⟩ rfl rfl rfl rfl rfl (by kernel_rfl) Try.func4 (by kernel_rfl)
    (of_decide_eq_true (by kernel_rfl)) (by unfold Func.isWrapper; first | (rw [if_pos (by decide +kernel)]; kernel_rfl) | (rw [if_neg (by decide +kernel)]; exact ⟨rfl, rfl⟩))
    (fun os started H enc _ => lifted os started H enc)

theorem proved : Rows.BigsizeReadsSaid := over
end Go.Proofs.Ytclimopeejkdbaa.bigsizeReads
namespace Go.Proofs.Ytclimopeejkdbaa
theorem bigsizeReads_holds : Rows.BigsizeReadsSaid := bigsizeReads.proved
end Go.Proofs.Ytclimopeejkdbaa
