/- Proved: for every number and all two slices of bytes the statement BigsizeNumbers (P1.1: every number has one form, and is read from it, whatever stands ahead and behind) returns true over the code at the commit, and changes none of its arguments. No condition. -/
import Derived.Test.YtclimopeejkdbaaRows
import Derived.Test.YtclimopeejkdbaaBigLives
import Derived.Test.YtclimopeejkdbaaBigRow
import Derived.WalkKit
import Derived.ProofKit
import Derived.OpenShut
import Derived.SizedLaws
namespace Go.Proofs.Ytclimopeejkdbaa.bigsizeNumbers
open Go.ChangeShapes Go.WideShapes Go.ChangeAt Go.RowKit
set_option linter.unusedVariables false

theorem own_empty_at (w : World) (B n : Nat) (hB : B ≤ w.heap.size) (hn : n = w.heap.size) : (w.alloc (.cells #[] 5)).ownsRow B 5 1 (.slice (some ⟨n, 0, none⟩) 0 0) 0 (U8 []) := by
  subst hn
  exact ⟨rfl, .inr ⟨w.heap.size, 0, #[], rfl, hB, heap_alloc_new w _, Nat.le_refl _, by unfold maxLen; omega, rfl, rfl⟩⟩

set_option maxHeartbeats 2000000 in
theorem walk_any (x : Int) (ao bo : Option Addr) (acap bcap : Nat) (A B : List Int) (w : World) (h0 : 0 ≤ x) (h1 : x ≤ 18446744073709551615) (hA : IsB w ao acap A) (hB : IsB w bo bcap B)
    (a1 : A.length ≤ 140737488351232) (b1 : B.length ≤ 140737488351232) (hb : ∀ k, k < B.length → 0 ≤ B.getD k 0 ∧ B.getD k 0 ≤ 255) :
    Calls Try.prog 3 #[.int .u64 x, .slice ao A.length acap, .slice bo B.length bcap] w fun e w' => e = .returned (.bool true) ∧ Below w.heap.size w w' := by
  have HA := hide hA
  have HBb := hide hB
  have hnum := rd_num x B h0 h1
  have hbytes : ∀ c ∈ numB x ++ B, 0 ≤ c ∧ c ≤ 255 := fun c hc => by
    rcases List.mem_append.1 hc with h | h
    · exact numB_bytes x h0 c h
    · exact all_getD hb c h
  have HP := hide (fun ao cap w (h : IsB w ao cap A) => put_any ao cap A x w h (by omega) h0 h1)
  have HN := hide (fun w => rnum_any x w h0 h1)
  have HS := hide (fun w => size_any x w h0)
  have HR := hide (fun ao cap w (h : IsB w ao cap (numB x ++ B)) (h2 : (numB x ++ B).length ≤ cap) (h3 : cap ≤ 9223372036854775807) => read_any ao cap (numB x ++ B) w h h2 h3 (getD_all hbytes))
  rw [hnum.1, hnum.2.1, hnum.2.2] at HR
  have hnl := numB_le x
  have hsz := numB_length x
  rw [← hsz] at HS
  clear hA hB hb hnum hbytes hsz
  generalize numB x = M at *
  obtain ⟨al, hal⟩ : ∃ al, A.length = al := ⟨_, rfl⟩
  obtain ⟨bl, hbl⟩ : ∃ bl, B.length = bl := ⟨_, rfl⟩
  obtain ⟨ml, hml⟩ : ∃ ml, M.length = ml := ⟨_, rfl⟩
  have HAL := hide hal
  have HBL := hide hbl
  have HML := hide hml
  rw [hal] at a1 ⊢
  rw [hbl] at b1 ⊢
  rw [hml] at hnl HS
  rw [hal] at HP
  rw [List.length_append, hal, hml] at HP
  rw [hml] at HN
  rw [List.length_append, hml, hbl] at HR
  clear hal hbl hml
  go_enter Try.func3, Try.ntmps3
  go_wp2_with (at_builtin; refine wpList_append_ownx rfl (.tmp 13) (.tmp 14) rfl w.heap.size _ 0 [] rfl (own_empty w) ao al acap A rfl HAL.out ?c1 (by omega) (by simp) ?_)
  case c1 => exact HA.out.below ((Below.refl _ _).alloc (Nat.le_refl _) _)
  intro v1 w1 ho hg
  have B1 := ((Below.refl w.heap.size w).alloc (Nat.le_refl _) (.cells #[] 5)).grown hg (by simp) (fun k hk => by cases hk; exact Nat.le_refl _)
  have HB1 := hide B1
  have hA1 := hide (HA.out.below B1)
  have hB1 := hide (HBb.out.below B1)
  have z1 := B1.size
  rw [← HAL.out] at ho
  obtain ⟨ao1, cp1, hv1, hO1, hc1, hc2⟩ := own_isB ho
  rw [HAL.out] at hv1 hc1
  have HO1 := hide hO1
  rw [hv1]
  clear ho hg B1 hO1 hv1
  go_wp2_with fail
  refine (HP.out _ _ _ HO1.out).mono ?_
  rintro e w2 ⟨v2, rfl, ho, hb⟩
  have HB2 := hide (HB1.out.trans (hb.mono z1))
  have hA2 := hide (hA1.out.below hb)
  have hB2 := hide (hB1.out.below hb)
  have hO2 := hide (HO1.out.below hb)
  have z2 := hb.size
  have ho' : w2.ownsRow w1.heap.size 5 1 v2 (A ++ M).length (U8 (A ++ M)) := by rw [List.length_append, HAL.out, HML.out]; exact ho
  obtain ⟨ao2, cp2, hv2, hQ2, hd1, hd2⟩ := own_isB ho'
  rw [List.length_append, HAL.out, HML.out] at hv2
  have HQ2 := hide hQ2
  rw [hv2]
  clear ho ho' hb hQ2 hv2 hA1 hB1 HO1
  go_wp2_with fail
  refine (HN.out _).mono ?_
  rintro e w3 ⟨v3, rfl, ho, hb⟩
  have HB3 := hide (HB2.out.trans (hb.mono (by omega)))
  have hA3 := hide (hA2.out.below hb)
  have hB3 := hide (hB2.out.below hb)
  have hO3 := hide (hO2.out.below hb)
  have hQ3 := hide (HQ2.out.below hb)
  have z3 := hb.size
  have ho' : w3.ownsRow w2.heap.size 5 1 v3 M.length (U8 M) := by rw [HML.out]; exact ho
  obtain ⟨ao3, cp3, hv3, hR3, he1, he2⟩ := own_isB ho'
  rw [HML.out] at hv3
  have HR3 := hide hR3
  rw [hv3]
  clear ho ho' hb hR3 hv3 hA2 hB2 hO2 HQ2
  go_wp2_with fail
  refine (lives_any _).mono ?_
  rintro e w4 ⟨rfl, hb⟩
  have HB4 := hide (HB3.out.trans (hb.mono (by omega)))
  have z4 := hb.size
  have cA := conv_any (hA3.out.below hb)
  have cO := conv_any (hO3.out.below hb)
  have cQ := conv_any (hQ3.out.below hb)
  have cR := conv_any (HR3.out.below hb)
  rw [HAL.out] at cA cO
  rw [HML.out] at cR
  rw [List.length_append, HAL.out, HML.out] at cQ
  have hB4 := hide (hB3.out.below hb)
  have hR4 := hide (HR3.out.below hb)
  have es := str_append A M
  have s1 : (strOfNums A).size = al := by rw [strOfNums_size]; exact HAL.out
  have s2 : (strOfNums M).size = ml := by rw [strOfNums_size]; exact HML.out
  clear hb hA3 hB3 hO3 hQ3 HR3
  go_wp2_with fail
  refine (HS.out _).mono ?_
  rintro e w5 ⟨rfl, rfl⟩
  clear cA cO cQ cR es s1 s2
  go_wp2_with (at_builtin; refine wpList_append_ownx rfl (.tmp 48) (.tmp 49) rfl w5.heap.size _ 0 [] rfl (own_empty w5) ao3 ml cp3 M rfl HML.out ?c2 (by omega) (by simp) ?_)
  case c2 => exact hR4.out.below ((Below.refl _ _).alloc (Nat.le_refl _) _)
  intro v6 w6 ho hg
  have B6 := ((Below.refl w5.heap.size w5).alloc (Nat.le_refl _) (.cells #[] 5)).grown hg (by simp) (fun k hk => by cases hk; exact Nat.le_refl _)
  have HB6 := hide (HB4.out.trans (B6.mono (by omega)))
  have hB6 := hide (hB4.out.below B6)
  have z6 := B6.size
  have HO6 := hide ho
  clear ho hg B6 hB4 hR4
  go_wp2_with (at_builtin; refine wpList_append_ownx rfl (.tmp 50) (.tmp 51) rfl w5.heap.size v6 ml M rfl HO6.out bo bl bcap B rfl HBL.out hB6.out (by omega) (by omega) ?_)
  intro v7 w7 ho hg
  have HB7 := hide (HB6.out.grown hg (by omega) (fun k hk => Nat.le_trans (by omega) (HO6.out.lt k hk).1))
  have ho' : w7.ownsRow w5.heap.size 5 1 v7 (M ++ B).length (U8 (M ++ B)) := by rw [List.length_append, HML.out, HBL.out]; exact ho
  obtain ⟨ao7, cp7, hv7, hQ7, hd1', hd2'⟩ := own_isB ho'
  rw [List.length_append, HML.out, HBL.out] at hv7 hd1'
  have HQ7 := hide hQ7
  rw [hv7]
  clear ho ho' hg hQ7 hv7 HO6 hB6
  go_wp2_with fail
  refine (HR.out _ _ _ HQ7.out hd1' hd2').mono ?_
  rintro e w8 ⟨rfl, rfl⟩
  go_wp2
  go_ret
  exact ⟨by simp, HB7.out⟩

theorem walk (x : Int) (ao : Option Addr) (al ac : Nat) (az : List Int) (bo : Option Addr) (bl bc : Nat) (bz : List Int) (w : World) (w0 : (Lit.int .u64 x).wf = true) (w1 : IsRow .u8 1 w ao al ac az) (w2 : IsRow .u8 1 w bo bl bc bz) :
    Calls Try.prog 3 #[.int .u64 x, .slice ao al ac, .slice bo bl bc] w fun e w' => e = .returned (.bool true) ∧ Below w.heap.size w w' := by
  obtain ⟨x0, x1⟩ := bounds_u64 w0
  obtain ⟨A, rfl, hA, a1, a2, a3⟩ := row_isB w1
  obtain ⟨B, rfl, hB, b1, b2, b3⟩ := row_isB w2
  exact walk_any x ao bo ac bc A B w x0 x1 hA hB (by omega) (by omega) b3

theorem own : ownKnob Try.prog.godebug = none := by kernel_rfl
theorem laidOut : laidOutB Try.prog = true := by kernel_rfl
theorem bytesEbytes : Try.prog.bytesOf 5 = 1 := by kernel_rfl

set_option maxRecDepth 100000 in
theorem lifted (os : Os) (started : os.Started) (H : Type) (enc : TypeId × Value → H) :
    ReturnsInHanded {} Try.checked os 3 .any (Rows.bigsizeNumbersSpec.pre6 enc Try.prog Try.f3 Rows.bigsizeNumbersRow.domain false) (Rows.bigsizeNumbersSpec.post enc Try.prog Try.f3 false true false false) := by
  refine returnsInHanded_of_change_sized (C := Try.checked) own started (by kernel_rfl) Try.func3
    (ChangeSpec.witness6 (enc := enc) (C := Try.checked) false ⟨#[], #[.int .u64 0, .slice none 0 0, .slice none 0 0], []⟩ 8 (by kernel_rfl) (by kernel_rfl) (by kernel_rfl) (by kernel_rfl)) ?_
  intro W base args ds gs before hval0 hW hcnd hsz0 _
  have hsz : (DataW.weightsEach Try.prog (Try.f3.params.toList ++ Rows.bigsizeNumbersSpec.plain.varTypes Try.prog) (ds ++ gs)).all (· ≤ reachBytes) = true := hsz0
  have hval : ∀ (j : Nat) t v, Try.f3.params[j]? = some t → args[j]? = some v → Value.okWide Try.prog W .any base t v := hval0
  have hW' := hW
  obtain ⟨p, q, hA0, hV, rfl, hfz, hnd⟩ := hW
  have hA : DataW.TrodAll enc Try.prog W 0 (fun _ => true) true Try.f3.params.toList args.toList ds p := hA0
  rw [Try.params3] at hA hval hsz
  obtain ⟨v0, vs0, d0, ds0, p0, q0, hargs, rfl, rfl, h0, r0⟩ := trodAll_cons hA
  obtain ⟨v1, vs1, d1, ds1, p1, q1, rfl, rfl, rfl, h1, r1⟩ := trodAll_cons r0
  obtain ⟨v2, vs2, d2, ds2, p2, q2, rfl, rfl, rfl, h2, r2⟩ := trodAll_cons r1
  obtain ⟨rfl, rfl, rfl⟩ := trodAll_nil r2
  obtain rfl : args = #[v0, v1, v2] := by cases args; simp_all
  obtain ⟨rfl, rfl⟩ := trodVars_none hV
  have k0 := h0
  have lt0 : ∀ x ∈ p0, x.block < W.heap.size := by obtain ⟨m, hm⟩ := k0; exact DataW.trod_lt m _ _ _ hm
  have k1 := h1
  have lt1 : ∀ x ∈ p1, x.block < W.heap.size := by obtain ⟨m, hm⟩ := k1; exact DataW.trod_lt m _ _ _ hm
  have k2 := h2
  have lt2 : ∀ x ∈ p2, x.block < W.heap.size := by obtain ⟨m, hm⟩ := k2; exact DataW.trod_lt m _ _ _ hm
  obtain ⟨a0, rfl, rfl, rfl, w0⟩ := open_int Try.underlying22 (hval 0 22 v0 rfl rfl) h0
  obtain ⟨a1, len1, cap1, rfl⟩ := okWide_slice Try.underlying23 (hval 1 23 v1 rfl rfl)
  obtain ⟨z1, w1⟩ : ∃ zs, IsRow .u8 1 W a1 len1 cap1 zs := by
    obtain ⟨fuel, hf⟩ := h1
    rcases open_ints Try.underlying23 Try.underlying5 (by kernel_rfl) hf with ⟨hcs, _⟩ | ⟨x, l, c, zs, hcs, _, hl, hm, hz, hx, hcell, hwz⟩
    · simp [Value.cells] at hcs
      obtain ⟨rfl, rfl, rfl⟩ := hcs
      exact ⟨[], .inl ⟨rfl, rfl, rfl, rfl⟩⟩
    · simp [Value.cells] at hcs
      obtain ⟨rfl, rfl, rfl⟩ := hcs
      simp only [Prod.mk.injEq] at hx
      have hxd := hx.1
      subst hxd
      have hrch := sized_slice hsz (j := 1) (t := 23) (e := 5) rfl rfl Try.underlying23
      rw [bytesEbytes] at hrch
      simp only [lits, List.length_map, List.length_take, List.length_drop, reachBytes] at hrch
      exact ⟨zs, .inr ⟨_, rfl, hl, hm, by simpa using hz, by simp at hz; omega, hcell, hwz⟩⟩
  obtain ⟨a2, len2, cap2, rfl⟩ := okWide_slice Try.underlying23 (hval 2 23 v2 rfl rfl)
  obtain ⟨z2, w2⟩ : ∃ zs, IsRow .u8 1 W a2 len2 cap2 zs := by
    obtain ⟨fuel, hf⟩ := h2
    rcases open_ints Try.underlying23 Try.underlying5 (by kernel_rfl) hf with ⟨hcs, _⟩ | ⟨x, l, c, zs, hcs, _, hl, hm, hz, hx, hcell, hwz⟩
    · simp [Value.cells] at hcs
      obtain ⟨rfl, rfl, rfl⟩ := hcs
      exact ⟨[], .inl ⟨rfl, rfl, rfl, rfl⟩⟩
    · simp [Value.cells] at hcs
      obtain ⟨rfl, rfl, rfl⟩ := hcs
      simp only [Prod.mk.injEq] at hx
      have hxd := hx.1
      subst hxd
      have hrch := sized_slice hsz (j := 2) (t := 23) (e := 5) rfl rfl Try.underlying23
      rw [bytesEbytes] at hrch
      simp only [lits, List.length_map, List.length_take, List.length_drop, reachBytes] at hrch
      exact ⟨zs, .inr ⟨_, rfl, hl, hm, by simpa using hz, by simp at hz; omega, hcell, hwz⟩⟩
  clear hA0 hval0 hsz0 hsz
  refine (walk a0 a1 len1 cap1 z1 a2 len2 cap2 z2 W w0 w1 w2).mono fun e W' ⟨he, bel⟩ => ?_
  subst he
  exact ⟨_, rfl, _, _, _, [], _, [], hW', trodAll_mk1 (shut_bool Try.underlying4 _), (trodAll_cons_mk (Below.trod laidOut (by kernel_rfl) (of_decide_eq_true (by kernel_rfl)) k0 bel lt0) (trodAll_cons_mk (Below.trod laidOut (by kernel_rfl) (of_decide_eq_true (by kernel_rfl)) k1 bel lt1) (trodAll_cons_mk (Below.trod laidOut (by kernel_rfl) (of_decide_eq_true (by kernel_rfl)) k2 bel lt2) trodAll_mk0))), rfl, bel.frame _, fun h => by cases h⟩

theorem over : Rows.bigsizeNumbersRow.holds Try.pinned (OpenSpec.ofChange Rows.bigsizeNumbersSpec) :=
  OpenClaim.holds_of_wide 3 Try.f3 rfl rfl rfl rfl rfl rfl rfl ⟨rfl, rfl, rfl, rfl, rfl⟩ rfl rfl rfl rfl rfl (by kernel_rfl) Try.func3 (by kernel_rfl)
    (of_decide_eq_true (by kernel_rfl)) (by unfold Func.isWrapper; first | (rw [if_pos (by decide +kernel)]; kernel_rfl) | (rw [if_neg (by decide +kernel)]; exact ⟨rfl, rfl⟩))
    (fun os started H enc _ => lifted os started H enc)

theorem proved : Rows.BigsizeNumbersSaid := over
end Go.Proofs.Ytclimopeejkdbaa.bigsizeNumbers
namespace Go.Proofs.Ytclimopeejkdbaa
theorem bigsizeNumbers_holds : Rows.BigsizeNumbersSaid := bigsizeNumbers.proved
end Go.Proofs.Ytclimopeejkdbaa
