/- Proved: for every message and every number the statement WireEven (P6.2: a record of an even type is refused, whatever else there is) returns true over the code at the commit, and changes none of its arguments. No condition. -/
import Derived.Test.YtcbadmkgbaffpaaRAll
namespace Go.Proofs.Ytcbadmkgbaffpaa.wireEven
open Go.ChangeShapes Go.WideShapes Go.ChangeAt Go.RowKit
set_option linter.unusedVariables false
set_option linter.unusedSimpArgs false

set_option maxHeartbeats 8000000 in
theorem walk_any (K : Int) (F : Nat → Fld) (ev : Int) (w : World) (hF : Fits F) (hG : Good w F) (hA : ∀ n, F 2 = .num n → n ≤ 9223372036854775807) (h0 : 0 ≤ ev) :
    Calls Try.prog 6 #[.agg (mc K F).toArray, .int .u64 ev] w fun e w' => e = .returned (.bool true) ∧ Below w.heap.size w w' := by
  obtain ⟨W, hW⟩ : ∃ W, w.alloc (.cells (mc K F).toArray 25) = W := ⟨_, rfl⟩
  have M1 : MsgAt W w.heap.size K F := by rw [← hW]; exact MsgAt.new w K hF
  have B1 : Below w.heap.size w W := by rw [← hW]; exact (Below.refl _ _).alloc (Nat.le_refl _) _
  have HRE := rencode_any K F hF W (hG.below B1) hA
  have HAL := hide (fun (a : Act) (W : World) (o : Oper) (ho : o.op = .alloc 25) => ex_alloc25 (a := a) (W := W) ho)
  have HB0 := hide (fun (a : Act) (W : World) (o : Oper) (ho : o.op = .build 25 #[]) => ex_build0 (a := a) (W := W) ho)
  have HSM := hide (fun (G : Nat → Fld) (f2 : Fits G) (W : World) (h1 : Good W G) (h2 : Good W F) => same_any K K G F f2 hF W h1 h2)
  have HSZ := hide (fun (W : World) => same_any 0 0 ZF ZF ZFits ZFits W (fun i hi => GoodF.zero W i) (fun i hi => GoodF.zero W i))
  rw [sameZ] at HSZ
  obtain ⟨C, hC⟩ : ∃ C, (mc K F).toArray = C := ⟨_, rfl⟩
  have HC := hide hC
  obtain ⟨Z, hZ⟩ : ∃ Z, (mc 0 ZF).toArray = Z := ⟨_, rfl⟩
  have HZ := hide hZ
  rw [hC] at hW HRE HSM ⊢
  rw [hZ] at HAL HB0 HSZ
  clear hC hZ
  have lC : ∀ W', Below W.heap.size W W' → (Instr.loadAt 25 (.pointer (some ⟨w.heap.size, 0, none⟩))).run Try.prog W' = .ok (.agg C) W' := fun W' h => by rw [← HC.out]; exact run_loadAt_mid W' _ 0 25 _ _ (M1.below h).range Try.underlying25 rfl (infoLen K hF)
  go_enter Try.func6, Try.ntmps6
  refine wp_seq (wp_region_lit ?_)
  refine st_to (some 2) rfl rfl (ex_box25 (C := C) rfl rfl) ?_
  simp only [Act.put, List.setIfInBounds_toArray, List.set_cons_zero, List.set_cons_succ]
  rw [hW]
  refine st_to (some 4) rfl rfl (ex_asg (v := .bool false) rfl rfl) ?_
  simp only [Act.put, List.setIfInBounds_toArray, List.set_cons_zero, List.set_cons_succ]
  refine st_end ?_
  refine wp_seq (wp_region_lit ?_)
  refine st_to (some 12) rfl rfl (ex_load rfl rfl (lC _ (Below.refl _ _))) ?_
  simp only [Act.put, List.setIfInBounds_toArray, List.set_cons_zero, List.set_cons_succ]
  refine st_call (some 13) rfl rfl HRE (ex_call (f := 10) (vs := [.agg C]) rfl (cfREncode _) rfl) ?_
  rintro e w1 ⟨⟨ba, bc, bl, E, rfl, hcase⟩, HB1⟩
  refine ⟨_, rfl, ?_⟩
  simp only [Act.put, List.setIfInBounds_toArray, List.set_cons_zero, List.set_cons_succ]
  refine st_to (some 11) rfl rfl (ex_mv (v := .tuple #[.slice ba bl bc, .int .i64 E]) rfl rfl) ?_
  simp only [Act.put, List.setIfInBounds_toArray, List.set_cons_zero, List.set_cons_succ]
  refine st_to (some 14) rfl rfl (ex_ext (vs := #[.slice ba bl bc, .int .i64 E]) (v := .slice ba bl bc) rfl rfl rfl) ?_
  simp only [Act.put, List.setIfInBounds_toArray, List.set_cons_zero, List.set_cons_succ]
  refine st_to (some 15) rfl rfl (ex_ext (vs := #[.slice ba bl bc, .int .i64 E]) (v := .int .i64 E) rfl rfl rfl) ?_
  simp only [Act.put, List.setIfInBounds_toArray, List.set_cons_zero, List.set_cons_succ]
  refine st_to (some 5) rfl rfl (ex_asg (v := .slice ba bl bc) rfl rfl) ?_
  simp only [Act.put, List.setIfInBounds_toArray, List.set_cons_zero, List.set_cons_succ]
  refine st_to (some 6) rfl rfl (ex_asg (v := .int .i64 E) rfl rfl) ?_
  simp only [Act.put, List.setIfInBounds_toArray, List.set_cons_zero, List.set_cons_succ]
  refine st_end ?_
  have B2 := B1.trans (HB1.out.mono B1.size)
  have X1 := HB1.out
  refine wp_seq ?_
  refine wp_seq (wp_region_lit ?_)
  refine st_call (some 16) rfl rfl (lives_any _) (ex_call (f := 11) (vs := []) rfl (cfLives _) rfl) ?_
  rintro e w2 ⟨rfl, HL3⟩
  refine ⟨_, rfl, ?_⟩
  simp only [Act.put, List.setIfInBounds_toArray, List.set_cons_zero, List.set_cons_succ]
  have B3 := B2.trans (HL3.out.mono B2.size)
  have X3 := X1.trans (HL3.out.mono X1.size)
  refine st_to (some 17) rfl rfl (ex_not (r := true) rfl rfl) ?_
  simp only [Act.put, List.setIfInBounds_toArray, List.set_cons_zero, List.set_cons_succ]
  refine st_to (some 18) rfl rfl (ex_mv (v := .bool false) rfl rfl) ?_
  simp only [Act.put, List.setIfInBounds_toArray, List.set_cons_zero, List.set_cons_succ]
  rcases hcase with ⟨hm, rfl, rfl, rfl, rfl⟩ | ⟨hm, rfl, hbl, hIb, hbc, hbm⟩
  · skip
    refine st_to (some 19) rfl rfl (ex_mv (v := .int .i64 1) rfl rfl) ?_
    simp only [Act.put, List.setIfInBounds_toArray, List.set_cons_zero, List.set_cons_succ]
    refine st_to (some 20) rfl rfl (ex_bin (c := .bool true) rfl rfl rfl (eg26 _ _ _ _ _ _) (neq26 1 0 _)) ?_
    simp only [Act.put, List.setIfInBounds_toArray, List.set_cons_zero, List.set_cons_succ]
    refine st_to (some 21) rfl rfl (ex_pkF (v := .bool true) rfl rfl rfl) ?_
    simp only [Act.put, List.setIfInBounds_toArray, List.set_cons_zero, List.set_cons_succ]
    refine st_to (some 22) rfl rfl (ex_mv (v := .bool true) rfl rfl) ?_
    simp only [Act.put, List.setIfInBounds_toArray, List.set_cons_zero, List.set_cons_succ]
    refine st_no (some 23) rfl rfl ?_
    simp only [Act.put, List.setIfInBounds_toArray, List.set_cons_zero, List.set_cons_succ]
    refine st_no (some 24) rfl rfl ?_
    simp only [Act.put, List.setIfInBounds_toArray, List.set_cons_zero, List.set_cons_succ]
    refine st_to (some 25) rfl rfl (ex_pkT (v := .bool true) rfl rfl rfl) ?_
    simp only [Act.put, List.setIfInBounds_toArray, List.set_cons_zero, List.set_cons_succ]
    refine st_to (some 26) rfl rfl (ex_mv (v := .bool true) rfl rfl) ?_
    simp only [Act.put, List.setIfInBounds_toArray, List.set_cons_zero, List.set_cons_succ]
    refine st_no (some 27) rfl rfl ?_
    simp only [Act.put, List.setIfInBounds_toArray, List.set_cons_zero, List.set_cons_succ]
    refine st_no (some 28) rfl rfl ?_
    simp only [Act.put, List.setIfInBounds_toArray, List.set_cons_zero, List.set_cons_succ]
    refine st_to (some 29) rfl rfl (ex_pkT (v := .bool true) rfl rfl rfl) ?_
    simp only [Act.put, List.setIfInBounds_toArray, List.set_cons_zero, List.set_cons_succ]
    refine st_end ?_
    refine wp_cond_true rfl ?_
    refine wp_seq (wp_region_lit ?_)
    refine st_call (some 30) rfl rfl (lives_any _) (ex_call (f := 11) (vs := []) rfl (cfLives _) rfl) ?_
    rintro e wl4 ⟨rfl, HL4⟩
    refine ⟨_, rfl, ?_⟩
    simp only [Act.put, List.setIfInBounds_toArray, List.set_cons_zero, List.set_cons_succ]
    have B4 := B3.trans (HL4.out.mono B3.size)
    have X4 := X3.trans (HL4.out.mono X3.size)
    refine st_to (some 4) rfl rfl (ex_asg (v := .bool true) rfl rfl) ?_
    simp only [Act.put, List.setIfInBounds_toArray, List.set_cons_zero, List.set_cons_succ]
    refine st_end ?_
    refine wp_ret ?_
    refine ret_out ?_
    refine bodyPost_ret (v := .bool true) ?_ rfl ⟨rfl, B4⟩
    rw [results_tmp Try.results6]
    rfl
  · by_cases h12 : ev < 12
    · skip
      refine st_to (some 19) rfl rfl (ex_mv (v := .int .i64 0) rfl rfl) ?_
      simp only [Act.put, List.setIfInBounds_toArray, List.set_cons_zero, List.set_cons_succ]
      refine st_to (some 20) rfl rfl (ex_bin (c := .bool false) rfl rfl rfl (eg26 _ _ _ _ _ _) (neq26 0 0 _)) ?_
      simp only [Act.put, List.setIfInBounds_toArray, List.set_cons_zero, List.set_cons_succ]
      refine st_to (some 21) rfl rfl (ex_pkF (v := .bool false) rfl rfl rfl) ?_
      simp only [Act.put, List.setIfInBounds_toArray, List.set_cons_zero, List.set_cons_succ]
      refine st_to (some 22) rfl rfl (ex_mv (v := .bool false) rfl rfl) ?_
      simp only [Act.put, List.setIfInBounds_toArray, List.set_cons_zero, List.set_cons_succ]
      refine st_to (some 23) rfl rfl (ex_mv (v := .int .u64 ev) rfl rfl) ?_
      simp only [Act.put, List.setIfInBounds_toArray, List.set_cons_zero, List.set_cons_succ]
      refine st_to (some 24) rfl rfl (ex_bin (c := .bool true) rfl rfl rfl (eg36 _ _ _ _ _ _) (lss36T h12 _)) ?_
      simp only [Act.put, List.setIfInBounds_toArray, List.set_cons_zero, List.set_cons_succ]
      refine st_to (some 25) rfl rfl (ex_pkF (v := .bool true) rfl rfl rfl) ?_
      simp only [Act.put, List.setIfInBounds_toArray, List.set_cons_zero, List.set_cons_succ]
      refine st_to (some 26) rfl rfl (ex_mv (v := .bool true) rfl rfl) ?_
      simp only [Act.put, List.setIfInBounds_toArray, List.set_cons_zero, List.set_cons_succ]
      refine st_no (some 27) rfl rfl ?_
      simp only [Act.put, List.setIfInBounds_toArray, List.set_cons_zero, List.set_cons_succ]
      refine st_no (some 28) rfl rfl ?_
      simp only [Act.put, List.setIfInBounds_toArray, List.set_cons_zero, List.set_cons_succ]
      refine st_to (some 29) rfl rfl (ex_pkT (v := .bool true) rfl rfl rfl) ?_
      simp only [Act.put, List.setIfInBounds_toArray, List.set_cons_zero, List.set_cons_succ]
      refine st_end ?_
      refine wp_cond_true rfl ?_
      refine wp_seq (wp_region_lit ?_)
      refine st_call (some 30) rfl rfl (lives_any _) (ex_call (f := 11) (vs := []) rfl (cfLives _) rfl) ?_
      rintro e wl4 ⟨rfl, HL4⟩
      refine ⟨_, rfl, ?_⟩
      simp only [Act.put, List.setIfInBounds_toArray, List.set_cons_zero, List.set_cons_succ]
      have B4 := B3.trans (HL4.out.mono B3.size)
      have X4 := X3.trans (HL4.out.mono X3.size)
      refine st_to (some 4) rfl rfl (ex_asg (v := .bool true) rfl rfl) ?_
      simp only [Act.put, List.setIfInBounds_toArray, List.set_cons_zero, List.set_cons_succ]
      refine st_end ?_
      refine wp_ret ?_
      refine ret_out ?_
      refine bodyPost_ret (v := .bool true) ?_ rfl ⟨rfl, B4⟩
      rw [results_tmp Try.results6]
      rfl
    by_cases h62 : ev > 4611686018427387904
    · skip
      refine st_to (some 19) rfl rfl (ex_mv (v := .int .i64 0) rfl rfl) ?_
      simp only [Act.put, List.setIfInBounds_toArray, List.set_cons_zero, List.set_cons_succ]
      refine st_to (some 20) rfl rfl (ex_bin (c := .bool false) rfl rfl rfl (eg26 _ _ _ _ _ _) (neq26 0 0 _)) ?_
      simp only [Act.put, List.setIfInBounds_toArray, List.set_cons_zero, List.set_cons_succ]
      refine st_to (some 21) rfl rfl (ex_pkF (v := .bool false) rfl rfl rfl) ?_
      simp only [Act.put, List.setIfInBounds_toArray, List.set_cons_zero, List.set_cons_succ]
      refine st_to (some 22) rfl rfl (ex_mv (v := .bool false) rfl rfl) ?_
      simp only [Act.put, List.setIfInBounds_toArray, List.set_cons_zero, List.set_cons_succ]
      refine st_to (some 23) rfl rfl (ex_mv (v := .int .u64 ev) rfl rfl) ?_
      simp only [Act.put, List.setIfInBounds_toArray, List.set_cons_zero, List.set_cons_succ]
      refine st_to (some 24) rfl rfl (ex_bin (c := .bool false) rfl rfl rfl (eg36 _ _ _ _ _ _) (lss36F h12 _)) ?_
      simp only [Act.put, List.setIfInBounds_toArray, List.set_cons_zero, List.set_cons_succ]
      refine st_to (some 25) rfl rfl (ex_pkF (v := .bool false) rfl rfl rfl) ?_
      simp only [Act.put, List.setIfInBounds_toArray, List.set_cons_zero, List.set_cons_succ]
      refine st_to (some 26) rfl rfl (ex_mv (v := .bool false) rfl rfl) ?_
      simp only [Act.put, List.setIfInBounds_toArray, List.set_cons_zero, List.set_cons_succ]
      refine st_to (some 27) rfl rfl (ex_mv (v := .int .u64 ev) rfl rfl) ?_
      simp only [Act.put, List.setIfInBounds_toArray, List.set_cons_zero, List.set_cons_succ]
      refine st_to (some 28) rfl rfl (ex_bin (c := .bool true) rfl rfl rfl (eg36 _ _ _ _ _ _) (gtr36T h62 _)) ?_
      simp only [Act.put, List.setIfInBounds_toArray, List.set_cons_zero, List.set_cons_succ]
      refine st_to (some 29) rfl rfl (ex_pkF (v := .bool true) rfl rfl rfl) ?_
      simp only [Act.put, List.setIfInBounds_toArray, List.set_cons_zero, List.set_cons_succ]
      refine st_end ?_
      refine wp_cond_true rfl ?_
      refine wp_seq (wp_region_lit ?_)
      refine st_call (some 30) rfl rfl (lives_any _) (ex_call (f := 11) (vs := []) rfl (cfLives _) rfl) ?_
      rintro e wl4 ⟨rfl, HL4⟩
      refine ⟨_, rfl, ?_⟩
      simp only [Act.put, List.setIfInBounds_toArray, List.set_cons_zero, List.set_cons_succ]
      have B4 := B3.trans (HL4.out.mono B3.size)
      have X4 := X3.trans (HL4.out.mono X3.size)
      refine st_to (some 4) rfl rfl (ex_asg (v := .bool true) rfl rfl) ?_
      simp only [Act.put, List.setIfInBounds_toArray, List.set_cons_zero, List.set_cons_succ]
      refine st_end ?_
      refine wp_ret ?_
      refine ret_out ?_
      refine bodyPost_ret (v := .bool true) ?_ rfl ⟨rfl, B4⟩
      rw [results_tmp Try.results6]
      rfl
    refine st_to (some 19) rfl rfl (ex_mv (v := .int .i64 0) rfl rfl) ?_
    simp only [Act.put, List.setIfInBounds_toArray, List.set_cons_zero, List.set_cons_succ]
    refine st_to (some 20) rfl rfl (ex_bin (c := .bool false) rfl rfl rfl (eg26 _ _ _ _ _ _) (neq26 0 0 _)) ?_
    simp only [Act.put, List.setIfInBounds_toArray, List.set_cons_zero, List.set_cons_succ]
    refine st_to (some 21) rfl rfl (ex_pkF (v := .bool false) rfl rfl rfl) ?_
    simp only [Act.put, List.setIfInBounds_toArray, List.set_cons_zero, List.set_cons_succ]
    refine st_to (some 22) rfl rfl (ex_mv (v := .bool false) rfl rfl) ?_
    simp only [Act.put, List.setIfInBounds_toArray, List.set_cons_zero, List.set_cons_succ]
    refine st_to (some 23) rfl rfl (ex_mv (v := .int .u64 ev) rfl rfl) ?_
    simp only [Act.put, List.setIfInBounds_toArray, List.set_cons_zero, List.set_cons_succ]
    refine st_to (some 24) rfl rfl (ex_bin (c := .bool false) rfl rfl rfl (eg36 _ _ _ _ _ _) (lss36F h12 _)) ?_
    simp only [Act.put, List.setIfInBounds_toArray, List.set_cons_zero, List.set_cons_succ]
    refine st_to (some 25) rfl rfl (ex_pkF (v := .bool false) rfl rfl rfl) ?_
    simp only [Act.put, List.setIfInBounds_toArray, List.set_cons_zero, List.set_cons_succ]
    refine st_to (some 26) rfl rfl (ex_mv (v := .bool false) rfl rfl) ?_
    simp only [Act.put, List.setIfInBounds_toArray, List.set_cons_zero, List.set_cons_succ]
    refine st_to (some 27) rfl rfl (ex_mv (v := .int .u64 ev) rfl rfl) ?_
    simp only [Act.put, List.setIfInBounds_toArray, List.set_cons_zero, List.set_cons_succ]
    refine st_to (some 28) rfl rfl (ex_bin (c := .bool false) rfl rfl rfl (eg36 _ _ _ _ _ _) (gtr36F h62 _)) ?_
    simp only [Act.put, List.setIfInBounds_toArray, List.set_cons_zero, List.set_cons_succ]
    refine st_to (some 29) rfl rfl (ex_pkF (v := .bool false) rfl rfl rfl) ?_
    simp only [Act.put, List.setIfInBounds_toArray, List.set_cons_zero, List.set_cons_succ]
    refine st_end ?_
    refine wp_cond_false rfl ?_
    refine wp_skip ?_
    refine wp_seq (wp_region_lit ?_)
    refine st_to (some 32) rfl rfl (ex_mv (v := .int .u64 ev) rfl rfl) ?_
    simp only [Act.put, List.setIfInBounds_toArray, List.set_cons_zero, List.set_cons_succ]
    refine st_to (some 33) rfl rfl (ex_bin (c := .int .u64 (2 * ev)) rfl rfl rfl (eg36 _ _ _ _ _ _) (mul36 h0 (by omega) _)) ?_
    simp only [Act.put, List.setIfInBounds_toArray, List.set_cons_zero, List.set_cons_succ]
    refine st_to (some 34) rfl rfl (ex_build1 (t := 39) (i := 0) (x := .tmp 33) (v := .int .u64 (2 * ev)) (u := .agg #[.int .u64 (2 * ev), .slice none 0 0]) rfl rfl (build39z _ _)) ?_
    simp only [Act.put, List.setIfInBounds_toArray, List.set_cons_zero, List.set_cons_succ]
    refine st_to (some 35) rfl rfl (ex_bslice (u1 := .int .u64 (2 * ev)) (u2 := .slice none 0 0) rfl rfl (bslice40 _ _ _ _ _)) ?_
    simp only [Act.put, List.setIfInBounds_toArray, List.set_cons_zero, List.set_cons_succ]
    have HOF := one_fit (W := w2) (X := 2 * ev) (L := ([] : List Int)) (.inl ⟨rfl, rfl, rfl⟩) (by omega) (by omega) (by simp) (fun c hc => by cases hc)
    have B5 := B3.alloc B3.size (.cells #[.int .u64 (2 * ev), .slice none (([] : List Int)).length 0] 39)
    have X5 := X3.alloc X3.size (.cells #[.int .u64 (2 * ev), .slice none (([] : List Int)).length 0] 39)
    obtain ⟨w5, hw5⟩ : ∃ w5, w2.alloc (.cells #[.int .u64 (2 * ev), .slice none (([] : List Int)).length 0] 39) = w5 := ⟨_, rfl⟩
    have Y5 : Below w2.heap.size w2 w5 := by rw [← hw5]; exact below_alloc w2 _
    have HOF' : Calls Try.prog 19 #[.slice (some ⟨w2.heap.size, 0, none⟩) 1 1] w5 fun e w' => ∃ ao cp, e = .returned (.tuple #[.slice ao (recsB [(2 * ev, ([] : List Int))]).length cp, .int .i64 0]) ∧ Hid (IsB w' ao cp (recsB [(2 * ev, ([] : List Int))])) ∧ Hid (Below w5.heap.size w5 w') := by rw [← hw5]; exact HOF
    rw [hw5] at B5 X5
    simp only [List.length_nil] at hw5
    rw [hw5]
    clear HOF
    refine st_call (some 36) rfl rfl HOF' (ex_call (f := 19) (vs := [.slice (some ⟨w2.heap.size, 0, none⟩) 1 1]) rfl (cfBEncode _) rfl) ?_
    rintro e w6 ⟨ma, mcp, rfl, HIM, HB6⟩
    refine ⟨_, rfl, ?_⟩
    simp only [Act.put, List.setIfInBounds_toArray, List.set_cons_zero, List.set_cons_succ]
    have B6 := B5.trans (HB6.out.mono B5.size)
    have X6 := X5.trans (HB6.out.mono X5.size)
    obtain ⟨R, hR⟩ : ∃ R, recsB [(2 * ev, ([] : List Int))] = R := ⟨_, rfl⟩
    have HR := hide hR
    have hRl : R.length ≤ 1018 := by
      rw [← hR]
      have a := numB_le (2 * ev)
      have b := numB_le (((([] : List Int)).length : Nat) : Int)
      show (numB (2 * ev) ++ (numB ((([] : List Int)).length : Nat) ++ ((([] : List Int)) ++ []))).length ≤ 1018
      simp only [List.length_append, List.length_nil] at b ⊢
      omega
    have hRb : Bytes R := by
      rw [← hR]
      exact recsB_bytes _ (fun r hr => by rw [List.mem_singleton.1 hr]; exact ⟨by show 0 ≤ 2 * ev; omega, (fun c hc => by cases hc)⟩)
    rw [hR] at HIM ⊢
    obtain ⟨rl, hrl⟩ : ∃ rl, R.length = rl := ⟨_, rfl⟩
    rw [hrl] at hRl ⊢
    clear hR
    refine st_to (some 31) rfl rfl (ex_mv (v := .tuple #[.slice ma rl mcp, .int .i64 0]) rfl rfl) ?_
    simp only [Act.put, List.setIfInBounds_toArray, List.set_cons_zero, List.set_cons_succ]
    refine st_to (some 37) rfl rfl (ex_ext (vs := #[.slice ma rl mcp, .int .i64 0]) (v := .slice ma rl mcp) rfl rfl rfl) ?_
    simp only [Act.put, List.setIfInBounds_toArray, List.set_cons_zero, List.set_cons_succ]
    refine st_to (some 38) rfl rfl (ex_ext (vs := #[.slice ma rl mcp, .int .i64 0]) (v := .int .i64 0) rfl rfl rfl) ?_
    simp only [Act.put, List.setIfInBounds_toArray, List.set_cons_zero, List.set_cons_succ]
    refine st_to (some 7) rfl rfl (ex_asg (v := .slice ma rl mcp) rfl rfl) ?_
    simp only [Act.put, List.setIfInBounds_toArray, List.set_cons_zero, List.set_cons_succ]
    refine st_to (some 8) rfl rfl (ex_asg (v := .int .i64 0) rfl rfl) ?_
    simp only [Act.put, List.setIfInBounds_toArray, List.set_cons_zero, List.set_cons_succ]
    refine st_end ?_
    refine wp_seq (wp_region_lit ?_)
    have eb := enc_bytes hF hG hm
    have Y6 : Below w2.heap.size w2 w6 := Y5.trans (HB6.out.mono Y5.size)
    have I7 : IsB (w6.alloc (.cells #[] 5)) ba bc (encB K F) := ((hIb.below HL3.out).below Y6).below (below_alloc w6 _)
    have hIM := HIM.out.below (below_alloc w6 (.cells #[] 5))
    have B7 := B6.alloc B6.size (.cells #[] 5)
    have X7 := X6.alloc X6.size (.cells #[] 5)
    refine st_to (some 40) rfl rfl (ex_bytes0 rfl) ?_
    simp only [Act.put, List.setIfInBounds_toArray, List.set_cons_zero, List.set_cons_succ]
    refine st_to (some 41) rfl rfl (ex_mv (v := .slice ba bl bc) rfl rfl) ?_
    simp only [Act.put, List.setIfInBounds_toArray, List.set_cons_zero, List.set_cons_succ]
    refine wpList_append_ownw rfl (.tmp 40) (.tmp 41) rfl w6.heap.size _ 0 [] rfl (own_empty w6) ba bl bc (encB K F) rfl hbl.symm I7 (by omega) (by simp) ?_
    intro v8 w8 ho8 hg8
    rw [List.nil_append, Nat.zero_add] at ho8
    have B8 := B7.grown hg8 (by simp; have := B6.size; omega) (fun k hk => by cases hk; exact B6.size)
    have Z8 : Below w6.heap.size w6 w8 := ((Below.refl _ _).alloc (Nat.le_refl _) _).grown hg8 (by simp) (fun k hk => by cases hk; exact Nat.le_refl _)
    have hIM8 := HIM.out.below Z8
    obtain ⟨oa, oc, hv8, _, _, _⟩ := own_isB (zs := encB K F) (by rw [← hbl]; exact ho8)
    rw [← hbl] at hv8
    subst hv8
    simp only [Act.put, List.setIfInBounds_toArray, List.set_cons_zero, List.set_cons_succ]
    refine st_to (some 43) rfl rfl (ex_mv (v := .slice ma rl mcp) rfl rfl) ?_
    simp only [Act.put, List.setIfInBounds_toArray, List.set_cons_zero, List.set_cons_succ]
    refine wpList_append_ownw rfl (.tmp 42) (.tmp 43) rfl w6.heap.size _ bl (encB K F) rfl ho8 ma rl mcp R rfl hrl hIM8 (by omega) Z8.size ?_
    intro v9 w9 ho9 hg9
    have Z9 : Below w6.heap.size w6 w9 := Z8.grown hg9 Z8.size (fun k hk => (ho8.lt k hk).1)
    obtain ⟨na, nc, hv9, hI9, hc9, hm9⟩ := own_isB (zs := encB K F ++ R) (by rw [List.length_append, ← hbl, hrl]; exact ho9)
    have hnl : (encB K F ++ R).length = bl + rl := by rw [List.length_append, ← hbl, hrl]
    rw [hnl] at hv9
    subst hv9
    have B9 := B6.trans (Z9.mono B6.size)
    have X9 := X6.trans (Z9.mono X6.size)
    have HD := wdecode_any na nc (encB K F ++ R) w9 hI9 hc9 hm9 (fun c hc => by rcases List.mem_append.1 hc with hc | hc; exact eb.1 c hc; exact hRb c hc)
    rw [hnl] at HD
    simp only [Act.put, List.setIfInBounds_toArray, List.set_cons_zero, List.set_cons_succ]
    refine st_call (some 45) rfl rfl HD (ex_call (f := 17) (vs := [.slice na (bl + rl) nc]) rfl (cfDecode _) rfl) ?_
    rintro e w10 ⟨K3, G, E3, rfl, fG, hG3, hsay, HB10⟩
    rw [← HR.out] at hsay
    obtain ⟨rfl, rfl, rfl⟩ := says_none (dec_even hF hG hm (t := 2 * ev) (by omega) (by omega) (by omega)) hsay
    refine ⟨_, rfl, ?_⟩
    simp only [Act.put, List.setIfInBounds_toArray, List.set_cons_zero, List.set_cons_succ]
    have B10 := B9.trans (HB10.out.mono B9.size)
    have X10 := X9.trans (HB10.out.mono X9.size)
    obtain ⟨T4, M4, B4⟩ := lives_msg (w := w10) (K := 0) rfl fG
    have HS4 := hide (infoSize 0 fG)
    have HO4 := hide (oneMsg 0 ZF)
    have HCG := HZ
    rw [HZ.out] at T4 M4 B4 HS4 HO4 ⊢
    obtain ⟨W4, hW4⟩ : ∃ W4, (w10.alloc (.cells Z 25)).setCells w10.heap.size 0 Z.toList = W4 := ⟨_, rfl⟩
    rw [hW4] at M4 B4
    clear hsay
    have B11 := B10.trans (B4.mono B10.size)
    have X11 := X10.trans (B4.mono X10.size)
    have lG : ∀ W', Below W4.heap.size W4 W' → (Instr.loadAt 25 (.pointer (some ⟨w10.heap.size, 0, none⟩))).run Try.prog W' = .ok (.agg Z) W' := fun W' h => by rw [← HCG.out]; exact run_loadAt_mid W' _ 0 25 _ _ (M4.below h).range Try.underlying25 rfl (infoLen 0 fG)
    refine st_to (some 39) rfl rfl (ex_mv (v := .tuple #[.agg Z, .int .i64 10]) rfl rfl) ?_
    simp only [Act.put, List.setIfInBounds_toArray, List.set_cons_zero, List.set_cons_succ]
    refine st_to (some 46) rfl rfl (ex_ext (vs := #[.agg Z, .int .i64 10]) (v := .agg Z) rfl rfl rfl) ?_
    simp only [Act.put, List.setIfInBounds_toArray, List.set_cons_zero, List.set_cons_succ]
    refine st_to (some 47) rfl rfl (ex_ext (vs := #[.agg Z, .int .i64 10]) (v := .int .i64 10) rfl rfl rfl) ?_
    simp only [Act.put, List.setIfInBounds_toArray, List.set_cons_zero, List.set_cons_succ]
    refine st_to (some 9) rfl rfl (HAL.out _ _ _ rfl) ?_
    simp only [Act.put, List.setIfInBounds_toArray, List.set_cons_zero, List.set_cons_succ]
    refine st_store (ty := 25) (x := .tmp 9) (y := .tmp 46) (b := w10.heap.size) (p := 0) (cells := Z) rfl rfl rfl rfl rfl T4 HS4.out HO4.out ?_
    rw [hW4]
    refine st_to (some 10) rfl rfl (ex_asg (v := .int .i64 10) rfl rfl) ?_
    simp only [Act.put, List.setIfInBounds_toArray, List.set_cons_zero, List.set_cons_succ]
    refine st_end ?_
    refine wp_seq (wp_region_lit ?_)
    have HS5 := HSZ.out W4
    refine st_to (some 48) rfl rfl (ex_mv (v := .int .i64 0) rfl rfl) ?_
    simp only [Act.put, List.setIfInBounds_toArray, List.set_cons_zero, List.set_cons_succ]
    refine st_to (some 49) rfl rfl (ex_bin (c := .bool true) rfl rfl rfl (eg26 _ _ _ _ _ _) (eq26 0 0 _)) ?_
    simp only [Act.put, List.setIfInBounds_toArray, List.set_cons_zero, List.set_cons_succ]
    refine st_to (some 50) rfl rfl (ex_mv (v := .bool true) rfl rfl) ?_
    simp only [Act.put, List.setIfInBounds_toArray, List.set_cons_zero, List.set_cons_succ]
    refine st_to (some 51) rfl rfl (ex_mv (v := .int .i64 10) rfl rfl) ?_
    simp only [Act.put, List.setIfInBounds_toArray, List.set_cons_zero, List.set_cons_succ]
    refine st_to (some 52) rfl rfl (ex_bin (c := .bool true) rfl rfl rfl (eg26 _ _ _ _ _ _) (eq26 10 10 _)) ?_
    simp only [Act.put, List.setIfInBounds_toArray, List.set_cons_zero, List.set_cons_succ]
    refine st_to (some 53) rfl rfl (ex_pkT (v := .bool true) rfl rfl rfl) ?_
    simp only [Act.put, List.setIfInBounds_toArray, List.set_cons_zero, List.set_cons_succ]
    refine st_to (some 54) rfl rfl (ex_mv (v := .bool true) rfl rfl) ?_
    simp only [Act.put, List.setIfInBounds_toArray, List.set_cons_zero, List.set_cons_succ]
    refine st_to (some 55) rfl rfl (ex_load rfl rfl (lG _ (Below.refl _ _))) ?_
    simp only [Act.put, List.setIfInBounds_toArray, List.set_cons_zero, List.set_cons_succ]
    refine st_to (some 56) rfl rfl (HB0.out _ _ _ rfl) ?_
    simp only [Act.put, List.setIfInBounds_toArray, List.set_cons_zero, List.set_cons_succ]
    refine st_call (some 57) rfl rfl HS5 (ex_call (f := 14) (vs := [.agg Z, .agg Z]) rfl (cfSame _) rfl) ?_
    rintro e w12 ⟨rfl, HB12⟩
    refine ⟨_, rfl, ?_⟩
    simp only [Act.put, List.setIfInBounds_toArray, List.set_cons_zero, List.set_cons_succ]
    have B12 := B11.trans (HB12.out.mono B11.size)
    refine st_to (some 58) rfl rfl (ex_pkT (v := .bool true) rfl rfl rfl) ?_
    simp only [Act.put, List.setIfInBounds_toArray, List.set_cons_zero, List.set_cons_succ]
    refine st_to (some 4) rfl rfl (ex_asg (v := .bool true) rfl rfl) ?_
    simp only [Act.put, List.setIfInBounds_toArray, List.set_cons_zero, List.set_cons_succ]
    refine st_end ?_
    refine wp_ret ?_
    refine bodyPost_ret (v := .bool true) ?_ rfl ⟨rfl, B12⟩
    rw [results_tmp Try.results6]
    rfl

theorem walk (K : Int) (F : Nat → Fld) (ev : Int) (w : World) (w0 : Fits F ∧ Good w F ∧ ∀ n, F 2 = .num n → n ≤ 9223372036854775807) (w1 : (Lit.int .u64 ev).wf = true) :
    Calls Try.prog 6 #[.agg (mc K F).toArray, .int .u64 ev] w fun e w' => e = .returned (.bool true) ∧ Below w.heap.size w w' :=
  walk_any K F ev w w0.1 w0.2.1 w0.2.2 (bounds_u64 w1).1

theorem own : ownKnob Try.prog.godebug = none := by kernel_rfl
theorem laidOut : laidOutB Try.prog = true := by kernel_rfl

set_option maxRecDepth 100000 in
theorem lifted (os : Os) (started : os.Started) (H : Type) (enc : TypeId × Value → H) :
    ReturnsInHanded {} Try.checked os 6 .any (Rows.wireEvenSpec.pre6 enc Try.prog Try.f6 Rows.wireEvenRow.domain false) (Rows.wireEvenSpec.post enc Try.prog Try.f6 false true false false) := by
  refine returnsInHanded_of_change_sized (C := Try.checked) own started (by kernel_rfl) Try.func6
    (ChangeSpec.witness6 (enc := enc) (C := Try.checked) false ⟨#[], #[.agg (mc 0 ZF).toArray, .int .u64 0], []⟩ 8 (by kernel_rfl) (by kernel_rfl) (by kernel_rfl) (by kernel_rfl)) ?_
  intro W base args ds gs before hval0 hW hcnd hsz0 _
  have hsz : (DataW.weightsEach Try.prog (Try.f6.params.toList ++ Rows.wireEvenSpec.plain.varTypes Try.prog) (ds ++ gs)).all (· ≤ reachBytes) = true := hsz0
  have hval : ∀ (j : Nat) t v, Try.f6.params[j]? = some t → args[j]? = some v → Value.okWide Try.prog W .any base t v := hval0
  have hW' := hW
  obtain ⟨p, q, hA0, hV, rfl, hfz, hnd⟩ := hW
  have hA : DataW.TrodAll enc Try.prog W 0 (fun _ => true) true Try.f6.params.toList args.toList ds p := hA0
  rw [Try.params6] at hA hval hsz
  obtain ⟨v0, vs0, d0, ds0, p0, q0, hargs, rfl, rfl, h0, r0⟩ := trodAll_cons hA
  obtain ⟨v1, vs1, d1, ds1, p1, q1, rfl, rfl, rfl, h1, r1⟩ := trodAll_cons r0
  obtain ⟨rfl, rfl, rfl⟩ := trodAll_nil r1
  obtain rfl : args = #[v0, v1] := by cases args; simp_all
  obtain ⟨rfl, rfl⟩ := trodVars_none hV
  have k0 := h0
  have lt0 : ∀ x ∈ p0, x.block < W.heap.size := by obtain ⟨m, hm⟩ := k0; exact DataW.trod_lt m _ _ _ hm
  have k1 := h1
  have lt1 : ∀ x ∈ p1, x.block < W.heap.size := by obtain ⟨m, hm⟩ := k1; exact DataW.trod_lt m _ _ _ hm
  obtain ⟨cs0, rfl, hcl0⟩ := okWide_struct Try.underlying25 (hval 0 25 v0 rfl rfl)
  obtain ⟨K0, F0, e0, w0⟩ : ∃ K F, cs0 = (mc K F).toArray ∧ Fits F ∧ Good W F ∧ ∀ n, F 2 = .num n → n ≤ 9223372036854775807 := by
    obtain ⟨fuel, hf⟩ := h0
    obtain ⟨K, F, h1, h2⟩ := open_msg hf (fun m hm => by
      have := List.all_eq_true.1 hsz _ (DataW.weights_mem_each (j := 0) (t := 25) rfl rfl m hm)
      simpa using this)
    exact ⟨K, F, by rw [← h1]; rfl, h2⟩
  subst e0
  obtain ⟨a1, rfl, rfl, rfl, w1⟩ := open_int Try.underlying36 (hval 1 36 v1 rfl rfl) h1
  clear hA0 hval0 hsz0 hsz
  refine (walk K0 F0 a1 W w0 w1).mono fun e W' ⟨he, bel⟩ => ?_
  subst he
  exact ⟨_, rfl, _, _, _, [], _, [], hW', trodAll_mk1 (shut_bool Try.underlying4 _), (trodAll_cons_mk (Below.trod laidOut (by kernel_rfl) (of_decide_eq_true (by kernel_rfl)) k0 bel lt0) (trodAll_cons_mk (Below.trod laidOut (by kernel_rfl) (of_decide_eq_true (by kernel_rfl)) k1 bel lt1) trodAll_mk0)), rfl, bel.frame _, fun h => by cases h⟩

theorem over : Rows.wireEvenRow.holds Try.pinned (OpenSpec.ofChange Rows.wireEvenSpec) :=
  OpenClaim.holds_of_wide 6 Try.f6 rfl rfl rfl rfl rfl rfl rfl ⟨rfl, rfl, rfl, rfl, rfl⟩ rfl rfl rfl rfl rfl (by kernel_rfl) Try.func6 (by kernel_rfl)
    (of_decide_eq_true (by kernel_rfl)) (by unfold Func.isWrapper; first | (rw [if_pos (by decide +kernel)]; kernel_rfl) | (rw [if_neg (by decide +kernel)]; exact ⟨rfl, rfl⟩))
    (fun os started H enc _ => lifted os started H enc)

theorem proved : Rows.WireEvenSaid := over
end Go.Proofs.Ytcbadmkgbaffpaa.wireEven
namespace Go.Proofs.Ytcbadmkgbaffpaa
theorem wireEven_holds : Rows.WireEvenSaid := wireEven.proved
end Go.Proofs.Ytcbadmkgbaffpaa
