/- Proved: for every message and every number the statement WireCuts (P6.2: a message without its end is none) returns true over the code at the commit, and changes none of its arguments. No condition. -/
import Derived.Test.YtcbadmkgbaffpaaRAll
namespace Go.Proofs.Ytcbadmkgbaffpaa.wireCuts
open Go.ChangeShapes Go.WideShapes Go.ChangeAt Go.RowKit
set_option linter.unusedVariables false
set_option linter.unusedSimpArgs false

theorem rem3 {x y : Int} (h : y ≠ 0) (W : World) : (binOp .rem 3 (.int .i64 x) (.int .i64 y)).run Try.prog W = .ok (.int .i64 (x.tmod y)) W := by go_simp
theorem add3 {x y : Int} (h0 : -9223372036854775808 ≤ x + y) (h1 : x + y ≤ 9223372036854775807) (W : World) : (binOp .add 3 (.int .i64 x) (.int .i64 y)).run Try.prog W = .ok (.int .i64 (x + y)) W := by
  go_simp
  exact IntWalk.i64_in _ ⟨h0, h1⟩
theorem ex_slice23 {op : Oper} {a : Act} {W : World} {x y : Operand} {b o n c k : Nat} (ho : op.op = .slice 23 x none (some y) none) (hx : a.eval x = .slice (some ⟨b, o, none⟩) n c) (hy : a.eval y = .int .i64 k) (hk : k ≤ c) (hc : (k : Int) ≤ (c : Int)) : (execOp a.eval op).run Try.prog W = .ok (.value (.slice (some ⟨b, o, none⟩) k c)) W := by
  unfold execOp
  simp only [ho, hx, hy, Option.map]
  go_simp
set_option maxHeartbeats 8000000 in
theorem walk_any (K : Int) (F : Nat → Fld) (n : Int) (w : World) (hF : Fits F) (hG : Good w F) (hA : ∀ n, F 2 = .num n → n ≤ 9223372036854775807) :
    Calls Try.prog 8 #[.agg (mc K F).toArray, .int .i64 n] w fun e w' => e = .returned (.bool true) ∧ Below w.heap.size w w' := by
  obtain ⟨W, hW⟩ : ∃ W, w.alloc (.cells (mc K F).toArray 25) = W := ⟨_, rfl⟩
  have M1 : MsgAt W w.heap.size K F := by rw [← hW]; exact MsgAt.new w K hF
  have B1 : Below w.heap.size w W := by rw [← hW]; exact (Below.refl _ _).alloc (Nat.le_refl _) _
  have HRE := rencode_any K F hF W (hG.below B1) hA
  have HAL := hide (fun (a : Act) (W : World) (o : Oper) (ho : o.op = .alloc 25) => ex_alloc25 (a := a) (W := W) ho)
  have HB0 := hide (fun (a : Act) (W : World) (o : Oper) (ho : o.op = .build 25 #[]) => ex_build0 (a := a) (W := W) ho)
  have HSM := hide (fun (G : Nat → Fld) (f2 : Fits G) (W : World) (h1 : Good W G) (h2 : Good W F) => same_any K K G F f2 hF W h1 h2)
  have HSZ := hide (fun (W : World) => same_any 0 0 ZF ZF ZFits ZFits W (fun i hi => GoodF.zero W i) (fun i hi => GoodF.zero W i))
  rw [sameZ] at HSZ
  obtain ⟨C, hC⟩ : ∃ C, (mc K F).toArray = C := ⟨_, rfl⟩
  have HC := hide hC
  obtain ⟨Z, hZ⟩ : ∃ Z, (mc 0 ZF).toArray = Z := ⟨_, rfl⟩
  have HZ := hide hZ
  rw [hC] at hW HRE HSM ⊢
  rw [hZ] at HAL HB0 HSZ
  clear hC hZ
  have lC : ∀ W', Below W.heap.size W W' → (Instr.loadAt 25 (.pointer (some ⟨w.heap.size, 0, none⟩))).run Try.prog W' = .ok (.agg C) W' := fun W' h => by rw [← HC.out]; exact run_loadAt_mid W' _ 0 25 _ _ (M1.below h).range Try.underlying25 rfl (infoLen K hF)
  go_enter Try.func8, Try.ntmps8
  refine wp_seq (wp_region_lit ?_)
  refine st_to (some 2) rfl rfl (ex_box25 (C := C) rfl rfl) ?_
  simp only [Act.put, List.setIfInBounds_toArray, List.set_cons_zero, List.set_cons_succ]
  rw [hW]
  refine st_to (some 4) rfl rfl (ex_asg (v := .bool false) rfl rfl) ?_
  simp only [Act.put, List.setIfInBounds_toArray, List.set_cons_zero, List.set_cons_succ]
  refine st_end ?_
  refine wp_seq (wp_region_lit ?_)
  refine st_to (some 11) rfl rfl (ex_load rfl rfl (lC _ (Below.refl _ _))) ?_
  simp only [Act.put, List.setIfInBounds_toArray, List.set_cons_zero, List.set_cons_succ]
  refine st_call (some 12) rfl rfl HRE (ex_call (f := 10) (vs := [.agg C]) rfl (cfREncode _) rfl) ?_
  rintro e w1 ⟨⟨ba, bc, bl, E, rfl, hcase⟩, HB1⟩
  refine ⟨_, rfl, ?_⟩
  simp only [Act.put, List.setIfInBounds_toArray, List.set_cons_zero, List.set_cons_succ]
  refine st_to (some 10) rfl rfl (ex_mv (v := .tuple #[.slice ba bl bc, .int .i64 E]) rfl rfl) ?_
  simp only [Act.put, List.setIfInBounds_toArray, List.set_cons_zero, List.set_cons_succ]
  refine st_to (some 13) rfl rfl (ex_ext (vs := #[.slice ba bl bc, .int .i64 E]) (v := .slice ba bl bc) rfl rfl rfl) ?_
  simp only [Act.put, List.setIfInBounds_toArray, List.set_cons_zero, List.set_cons_succ]
  refine st_to (some 14) rfl rfl (ex_ext (vs := #[.slice ba bl bc, .int .i64 E]) (v := .int .i64 E) rfl rfl rfl) ?_
  simp only [Act.put, List.setIfInBounds_toArray, List.set_cons_zero, List.set_cons_succ]
  refine st_to (some 5) rfl rfl (ex_asg (v := .slice ba bl bc) rfl rfl) ?_
  simp only [Act.put, List.setIfInBounds_toArray, List.set_cons_zero, List.set_cons_succ]
  refine st_to (some 6) rfl rfl (ex_asg (v := .int .i64 E) rfl rfl) ?_
  simp only [Act.put, List.setIfInBounds_toArray, List.set_cons_zero, List.set_cons_succ]
  refine st_end ?_
  have B2 := B1.trans (HB1.out.mono B1.size)
  have X1 := HB1.out
  refine wp_seq ?_
  refine wp_seq (wp_region_lit ?_)
  refine st_call (some 15) rfl rfl (lives_any _) (ex_call (f := 11) (vs := []) rfl (cfLives _) rfl) ?_
  rintro e w2 ⟨rfl, HL3⟩
  refine ⟨_, rfl, ?_⟩
  simp only [Act.put, List.setIfInBounds_toArray, List.set_cons_zero, List.set_cons_succ]
  have B3 := B2.trans (HL3.out.mono B2.size)
  have X3 := X1.trans (HL3.out.mono X1.size)
  refine st_to (some 16) rfl rfl (ex_not (r := true) rfl rfl) ?_
  simp only [Act.put, List.setIfInBounds_toArray, List.set_cons_zero, List.set_cons_succ]
  refine st_to (some 17) rfl rfl (ex_mv (v := .bool false) rfl rfl) ?_
  simp only [Act.put, List.setIfInBounds_toArray, List.set_cons_zero, List.set_cons_succ]
  rcases hcase with ⟨hm, rfl, rfl, rfl, rfl⟩ | ⟨hm, rfl, hbl, hIb, hbc, hbm⟩
  · skip
    refine st_to (some 18) rfl rfl (ex_mv (v := .int .i64 1) rfl rfl) ?_
    simp only [Act.put, List.setIfInBounds_toArray, List.set_cons_zero, List.set_cons_succ]
    refine st_to (some 19) rfl rfl (ex_bin (c := .bool true) rfl rfl rfl (eg26 _ _ _ _ _ _) (neq26 1 0 _)) ?_
    simp only [Act.put, List.setIfInBounds_toArray, List.set_cons_zero, List.set_cons_succ]
    refine st_to (some 20) rfl rfl (ex_pkF (v := .bool true) rfl rfl rfl) ?_
    simp only [Act.put, List.setIfInBounds_toArray, List.set_cons_zero, List.set_cons_succ]
    refine st_end ?_
    refine wp_cond_true rfl ?_
    refine wp_seq (wp_region_lit ?_)
    refine st_call (some 21) rfl rfl (lives_any _) (ex_call (f := 11) (vs := []) rfl (cfLives _) rfl) ?_
    rintro e wl4 ⟨rfl, HL4⟩
    refine ⟨_, rfl, ?_⟩
    simp only [Act.put, List.setIfInBounds_toArray, List.set_cons_zero, List.set_cons_succ]
    have B4 := B3.trans (HL4.out.mono B3.size)
    have X4 := X3.trans (HL4.out.mono X3.size)
    refine st_to (some 4) rfl rfl (ex_asg (v := .bool true) rfl rfl) ?_
    simp only [Act.put, List.setIfInBounds_toArray, List.set_cons_zero, List.set_cons_succ]
    refine st_end ?_
    refine wp_ret ?_
    refine ret_out ?_
    refine bodyPost_ret (v := .bool true) ?_ rfl ⟨rfl, B4⟩
    rw [results_tmp Try.results8]
    rfl
  · skip
    refine st_to (some 18) rfl rfl (ex_mv (v := .int .i64 0) rfl rfl) ?_
    simp only [Act.put, List.setIfInBounds_toArray, List.set_cons_zero, List.set_cons_succ]
    refine st_to (some 19) rfl rfl (ex_bin (c := .bool false) rfl rfl rfl (eg26 _ _ _ _ _ _) (neq26 0 0 _)) ?_
    simp only [Act.put, List.setIfInBounds_toArray, List.set_cons_zero, List.set_cons_succ]
    refine st_to (some 20) rfl rfl (ex_pkF (v := .bool false) rfl rfl rfl) ?_
    simp only [Act.put, List.setIfInBounds_toArray, List.set_cons_zero, List.set_cons_succ]
    refine st_end ?_
    refine wp_cond_false rfl ?_
    refine wp_skip ?_
    refine wp_seq (wp_region_lit ?_)
    have eb := enc_bytes hF hG hm
    have hb2 : 2 ≤ bl := by rw [hbl]; simp [encB]
    have hIw := hIb.below HL3.out
    obtain ⟨gb, go, rfl, _, _⟩ := hIw.at (by omega)
    have hr1 := Int.tmod_lt_of_pos n (show (0 : Int) < (bl : Int) by omega)
    have hr2 := Int.tmod_lt_of_pos (-n) (show (0 : Int) < (bl : Int) by omega)
    rw [Int.neg_tmod] at hr2
    have hbl2 : bl ≤ 12782 := by rw [hbl]; exact eb.2
    refine st_to (some 22) rfl rfl (ex_mv (v := .int .i64 n) rfl rfl) ?_
    simp only [Act.put, List.setIfInBounds_toArray, List.set_cons_zero, List.set_cons_succ]
    refine st_to (some 23) rfl rfl (ex_mv (v := .slice (some ⟨gb, go, none⟩) bl bc) rfl rfl) ?_
    simp only [Act.put, List.setIfInBounds_toArray, List.set_cons_zero, List.set_cons_succ]
    refine st_to (some 24) rfl rfl (ex_len rfl rfl) ?_
    simp only [Act.put, List.setIfInBounds_toArray, List.set_cons_zero, List.set_cons_succ]
    refine st_to (some 25) rfl rfl (ex_bin (c := .int .i64 (n.tmod bl)) rfl rfl rfl (eg3' _ _ _ _ _ _) (rem3 (by omega) _)) ?_
    simp only [Act.put, List.setIfInBounds_toArray, List.set_cons_zero, List.set_cons_succ]
    obtain ⟨r, hr⟩ : ∃ r, n.tmod bl = r := ⟨_, rfl⟩
    rw [hr] at hr1 hr2 ⊢
    refine st_to (some 7) rfl rfl (ex_asg (v := .int .i64 r) rfl rfl) ?_
    simp only [Act.put, List.setIfInBounds_toArray, List.set_cons_zero, List.set_cons_succ]
    refine st_end ?_
    refine wp_seq ?_
    refine wp_seq (wp_region_lit ?_)
    refine st_to (some 26) rfl rfl (ex_mv (v := .int .i64 r) rfl rfl) ?_
    simp only [Act.put, List.setIfInBounds_toArray, List.set_cons_zero, List.set_cons_succ]
    by_cases hneg : r < 0
    · skip
      refine st_to (some 27) rfl rfl (ex_bin (c := .bool true) rfl rfl rfl (eg3' _ _ _ _ _ _) (lss3T hneg _)) ?_
      simp only [Act.put, List.setIfInBounds_toArray, List.set_cons_zero, List.set_cons_succ]
      refine st_end ?_
      refine wp_cond_true rfl ?_
      refine wp_region_lit ?_
      refine st_to (some 28) rfl rfl (ex_mv (v := .int .i64 r) rfl rfl) ?_
      simp only [Act.put, List.setIfInBounds_toArray, List.set_cons_zero, List.set_cons_succ]
      refine st_to (some 29) rfl rfl (ex_mv (v := .slice (some ⟨gb, go, none⟩) bl bc) rfl rfl) ?_
      simp only [Act.put, List.setIfInBounds_toArray, List.set_cons_zero, List.set_cons_succ]
      refine st_to (some 30) rfl rfl (ex_len rfl rfl) ?_
      simp only [Act.put, List.setIfInBounds_toArray, List.set_cons_zero, List.set_cons_succ]
      refine st_to (some 31) rfl rfl (ex_bin (c := .int .i64 (r + bl)) rfl rfl rfl (eg3' _ _ _ _ _ _) (add3 (by omega) (by omega) _)) ?_
      simp only [Act.put, List.setIfInBounds_toArray, List.set_cons_zero, List.set_cons_succ]
      obtain ⟨k, hk⟩ : ∃ k : Nat, r + (bl : Int) = (k : Int) := ⟨(r + bl).toNat, by omega⟩
      rw [hk]
      refine st_to (some 7) rfl rfl (ex_asg (v := .int .i64 k) rfl rfl) ?_
      simp only [Act.put, List.setIfInBounds_toArray, List.set_cons_zero, List.set_cons_succ]
      refine st_end ?_
      have hIk := isB_take (cap' := bc) (a := none) hIw k
      have hkl : ((encB K F).take k).length = k := by rw [List.length_take, ← hbl]; omega
      have HD := wdecode_any (some ⟨gb, go, none⟩) bc ((encB K F).take k) w2 hIk (by rw [hkl]; omega) hbm (Bytes.take eb.1 k)
      rw [hkl] at HD
      refine wp_seq (wp_region_lit ?_)
      refine st_to (some 33) rfl rfl (ex_mv (v := .slice (some ⟨gb, go, none⟩) bl bc) rfl rfl) ?_
      simp only [Act.put, List.setIfInBounds_toArray, List.set_cons_zero, List.set_cons_succ]
      refine st_to (some 34) rfl rfl (ex_mv (v := .int .i64 k) rfl rfl) ?_
      simp only [Act.put, List.setIfInBounds_toArray, List.set_cons_zero, List.set_cons_succ]
      refine st_to (some 35) rfl rfl (ex_slice23 (k := k) rfl rfl rfl (by omega) (by omega)) ?_
      simp only [Act.put, List.setIfInBounds_toArray, List.set_cons_zero, List.set_cons_succ]
      refine st_call (some 36) rfl rfl HD (ex_call (f := 17) (vs := [.slice (some ⟨gb, go, none⟩) k bc]) rfl (cfDecode _) rfl) ?_
      rintro e w10 ⟨K3, G, E3, rfl, fG, hG3, hsay, HB10⟩
      obtain ⟨rfl, rfl, rfl⟩ := says_none (dec_cut hF hG hm k (by omega)) hsay
      refine ⟨_, rfl, ?_⟩
      simp only [Act.put, List.setIfInBounds_toArray, List.set_cons_zero, List.set_cons_succ]
      have B10 := B3.trans (HB10.out.mono B3.size)
      have X10 := X3.trans (HB10.out.mono X3.size)
      obtain ⟨T4, M4, B4⟩ := lives_msg (w := w10) (K := 0) rfl fG
      have HS4 := hide (infoSize 0 fG)
      have HO4 := hide (oneMsg 0 ZF)
      have HCG := HZ
      rw [HZ.out] at T4 M4 B4 HS4 HO4 ⊢
      obtain ⟨W4, hW4⟩ : ∃ W4, (w10.alloc (.cells Z 25)).setCells w10.heap.size 0 Z.toList = W4 := ⟨_, rfl⟩
      rw [hW4] at M4 B4
      clear hsay
      have B11 := B10.trans (B4.mono B10.size)
      have X11 := X10.trans (B4.mono X10.size)
      have lG : ∀ W', Below W4.heap.size W4 W' → (Instr.loadAt 25 (.pointer (some ⟨w10.heap.size, 0, none⟩))).run Try.prog W' = .ok (.agg Z) W' := fun W' h => by rw [← HCG.out]; exact run_loadAt_mid W' _ 0 25 _ _ (M4.below h).range Try.underlying25 rfl (infoLen 0 fG)
      refine st_to (some 32) rfl rfl (ex_mv (v := .tuple #[.agg Z, .int .i64 10]) rfl rfl) ?_
      simp only [Act.put, List.setIfInBounds_toArray, List.set_cons_zero, List.set_cons_succ]
      refine st_to (some 37) rfl rfl (ex_ext (vs := #[.agg Z, .int .i64 10]) (v := .agg Z) rfl rfl rfl) ?_
      simp only [Act.put, List.setIfInBounds_toArray, List.set_cons_zero, List.set_cons_succ]
      refine st_to (some 38) rfl rfl (ex_ext (vs := #[.agg Z, .int .i64 10]) (v := .int .i64 10) rfl rfl rfl) ?_
      simp only [Act.put, List.setIfInBounds_toArray, List.set_cons_zero, List.set_cons_succ]
      refine st_to (some 8) rfl rfl (HAL.out _ _ _ rfl) ?_
      simp only [Act.put, List.setIfInBounds_toArray, List.set_cons_zero, List.set_cons_succ]
      refine st_store (ty := 25) (x := .tmp 8) (y := .tmp 37) (b := w10.heap.size) (p := 0) (cells := Z) rfl rfl rfl rfl rfl T4 HS4.out HO4.out ?_
      rw [hW4]
      refine st_to (some 9) rfl rfl (ex_asg (v := .int .i64 10) rfl rfl) ?_
      simp only [Act.put, List.setIfInBounds_toArray, List.set_cons_zero, List.set_cons_succ]
      refine st_end ?_
      refine wp_seq (wp_region_lit ?_)
      have HS5 := HSZ.out W4
      refine st_to (some 39) rfl rfl (ex_mv (v := .int .i64 10) rfl rfl) ?_
      simp only [Act.put, List.setIfInBounds_toArray, List.set_cons_zero, List.set_cons_succ]
      refine st_to (some 40) rfl rfl (ex_bin (c := .bool true) rfl rfl rfl (eg26 _ _ _ _ _ _) (eq26 10 10 _)) ?_
      simp only [Act.put, List.setIfInBounds_toArray, List.set_cons_zero, List.set_cons_succ]
      refine st_to (some 41) rfl rfl (ex_mv (v := .bool true) rfl rfl) ?_
      simp only [Act.put, List.setIfInBounds_toArray, List.set_cons_zero, List.set_cons_succ]
      refine st_to (some 42) rfl rfl (ex_load rfl rfl (lG _ (Below.refl _ _))) ?_
      simp only [Act.put, List.setIfInBounds_toArray, List.set_cons_zero, List.set_cons_succ]
      refine st_to (some 43) rfl rfl (HB0.out _ _ _ rfl) ?_
      simp only [Act.put, List.setIfInBounds_toArray, List.set_cons_zero, List.set_cons_succ]
      refine st_call (some 44) rfl rfl HS5 (ex_call (f := 14) (vs := [.agg Z, .agg Z]) rfl (cfSame _) rfl) ?_
      rintro e w12 ⟨rfl, HB12⟩
      refine ⟨_, rfl, ?_⟩
      simp only [Act.put, List.setIfInBounds_toArray, List.set_cons_zero, List.set_cons_succ]
      have B12 := B11.trans (HB12.out.mono B11.size)
      refine st_to (some 45) rfl rfl (ex_pkT (v := .bool true) rfl rfl rfl) ?_
      simp only [Act.put, List.setIfInBounds_toArray, List.set_cons_zero, List.set_cons_succ]
      refine st_to (some 4) rfl rfl (ex_asg (v := .bool true) rfl rfl) ?_
      simp only [Act.put, List.setIfInBounds_toArray, List.set_cons_zero, List.set_cons_succ]
      refine st_end ?_
      refine wp_ret ?_
      refine bodyPost_ret (v := .bool true) ?_ rfl ⟨rfl, B12⟩
      rw [results_tmp Try.results8]
      rfl
    · skip
      refine st_to (some 27) rfl rfl (ex_bin (c := .bool false) rfl rfl rfl (eg3' _ _ _ _ _ _) (lss3F hneg _)) ?_
      simp only [Act.put, List.setIfInBounds_toArray, List.set_cons_zero, List.set_cons_succ]
      refine st_end ?_
      refine wp_cond_false rfl ?_
      refine wp_skip ?_
      obtain ⟨k, rfl⟩ : ∃ k : Nat, r = (k : Int) := ⟨r.toNat, by omega⟩
      have hIk := isB_take (cap' := bc) (a := none) hIw k
      have hkl : ((encB K F).take k).length = k := by rw [List.length_take, ← hbl]; omega
      have HD := wdecode_any (some ⟨gb, go, none⟩) bc ((encB K F).take k) w2 hIk (by rw [hkl]; omega) hbm (Bytes.take eb.1 k)
      rw [hkl] at HD
      refine wp_seq (wp_region_lit ?_)
      refine st_to (some 33) rfl rfl (ex_mv (v := .slice (some ⟨gb, go, none⟩) bl bc) rfl rfl) ?_
      simp only [Act.put, List.setIfInBounds_toArray, List.set_cons_zero, List.set_cons_succ]
      refine st_to (some 34) rfl rfl (ex_mv (v := .int .i64 k) rfl rfl) ?_
      simp only [Act.put, List.setIfInBounds_toArray, List.set_cons_zero, List.set_cons_succ]
      refine st_to (some 35) rfl rfl (ex_slice23 (k := k) rfl rfl rfl (by omega) (by omega)) ?_
      simp only [Act.put, List.setIfInBounds_toArray, List.set_cons_zero, List.set_cons_succ]
      refine st_call (some 36) rfl rfl HD (ex_call (f := 17) (vs := [.slice (some ⟨gb, go, none⟩) k bc]) rfl (cfDecode _) rfl) ?_
      rintro e w10 ⟨K3, G, E3, rfl, fG, hG3, hsay, HB10⟩
      obtain ⟨rfl, rfl, rfl⟩ := says_none (dec_cut hF hG hm k (by omega)) hsay
      refine ⟨_, rfl, ?_⟩
      simp only [Act.put, List.setIfInBounds_toArray, List.set_cons_zero, List.set_cons_succ]
      have B10 := B3.trans (HB10.out.mono B3.size)
      have X10 := X3.trans (HB10.out.mono X3.size)
      obtain ⟨T4, M4, B4⟩ := lives_msg (w := w10) (K := 0) rfl fG
      have HS4 := hide (infoSize 0 fG)
      have HO4 := hide (oneMsg 0 ZF)
      have HCG := HZ
      rw [HZ.out] at T4 M4 B4 HS4 HO4 ⊢
      obtain ⟨W4, hW4⟩ : ∃ W4, (w10.alloc (.cells Z 25)).setCells w10.heap.size 0 Z.toList = W4 := ⟨_, rfl⟩
      rw [hW4] at M4 B4
      clear hsay
      have B11 := B10.trans (B4.mono B10.size)
      have X11 := X10.trans (B4.mono X10.size)
      have lG : ∀ W', Below W4.heap.size W4 W' → (Instr.loadAt 25 (.pointer (some ⟨w10.heap.size, 0, none⟩))).run Try.prog W' = .ok (.agg Z) W' := fun W' h => by rw [← HCG.out]; exact run_loadAt_mid W' _ 0 25 _ _ (M4.below h).range Try.underlying25 rfl (infoLen 0 fG)
      refine st_to (some 32) rfl rfl (ex_mv (v := .tuple #[.agg Z, .int .i64 10]) rfl rfl) ?_
      simp only [Act.put, List.setIfInBounds_toArray, List.set_cons_zero, List.set_cons_succ]
      refine st_to (some 37) rfl rfl (ex_ext (vs := #[.agg Z, .int .i64 10]) (v := .agg Z) rfl rfl rfl) ?_
      simp only [Act.put, List.setIfInBounds_toArray, List.set_cons_zero, List.set_cons_succ]
      refine st_to (some 38) rfl rfl (ex_ext (vs := #[.agg Z, .int .i64 10]) (v := .int .i64 10) rfl rfl rfl) ?_
      simp only [Act.put, List.setIfInBounds_toArray, List.set_cons_zero, List.set_cons_succ]
      refine st_to (some 8) rfl rfl (HAL.out _ _ _ rfl) ?_
      simp only [Act.put, List.setIfInBounds_toArray, List.set_cons_zero, List.set_cons_succ]
      refine st_store (ty := 25) (x := .tmp 8) (y := .tmp 37) (b := w10.heap.size) (p := 0) (cells := Z) rfl rfl rfl rfl rfl T4 HS4.out HO4.out ?_
      rw [hW4]
      refine st_to (some 9) rfl rfl (ex_asg (v := .int .i64 10) rfl rfl) ?_
      simp only [Act.put, List.setIfInBounds_toArray, List.set_cons_zero, List.set_cons_succ]
      refine st_end ?_
      refine wp_seq (wp_region_lit ?_)
      have HS5 := HSZ.out W4
      refine st_to (some 39) rfl rfl (ex_mv (v := .int .i64 10) rfl rfl) ?_
      simp only [Act.put, List.setIfInBounds_toArray, List.set_cons_zero, List.set_cons_succ]
      refine st_to (some 40) rfl rfl (ex_bin (c := .bool true) rfl rfl rfl (eg26 _ _ _ _ _ _) (eq26 10 10 _)) ?_
      simp only [Act.put, List.setIfInBounds_toArray, List.set_cons_zero, List.set_cons_succ]
      refine st_to (some 41) rfl rfl (ex_mv (v := .bool true) rfl rfl) ?_
      simp only [Act.put, List.setIfInBounds_toArray, List.set_cons_zero, List.set_cons_succ]
      refine st_to (some 42) rfl rfl (ex_load rfl rfl (lG _ (Below.refl _ _))) ?_
      simp only [Act.put, List.setIfInBounds_toArray, List.set_cons_zero, List.set_cons_succ]
      refine st_to (some 43) rfl rfl (HB0.out _ _ _ rfl) ?_
      simp only [Act.put, List.setIfInBounds_toArray, List.set_cons_zero, List.set_cons_succ]
      refine st_call (some 44) rfl rfl HS5 (ex_call (f := 14) (vs := [.agg Z, .agg Z]) rfl (cfSame _) rfl) ?_
      rintro e w12 ⟨rfl, HB12⟩
      refine ⟨_, rfl, ?_⟩
      simp only [Act.put, List.setIfInBounds_toArray, List.set_cons_zero, List.set_cons_succ]
      have B12 := B11.trans (HB12.out.mono B11.size)
      refine st_to (some 45) rfl rfl (ex_pkT (v := .bool true) rfl rfl rfl) ?_
      simp only [Act.put, List.setIfInBounds_toArray, List.set_cons_zero, List.set_cons_succ]
      refine st_to (some 4) rfl rfl (ex_asg (v := .bool true) rfl rfl) ?_
      simp only [Act.put, List.setIfInBounds_toArray, List.set_cons_zero, List.set_cons_succ]
      refine st_end ?_
      refine wp_ret ?_
      refine bodyPost_ret (v := .bool true) ?_ rfl ⟨rfl, B12⟩
      rw [results_tmp Try.results8]
      rfl

theorem walk (K : Int) (F : Nat → Fld) (n : Int) (w : World) (w0 : Fits F ∧ Good w F ∧ ∀ n, F 2 = .num n → n ≤ 9223372036854775807) (w1 : (Lit.int .i64 n).wf = true) :
    Calls Try.prog 8 #[.agg (mc K F).toArray, .int .i64 n] w fun e w' => e = .returned (.bool true) ∧ Below w.heap.size w w' :=
  walk_any K F n w w0.1 w0.2.1 w0.2.2

theorem own : ownKnob Try.prog.godebug = none := by kernel_rfl
theorem laidOut : laidOutB Try.prog = true := by kernel_rfl

set_option maxRecDepth 100000 in
theorem lifted (os : Os) (started : os.Started) (H : Type) (enc : TypeId × Value → H) :
    ReturnsInHanded {} Try.checked os 8 .any (Rows.wireCutsSpec.pre6 enc Try.prog Try.f8 Rows.wireCutsRow.domain false) (Rows.wireCutsSpec.post enc Try.prog Try.f8 false true false false) := by
  refine returnsInHanded_of_change_sized (C := Try.checked) own started (by kernel_rfl) Try.func8
    (ChangeSpec.witness6 (enc := enc) (C := Try.checked) false ⟨#[], #[.agg (mc 0 ZF).toArray, .int .i64 0], []⟩ 8 (by kernel_rfl) (by kernel_rfl) (by kernel_rfl) (by kernel_rfl)) ?_
  intro W base args ds gs before hval0 hW hcnd hsz0 _
  have hsz : (DataW.weightsEach Try.prog (Try.f8.params.toList ++ Rows.wireCutsSpec.plain.varTypes Try.prog) (ds ++ gs)).all (· ≤ reachBytes) = true := hsz0
  have hval : ∀ (j : Nat) t v, Try.f8.params[j]? = some t → args[j]? = some v → Value.okWide Try.prog W .any base t v := hval0
  have hW' := hW
  obtain ⟨p, q, hA0, hV, rfl, hfz, hnd⟩ := hW
  have hA : DataW.TrodAll enc Try.prog W 0 (fun _ => true) true Try.f8.params.toList args.toList ds p := hA0
  rw [Try.params8] at hA hval hsz
  obtain ⟨v0, vs0, d0, ds0, p0, q0, hargs, rfl, rfl, h0, r0⟩ := trodAll_cons hA
  obtain ⟨v1, vs1, d1, ds1, p1, q1, rfl, rfl, rfl, h1, r1⟩ := trodAll_cons r0
  obtain ⟨rfl, rfl, rfl⟩ := trodAll_nil r1
  obtain rfl : args = #[v0, v1] := by cases args; simp_all
  obtain ⟨rfl, rfl⟩ := trodVars_none hV
  have k0 := h0
  have lt0 : ∀ x ∈ p0, x.block < W.heap.size := by obtain ⟨m, hm⟩ := k0; exact DataW.trod_lt m _ _ _ hm
  have k1 := h1
  have lt1 : ∀ x ∈ p1, x.block < W.heap.size := by obtain ⟨m, hm⟩ := k1; exact DataW.trod_lt m _ _ _ hm
  obtain ⟨cs0, rfl, hcl0⟩ := okWide_struct Try.underlying25 (hval 0 25 v0 rfl rfl)
  obtain ⟨K0, F0, e0, w0⟩ : ∃ K F, cs0 = (mc K F).toArray ∧ Fits F ∧ Good W F ∧ ∀ n, F 2 = .num n → n ≤ 9223372036854775807 := by
    obtain ⟨fuel, hf⟩ := h0
    obtain ⟨K, F, h1, h2⟩ := open_msg hf (fun m hm => by
      have := List.all_eq_true.1 hsz _ (DataW.weights_mem_each (j := 0) (t := 25) rfl rfl m hm)
      simpa using this)
    exact ⟨K, F, by rw [← h1]; rfl, h2⟩
  subst e0
  obtain ⟨a1, rfl, rfl, rfl, w1⟩ := open_int Try.underlying3 (hval 1 3 v1 rfl rfl) h1
  clear hA0 hval0 hsz0 hsz
  refine (walk K0 F0 a1 W w0 w1).mono fun e W' ⟨he, bel⟩ => ?_
  subst he
  exact ⟨_, rfl, _, _, _, [], _, [], hW', trodAll_mk1 (shut_bool Try.underlying4 _), (trodAll_cons_mk (Below.trod laidOut (by kernel_rfl) (of_decide_eq_true (by kernel_rfl)) k0 bel lt0) (trodAll_cons_mk (Below.trod laidOut (by kernel_rfl) (of_decide_eq_true (by kernel_rfl)) k1 bel lt1) trodAll_mk0)), rfl, bel.frame _, fun h => by cases h⟩

theorem over : Rows.wireCutsRow.holds Try.pinned (OpenSpec.ofChange Rows.wireCutsSpec) :=
  OpenClaim.holds_of_wide 8 Try.f8 rfl rfl rfl rfl rfl rfl rfl ⟨rfl, rfl, rfl, rfl, rfl⟩ rfl rfl rfl rfl rfl (by kernel_rfl) Try.func8 (by kernel_rfl)
    (of_decide_eq_true (by kernel_rfl)) (by unfold Func.isWrapper; first | (rw [if_pos (by decide +kernel)]; kernel_rfl) | (rw [if_neg (by decide +kernel)]; exact ⟨rfl, rfl⟩))
    (fun os started H enc _ => lifted os started H enc)

theorem proved : Rows.WireCutsSaid := over
end Go.Proofs.Ytcbadmkgbaffpaa.wireCuts
namespace Go.Proofs.Ytcbadmkgbaffpaa
theorem wireCuts_holds : Rows.WireCutsSaid := wireCuts.proved
end Go.Proofs.Ytcbadmkgbaffpaa
