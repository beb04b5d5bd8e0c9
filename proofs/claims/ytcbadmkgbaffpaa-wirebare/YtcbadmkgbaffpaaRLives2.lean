/- The contract of the statements' lives over this seat's translation. -/
import Derived.Test.YtcbadmkgbaffpaaRLives
namespace Go.Proofs.Ytcbadmkgbaffpaa
open Go.RowKit
set_option linter.unusedVariables false
set_option linter.unusedSimpArgs false

theorem eq26 (x y : Int) (W : World) : (binOp .eql 26 (.int .i64 x) (.int .i64 y)).run Try.prog W = .ok (.bool (x == y)) W := by go_simp
theorem eg26 (bop : BinOp) (x y : Operand) (u v : Int) (W : World) : (eqGuard bop 26 x y (.int .i64 u) (.int .i64 v)).run Try.prog W = .ok () W := by cases bop <;> rfl
theorem eq5 (x y : Int) (W : World) : (binOp .eql 5 (.int .u8 x) (.int .u8 y)).run Try.prog W = .ok (.bool (x == y)) W := by go_simp
theorem eg5 (bop : BinOp) (x y : Operand) (u v : Int) (W : World) : (eqGuard bop 5 x y (.int .u8 u) (.int .u8 v)).run Try.prog W = .ok () W := by cases bop <;> rfl
theorem ld5 {W : World} {b o : Nat} {n : Int} (h : W.cell? ⟨b, o, none⟩ = some (.int .u8 n)) : (Instr.loadAt 5 (.pointer (some ⟨b, o, none⟩))).run Try.prog W = .ok (.int .u8 n) W := by go_simp
theorem ex_index23 {op : Oper} {a : Act} {W : World} {x y : Operand} (ho : op.op = .indexAddr 23 x y) {g p n c k : Nat} (hx : a.eval x = .slice (some ⟨g, p, none⟩) n c) (hy : a.eval y = .int .i64 k) (hk : k < n) : (execOp a.eval op).run Try.prog W = .ok (.value (.pointer (some ⟨g, p + k, none⟩))) W := by
  have h1 : (k : Int) < (n : Int) := by omega
  unfold execOp
  simp only [ho, hx, hy]
  go_simp
theorem lives_msg {w : World} {b : Nat} {K : Int} {F : Nat → Fld} (hb : b = w.heap.size) (hF : Fits F) : (w.alloc (.cells (mc 0 ZF).toArray 25)).there b 0 (mc K F).toArray.size ∧ MsgAt ((w.alloc (.cells (mc 0 ZF).toArray 25)).setCells b 0 (mc K F).toArray.toList) b K F ∧ Below w.heap.size w ((w.alloc (.cells (mc 0 ZF).toArray 25)).setCells b 0 (mc K F).toArray.toList) := by
  subst hb
  have M := MsgAt.new w 0 ZFits
  refine ⟨by rw [sizeMsg K hF]; exact M.there, ⟨hF, World.rangeAt_setCells_same _ _ _ _ (by rw [mc_len K hF]; exact M.there), World.there_setCells M.there _ _ _⟩, ?_⟩
  exact ((Below.refl w.heap.size w).alloc (Nat.le_refl _) _).grown (grown_setCells _ _ _ _) (by simp) (fun k hk => by cases hk; exact Nat.le_refl _)

set_option maxHeartbeats 4000000 in
theorem lives_any (w : World) : Calls Try.prog 11 #[] w fun e w' => e = .returned (.bool true) ∧ Hid (Below w.heap.size w w') := by
  obtain ⟨T1, M1, B1⟩ := lives_msg (w := w) (K := 2) rfl FLfits
  have HE1 := hide (fun W => encode_ok 2 FL FLfits W (FLgood W) FLmay)
  have HE2 := hide (fun W => encode_no 0 ZF ZFits W (fun i hi => GoodF.zero W i) nomay0)
  have HMY := hide (fun W => may_any 2 FL FLfits (FLgood W).small W)
  rw [FLmay] at HMY
  have HS1 := hide (infoSize 2 FLfits)
  have HO1 := hide (oneMsg 2 FL)
  have HA := hide (fun (a : Act) (W : World) (o : Oper) (ho : o.op = .alloc 25) => ex_alloc25 (a := a) (W := W) ho)
  have HB0 := hide (fun (a : Act) (W : World) (o : Oper) (ho : o.op = .build 25 #[]) => ex_build0 (a := a) (W := W) ho)
  have HB3 := hide (fun W => build25 W)
  have HB2 := hide (fun W => build22 W)
  obtain ⟨CL, hCL⟩ : ∃ CL, (mc 2 FL).toArray = CL := ⟨_, rfl⟩
  have HCL := hide hCL
  obtain ⟨Z, hZ⟩ : ∃ Z, (mc 0 ZF).toArray = Z := ⟨_, rfl⟩
  have HZ := hide hZ
  obtain ⟨V, hV⟩ : ∃ V, (U8 S9).toArray = V := ⟨_, rfl⟩
  obtain ⟨W1, hW1⟩ : ∃ W1, (w.alloc (.cells Z 25)).setCells w.heap.size 0 CL.toList = W1 := ⟨_, rfl⟩
  rw [hCL, hZ] at M1 B1 T1
  rw [hCL] at HE1 HMY HS1 HO1 HB3
  rw [hZ] at HE2 HA HB0
  rw [hV] at HB2 HB3
  rw [hW1] at M1 B1
  have HM1 := hide M1
  clear hCL hZ hV M1
  go_enter Try.func11, Try.ntmps11
  refine wp_seq (wp_region_lit ?_)
  refine st_to (some 0) rfl rfl (ex_asg (v := .bool false) rfl rfl) ?_
  simp only [Act.put, List.setIfInBounds_toArray, List.set_cons_zero, List.set_cons_succ]
  refine st_end ?_
  refine wp_seq (wp_region_lit ?_)
  refine st_to (some 8) rfl rfl (ex_build1 (t := 22) (i := 0) (x := .const (.int .u8 9)) (v := .int .u8 9) (u := .agg V) rfl rfl (HB2.out _)) ?_
  simp only [Act.put, List.setIfInBounds_toArray, List.set_cons_zero, List.set_cons_succ]
  refine st_to (some 9) rfl rfl (ex_build3 (t := 25) (i := 0) (j := 1) (k := 7) (x := .const (.int .i64 2)) (y := .const (.int .i64 1)) (z := .tmp 8) (v1 := .int .i64 2) (v2 := .int .i64 1) (v3 := .agg V) (u := .agg CL) rfl rfl rfl rfl (HB3.out _)) ?_
  simp only [Act.put, List.setIfInBounds_toArray, List.set_cons_zero, List.set_cons_succ]
  refine st_to (some 1) rfl rfl (HA.out _ _ _ rfl) ?_
  simp only [Act.put, List.setIfInBounds_toArray, List.set_cons_zero, List.set_cons_succ]
  refine st_store (ty := 25) (x := .tmp 1) (y := .tmp 9) (b := w.heap.size) (p := 0) (cells := CL) rfl rfl rfl rfl rfl T1 HS1.out HO1.out ?_
  rw [hW1]
  refine st_end ?_
  refine wp_seq (wp_region_lit ?_)
  have lA : ∀ W, Below W1.heap.size W1 W → (Instr.loadAt 25 (.pointer (some ⟨w.heap.size, 0, none⟩))).run Try.prog W = .ok (.agg CL) W := fun W h => by rw [← HCL.out]; exact run_loadAt_mid W _ 0 25 _ _ (HM1.out.below h).range Try.underlying25 rfl (infoLen 2 FLfits)
  refine st_to (some 11) rfl rfl (ex_load rfl rfl (lA _ (Below.refl _ _))) ?_
  simp only [Act.put, List.setIfInBounds_toArray, List.set_cons_zero, List.set_cons_succ]
  refine st_call (some 12) rfl rfl (HE1.out _) (ex_call (f := 9) (vs := [.agg CL]) rfl (cfEncode _) rfl) ?_
  rintro e w2 ⟨ba, bc, rfl, HI2, hbc, hbm, HB2w⟩
  obtain ⟨ln, hln⟩ : ∃ ln, (encB 2 FL).length = ln := ⟨_, rfl⟩
  have hl41 : ln = 41 := by rw [← hln, encFL]; rfl
  rw [hln] at hbc ⊢
  refine ⟨_, rfl, ?_⟩
  simp only [Act.put, List.setIfInBounds_toArray, List.set_cons_zero, List.set_cons_succ]
  refine st_to (some 10) rfl rfl (ex_mv (v := .tuple #[.slice ba ln bc, .int .i64 0]) rfl rfl) ?_
  simp only [Act.put, List.setIfInBounds_toArray, List.set_cons_zero, List.set_cons_succ]
  refine st_to (some 13) rfl rfl (ex_ext (vs := #[.slice ba ln bc, .int .i64 0]) (v := .slice ba ln bc) rfl rfl rfl) ?_
  simp only [Act.put, List.setIfInBounds_toArray, List.set_cons_zero, List.set_cons_succ]
  refine st_to (some 14) rfl rfl (ex_ext (vs := #[.slice ba ln bc, .int .i64 0]) (v := .int .i64 0) rfl rfl rfl) ?_
  simp only [Act.put, List.setIfInBounds_toArray, List.set_cons_zero, List.set_cons_succ]
  refine st_to (some 2) rfl rfl (ex_asg (v := .slice ba ln bc) rfl rfl) ?_
  simp only [Act.put, List.setIfInBounds_toArray, List.set_cons_zero, List.set_cons_succ]
  refine st_to (some 3) rfl rfl (ex_asg (v := .int .i64 0) rfl rfl) ?_
  simp only [Act.put, List.setIfInBounds_toArray, List.set_cons_zero, List.set_cons_succ]
  refine st_end ?_
  refine wp_seq (wp_region_lit ?_)
  have HD := hide (wdecode_any ba bc (encB 2 FL) w2 HI2.out (by rw [hln]; exact hbc) hbm (fun c hc => by rw [encFL] at hc; revert c; decide))
  rw [hln] at HD
  refine st_to (some 16) rfl rfl (ex_mv (v := .slice ba ln bc) rfl rfl) ?_
  simp only [Act.put, List.setIfInBounds_toArray, List.set_cons_zero, List.set_cons_succ]
  refine st_call (some 17) rfl rfl HD.out (ex_call (f := 17) (vs := [.slice ba ln bc]) rfl (cfDecode _) rfl) ?_
  rintro e w3 ⟨K3, G, E, rfl, fG, hG3, hsay, HB3w⟩
  obtain ⟨rfl, rfl, hpl⟩ := says_recs (K := 2) (F := FL) (dec_enc (w := w2) FLfits (FLgood w2) FLmay) (by have := enc_kind 2 FL []; rw [List.append_nil] at this; exact this) hsay
  refine ⟨_, rfl, ?_⟩
  simp only [Act.put, List.setIfInBounds_toArray, List.set_cons_zero, List.set_cons_succ]
  obtain ⟨T4, M4, B4⟩ := lives_msg (w := w3) (K := 2) rfl fG
  have HS4 := hide (infoSize 2 fG)
  have HO4 := hide (oneMsg 2 G)
  have HSM := hide (fun (W : World) (h : Good W G) => same_any 2 2 G FL fG FLfits W h (FLgood W))
  rw [HCL.out, sameB_of hpl] at HSM
  obtain ⟨CG, hCG⟩ : ∃ CG, (mc 2 G).toArray = CG := ⟨_, rfl⟩
  have HCG := hide hCG
  rw [hCG] at T4 M4 B4 HS4 HO4 HSM ⊢
  rw [HZ.out] at T4 M4 B4
  obtain ⟨W4, hW4⟩ : ∃ W4, (w3.alloc (.cells Z 25)).setCells w3.heap.size 0 CG.toList = W4 := ⟨_, rfl⟩
  rw [hW4] at M4 B4
  clear hCG hsay
  refine st_to (some 15) rfl rfl (ex_mv (v := .tuple #[.agg CG, .int .i64 0]) rfl rfl) ?_
  simp only [Act.put, List.setIfInBounds_toArray, List.set_cons_zero, List.set_cons_succ]
  refine st_to (some 18) rfl rfl (ex_ext (vs := #[.agg CG, .int .i64 0]) (v := .agg CG) rfl rfl rfl) ?_
  simp only [Act.put, List.setIfInBounds_toArray, List.set_cons_zero, List.set_cons_succ]
  refine st_to (some 19) rfl rfl (ex_ext (vs := #[.agg CG, .int .i64 0]) (v := .int .i64 0) rfl rfl rfl) ?_
  simp only [Act.put, List.setIfInBounds_toArray, List.set_cons_zero, List.set_cons_succ]
  refine st_to (some 4) rfl rfl (HA.out _ _ _ rfl) ?_
  simp only [Act.put, List.setIfInBounds_toArray, List.set_cons_zero, List.set_cons_succ]
  refine st_store (ty := 25) (x := .tmp 4) (y := .tmp 18) (b := w3.heap.size) (p := 0) (cells := CG) rfl rfl rfl rfl rfl T4 HS4.out HO4.out ?_
  rw [hW4]
  refine st_to (some 5) rfl rfl (ex_asg (v := .int .i64 0) rfl rfl) ?_
  simp only [Act.put, List.setIfInBounds_toArray, List.set_cons_zero, List.set_cons_succ]
  refine st_end ?_
  refine wp_seq (wp_region_lit ?_)
  refine st_to (some 21) rfl rfl (HB0.out _ _ _ rfl) ?_
  simp only [Act.put, List.setIfInBounds_toArray, List.set_cons_zero, List.set_cons_succ]
  refine st_call (some 22) rfl rfl (HE2.out _) (ex_call (f := 9) (vs := [.agg Z]) rfl (cfEncode _) rfl) ?_
  rintro e w5 ⟨rfl, HB5⟩
  refine ⟨_, rfl, ?_⟩
  simp only [Act.put, List.setIfInBounds_toArray, List.set_cons_zero, List.set_cons_succ]
  refine st_to (some 20) rfl rfl (ex_mv (v := .tuple #[.slice none 0 0, .int .i64 1]) rfl rfl) ?_
  simp only [Act.put, List.setIfInBounds_toArray, List.set_cons_zero, List.set_cons_succ]
  refine st_to (some 23) rfl rfl (ex_ext (vs := #[.slice none 0 0, .int .i64 1]) (v := .slice none 0 0) rfl rfl rfl) ?_
  simp only [Act.put, List.setIfInBounds_toArray, List.set_cons_zero, List.set_cons_succ]
  refine st_to (some 24) rfl rfl (ex_ext (vs := #[.slice none 0 0, .int .i64 1]) (v := .int .i64 1) rfl rfl rfl) ?_
  simp only [Act.put, List.setIfInBounds_toArray, List.set_cons_zero, List.set_cons_succ]
  refine st_to (some 6) rfl rfl (ex_asg (v := .slice none 0 0) rfl rfl) ?_
  simp only [Act.put, List.setIfInBounds_toArray, List.set_cons_zero, List.set_cons_succ]
  refine st_to (some 7) rfl rfl (ex_asg (v := .int .i64 1) rfl rfl) ?_
  simp only [Act.put, List.setIfInBounds_toArray, List.set_cons_zero, List.set_cons_succ]
  refine st_end ?_
  refine wp_seq (wp_region_lit ?_)
  have X2 : Below W1.heap.size W1 w2 := HB2w.out
  have X3 : Below W1.heap.size W1 w3 := X2.trans (HB3w.out.mono X2.size)
  have X4 : Below W1.heap.size W1 W4 := X3.trans (B4.mono X3.size)
  have X5 : Below W1.heap.size W1 w5 := X4.trans (HB5.out.mono X4.size)
  have lG : ∀ W, Below W4.heap.size W4 W → (Instr.loadAt 25 (.pointer (some ⟨w3.heap.size, 0, none⟩))).run Try.prog W = .ok (.agg CG) W := fun W h => by rw [← HCG.out]; exact run_loadAt_mid W _ 0 25 _ _ (M4.below h).range Try.underlying25 rfl (infoLen 2 fG)
  have hG5 := (hG3.out.below B4).below HB5.out
  refine st_to (some 25) rfl rfl (ex_mv (v := .int .i64 0) rfl rfl) ?_
  simp only [Act.put, List.setIfInBounds_toArray, List.set_cons_zero, List.set_cons_succ]
  refine st_to (some 26) rfl rfl (ex_bin (c := .bool true) rfl rfl rfl (eg26 _ _ _ _ _ _) (eq26 0 0 _)) ?_
  simp only [Act.put, List.setIfInBounds_toArray, List.set_cons_zero, List.set_cons_succ]
  refine st_to (some 27) rfl rfl (ex_mv (v := .bool true) rfl rfl) ?_
  simp only [Act.put, List.setIfInBounds_toArray, List.set_cons_zero, List.set_cons_succ]
  refine st_to (some 28) rfl rfl (ex_mv (v := .int .i64 0) rfl rfl) ?_
  simp only [Act.put, List.setIfInBounds_toArray, List.set_cons_zero, List.set_cons_succ]
  refine st_to (some 29) rfl rfl (ex_bin (c := .bool true) rfl rfl rfl (eg26 _ _ _ _ _ _) (eq26 0 0 _)) ?_
  simp only [Act.put, List.setIfInBounds_toArray, List.set_cons_zero, List.set_cons_succ]
  refine st_to (some 30) rfl rfl (ex_pkT (v := .bool true) rfl rfl rfl) ?_
  simp only [Act.put, List.setIfInBounds_toArray, List.set_cons_zero, List.set_cons_succ]
  refine st_to (some 31) rfl rfl (ex_mv (v := .bool true) rfl rfl) ?_
  simp only [Act.put, List.setIfInBounds_toArray, List.set_cons_zero, List.set_cons_succ]
  refine st_to (some 32) rfl rfl (ex_mv (v := .int .i64 1) rfl rfl) ?_
  simp only [Act.put, List.setIfInBounds_toArray, List.set_cons_zero, List.set_cons_succ]
  refine st_to (some 33) rfl rfl (ex_bin (c := .bool true) rfl rfl rfl (eg26 _ _ _ _ _ _) (eq26 1 1 _)) ?_
  simp only [Act.put, List.setIfInBounds_toArray, List.set_cons_zero, List.set_cons_succ]
  refine st_to (some 34) rfl rfl (ex_pkT (v := .bool true) rfl rfl rfl) ?_
  simp only [Act.put, List.setIfInBounds_toArray, List.set_cons_zero, List.set_cons_succ]
  refine st_to (some 35) rfl rfl (ex_mv (v := .bool true) rfl rfl) ?_
  simp only [Act.put, List.setIfInBounds_toArray, List.set_cons_zero, List.set_cons_succ]
  refine st_to (some 36) rfl rfl (ex_load rfl rfl (lG _ HB5.out)) ?_
  simp only [Act.put, List.setIfInBounds_toArray, List.set_cons_zero, List.set_cons_succ]
  refine st_to (some 37) rfl rfl (ex_load rfl rfl (lA _ X5)) ?_
  simp only [Act.put, List.setIfInBounds_toArray, List.set_cons_zero, List.set_cons_succ]
  refine st_call (some 38) rfl rfl (HSM.out w5 hG5) (ex_call (f := 14) (vs := [.agg CG, .agg CL]) rfl (cfSame _) rfl) ?_
  rintro e w6 ⟨rfl, HB6⟩
  have X6 : Below W1.heap.size W1 w6 := X5.trans (HB6.out.mono X5.size)
  refine ⟨_, rfl, ?_⟩
  simp only [Act.put, List.setIfInBounds_toArray, List.set_cons_zero, List.set_cons_succ]
  obtain ⟨gb, go, hba⟩ : ∃ gb go, ba = some ⟨gb, go, none⟩ ∧ w6.cell? ⟨gb, go + 1, none⟩ = some (.int .u8 2) := by
    have hI6 : IsB w6 ba bc (encB 2 FL) := HI2.out.below ((HB3w.out.trans ((B4.trans ((HB5.out.trans (HB6.out.mono HB5.out.size)).mono B4.size)).mono HB3w.out.size)))
    obtain ⟨b, off, hx, _, hcell⟩ := hI6.at (by rw [encFL]; decide)
    exact ⟨b, off, hx, by have := hcell 1 (by rw [encFL]; decide); rw [this, encFL]; rfl⟩
  obtain ⟨rfl, hc1⟩ := hba
  subst hl41
  refine st_to (some 39) rfl rfl (ex_pkT (v := .bool true) rfl rfl rfl) ?_
  simp only [Act.put, List.setIfInBounds_toArray, List.set_cons_zero, List.set_cons_succ]
  refine st_to (some 40) rfl rfl (ex_mv (v := .bool true) rfl rfl) ?_
  simp only [Act.put, List.setIfInBounds_toArray, List.set_cons_zero, List.set_cons_succ]
  refine st_to (some 41) rfl rfl (ex_mv (v := .slice (some ⟨gb, go, none⟩) 41 bc) rfl rfl) ?_
  simp only [Act.put, List.setIfInBounds_toArray, List.set_cons_zero, List.set_cons_succ]
  refine st_to (some 42) rfl rfl (ex_len rfl rfl) ?_
  simp only [Act.put, List.setIfInBounds_toArray, List.set_cons_zero, List.set_cons_succ]
  refine st_to (some 43) rfl rfl (ex_bin (c := .bool true) rfl rfl rfl (eg3' _ _ _ _ _ _) (eq3 41 41 _)) ?_
  simp only [Act.put, List.setIfInBounds_toArray, List.set_cons_zero, List.set_cons_succ]
  refine st_to (some 44) rfl rfl (ex_pkT (v := .bool true) rfl rfl rfl) ?_
  simp only [Act.put, List.setIfInBounds_toArray, List.set_cons_zero, List.set_cons_succ]
  refine st_to (some 45) rfl rfl (ex_mv (v := .bool true) rfl rfl) ?_
  simp only [Act.put, List.setIfInBounds_toArray, List.set_cons_zero, List.set_cons_succ]
  refine st_to (some 46) rfl rfl (ex_mv (v := .slice (some ⟨gb, go, none⟩) 41 bc) rfl rfl) ?_
  simp only [Act.put, List.setIfInBounds_toArray, List.set_cons_zero, List.set_cons_succ]
  refine st_to (some 47) rfl rfl (ex_index23 (k := 1) rfl rfl rfl (by omega)) ?_
  simp only [Act.put, List.setIfInBounds_toArray, List.set_cons_zero, List.set_cons_succ]
  refine st_to (some 48) rfl rfl (ex_load rfl rfl (ld5 hc1)) ?_
  simp only [Act.put, List.setIfInBounds_toArray, List.set_cons_zero, List.set_cons_succ]
  refine st_to (some 49) rfl rfl (ex_bin (c := .bool true) rfl rfl rfl (eg5 _ _ _ _ _ _) (eq5 2 2 _)) ?_
  simp only [Act.put, List.setIfInBounds_toArray, List.set_cons_zero, List.set_cons_succ]
  refine st_to (some 50) rfl rfl (ex_pkT (v := .bool true) rfl rfl rfl) ?_
  simp only [Act.put, List.setIfInBounds_toArray, List.set_cons_zero, List.set_cons_succ]
  refine st_to (some 51) rfl rfl (ex_mv (v := .bool true) rfl rfl) ?_
  simp only [Act.put, List.setIfInBounds_toArray, List.set_cons_zero, List.set_cons_succ]
  refine st_to (some 52) rfl rfl (ex_load rfl rfl (lA _ X6)) ?_
  simp only [Act.put, List.setIfInBounds_toArray, List.set_cons_zero, List.set_cons_succ]
  refine st_call (some 53) rfl rfl (HMY.out _) (ex_call (f := 12) (vs := [.agg CL]) rfl (cfMay _) rfl) ?_
  rintro e w7 ⟨rfl, HB7⟩
  have X7 : Below W1.heap.size W1 w7 := X6.trans (HB7.out.mono X6.size)
  refine ⟨_, rfl, ?_⟩
  simp only [Act.put, List.setIfInBounds_toArray, List.set_cons_zero, List.set_cons_succ]
  refine st_to (some 54) rfl rfl (ex_pkT (v := .bool true) rfl rfl rfl) ?_
  simp only [Act.put, List.setIfInBounds_toArray, List.set_cons_zero, List.set_cons_succ]
  refine st_to (some 0) rfl rfl (ex_asg (v := .bool true) rfl rfl) ?_
  simp only [Act.put, List.setIfInBounds_toArray, List.set_cons_zero, List.set_cons_succ]
  refine st_end ?_
  refine wp_ret ?_
  refine bodyPost_ret (v := .bool true) ?_ rfl ⟨rfl, B1.trans (X7.mono B1.size)⟩
  rw [results_tmp Try.results11]
  rfl
end Go.Proofs.Ytcbadmkgbaffpaa
