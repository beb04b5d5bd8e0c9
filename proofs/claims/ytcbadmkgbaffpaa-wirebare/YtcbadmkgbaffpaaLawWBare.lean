/- Proved: for every message the statement WireBare (P6.1: what a kind does not have is left out; what is left may be, just if its fields may) returns true over the code at the commit, and changes none of its arguments. No condition. -/
import Derived.Test.YtcbadmkgbaffpaaROpen
namespace Go.Proofs.Ytcbadmkgbaffpaa.wireBare
open Go.ChangeShapes Go.WideShapes Go.ChangeAt Go.RowKit
set_option linter.unusedVariables false
set_option linter.unusedSimpArgs false

theorem plain2 {K : Int} {F G : Nat → Fld} (hF : Fits F) (hG : Fits G) (hp : ∀ i, i < 12 → (G i).plain = bareP K F i) (hA : ∀ n, F 2 = .num n → n ≤ 9223372036854775807) : ∀ n, G 2 = .num n → n ≤ 9223372036854775807 := fun n hn => by
  have h := hp 2 (by omega)
  rw [hn] at h
  unfold bareP at h
  split at h
  · obtain ⟨m, hm⟩ := fits_num (hF 2 (by omega)) rfl
    rw [hm] at h
    cases h
    exact hA _ hm
  · cases h
    omega
theorem bare_plain {K : Int} {F : Nat → Fld} (i : Nat) : (bareF K F i).plain = bareP K F i := by
  unfold bareP
  split
  · rename_i h; rw [bareF_in h]
  · rename_i h; rw [bareF_out h]
theorem bareP_bare {K : Int} {F G : Nat → Fld} (hp : ∀ i, i < 12 → (G i).plain = bareP K F i) (i : Nat) (hi : i < 12) : bareP K G i = (G i).plain := by
  unfold bareP
  split
  · rfl
  · rename_i h; rw [hp i hi]; unfold bareP; rw [if_neg h]
theorem may_same {K : Int} {F G : Nat → Fld} (hF : Fits F) (hp : ∀ i, i < 12 → (G i).plain = bareP K F i) (hm : mayB K F = true) : sameB K K G F = true := sameB_of fun i hi => by
  rw [hp i hi]
  unfold bareP
  split
  · rfl
  · rename_i h; exact (plain_out hF hm hi h).symm

set_option maxHeartbeats 4000000 in
theorem walk_any (K : Int) (F : Nat → Fld) (w : World) (hF : Fits F) (hG : Good w F) (hA : ∀ n, F 2 = .num n → n ≤ 9223372036854775807) :
    Calls Try.prog 7 #[.agg (mc K F).toArray] w fun e w' => e = .returned (.bool true) ∧ Below w.heap.size w w' := by
  have HCB := hide (fun (W : World) (h : Good W F) => bare_any K F hF W h)
  have HRB := hide (fun (W : World) => rbare_any K F hF W)
  have HRM := hide (fun (W : World) (h : Good W F) => rmay_any K F hF W h hA)
  have HA := hide (fun (a : Act) (W : World) (o : Oper) (ho : o.op = .alloc 25) => ex_alloc25 (a := a) (W := W) ho)
  obtain ⟨W0, hW0⟩ : ∃ W0, w.alloc (.cells (mc K F).toArray 25) = W0 := ⟨_, rfl⟩
  have M0 : MsgAt W0 w.heap.size K F := by rw [← hW0]; exact MsgAt.new w K hF
  have B0 : Below w.heap.size w W0 := by rw [← hW0]; exact (Below.refl _ _).alloc (Nat.le_refl _) _
  obtain ⟨C, hC⟩ : ∃ C, (mc K F).toArray = C := ⟨_, rfl⟩
  have HC := hide hC
  obtain ⟨Z, hZ⟩ : ∃ Z, (mc 0 ZF).toArray = Z := ⟨_, rfl⟩
  have HZ := hide hZ
  rw [hC] at HCB HRB HRM hW0 ⊢
  rw [hZ] at HA
  clear hC hZ
  have lC : ∀ W, Below W0.heap.size W0 W → (Instr.loadAt 25 (.pointer (some ⟨w.heap.size, 0, none⟩))).run Try.prog W = .ok (.agg C) W := fun W h => by rw [← HC.out]; exact run_loadAt_mid W _ 0 25 _ _ (M0.below h).range Try.underlying25 rfl (infoLen K hF)
  go_enter Try.func7, Try.ntmps7
  refine wp_seq (wp_region_lit ?_)
  refine st_to (some 1) rfl rfl (ex_box25 (C := C) rfl rfl) ?_
  simp only [Act.put, List.setIfInBounds_toArray, List.set_cons_zero, List.set_cons_succ]
  rw [hW0]
  refine st_to (some 2) rfl rfl (ex_asg (v := .bool false) rfl rfl) ?_
  simp only [Act.put, List.setIfInBounds_toArray, List.set_cons_zero, List.set_cons_succ]
  refine st_end ?_
  refine wp_seq (wp_region_lit ?_)
  refine st_to (some 6) rfl rfl (ex_load rfl rfl (lC _ (Below.refl _ _))) ?_
  simp only [Act.put, List.setIfInBounds_toArray, List.set_cons_zero, List.set_cons_succ]
  refine st_call (some 7) rfl rfl (HCB.out W0 (hG.below B0)) (ex_call (f := 15) (vs := [.agg C]) rfl (cfBare _) rfl) ?_
  rintro e w1 ⟨G, rfl, fG, HGG, hp, HB1⟩
  refine ⟨_, rfl, ?_⟩
  simp only [Act.put, List.setIfInBounds_toArray, List.set_cons_zero, List.set_cons_succ]
  have B1 := B0.trans (HB1.out.mono B0.size)
  obtain ⟨T3, M3, B3⟩ := lives_msg (w := w1) (K := K) rfl fG
  have HS3 := hide (infoSize K fG)
  have HO3 := hide (oneMsg K G)
  have HEN := hide (fun (W : World) (h : Good W G) (hm : mayB K G = false) => encode_no K G fG W h hm)
  have HEY := hide (fun (W : World) (h : Good W G) (hm : mayB K G = true) => encode_ok K G fG W h hm)
  have HCB2 := hide (fun (W : World) (h : Good W G) => bare_any K G fG W h)
  have HRM2 := hide (fun (W : World) (h : Good W G) => rmay_any K G fG W h (plain2 hF fG hp hA))
  have HS1 := hide (fun (W : World) (h : Good W F) (h2 : Good W G) => same_any K K G (bareF K F) fG (bareK_fits hF) W h2 h.bare)
  rw [sameB_of (fun i hi => (hp i hi).trans (bare_plain i).symm)] at HS1
  have HS2 := hide (fun (G2 : Nat → Fld) (f2 : Fits G2) (W : World) (h1 : Good W G2) (h2 : Good W G) => same_any K K G2 G f2 fG W h1 h2)
  have HS4 := hide (fun (W : World) (h : Good W F) (h2 : Good W G) (hm : mayB K F = true) => (same_any K K G F fG hF W h2 h).mono (fun e w' hh => show e = .returned (.bool true) ∧ Hid (Below W.heap.size W w') from ⟨by rw [hh.1, may_same hF hp hm], hh.2⟩))
  obtain ⟨D, hD⟩ : ∃ D, (mc K G).toArray = D := ⟨_, rfl⟩
  have HD := hide hD
  obtain ⟨R, hR⟩ : ∃ R, (mc K (bareF K F)).toArray = R := ⟨_, rfl⟩
  rw [HZ.out, hD] at T3 M3 B3
  rw [hD] at HS3 HO3 HEN HEY HCB2 HRM2 HS1 HS2 HS4 ⊢
  rw [HC.out] at HS4
  rw [hR] at HS1 HRB
  obtain ⟨W3, hW3⟩ : ∃ W3, (w1.alloc (.cells Z 25)).setCells w1.heap.size 0 D.toList = W3 := ⟨_, rfl⟩
  rw [hW3] at M3 B3
  clear hD hR
  refine st_to (some 3) rfl rfl (HA.out _ _ _ rfl) ?_
  simp only [Act.put, List.setIfInBounds_toArray, List.set_cons_zero, List.set_cons_succ]
  refine st_store (ty := 25) (x := .tmp 3) (y := .tmp 7) (b := w1.heap.size) (p := 0) (cells := D) rfl rfl rfl rfl rfl T3 HS3.out HO3.out ?_
  rw [hW3]
  refine st_end ?_
  refine wp_seq (wp_region_lit ?_)
  have BW3 := B1.trans (B3.mono B1.size)
  have B03 : Below W0.heap.size W0 W3 := HB1.out.trans (B3.mono HB1.out.size)
  have lD : ∀ W, Below W3.heap.size W3 W → (Instr.loadAt 25 (.pointer (some ⟨w1.heap.size, 0, none⟩))).run Try.prog W = .ok (.agg D) W := fun W h => by rw [← HD.out]; exact run_loadAt_mid W _ 0 25 _ _ (M3.below h).range Try.underlying25 rfl (infoLen K fG)
  have GG3 := HGG.out.below B3
  obtain ⟨E, hE, HENC⟩ : ∃ E : Int, (E == 0) = mayB K G ∧ Calls Try.prog 9 #[.agg D] W3 fun e w' => ∃ v, e = .returned (.tuple #[v, .int .i64 E]) ∧ Hid (Below W3.heap.size W3 w') := by
    cases hm : mayB K G with
    | true => exact ⟨0, rfl, (HEY.out W3 GG3 hm).mono fun e w' ⟨a, c, h1, _, _, _, h2⟩ => ⟨_, h1, h2⟩⟩
    | false => exact ⟨1, rfl, (HEN.out W3 GG3 hm).mono fun e w' ⟨h1, h2⟩ => ⟨_, h1, h2⟩⟩
  refine st_to (some 9) rfl rfl (ex_load rfl rfl (lD _ (Below.refl _ _))) ?_
  simp only [Act.put, List.setIfInBounds_toArray, List.set_cons_zero, List.set_cons_succ]
  refine st_call (some 10) rfl rfl HENC (ex_call (f := 9) (vs := [.agg D]) rfl (cfEncode _) rfl) ?_
  rintro e w4 ⟨v4, rfl, HB4⟩
  refine ⟨_, rfl, ?_⟩
  simp only [Act.put, List.setIfInBounds_toArray, List.set_cons_zero, List.set_cons_succ]
  refine st_to (some 8) rfl rfl (ex_mv (v := .tuple #[v4, .int .i64 E]) rfl rfl) ?_
  simp only [Act.put, List.setIfInBounds_toArray, List.set_cons_zero, List.set_cons_succ]
  refine st_to (some 11) rfl rfl (ex_ext (vs := #[v4, .int .i64 E]) (v := v4) rfl rfl rfl) ?_
  simp only [Act.put, List.setIfInBounds_toArray, List.set_cons_zero, List.set_cons_succ]
  refine st_to (some 12) rfl rfl (ex_ext (vs := #[v4, .int .i64 E]) (v := .int .i64 E) rfl rfl rfl) ?_
  simp only [Act.put, List.setIfInBounds_toArray, List.set_cons_zero, List.set_cons_succ]
  refine st_to (some 4) rfl rfl (ex_asg (v := v4) rfl rfl) ?_
  simp only [Act.put, List.setIfInBounds_toArray, List.set_cons_zero, List.set_cons_succ]
  refine st_to (some 5) rfl rfl (ex_asg (v := .int .i64 E) rfl rfl) ?_
  simp only [Act.put, List.setIfInBounds_toArray, List.set_cons_zero, List.set_cons_succ]
  refine st_end ?_
  have B4 := BW3.trans (HB4.out.mono BW3.size)
  have B04 : Below W0.heap.size W0 w4 := B03.trans (HB4.out.mono B03.size)
  obtain ⟨wd, hwd⟩ : ∃ wd, w4.drew = wd := ⟨_, rfl⟩
  have Bd : Below w.heap.size w wd := by rw [← hwd]; exact below_drew B4
  have B0d : Below W0.heap.size W0 wd := by rw [← hwd]; exact below_drew B04
  have B3d : Below W3.heap.size W3 wd := by rw [← hwd]; exact below_drew HB4.out
  have sF : ∀ W, Below wd.heap.size wd W → Good W F := fun W h => hG.below (Bd.trans (h.mono Bd.size))
  have sG : ∀ W, Below wd.heap.size wd W → Good W G := fun W h => GG3.below (B3d.trans (h.mono B3d.size))
  have sC : ∀ W, Below wd.heap.size wd W → (Instr.loadAt 25 (.pointer (some ⟨w.heap.size, 0, none⟩))).run Try.prog W = .ok (.agg C) W := fun W h => lC W (B0d.trans (h.mono B0d.size))
  have sD : ∀ W, Below wd.heap.size wd W → (Instr.loadAt 25 (.pointer (some ⟨w1.heap.size, 0, none⟩))).run Try.prog W = .ok (.agg D) W := fun W h => lD W (B3d.trans (h.mono B3d.size))
  refine wp_seq ?_
  refine wp_region_held (S := fun W => Below wd.heap.size wd W) (by kernel_rfl) ?_
  show wpAnyH _ _ _ _ _ _ _ _ w4.drew
  rw [hwd]
  have S0 : Below wd.heap.size wd wd := Below.refl _ _
  refine ah_call (i := 0) (some 13) rfl rfl (by kernel_rfl) rfl (lives_any _) (ex_call (f := 11) (vs := []) rfl (cfLives _) rfl) ?_
  rintro e v1w ⟨rfl, HX1⟩
  have S1 := S0.trans (HX1.out.mono S0.size)
  refine ⟨_, rfl, S1, ?_⟩
  simp only [Act.put, List.setIfInBounds_toArray, List.set_cons_zero, List.set_cons_succ]
  refine ah_take (i := 1) (some 14) rfl rfl (by kernel_rfl) (by kernel_rfl) (by kernel_rfl) rfl (fun W _ => ex_mv (v := .bool true) rfl rfl) S1 (fun _ _ _ h => h) ?_
  simp only [Act.put, List.setIfInBounds_toArray, List.set_cons_zero, List.set_cons_succ]
  refine ah_take (i := 2) (some 15) rfl rfl (by kernel_rfl) (by kernel_rfl) (by kernel_rfl) rfl (fun W h => ex_load rfl rfl (sD W h)) S1 (fun _ _ _ h => h) ?_
  simp only [Act.put, List.setIfInBounds_toArray, List.set_cons_zero, List.set_cons_succ]
  refine ah_take (i := 3) (some 16) rfl rfl (by kernel_rfl) (by kernel_rfl) (by kernel_rfl) rfl (fun W h => ex_load rfl rfl (sC W h)) S1 (fun _ _ _ h => h) ?_
  simp only [Act.put, List.setIfInBounds_toArray, List.set_cons_zero, List.set_cons_succ]
  refine ah_call (i := 4) (some 17) rfl rfl (by kernel_rfl) rfl (HRB.out _) (ex_call (f := 16) (vs := [.agg C]) rfl (cfRBare _) rfl) ?_
  rintro e v2w ⟨rfl, HX2⟩
  have S2 := S1.trans (HX2.out.mono S1.size)
  refine ⟨_, rfl, S2, ?_⟩
  simp only [Act.put, List.setIfInBounds_toArray, List.set_cons_zero, List.set_cons_succ]
  refine ah_call (i := 5) (some 18) rfl rfl (by kernel_rfl) rfl (HS1.out v2w (sF _ S2) (sG _ S2)) (ex_call (f := 14) (vs := [.agg D, .agg R]) rfl (cfSame _) rfl) ?_
  rintro e v3w ⟨rfl, HX3⟩
  have S3 := S2.trans (HX3.out.mono S2.size)
  refine ⟨_, rfl, S3, ?_⟩
  simp only [Act.put, List.setIfInBounds_toArray, List.set_cons_zero, List.set_cons_succ]
  refine ah_take (i := 6) (some 19) rfl rfl (by kernel_rfl) (by kernel_rfl) (by kernel_rfl) rfl (fun W _ => ex_pkT (v := .bool true) rfl rfl rfl) S3 (fun _ _ _ h => h) ?_
  simp only [Act.put, List.setIfInBounds_toArray, List.set_cons_zero, List.set_cons_succ]
  refine ah_take (i := 7) (some 20) rfl rfl (by kernel_rfl) (by kernel_rfl) (by kernel_rfl) rfl (fun W _ => ex_mv (v := .bool true) rfl rfl) S3 (fun _ _ _ h => h) ?_
  simp only [Act.put, List.setIfInBounds_toArray, List.set_cons_zero, List.set_cons_succ]
  refine ah_take (i := 8) (some 21) rfl rfl (by kernel_rfl) (by kernel_rfl) (by kernel_rfl) rfl (fun W h => ex_load rfl rfl (sD W h)) S3 (fun _ _ _ h => h) ?_
  simp only [Act.put, List.setIfInBounds_toArray, List.set_cons_zero, List.set_cons_succ]
  refine ah_take (i := 10) (some 23) rfl rfl (by kernel_rfl) (by kernel_rfl) (by kernel_rfl) rfl (fun W h => ex_load rfl rfl (sD W h)) S3 (fun _ _ _ h => h) ?_
  simp only [Act.put, List.setIfInBounds_toArray, List.set_cons_zero, List.set_cons_succ]
  refine ah_call (i := 9) (some 22) rfl rfl (by kernel_rfl) rfl (HCB2.out v3w (sG _ S3)) (ex_call (f := 15) (vs := [.agg D]) rfl (cfBare _) rfl) ?_
  rintro e v4w ⟨G2, rfl, f2, hg2, hp2, HX4⟩
  have S4 := S3.trans (HX4.out.mono S3.size)
  refine ⟨_, rfl, S4, ?_⟩
  simp only [Act.put, List.setIfInBounds_toArray, List.set_cons_zero, List.set_cons_succ]
  have HS2' := HS2.out G2 f2 v4w hg2.out (sG _ S4)
  rw [sameB_of (fun i hi => (hp2 i hi).trans (bareP_bare hp i hi))] at HS2'
  generalize (mc K G2).toArray = D2 at *
  refine ah_call (i := 11) (some 24) rfl rfl (by kernel_rfl) rfl HS2' (ex_call (f := 14) (vs := [.agg D2, .agg D]) rfl (cfSame _) rfl) ?_
  rintro e v5w ⟨rfl, HX5⟩
  have S5 := S4.trans (HX5.out.mono S4.size)
  refine ⟨_, rfl, S5, ?_⟩
  simp only [Act.put, List.setIfInBounds_toArray, List.set_cons_zero, List.set_cons_succ]
  refine ah_take (i := 12) (some 25) rfl rfl (by kernel_rfl) (by kernel_rfl) (by kernel_rfl) rfl (fun W _ => ex_pkT (v := .bool true) rfl rfl rfl) S5 (fun _ _ _ h => h) ?_
  simp only [Act.put, List.setIfInBounds_toArray, List.set_cons_zero, List.set_cons_succ]
  refine ah_take (i := 13) (some 26) rfl rfl (by kernel_rfl) (by kernel_rfl) (by kernel_rfl) rfl (fun W _ => ex_mv (v := .bool true) rfl rfl) S5 (fun _ _ _ h => h) ?_
  simp only [Act.put, List.setIfInBounds_toArray, List.set_cons_zero, List.set_cons_succ]
  refine ah_take (i := 14) (some 27) rfl rfl (by kernel_rfl) (by kernel_rfl) (by kernel_rfl) rfl (fun W _ => ex_mv (v := .int .i64 E) rfl rfl) S5 (fun _ _ _ h => h) ?_
  simp only [Act.put, List.setIfInBounds_toArray, List.set_cons_zero, List.set_cons_succ]
  refine ah_take (i := 15) (some 28) rfl rfl (by kernel_rfl) (by kernel_rfl) (by kernel_rfl) rfl (fun W _ => ex_bin (c := .bool (mayB K G)) rfl rfl rfl (eg26 _ _ _ _ _ _) (by rw [← hE]; exact eq26 E 0 W)) S5 (fun _ _ _ h => h) ?_
  simp only [Act.put, List.setIfInBounds_toArray, List.set_cons_zero, List.set_cons_succ]
  refine ah_take (i := 16) (some 29) rfl rfl (by kernel_rfl) (by kernel_rfl) (by kernel_rfl) rfl (fun W h => ex_load rfl rfl (sD W h)) S5 (fun _ _ _ h => h) ?_
  simp only [Act.put, List.setIfInBounds_toArray, List.set_cons_zero, List.set_cons_succ]
  refine ah_call (i := 17) (some 30) rfl rfl (by kernel_rfl) rfl (HRM2.out v5w (sG _ S5)) (ex_call (f := 13) (vs := [.agg D]) rfl (cfRMay _) rfl) ?_
  rintro e v6w ⟨rfl, HX6⟩
  have S6 := S5.trans (HX6.out.mono S5.size)
  refine ⟨_, rfl, S6, ?_⟩
  simp only [Act.put, List.setIfInBounds_toArray, List.set_cons_zero, List.set_cons_succ]
  refine ah_take (i := 18) (some 31) rfl rfl (by kernel_rfl) (by kernel_rfl) (by kernel_rfl) rfl (fun W _ => ex_bin (c := .bool true) rfl rfl rfl (eg4 _ _ _ _ _ _) (eq4 (mayB K G) W)) S6 (fun _ _ _ h => h) ?_
  simp only [Act.put, List.setIfInBounds_toArray, List.set_cons_zero, List.set_cons_succ]
  refine ah_take (i := 19) (some 32) rfl rfl (by kernel_rfl) (by kernel_rfl) (by kernel_rfl) rfl (fun W _ => ex_pkT (v := .bool true) rfl rfl rfl) S6 (fun _ _ _ h => h) ?_
  simp only [Act.put, List.setIfInBounds_toArray, List.set_cons_zero, List.set_cons_succ]
  refine ah_take (i := 20) (some 33) rfl rfl (by kernel_rfl) (by kernel_rfl) (by kernel_rfl) rfl (fun W _ => ex_mv (v := .bool true) rfl rfl) S6 (fun _ _ _ h => h) ?_
  simp only [Act.put, List.setIfInBounds_toArray, List.set_cons_zero, List.set_cons_succ]
  refine ah_take (i := 21) (some 34) rfl rfl (by kernel_rfl) (by kernel_rfl) (by kernel_rfl) rfl (fun W h => ex_load rfl rfl (sC W h)) S6 (fun _ _ _ h => h) ?_
  simp only [Act.put, List.setIfInBounds_toArray, List.set_cons_zero, List.set_cons_succ]
  refine ah_call (i := 22) (some 35) rfl rfl (by kernel_rfl) rfl (HRM.out v6w (sF _ S6)) (ex_call (f := 13) (vs := [.agg C]) rfl (cfRMay _) rfl) ?_
  rintro e v7w ⟨rfl, HX7⟩
  have S7 := S6.trans (HX7.out.mono S6.size)
  refine ⟨_, rfl, S7, ?_⟩
  simp only [Act.put, List.setIfInBounds_toArray, List.set_cons_zero, List.set_cons_succ]
  refine ah_take (i := 23) (some 36) rfl rfl (by kernel_rfl) (by kernel_rfl) (by kernel_rfl) rfl (fun W _ => ex_not rfl rfl) S7 (fun _ _ _ h => h) ?_
  simp only [Act.put, List.setIfInBounds_toArray, List.set_cons_zero, List.set_cons_succ]
  cases hm : mayB K F with
  | false =>
    refine ah_take (i := 24) (some 37) rfl rfl (by kernel_rfl) (by kernel_rfl) (by kernel_rfl) rfl (fun W _ => ex_mv (v := .bool true) rfl rfl) S7 (fun _ _ _ h => h) ?_
    simp only [Act.put, List.setIfInBounds_toArray, List.set_cons_zero, List.set_cons_succ]
    refine ah_skip (i := 25) (some 38) rfl rfl (by kernel_rfl) (by kernel_rfl) (by kernel_rfl) rfl S7 (fun _ _ _ h => h) ?_
    simp only [Act.put, List.setIfInBounds_toArray, List.set_cons_zero, List.set_cons_succ]
    refine ah_skip (i := 26) (some 39) rfl rfl (by kernel_rfl) (by kernel_rfl) (by kernel_rfl) rfl S7 (fun _ _ _ h => h) ?_
    simp only [Act.put, List.setIfInBounds_toArray, List.set_cons_zero, List.set_cons_succ]
    refine ah_skip (i := 27) (some 40) rfl rfl (by kernel_rfl) (by kernel_rfl) (by kernel_rfl) rfl S7 (fun _ _ _ h => h) ?_
    simp only [Act.put, List.setIfInBounds_toArray, List.set_cons_zero, List.set_cons_succ]
    refine ah_take (i := 28) (some 41) rfl rfl (by kernel_rfl) (by kernel_rfl) (by kernel_rfl) rfl (fun W _ => ex_pkT (v := .bool true) rfl rfl rfl) S7 (fun _ _ _ h => h) ?_
    simp only [Act.put, List.setIfInBounds_toArray, List.set_cons_zero, List.set_cons_succ]
    refine ah_take (i := 29) (some 42) rfl rfl (by kernel_rfl) (by kernel_rfl) (by kernel_rfl) rfl (fun W _ => ex_pkT (v := .bool true) rfl rfl rfl) S7 (fun _ _ _ h => h) ?_
    simp only [Act.put, List.setIfInBounds_toArray, List.set_cons_zero, List.set_cons_succ]
    refine ah_take (i := 30) (some 2) rfl rfl (by kernel_rfl) (by kernel_rfl) (by kernel_rfl) rfl (fun W _ => ex_asg (v := .bool true) rfl rfl) S7 (fun _ _ _ h => h) ?_
    simp only [Act.put, List.setIfInBounds_toArray, List.set_cons_zero, List.set_cons_succ]
    refine ah_done (by kernel_rfl) ?_
    refine wp_ret ?_
    refine bodyPost_ret (v := .bool true) ?_ rfl ⟨rfl, Bd.trans (S7.mono Bd.size)⟩
    rw [results_tmp Try.results7]
    rfl
  | true =>
    refine ah_take (i := 24) (some 37) rfl rfl (by kernel_rfl) (by kernel_rfl) (by kernel_rfl) rfl (fun W _ => ex_mv (v := .bool false) rfl rfl) S7 (fun _ _ _ h => h) ?_
    simp only [Act.put, List.setIfInBounds_toArray, List.set_cons_zero, List.set_cons_succ]
    refine ah_take (i := 25) (some 38) rfl rfl (by kernel_rfl) (by kernel_rfl) (by kernel_rfl) rfl (fun W h => ex_load rfl rfl (sD W h)) S7 (fun _ _ _ h => h) ?_
    simp only [Act.put, List.setIfInBounds_toArray, List.set_cons_zero, List.set_cons_succ]
    refine ah_take (i := 26) (some 39) rfl rfl (by kernel_rfl) (by kernel_rfl) (by kernel_rfl) rfl (fun W h => ex_load rfl rfl (sC W h)) S7 (fun _ _ _ h => h) ?_
    simp only [Act.put, List.setIfInBounds_toArray, List.set_cons_zero, List.set_cons_succ]
    refine ah_call (i := 27) (some 40) rfl rfl (by kernel_rfl) rfl (HS4.out v7w (sF _ S7) (sG _ S7) hm) (ex_call (f := 14) (vs := [.agg D, .agg C]) rfl (cfSame _) rfl) ?_
    rintro e v8w ⟨rfl, HX8⟩
    have S8 := S7.trans (HX8.out.mono S7.size)
    refine ⟨_, rfl, S8, ?_⟩
    simp only [Act.put, List.setIfInBounds_toArray, List.set_cons_zero, List.set_cons_succ]
    refine ah_take (i := 28) (some 41) rfl rfl (by kernel_rfl) (by kernel_rfl) (by kernel_rfl) rfl (fun W _ => ex_pkF (v := .bool true) rfl rfl rfl) S8 (fun _ _ _ h => h) ?_
    simp only [Act.put, List.setIfInBounds_toArray, List.set_cons_zero, List.set_cons_succ]
    refine ah_take (i := 29) (some 42) rfl rfl (by kernel_rfl) (by kernel_rfl) (by kernel_rfl) rfl (fun W _ => ex_pkT (v := .bool true) rfl rfl rfl) S8 (fun _ _ _ h => h) ?_
    simp only [Act.put, List.setIfInBounds_toArray, List.set_cons_zero, List.set_cons_succ]
    refine ah_take (i := 30) (some 2) rfl rfl (by kernel_rfl) (by kernel_rfl) (by kernel_rfl) rfl (fun W _ => ex_asg (v := .bool true) rfl rfl) S8 (fun _ _ _ h => h) ?_
    simp only [Act.put, List.setIfInBounds_toArray, List.set_cons_zero, List.set_cons_succ]
    refine ah_done (by kernel_rfl) ?_
    refine wp_ret ?_
    refine bodyPost_ret (v := .bool true) ?_ rfl ⟨rfl, Bd.trans (S8.mono Bd.size)⟩
    rw [results_tmp Try.results7]
    rfl

theorem walk (K : Int) (F : Nat → Fld) (w : World) (w0 : Fits F ∧ Good w F ∧ ∀ n, F 2 = .num n → n ≤ 9223372036854775807) :
    Calls Try.prog 7 #[.agg (mc K F).toArray] w fun e w' => e = .returned (.bool true) ∧ Below w.heap.size w w' := walk_any K F w w0.1 w0.2.1 w0.2.2

theorem own : ownKnob Try.prog.godebug = none := by kernel_rfl
theorem laidOut : laidOutB Try.prog = true := by kernel_rfl

set_option maxRecDepth 100000 in
theorem lifted (os : Os) (started : os.Started) (H : Type) (enc : TypeId × Value → H) :
    ReturnsInHanded {} Try.checked os 7 .any (Rows.wireBareSpec.pre6 enc Try.prog Try.f7 Rows.wireBareRow.domain false) (Rows.wireBareSpec.post enc Try.prog Try.f7 false true false false) := by
  refine returnsInHanded_of_change_sized (C := Try.checked) own started (by kernel_rfl) Try.func7
    (ChangeSpec.witness6 (enc := enc) (C := Try.checked) false ⟨#[], #[.agg (mc 0 ZF).toArray], []⟩ 8 (by kernel_rfl) (by kernel_rfl) (by kernel_rfl) (by kernel_rfl)) ?_
  intro W base args ds gs before hval0 hW hcnd hsz0 _
  have hsz : (DataW.weightsEach Try.prog (Try.f7.params.toList ++ Rows.wireBareSpec.plain.varTypes Try.prog) (ds ++ gs)).all (· ≤ reachBytes) = true := hsz0
  have hval : ∀ (j : Nat) t v, Try.f7.params[j]? = some t → args[j]? = some v → Value.okWide Try.prog W .any base t v := hval0
  have hW' := hW
  obtain ⟨p, q, hA0, hV, rfl, hfz, hnd⟩ := hW
  have hA : DataW.TrodAll enc Try.prog W 0 (fun _ => true) true Try.f7.params.toList args.toList ds p := hA0
  rw [Try.params7] at hA hval hsz
  obtain ⟨v0, vs0, d0, ds0, p0, q0, hargs, rfl, rfl, h0, r0⟩ := trodAll_cons hA
  obtain ⟨rfl, rfl, rfl⟩ := trodAll_nil r0
  obtain rfl : args = #[v0] := by cases args; simp_all
  obtain ⟨rfl, rfl⟩ := trodVars_none hV
  have k0 := h0
  have lt0 : ∀ x ∈ p0, x.block < W.heap.size := by obtain ⟨m, hm⟩ := k0; exact DataW.trod_lt m _ _ _ hm
  obtain ⟨cs0, rfl, hcl0⟩ := okWide_struct Try.underlying25 (hval 0 25 v0 rfl rfl)
  obtain ⟨K0, F0, e0, w0⟩ : ∃ K F, cs0 = (mc K F).toArray ∧ Fits F ∧ Good W F ∧ ∀ n, F 2 = .num n → n ≤ 9223372036854775807 := by
    obtain ⟨fuel, hf⟩ := h0
    obtain ⟨K, F, h1, h2⟩ := open_msg hf (fun m hm => by
      have := List.all_eq_true.1 hsz _ (DataW.weights_mem_each (j := 0) (t := 25) rfl rfl m hm)
      simpa using this)
    exact ⟨K, F, by rw [← h1]; rfl, h2⟩
  subst e0
  clear hA0 hval0 hsz0 hsz
  refine (walk K0 F0 W w0).mono fun e W' ⟨he, bel⟩ => ?_
  subst he
  exact ⟨_, rfl, _, _, _, [], _, [], hW', trodAll_mk1 (shut_bool Try.underlying4 _), (trodAll_cons_mk (Below.trod laidOut (by kernel_rfl) (of_decide_eq_true (by kernel_rfl)) k0 bel lt0) trodAll_mk0), rfl, bel.frame _, fun h => by cases h⟩

theorem over : Rows.wireBareRow.holds Try.pinned (OpenSpec.ofChange Rows.wireBareSpec) :=
  OpenClaim.holds_of_wide 7 Try.f7 rfl rfl rfl rfl rfl rfl rfl ⟨rfl, rfl, rfl, rfl, rfl⟩ rfl rfl rfl rfl rfl (by kernel_rfl) Try.func7 (by kernel_rfl)
    (of_decide_eq_true (by kernel_rfl)) (by unfold Func.isWrapper; first | (rw [if_pos (by decide +kernel)]; kernel_rfl) | (rw [if_neg (by decide +kernel)]; exact ⟨rfl, rfl⟩))
    (fun os started H enc _ => lifted os started H enc)

theorem proved : Rows.WireBareSaid := over
end Go.Proofs.Ytcbadmkgbaffpaa.wireBare
namespace Go.Proofs.Ytcbadmkgbaffpaa
theorem wireBare_holds : Rows.WireBareSaid := wireBare.proved
end Go.Proofs.Ytcbadmkgbaffpaa
