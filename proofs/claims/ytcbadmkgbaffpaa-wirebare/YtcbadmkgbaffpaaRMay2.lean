/- The contract of the document's May over this seat's translation. -/
import Derived.Test.YtcbadmkgbaffpaaRMay
namespace Go.Proofs.Ytcbadmkgbaffpaa
open Go.RowKit
set_option linter.unusedVariables false

theorem Good.bare {w : World} {K : Int} {F : Nat → Fld} (h : Good w F) : Good w (bareF K F) := fun i hi => by
  by_cases hm : i ∈ fl K
  · rw [bareF_in hm]; exact h i hi
  · rw [bareF_out hm]; exact GoodF.zero w i

/-- the first comparison of a chain -/
theorem blockFirst {ops : Array Oper} {rest : List Oper} {a : Act} {W : World} {Q : Exit → Act → World → Prop} {o1 o2 o3 o5 : Oper} {n m s i b o : Nat} {bop : BinOp} {r c : Bool} {x k : Int} (h : Kr a n m b r) (h4 : 1 < s) (hn : s + 3 < n) (hm : m < s)
    (p1 : o1.op = .fieldAddr 25 (.tmp 1) i ∧ o1.dst = some s ∧ o1.guard = none) (p2 : o2.op = .load 3 (.tmp s) ∧ o2.dst = some (s + 1) ∧ o2.guard = none)
    (p3 : o3.op = .binOp bop 3 (.tmp (s + 1)) (.const (.int .i64 k)) 3 ∧ o3.dst = some (s + 2) ∧ o3.guard = none) (p5 : o5.op = .move (.tmp (s + 2)) ∧ o5.dst = some (s + 3) ∧ o5.guard = none)
    (hf : (Instr.fieldAt 25 (.pointer (some ⟨b, 0, none⟩)) i).run Try.prog W = .ok (.pointer (some ⟨b, o, none⟩)) W) (l1 : (Instr.loadAt 3 (.pointer (some ⟨b, o, none⟩))).run Try.prog W = .ok (.int .i64 x) W)
    (he : (binOp bop 3 (.int .i64 x) (.int .i64 k)).run Try.prog W = .ok (.bool c) W)
    (hk : ∀ a', Kr a' n (s + 3) b c → wpList Try.prog ops Q rest a' W) : wpList Try.prog ops Q (o1 :: o2 :: o3 :: o5 :: rest) a W := by
  refine st_any (wanted_none p1.2.2) (ex_fld p1.1 (eval_tmp h.one) hf) ?_
  rw [p1.2.1]
  have h1 := h.put (d := s) (.pointer (some ⟨b, o, none⟩)) h4 (by omega)
  have q1 := put_same (a := a) (d := s) (v := .pointer (some ⟨b, o, none⟩)) (by rw [h.size]; omega)
  generalize a.put (some s) (.pointer (some ⟨b, o, none⟩)) = a1 at *
  refine st_any (wanted_none p2.2.2) (ex_load p2.1 (eval_tmp q1) l1) ?_
  rw [p2.2.1]
  have h2 := h1.put (d := s + 1) (.int .i64 x) (by omega) (by omega)
  have q2 := put_same (a := a1) (d := s + 1) (v := .int .i64 x) (by rw [h1.size]; omega)
  generalize a1.put (some (s + 1)) (.int .i64 x) = a2 at *
  refine st_any (wanted_none p3.2.2) (ex_bin p3.1 (eval_tmp q2) rfl (eg3' _ _ _ _ _ _) he) ?_
  rw [p3.2.1]
  have h3 := h2.put (d := s + 2) (.bool c) (by omega) (by omega)
  have q3 := put_same (a := a2) (d := s + 2) (v := .bool c) (by rw [h2.size]; omega)
  generalize a2.put (some (s + 2)) (.bool c) = a3 at *
  refine st_any (wanted_none p5.2.2) (ex_mv p5.1 (eval_tmp q3)) ?_
  rw [p5.2.1]
  exact hk _ (h3.to (by omega) (by omega))

set_option maxHeartbeats 4000000 in
theorem rmay_any (K : Int) (F : Nat → Fld) (hF : Fits F) (w : World) (hG : Good w F) (hA : ∀ n, F 2 = .num n → n ≤ 9223372036854775807) :
    Calls Try.prog 13 #[.agg (mc K F).toArray] w fun e w' => e = .returned (.bool (mayB K F)) ∧ Hid (Below w.heap.size w w') := by
  obtain ⟨W, hW⟩ : ∃ W, w.alloc (.cells (mc K F).toArray 25) = W := ⟨_, rfl⟩
  have M1 : MsgAt W w.heap.size K F := by rw [← hW]; exact MsgAt.new w K hF
  have HB := hide (show Below w.heap.size w W by rw [← hW]; exact (Below.refl _ _).alloc (Nat.le_refl _) _)
  have HG := hide (hG.below HB.out)
  have HM1 := hide M1
  clear M1
  obtain ⟨x0, h0⟩ := fits_num (hF 0 (by omega)) rfl
  obtain ⟨x1, h1⟩ := fits_num (hF 1 (by omega)) rfl
  obtain ⟨x2, h2⟩ := fits_num (hF 2 (by omega)) rfl
  obtain ⟨x3, h3⟩ := fits_num (hF 3 (by omega)) rfl
  obtain ⟨x9, h9⟩ := fits_num (hF 9 (by omega)) rfl
  obtain ⟨x10, h10⟩ := fits_num (hF 10 (by omega)) rfl
  obtain ⟨a5, c5, l5, h5⟩ := fits_lst (hF 5 (by omega)) rfl
  obtain ⟨a11, c11, l11, h11⟩ := fits_lst (hF 11 (by omega)) rfl
  have HMM := hide (fun (hf : fl K ≠ []) => rmay_math hF hf (hA x2 h2) h0 h1 h2 h3 h9 h10 h5 h11)
  have HFL := hide (fun (W : World) (M : MsgAt W w.heap.size K F) => show (W.cell? ⟨w.heap.size, 1, none⟩ = some (.int .i64 x0) ∧ W.cell? ⟨w.heap.size, 2, none⟩ = some (.int .i64 x1) ∧ W.cell? ⟨w.heap.size, 3, none⟩ = some (.int .i64 x2) ∧ W.cell? ⟨w.heap.size, 4, none⟩ = some (.int .i64 x3)
      ∧ W.cell? ⟨w.heap.size, 134, none⟩ = some (.int .i64 x9) ∧ W.cell? ⟨w.heap.size, 135, none⟩ = some (.int .i64 x10) ∧ W.cell? ⟨w.heap.size, 37, none⟩ = some (.slice a5 l5.length c5) ∧ W.cell? ⟨w.heap.size, 136, none⟩ = some (.slice a11 l11.length c11)) from
    ⟨M.num (i := 0) (by omega) h0, M.num (i := 1) (by omega) h1, M.num (i := 2) (by omega) h2, M.num (i := 3) (by omega) h3, M.num (i := 9) (by omega) h9, M.num (i := 10) (by omega) h10, M.lst (i := 5) (by omega) h5, M.lst (i := 11) (by omega) h11⟩)
  clear h0 h1 h2 h3 h9 h10 h5 h11 hA
  obtain ⟨C1, hC1⟩ : ∃ C1, (mc K F).toArray = C1 := ⟨_, rfl⟩
  have HC1 := hide hC1
  rw [hC1] at hW ⊢
  clear hC1
  go_enter Try.func13, Try.ntmps13
  iterate 14 go_step
  obtain ⟨wd, hwd⟩ : ∃ wd, W.drew = wd := ⟨_, rfl⟩
  have D1 : MsgAt wd w.heap.size K F := by rw [← hwd]; exact HM1.out.drew
  have DB : Below w.heap.size w wd := by rw [← hwd]; exact below_drew HB.out
  refine wp_region_held (S := fun W => Below wd.heap.size wd W) (by kernel_rfl) ?_
  show wpAnyH _ _ _ _ _ _ _ _ W.drew
  rw [hwd]
  have S0 : Below wd.heap.size wd wd := Below.refl _ _
  refine ah_take (i := 0) (some 3) rfl rfl (by kernel_rfl) (by kernel_rfl) (by kernel_rfl) rfl (fun W _ => ex_fld rfl rfl (fa0 _ W)) S0 (fun _ _ _ h => h) ?_
  simp only [Act.put, List.setIfInBounds_toArray, List.set_cons_zero, List.set_cons_succ]
  refine ah_take (i := 1) (some 4) rfl rfl (by kernel_rfl) (by kernel_rfl) (by kernel_rfl) rfl (fun W h => ex_load rfl rfl (ld3 (D1.below h).kind)) S0 (fun _ _ _ h => h) ?_
  simp only [Act.put, List.setIfInBounds_toArray, List.set_cons_zero, List.set_cons_succ]
  refine ah_call (i := 2) (some 5) rfl rfl (by kernel_rfl) rfl (rfields_ex K wd) (ex_call (f := 23) (vs := [.int .i64 K]) rfl (cfRFields _) rfl) ?_
  rintro e w2 ⟨g, a, c, rfl, hv, HF2, hg, HB2⟩
  refine ⟨_, rfl, HB2.out, ?_⟩
  simp only [Act.put, List.setIfInBounds_toArray, List.set_cons_zero, List.set_cons_succ]
  have S2 := HB2.out
  have HW2 := hide (DB.trans (HB2.out.mono DB.size))
  clear hv HF2 hg
  refine ah_take (i := 3) (some 6) rfl rfl (by kernel_rfl) (by kernel_rfl) (by kernel_rfl) rfl (fun W _ => ex_len44 rfl rfl) S2 (fun _ _ _ h => h) ?_
  simp only [Act.put, List.setIfInBounds_toArray, List.set_cons_zero, List.set_cons_succ]
  refine ah_take (i := 4) (some 7) rfl rfl (by kernel_rfl) (by kernel_rfl) (by kernel_rfl) rfl (fun W _ => ex_bin rfl rfl rfl (eg3' _ _ _ _ _ _) (eq3 _ _ _)) S2 (fun _ _ _ h => h) ?_
  simp only [Act.put, List.setIfInBounds_toArray, List.set_cons_zero, List.set_cons_succ]
  by_cases hne : fl K = []
  · have hm : mayB K F = false := by unfold mayB; simp [hne]
    refine ah_take (i := 5) (some 8) rfl rfl (by kernel_rfl) (by kernel_rfl) (by kernel_rfl) rfl (fun W _ => ex_mv (v := .bool true) rfl (by rw [hne]; rfl)) S2 (fun _ _ _ h => h) ?_
    simp only [Act.put, List.setIfInBounds_toArray, List.set_cons_zero, List.set_cons_succ]
    refine ah_skip (i := 6) (some 9) rfl rfl (by kernel_rfl) (by kernel_rfl) (by kernel_rfl) rfl S2 (fun _ _ _ h => h) ?_
    simp only [Act.put, List.setIfInBounds_toArray, List.set_cons_zero, List.set_cons_succ]
    refine ah_skip (i := 7) (some 10) rfl rfl (by kernel_rfl) (by kernel_rfl) (by kernel_rfl) rfl S2 (fun _ _ _ h => h) ?_
    simp only [Act.put, List.setIfInBounds_toArray, List.set_cons_zero, List.set_cons_succ]
    refine ah_skip (i := 8) (some 11) rfl rfl (by kernel_rfl) (by kernel_rfl) (by kernel_rfl) rfl S2 (fun _ _ _ h => h) ?_
    simp only [Act.put, List.setIfInBounds_toArray, List.set_cons_zero, List.set_cons_succ]
    refine ah_skip (i := 9) (some 12) rfl rfl (by kernel_rfl) (by kernel_rfl) (by kernel_rfl) rfl S2 (fun _ _ _ h => h) ?_
    simp only [Act.put, List.setIfInBounds_toArray, List.set_cons_zero, List.set_cons_succ]
    refine ah_skip (i := 10) (some 13) rfl rfl (by kernel_rfl) (by kernel_rfl) (by kernel_rfl) rfl S2 (fun _ _ _ h => h) ?_
    simp only [Act.put, List.setIfInBounds_toArray, List.set_cons_zero, List.set_cons_succ]
    refine ah_take (i := 11) (some 14) rfl rfl (by kernel_rfl) (by kernel_rfl) (by kernel_rfl) rfl (fun W _ => ex_pkT (v := .bool true) rfl rfl rfl) S2 (fun _ _ _ h => h) ?_
    simp only [Act.put, List.setIfInBounds_toArray, List.set_cons_zero, List.set_cons_succ]
    refine ah_done (by kernel_rfl) ?_
    go_wp2
    go_ret
    refine ⟨?_, HW2⟩
    rw [hm]
    rfl
  · have hl0 : (((fl K).length : Int) == 0) = false := by
      cases e : fl K with
      | nil => exact absurd e hne
      | cons x t => simp; omega
    have lA : ∀ W, Below wd.heap.size wd W → (Instr.loadAt 25 (.pointer (some ⟨w.heap.size, 0, none⟩))).run Try.prog W = .ok (.agg C1) W := fun W h => by rw [← HC1.out]; exact run_loadAt_mid W _ 0 25 _ _ (D1.below h).range Try.underlying25 rfl (infoLen K hF)
    have HCB := rbare_any K F hF w2
    rw [HC1.out] at HCB
    obtain ⟨C2, hC2⟩ : ∃ C2, (mc K (bareF K F)).toArray = C2 := ⟨_, rfl⟩
    have HCS := hide (fun w3 (h : Below w.heap.size w w3) => same_any K K F (bareF K F) hF (bareK_fits hF) w3 (hG.below h) (hG.below h).bare)
    rw [HC1.out, hC2] at HCS
    rw [hC2] at HCB
    refine ah_take (i := 5) (some 8) rfl rfl (by kernel_rfl) (by kernel_rfl) (by kernel_rfl) rfl (fun W _ => ex_mv (v := .bool false) rfl (by rw [← hl0]; rfl)) S2 (fun _ _ _ h => h) ?_
    simp only [Act.put, List.setIfInBounds_toArray, List.set_cons_zero, List.set_cons_succ]
    refine ah_take (i := 6) (some 9) rfl rfl (by kernel_rfl) (by kernel_rfl) (by kernel_rfl) rfl (fun W h => ex_load rfl rfl (lA W h)) S2 (fun _ _ _ h => h) ?_
    simp only [Act.put, List.setIfInBounds_toArray, List.set_cons_zero, List.set_cons_succ]
    refine ah_take (i := 7) (some 10) rfl rfl (by kernel_rfl) (by kernel_rfl) (by kernel_rfl) rfl (fun W h => ex_load rfl rfl (lA W h)) S2 (fun _ _ _ h => h) ?_
    simp only [Act.put, List.setIfInBounds_toArray, List.set_cons_zero, List.set_cons_succ]
    refine ah_call (i := 8) (some 11) rfl rfl (by kernel_rfl) rfl HCB (ex_call (f := 16) (vs := [.agg C1]) rfl (cfRBare _) rfl) ?_
    rintro e w3 ⟨rfl, HB3⟩
    have S3 := S2.trans (HB3.out.mono S2.size)
    have HW3 := HW2.out.trans (HB3.out.mono HW2.out.size)
    refine ⟨_, rfl, S3, ?_⟩
    simp only [Act.put, List.setIfInBounds_toArray, List.set_cons_zero, List.set_cons_succ]
    refine ah_call (i := 9) (some 12) rfl rfl (by kernel_rfl) rfl (HCS.out w3 HW3) (ex_call (f := 14) (vs := [.agg C1, .agg C2]) rfl (cfSame _) rfl) ?_
    rintro e w4 ⟨rfl, HB4⟩
    have S4 := S3.trans (HB4.out.mono S3.size)
    have HW4 := hide (HW3.trans (HB4.out.mono HW3.size))
    refine ⟨_, rfl, S4, ?_⟩
    simp only [Act.put, List.setIfInBounds_toArray, List.set_cons_zero, List.set_cons_succ]
    refine ah_take (i := 10) (some 13) rfl rfl (by kernel_rfl) (by kernel_rfl) (by kernel_rfl) rfl (fun W _ => ex_not rfl rfl) S4 (fun _ _ _ h => h) ?_
    simp only [Act.put, List.setIfInBounds_toArray, List.set_cons_zero, List.set_cons_succ]
    refine ah_take (i := 11) (some 14) rfl rfl (by kernel_rfl) (by kernel_rfl) (by kernel_rfl) rfl (fun W _ => ex_pkF (v := .bool (!sameB K K F (bareF K F))) rfl rfl rfl) S4 (fun _ _ _ h => h) ?_
    simp only [Act.put, List.setIfInBounds_toArray, List.set_cons_zero, List.set_cons_succ]
    refine ah_done (by kernel_rfl) ?_
    have D4 := D1.below S4
    clear HCS HCB lA HB3 HB4 S0 S2 S3 S4 D1 DB HB2 hwd hW HB HG HM1 HW2 HW3 hl0
    cases hs : sameB K K F (bareF K F) with
    | false =>
      go_wp2
      go_ret
      refine ⟨?_, HW4⟩
      have hm : mayB K F = false := by rw [HMM.out hne, hs]; rfl
      rw [hm]
      rfl
    | true =>
      have hm := HMM.out hne
      rw [hs, Bool.true_and] at hm
      have HM := hide hm
      obtain ⟨q0, q1, q2, q3, q9, q10, q5, q11⟩ := HFL.out w4 D4
      have qk := D4.kind
      clear hm hs HFL HMM
      iterate 8 go_step
      refine wp_region_lit ?_
      refine st_any (wanted_none rfl) (ex_fld rfl rfl (fa1 _ _)) ?_
      refine st_any (wanted_none rfl) (ex_load rfl rfl (ld3 q0)) ?_
      refine st_any (wanted_none rfl) (ex_bin rfl rfl rfl (eg3' _ _ _ _ _ _) (lss3 _ _ _)) ?_
      refine st_any (wanted_none rfl) (ex_move rfl) ?_
      refine kr_start (n := 83) (m := 18) (b := w.heap.size) (r := decide (x0 < 1)) ⟨rfl, rfl, rfl, rfl⟩ ?_
      intro a0 k0
      refine blockOr (s := 19) (gi := 3) (bop := .gtr) (k := 65535) k0 rfl (by omega) (by omega) (by omega) ⟨rfl, rfl, rfl⟩ ⟨rfl, rfl, rfl⟩ ⟨rfl, rfl, rfl⟩ ⟨rfl, rfl, rfl⟩ ⟨rfl, rfl, rfl⟩ (fa1 _ _) (ld3 q0) (gtr3 _ _ _) ?_
      intro a1 k1
      refine blockOr (s := 24) (gi := 8) (bop := .lss) (k := 0) k1 rfl (by omega) (by omega) (by omega) ⟨rfl, rfl, rfl⟩ ⟨rfl, rfl, rfl⟩ ⟨rfl, rfl, rfl⟩ ⟨rfl, rfl, rfl⟩ ⟨rfl, rfl, rfl⟩ (fa2 _ _) (ld3 q1) (lss3 _ _ _) ?_
      intro a2 k2
      refine blockOr (s := 29) (gi := 13) (bop := .gtr) (k := 2147483647) k2 rfl (by omega) (by omega) (by omega) ⟨rfl, rfl, rfl⟩ ⟨rfl, rfl, rfl⟩ ⟨rfl, rfl, rfl⟩ ⟨rfl, rfl, rfl⟩ ⟨rfl, rfl, rfl⟩ (fa2 _ _) (ld3 q1) (gtr3 _ _ _) ?_
      intro a3 k3
      refine blockOr (s := 34) (gi := 18) (bop := .lss) (k := 0) k3 rfl (by omega) (by omega) (by omega) ⟨rfl, rfl, rfl⟩ ⟨rfl, rfl, rfl⟩ ⟨rfl, rfl, rfl⟩ ⟨rfl, rfl, rfl⟩ ⟨rfl, rfl, rfl⟩ (fa3 _ _) (ld3 q2) (lss3 _ _ _) ?_
      intro a4 k4
      refine blockOr (s := 39) (gi := 23) (bop := .lss) (k := 0) k4 rfl (by omega) (by omega) (by omega) ⟨rfl, rfl, rfl⟩ ⟨rfl, rfl, rfl⟩ ⟨rfl, rfl, rfl⟩ ⟨rfl, rfl, rfl⟩ ⟨rfl, rfl, rfl⟩ (fa4 _ _) (ld3 q3) (lss3 _ _ _) ?_
      intro a5 k5
      refine blockOr (s := 44) (gi := 28) (bop := .gtr) (k := 2147483647) k5 rfl (by omega) (by omega) (by omega) ⟨rfl, rfl, rfl⟩ ⟨rfl, rfl, rfl⟩ ⟨rfl, rfl, rfl⟩ ⟨rfl, rfl, rfl⟩ ⟨rfl, rfl, rfl⟩ (fa4 _ _) (ld3 q3) (gtr3 _ _ _) ?_
      intro a6 k6
      refine blockOr (s := 49) (gi := 33) (bop := .lss) (k := 0) k6 rfl (by omega) (by omega) (by omega) ⟨rfl, rfl, rfl⟩ ⟨rfl, rfl, rfl⟩ ⟨rfl, rfl, rfl⟩ ⟨rfl, rfl, rfl⟩ ⟨rfl, rfl, rfl⟩ (fa10 _ _) (ld3 q9) (lss3 _ _ _) ?_
      intro a7 k7
      refine blockOr (s := 54) (gi := 38) (bop := .gtr) (k := 2147483647) k7 rfl (by omega) (by omega) (by omega) ⟨rfl, rfl, rfl⟩ ⟨rfl, rfl, rfl⟩ ⟨rfl, rfl, rfl⟩ ⟨rfl, rfl, rfl⟩ ⟨rfl, rfl, rfl⟩ (fa10 _ _) (ld3 q9) (gtr3 _ _ _) ?_
      intro a8 k8
      refine blockOr (s := 59) (gi := 43) (bop := .lss) (k := 0) k8 rfl (by omega) (by omega) (by omega) ⟨rfl, rfl, rfl⟩ ⟨rfl, rfl, rfl⟩ ⟨rfl, rfl, rfl⟩ ⟨rfl, rfl, rfl⟩ ⟨rfl, rfl, rfl⟩ (fa11 _ _) (ld3 q10) (lss3 _ _ _) ?_
      intro a9 k9
      refine blockOr (s := 64) (gi := 48) (bop := .gtr) (k := 2147483647) k9 rfl (by omega) (by omega) (by omega) ⟨rfl, rfl, rfl⟩ ⟨rfl, rfl, rfl⟩ ⟨rfl, rfl, rfl⟩ ⟨rfl, rfl, rfl⟩ ⟨rfl, rfl, rfl⟩ (fa11 _ _) (ld3 q10) (gtr3 _ _ _) ?_
      intro a10 k10
      refine blockLen (s := 69) (gi := 53) (bop := .gtr) (k := 256) k10 rfl (by omega) (by omega) (by omega) ⟨rfl, rfl, rfl⟩ ⟨rfl, rfl, rfl⟩ ⟨rfl, rfl, rfl⟩ ⟨rfl, rfl, rfl⟩ ⟨rfl, rfl, rfl⟩ (fa12 _ _) (ld23 q11) (gtr3 _ _ _) ?_
      intro aa kk
      have kf : Kr aa 83 73 w.heap.size (badB x0 x1 x2 x3 x9 x10 l11.length) := kk
      clear kk k0 k1 k2 k3 k4 k5 k6 k7 k8 k9 k10
      cases hb : badB x0 x1 x2 x3 x9 x10 l11.length with
      | true =>
        rw [hb] at kf HM
        repeat go_step
        refine wp_cond_true (eval_tmp kf.last) ?_
        iterate 1 go_step
        refine wp_region_lit ?_
        refine st_any (wanted_none rfl) (ex_asg (v := .bool false) rfl rfl) ?_
        have HA := hide (show (aa.put (some 2) (.bool false)).tmps[2]? = some (.bool (mayB K F)) by rw [HM.out]; exact put_same (by rw [kf.size]; omega))
        have HDF := hide (show (aa.put (some 2) (.bool false)).defers = [] from kf.defers)
        repeat go_step
        refine bodyPost_ret (v := .bool (mayB K F)) ?_ HDF.out ⟨rfl, HW4⟩
        rw [results_tmp Try.results13]
        exact congrArg (fun v => Result.ok v w4) (eval_tmp HA.out)
      | false =>
        rw [hb] at kf HM
        repeat go_step
        refine wp_cond_false (eval_tmp kf.last) ?_
        iterate 4 go_step
        refine wp_region_lit ?_
        refine blockFirst (s := 74) (bop := .neq) (k := 1) kf (by omega) (by omega) (by omega) ⟨rfl, rfl, rfl⟩ ⟨rfl, rfl, rfl⟩ ⟨rfl, rfl, rfl⟩ ⟨rfl, rfl, rfl⟩ (fa0 _ _) (ld3 qk) (neq3 _ _ _) ?_
        intro ab kb
        refine blockLen (s := 78) (gi := 3) (bop := .eql) (k := 2112) kb rfl (by omega) (by omega) (by omega) ⟨rfl, rfl, rfl⟩ ⟨rfl, rfl, rfl⟩ ⟨rfl, rfl, rfl⟩ ⟨rfl, rfl, rfl⟩ ⟨rfl, rfl, rfl⟩ (fa6 _ _) (ld23 q5) (eq3 _ _ _) ?_
        intro ac kc
        have hv : ((K != 1) || ((l5.length : Int) == 2112)) = mayB K F := by rw [HM.out]; rfl
        rw [hv] at kc
        refine st_any (wanted_none rfl) (ex_asg (v := .bool (mayB K F)) rfl (eval_tmp kc.last)) ?_
        have HA := hide (show (ac.put (some 2) (.bool (mayB K F))).tmps[2]? = some (.bool (mayB K F)) from put_same (by rw [kc.size]; omega))
        have HDF := hide (show (ac.put (some 2) (.bool (mayB K F))).defers = [] from kc.defers)
        repeat go_step
        refine bodyPost_ret (v := .bool (mayB K F)) ?_ HDF.out ⟨rfl, HW4⟩
        rw [results_tmp Try.results13]
        exact congrArg (fun v => Result.ok v w4) (eval_tmp HA.out)
end Go.Proofs.Ytcbadmkgbaffpaa
