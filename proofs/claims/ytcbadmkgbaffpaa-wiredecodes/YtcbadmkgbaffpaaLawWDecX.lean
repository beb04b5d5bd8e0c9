/- Proved: for every slice of bytes the statement WireDecodes (P6.2: what any bytes are as a message) returns true over the code at the commit, and changes none of its arguments. No condition. -/
import Derived.Test.YtcbadmkgbaffpaaRAll
import Derived.Test.YtcbadmkgbaffpaaRAllB
namespace Go.Proofs.Ytcbadmkgbaffpaa.wireDecodes
open Go.ChangeShapes Go.WideShapes Go.ChangeAt Go.RowKit
set_option linter.unusedVariables false
set_option linter.unusedSimpArgs false

theorem says_two {zs : List Int} {K K' : Int} {G G' : Nat → Fld} {E E' : Int} (h : Says zs K G E) (h' : Says zs K' G' E') : K = K' ∧ E = E' ∧ ∀ i, i < 12 → (G i).plain = (G' i).plain := by
  rcases h with ⟨rfl, rfl, rfl, hn⟩ | ⟨rfl, hg, rfl, hp⟩
  · rcases h' with ⟨rfl, rfl, rfl, _⟩ | ⟨_, hg', _⟩
    · exact ⟨rfl, rfl, fun _ _ => rfl⟩
    · exact absurd hg' hn
  · rcases h' with ⟨_, _, _, hn⟩ | ⟨rfl, _, rfl, hp'⟩
    · exact absurd hg hn
    · exact ⟨rfl, rfl, fun i hi => (hp i hi).trans (hp' i hi).symm⟩
theorem eqs9 (x : ByteArray) (W : World) : (binOp .eql 9 (.string x) (.string x)).run Try.prog W = .ok (.bool true) W := by rw [eq9]; simp
theorem egs9 (bop : BinOp) (x y : Operand) (u v : ByteArray) (W : World) : (eqGuard bop 9 x y (.string u) (.string v)).run Try.prog W = .ok () W := by cases bop <;> rfl

set_option maxHeartbeats 8000000 in
theorem walk_any (ao : Option Addr) (cap : Nat) (L : List Int) (w : World) (hI : IsB w ao cap L) (hlc : L.length ≤ cap) (hcap : cap ≤ 140737488351232) (hz : Bytes L) :
    Calls Try.prog 4 #[.slice ao L.length cap] w fun e w' => e = .returned (.bool true) ∧ Below w.heap.size w w' := by
  have HAL := hide (fun (a : Act) (W : World) (o : Oper) (ho : o.op = .alloc 25) => ex_alloc25 (a := a) (W := W) ho)
  have HSM := hide (fun (K : Int) (G G' : Nat → Fld) (fG : Fits G) (fG' : Fits G') (hp : ∀ i, i < 12 → (G i).plain = (G' i).plain) (W : World) (h1 : Good W G) (h2 : Good W G') => (same_any K K G G' fG fG' W h1 h2).mono (fun e w' hh => show e = .returned (.bool true) ∧ Hid (Below W.heap.size W w') from ⟨by rw [hh.1, sameB_of hp], hh.2⟩))
  obtain ⟨Z, hZ⟩ : ∃ Z, (mc 0 ZF).toArray = Z := ⟨_, rfl⟩
  have HZ := hide hZ
  rw [hZ] at HAL
  obtain ⟨n, hn⟩ : ∃ n, L.length = n := ⟨_, rfl⟩
  have HN := hide hn
  rw [hn] at hlc ⊢
  clear hn hZ
  go_enter Try.func4, Try.ntmps4
  refine wp_seq (wp_region_lit ?_)
  refine st_to (some 2) rfl rfl (ex_asg (v := .bool false) rfl rfl) ?_
  simp only [Act.put, List.setIfInBounds_toArray, List.set_cons_zero, List.set_cons_succ]
  refine st_end ?_
  refine wp_seq (wp_region_lit ?_)
  refine st_to (some 8) rfl rfl (ex_bytes0 rfl) ?_
  simp only [Act.put, List.setIfInBounds_toArray, List.set_cons_zero, List.set_cons_succ]
  refine st_to (some 9) rfl rfl (ex_mv (v := .slice ao n cap) rfl rfl) ?_
  simp only [Act.put, List.setIfInBounds_toArray, List.set_cons_zero, List.set_cons_succ]
  refine wpList_append_ownw rfl (.tmp 8) (.tmp 9) rfl w.heap.size _ 0 [] rfl (own_empty w) ao n cap L rfl HN.out (hI.below (below_alloc w _)) (by omega) (by simp) ?_
  intro v1 w1 ho hg
  rw [List.nil_append, Nat.zero_add] at ho
  have B1 : Below w.heap.size w w1 := ((Below.refl w.heap.size w).alloc (Nat.le_refl _) (.cells #[] 5)).grown hg (by simp) (fun k hk => by cases hk; exact Nat.le_refl _)
  obtain ⟨oa, oc, hv1, hO1, hc1, hc2⟩ := own_isB (zs := L) (by rw [HN.out]; exact ho)
  rw [HN.out] at hv1 hc1
  subst hv1
  simp only [Act.put, List.setIfInBounds_toArray, List.set_cons_zero, List.set_cons_succ]
  refine st_to (some 3) rfl rfl (ex_asg (v := .slice oa n oc) rfl rfl) ?_
  simp only [Act.put, List.setIfInBounds_toArray, List.set_cons_zero, List.set_cons_succ]
  refine st_end ?_
  refine wp_seq (wp_region_lit ?_)
  have HDa := wdecode_any oa oc L w1 hO1 (by rw [HN.out]; exact hc1) hc2 hz
  rw [HN.out] at HDa
  refine st_to (some 12) rfl rfl (ex_mv (v := .slice oa n oc) rfl rfl) ?_
  simp only [Act.put, List.setIfInBounds_toArray, List.set_cons_zero, List.set_cons_succ]
  refine st_call (some 13) rfl rfl HDa (ex_call (f := 17) (vs := [.slice oa n oc]) rfl (cfDecode _) rfl) ?_
  rintro e d1 ⟨K1, G1, E1, rfl, f1, hg1, hs1, HD1⟩
  refine ⟨_, rfl, ?_⟩
  simp only [Act.put, List.setIfInBounds_toArray, List.set_cons_zero, List.set_cons_succ]
  have C1 := B1.trans (HD1.out.mono B1.size)
  obtain ⟨T1, M1, L1⟩ := lives_msg (w := d1) (K := K1) rfl f1
  have S1 := hide (infoSize K1 f1)
  have O1 := hide (oneMsg K1 G1)
  obtain ⟨R1, hR1⟩ : ∃ R, (mc K1 G1).toArray = R := ⟨_, rfl⟩
  have HR1 := hide hR1
  rw [HZ.out] at T1 M1 L1
  rw [hR1] at T1 M1 L1 S1 O1 ⊢
  obtain ⟨e1, he1⟩ : ∃ e, (d1.alloc (.cells Z 25)).setCells d1.heap.size 0 R1.toList = e := ⟨_, rfl⟩
  rw [he1] at M1 L1
  clear hR1
  have P1 := C1.trans (L1.mono C1.size)
  refine st_to (some 11) rfl rfl (ex_mv (v := .tuple #[.agg R1, .int .i64 E1]) rfl rfl) ?_
  simp only [Act.put, List.setIfInBounds_toArray, List.set_cons_zero, List.set_cons_succ]
  refine st_to (some 14) rfl rfl (ex_ext (vs := #[.agg R1, .int .i64 E1]) (v := .agg R1) rfl rfl rfl) ?_
  simp only [Act.put, List.setIfInBounds_toArray, List.set_cons_zero, List.set_cons_succ]
  refine st_to (some 15) rfl rfl (ex_ext (vs := #[.agg R1, .int .i64 E1]) (v := .int .i64 E1) rfl rfl rfl) ?_
  simp only [Act.put, List.setIfInBounds_toArray, List.set_cons_zero, List.set_cons_succ]
  refine st_to (some 4) rfl rfl (HAL.out _ _ _ rfl) ?_
  simp only [Act.put, List.setIfInBounds_toArray, List.set_cons_zero, List.set_cons_succ]
  refine st_store (ty := 25) (x := .tmp 4) (y := .tmp 14) (b := d1.heap.size) (p := 0) (cells := R1) rfl rfl rfl rfl rfl T1 S1.out O1.out ?_
  rw [he1]
  refine st_to (some 5) rfl rfl (ex_asg (v := .int .i64 E1) rfl rfl) ?_
  simp only [Act.put, List.setIfInBounds_toArray, List.set_cons_zero, List.set_cons_succ]
  refine st_end ?_
  refine wp_seq (wp_region_lit ?_)
  have HDb := rdecode6_any ao cap L e1 (hI.below P1) (by rw [HN.out]; exact hlc) (by omega) hz
  rw [HN.out] at HDb
  refine st_to (some 17) rfl rfl (ex_mv (v := .slice ao n cap) rfl rfl) ?_
  simp only [Act.put, List.setIfInBounds_toArray, List.set_cons_zero, List.set_cons_succ]
  refine st_call (some 18) rfl rfl HDb (ex_call (f := 18) (vs := [.slice ao n cap]) rfl (cfRDecode _) rfl) ?_
  rintro e d2 ⟨K2, G2, E2, rfl, f2, hg2, hs2, HD2⟩
  refine ⟨_, rfl, ?_⟩
  simp only [Act.put, List.setIfInBounds_toArray, List.set_cons_zero, List.set_cons_succ]
  have C2 := P1.trans (HD2.out.mono P1.size)
  obtain ⟨T2, M2, L2⟩ := lives_msg (w := d2) (K := K2) rfl f2
  have S2 := hide (infoSize K2 f2)
  have O2 := hide (oneMsg K2 G2)
  obtain ⟨R2, hR2⟩ : ∃ R, (mc K2 G2).toArray = R := ⟨_, rfl⟩
  have HR2 := hide hR2
  rw [HZ.out] at T2 M2 L2
  rw [hR2] at T2 M2 L2 S2 O2 ⊢
  obtain ⟨e2, he2⟩ : ∃ e, (d2.alloc (.cells Z 25)).setCells d2.heap.size 0 R2.toList = e := ⟨_, rfl⟩
  rw [he2] at M2 L2
  clear hR2
  have P2 := C2.trans (L2.mono C2.size)
  refine st_to (some 16) rfl rfl (ex_mv (v := .tuple #[.agg R2, .int .i64 E2]) rfl rfl) ?_
  simp only [Act.put, List.setIfInBounds_toArray, List.set_cons_zero, List.set_cons_succ]
  refine st_to (some 19) rfl rfl (ex_ext (vs := #[.agg R2, .int .i64 E2]) (v := .agg R2) rfl rfl rfl) ?_
  simp only [Act.put, List.setIfInBounds_toArray, List.set_cons_zero, List.set_cons_succ]
  refine st_to (some 20) rfl rfl (ex_ext (vs := #[.agg R2, .int .i64 E2]) (v := .int .i64 E2) rfl rfl rfl) ?_
  simp only [Act.put, List.setIfInBounds_toArray, List.set_cons_zero, List.set_cons_succ]
  refine st_to (some 6) rfl rfl (HAL.out _ _ _ rfl) ?_
  simp only [Act.put, List.setIfInBounds_toArray, List.set_cons_zero, List.set_cons_succ]
  refine st_store (ty := 25) (x := .tmp 6) (y := .tmp 19) (b := d2.heap.size) (p := 0) (cells := R2) rfl rfl rfl rfl rfl T2 S2.out O2.out ?_
  rw [he2]
  refine st_to (some 7) rfl rfl (ex_asg (v := .int .i64 E2) rfl rfl) ?_
  simp only [Act.put, List.setIfInBounds_toArray, List.set_cons_zero, List.set_cons_succ]
  refine st_end ?_
  refine wp_seq (wp_region_lit ?_)
  refine st_call (some 21) rfl rfl (lives_any _) (ex_call (f := 11) (vs := []) rfl (cfLives _) rfl) ?_
  rintro e v3 ⟨rfl, HL3⟩
  refine ⟨_, rfl, ?_⟩
  simp only [Act.put, List.setIfInBounds_toArray, List.set_cons_zero, List.set_cons_succ]
  obtain ⟨rfl, rfl, hpl⟩ := says_two hs1 hs2
  have P3 := P2.trans (HL3.out.mono P2.size)
  have X12 : Below e1.heap.size e1 e2 := HD2.out.trans (L2.mono HD2.out.size)
  have X13 := X12.trans (HL3.out.mono X12.size)
  have l1 : (Instr.loadAt 25 (.pointer (some ⟨d1.heap.size, 0, none⟩))).run Try.prog v3 = .ok (.agg R1) v3 := by rw [← HR1.out]; exact run_loadAt_mid v3 _ 0 25 _ _ (M1.below X13).range Try.underlying25 rfl (infoLen _ f1)
  have l2 : (Instr.loadAt 25 (.pointer (some ⟨d2.heap.size, 0, none⟩))).run Try.prog v3 = .ok (.agg R2) v3 := by rw [← HR2.out]; exact run_loadAt_mid v3 _ 0 25 _ _ (M2.below HL3.out).range Try.underlying25 rfl (infoLen _ f2)
  have HS := HSM.out K1 G1 G2 f1 f2 hpl v3 ((hg1.out.below L1).below X13) ((hg2.out.below L2).below HL3.out)
  rw [HR1.out, HR2.out] at HS
  refine st_to (some 22) rfl rfl (ex_mv (v := .bool true) rfl rfl) ?_
  simp only [Act.put, List.setIfInBounds_toArray, List.set_cons_zero, List.set_cons_succ]
  refine st_to (some 23) rfl rfl (ex_load rfl rfl l1) ?_
  simp only [Act.put, List.setIfInBounds_toArray, List.set_cons_zero, List.set_cons_succ]
  refine st_to (some 24) rfl rfl (ex_load rfl rfl l2) ?_
  simp only [Act.put, List.setIfInBounds_toArray, List.set_cons_zero, List.set_cons_succ]
  refine st_call (some 25) rfl rfl HS (ex_call (f := 14) (vs := [.agg R1, .agg R2]) rfl (cfSame _) rfl) ?_
  rintro e v4 ⟨rfl, HB4⟩
  refine ⟨_, rfl, ?_⟩
  simp only [Act.put, List.setIfInBounds_toArray, List.set_cons_zero, List.set_cons_succ]
  have P4 := P3.trans (HB4.out.mono P3.size)
  have X01 : Below w1.heap.size w1 e1 := HD1.out.trans (L1.mono HD1.out.size)
  have X04 := (X01.trans (X13.mono X01.size)).trans (HB4.out.mono (X01.trans (X13.mono X01.size)).size)
  have cv1 := conv_any (hO1.below X04)
  have cv2 := conv_any (hI.below P4)
  rw [HN.out] at cv1 cv2
  refine st_to (some 26) rfl rfl (ex_pkT (v := .bool true) rfl rfl rfl) ?_
  simp only [Act.put, List.setIfInBounds_toArray, List.set_cons_zero, List.set_cons_succ]
  refine st_to (some 27) rfl rfl (ex_mv (v := .bool true) rfl rfl) ?_
  simp only [Act.put, List.setIfInBounds_toArray, List.set_cons_zero, List.set_cons_succ]
  refine st_to (some 28) rfl rfl (ex_mv (v := .int .i64 E1) rfl rfl) ?_
  simp only [Act.put, List.setIfInBounds_toArray, List.set_cons_zero, List.set_cons_succ]
  refine st_to (some 29) rfl rfl (ex_mv (v := .int .i64 E1) rfl rfl) ?_
  simp only [Act.put, List.setIfInBounds_toArray, List.set_cons_zero, List.set_cons_succ]
  refine st_to (some 30) rfl rfl (ex_bin (c := .bool true) rfl rfl rfl (eg26 _ _ _ _ _ _) (by have h := eq26 E1 E1 v4; rw [beq_self_eq_true] at h; exact h)) ?_
  simp only [Act.put, List.setIfInBounds_toArray, List.set_cons_zero, List.set_cons_succ]
  refine st_to (some 31) rfl rfl (ex_pkT (v := .bool true) rfl rfl rfl) ?_
  simp only [Act.put, List.setIfInBounds_toArray, List.set_cons_zero, List.set_cons_succ]
  refine st_to (some 32) rfl rfl (ex_mv (v := .bool true) rfl rfl) ?_
  simp only [Act.put, List.setIfInBounds_toArray, List.set_cons_zero, List.set_cons_succ]
  refine st_to (some 33) rfl rfl (ex_mv (v := .slice oa n oc) rfl rfl) ?_
  simp only [Act.put, List.setIfInBounds_toArray, List.set_cons_zero, List.set_cons_succ]
  refine st_to (some 34) rfl rfl (ex_conv rfl rfl cv1) ?_
  simp only [Act.put, List.setIfInBounds_toArray, List.set_cons_zero, List.set_cons_succ]
  refine st_to (some 35) rfl rfl (ex_mv (v := .slice ao n cap) rfl rfl) ?_
  simp only [Act.put, List.setIfInBounds_toArray, List.set_cons_zero, List.set_cons_succ]
  refine st_to (some 36) rfl rfl (ex_conv rfl rfl cv2) ?_
  simp only [Act.put, List.setIfInBounds_toArray, List.set_cons_zero, List.set_cons_succ]
  refine st_to (some 37) rfl rfl (ex_bin (c := .bool true) rfl rfl rfl (egs9 _ _ _ _ _ _) (eqs9 _ _)) ?_
  simp only [Act.put, List.setIfInBounds_toArray, List.set_cons_zero, List.set_cons_succ]
  refine st_to (some 38) rfl rfl (ex_pkT (v := .bool true) rfl rfl rfl) ?_
  simp only [Act.put, List.setIfInBounds_toArray, List.set_cons_zero, List.set_cons_succ]
  refine st_to (some 2) rfl rfl (ex_asg (v := .bool true) rfl rfl) ?_
  simp only [Act.put, List.setIfInBounds_toArray, List.set_cons_zero, List.set_cons_succ]
  refine st_end ?_
  refine wp_ret ?_
  refine bodyPost_ret (v := .bool true) ?_ rfl ⟨rfl, P4⟩
  rw [results_tmp Try.results4]
  rfl

theorem walk (ao : Option Addr) (len cap : Nat) (zs : List Int) (w : World) (w0 : IsRow .u8 1 w ao len cap zs) :
    Calls Try.prog 4 #[.slice ao len cap] w fun e w' => e = .returned (.bool true) ∧ Below w.heap.size w w' := by
  obtain ⟨L, rfl, hB, h1, h2, h3⟩ := row_isB w0
  refine walk_any ao cap L w hB h1 h2 (fun c hc => ?_)
  obtain ⟨k, hk, rfl⟩ := List.getElem_of_mem hc
  have := h3 k hk
  rw [List.getD_eq_getElem?_getD, List.getElem?_eq_getElem hk] at this
  exact this

theorem own : ownKnob Try.prog.godebug = none := by kernel_rfl
theorem laidOut : laidOutB Try.prog = true := by kernel_rfl
theorem bytesEbytes : Try.prog.bytesOf 5 = 1 := by kernel_rfl

set_option maxRecDepth 100000 in
theorem lifted (os : Os) (started : os.Started) (H : Type) (enc : TypeId × Value → H) :
    ReturnsInHanded {} Try.checked os 4 .any (Rows.wireDecodesSpec.pre6 enc Try.prog Try.f4 Rows.wireDecodesRow.domain false) (Rows.wireDecodesSpec.post enc Try.prog Try.f4 false true false false) := by
  refine returnsInHanded_of_change_sized (C := Try.checked) own started (by kernel_rfl) Try.func4
    (ChangeSpec.witness6 (enc := enc) (C := Try.checked) false ⟨#[], #[.slice none 0 0], []⟩ 8 (by kernel_rfl) (by kernel_rfl) (by kernel_rfl) (by kernel_rfl)) ?_
  intro W base args ds gs before hval0 hW hcnd hsz0 _
  have hsz : (DataW.weightsEach Try.prog (Try.f4.params.toList ++ Rows.wireDecodesSpec.plain.varTypes Try.prog) (ds ++ gs)).all (· ≤ reachBytes) = true := hsz0
  have hval : ∀ (j : Nat) t v, Try.f4.params[j]? = some t → args[j]? = some v → Value.okWide Try.prog W .any base t v := hval0
  have hW' := hW
  obtain ⟨p, q, hA0, hV, rfl, hfz, hnd⟩ := hW
  have hA : DataW.TrodAll enc Try.prog W 0 (fun _ => true) true Try.f4.params.toList args.toList ds p := hA0
  rw [Try.params4] at hA hval hsz
  obtain ⟨v0, vs0, d0, ds0, p0, q0, hargs, rfl, rfl, h0, r0⟩ := trodAll_cons hA
  obtain ⟨rfl, rfl, rfl⟩ := trodAll_nil r0
  obtain rfl : args = #[v0] := by cases args; simp_all
  obtain ⟨rfl, rfl⟩ := trodVars_none hV
  have k0 := h0
  have lt0 : ∀ x ∈ p0, x.block < W.heap.size := by obtain ⟨m, hm⟩ := k0; exact DataW.trod_lt m _ _ _ hm
  obtain ⟨a0, len0, cap0, rfl⟩ := okWide_slice Try.underlying23 (hval 0 23 v0 rfl rfl)
  obtain ⟨z0, w0⟩ : ∃ zs, IsRow .u8 1 W a0 len0 cap0 zs := by
    obtain ⟨fuel, hf⟩ := h0
    rcases open_ints Try.underlying23 Try.underlying5 (by kernel_rfl) hf with ⟨hcs, _⟩ | ⟨x, l, c, zs, hcs, _, hl, hm, hz, hx, hcell, hwz⟩
    · simp [Value.cells] at hcs
      obtain ⟨rfl, rfl, rfl⟩ := hcs
      exact ⟨[], .inl ⟨rfl, rfl, rfl, rfl⟩⟩
    · simp [Value.cells] at hcs
      obtain ⟨rfl, rfl, rfl⟩ := hcs
      simp only [Prod.mk.injEq] at hx
      have hxd := hx.1
      subst hxd
      have hrch := sized_slice hsz (j := 0) (t := 23) (e := 5) rfl rfl Try.underlying23
      rw [bytesEbytes] at hrch
      simp only [lits, List.length_map, List.length_take, List.length_drop, reachBytes] at hrch
      exact ⟨zs, .inr ⟨_, rfl, hl, hm, by simpa using hz, by simp at hz; omega, hcell, hwz⟩⟩
  clear hA0 hval0 hsz0 hsz
  refine (walk a0 len0 cap0 z0 W w0).mono fun e W' ⟨he, bel⟩ => ?_
  subst he
  exact ⟨_, rfl, _, _, _, [], _, [], hW', trodAll_mk1 (shut_bool Try.underlying4 _), (trodAll_cons_mk (Below.trod laidOut (by kernel_rfl) (of_decide_eq_true (by kernel_rfl)) k0 bel lt0) trodAll_mk0), rfl, bel.frame _, fun h => by cases h⟩

theorem over : Rows.wireDecodesRow.holds Try.pinned (OpenSpec.ofChange Rows.wireDecodesSpec) :=
  OpenClaim.holds_of_wide 4 Try.f4 rfl rfl rfl rfl rfl rfl rfl ⟨rfl, rfl, rfl, rfl, rfl⟩ rfl rfl rfl rfl rfl (by kernel_rfl) Try.func4 (by kernel_rfl)
    (of_decide_eq_true (by kernel_rfl)) (by unfold Func.isWrapper; first | (rw [if_pos (by decide +kernel)]; kernel_rfl) | (rw [if_neg (by decide +kernel)]; exact ⟨rfl, rfl⟩))
    (fun os started H enc _ => lifted os started H enc)

theorem proved : Rows.WireDecodesSaid := over
end Go.Proofs.Ytcbadmkgbaffpaa.wireDecodes
namespace Go.Proofs.Ytcbadmkgbaffpaa
theorem wireDecodes_holds : Rows.WireDecodesSaid := wireDecodes.proved
end Go.Proofs.Ytcbadmkgbaffpaa
