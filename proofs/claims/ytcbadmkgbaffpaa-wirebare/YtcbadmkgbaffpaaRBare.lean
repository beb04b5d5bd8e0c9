/- The contract of the document's Bare over this seat's translation. -/
import Derived.Test.YtcbadmkgbaffpaaRCop
import Derived.Test.YtcbadmkgbaffpaaRAny
import Derived.Test.YtcbadmkgbaffpaaRSame
namespace Go.Proofs.Ytcbadmkgbaffpaa
open Go.RowKit
set_option linter.unusedVariables false

theorem built_kind (K : Int) (w : World) : (Instr.build 25 #[(0, .int .i64 K)]).run Try.prog w = .ok (.agg (mc K ZF).toArray) w := run_build w 25 _ _ (by kernel_rfl)
/-- the first k fields of a kind, and zeros -/
def bareK (K : Int) (F : Nat → Fld) (k : Nat) : Nat → Fld := fun i => if i ∈ (fl K).take k then F i else ZF i
def bareF (K : Int) (F : Nat → Fld) : Nat → Fld := bareK K F (fl K).length
theorem bareK_fits {K : Int} {F : Nat → Fld} {k : Nat} (hF : Fits F) : Fits (bareK K F k) := fun i hi => by
  unfold bareK
  split
  · exact hF i hi
  · exact ZF_fits i
theorem bareK_step {K : Int} {F : Nat → Fld} {k i : Nat} (h : (fl K)[k]? = some i) : upd (bareK K F k) i (F i) = bareK K F (k + 1) := by
  funext j
  have ht : (fl K).take (k + 1) = (fl K).take k ++ [i] := by rw [List.take_add_one, h]; rfl
  unfold upd bareK
  rw [ht]
  by_cases hj : j = i
  · subst hj; simp
  · simp [hj]
theorem bareK_zero (K : Int) (F : Nat → Fld) : bareK K F 0 = ZF := by funext j; simp [bareK]
theorem MsgAt.drew {w : World} {b : Nat} {K : Int} {F : Nat → Fld} (h : MsgAt w b K F) : MsgAt w.drew b K F := h.kept rfl
theorem below_drew {B : Nat} {w w' : World} (h : Below B w w') : Below B w w'.drew := ⟨h.os, h.tape, h.output, h.size, h.block⟩
theorem FlAt.drew {w : World} {g : Nat} {l : List Nat} (h : FlAt w g l) : FlAt w.drew g l := h.kept (Nat.le_refl _) (fun _ => rfl)

theorem ex_build1 {op : Oper} {a : Act} {W : World} {t i : Nat} {x : Operand} (ho : op.op = .build t #[(i, x)]) {v u : Value} (hx : a.eval x = v) (hb : (Instr.build t #[(i, v)]).run Try.prog W = .ok u W) : (execOp a.eval op).run Try.prog W = .ok (.value u) W := by
  unfold execOp
  simp [ho, hx, hb]
theorem ld36 {W : World} {b o : Nat} {n : Int} (h : W.cell? ⟨b, o, none⟩ = some (.int .u64 n)) : (Instr.loadAt 36 (.pointer (some ⟨b, o, none⟩))).run Try.prog W = .ok (.int .u64 n) W := by go_simp
theorem ex_index44 {op : Oper} {a : Act} {W : World} {x y : Operand} (ho : op.op = .indexAddr 44 x y) {g n c k : Nat} (hx : a.eval x = .slice (some ⟨g, 0, none⟩) n c) (hy : a.eval y = .int .i64 k) (hk : k < n) : (execOp a.eval op).run Try.prog W = .ok (.value (.pointer (some ⟨g, k, none⟩))) W := by
  have h1 : (k : Int) < (n : Int) := by omega
  unfold execOp
  simp only [ho, hx, hy]
  go_simp
set_option maxHeartbeats 2000000 in
theorem rbare_any (K : Int) (F : Nat → Fld) (hF : Fits F) (w : World) :
    Calls Try.prog 16 #[.agg (mc K F).toArray] w fun e w' => e = .returned (.agg (mc K (bareF K F)).toArray) ∧ Hid (Below w.heap.size w w') := by
  have hz := fun w => zero25 w
  have HBD := hide (fun w => built_kind K w)
  obtain ⟨W, hW⟩ : ∃ W, ((w.alloc (.cells (mc K F).toArray 25)).alloc (.cells (mc 0 ZF).toArray 25)).alloc (.cells (mc 0 ZF).toArray 25) = W := ⟨_, rfl⟩
  have M1 : MsgAt W w.heap.size K F := by rw [← hW]; exact ((MsgAt.new w K hF).below (below_alloc _ _)).below (below_alloc _ _)
  have M2 : MsgAt W (w.heap.size + 1) 0 ZF := by rw [← hW]; simpa using (MsgAt.new (w.alloc (.cells (mc K F).toArray 25)) 0 ZFits).below (below_alloc _ (.cells (mc 0 ZF).toArray 25))
  have M3 : MsgAt W (w.heap.size + 2) 0 ZF := by rw [← hW]; simpa using MsgAt.new ((w.alloc (.cells (mc K F).toArray 25)).alloc (.cells (mc 0 ZF).toArray 25)) 0 ZFits
  have HB := hide (show Below w.heap.size w W by rw [← hW]; exact (((Below.refl _ _).alloc (Nat.le_refl _) _).alloc (by simp) _).alloc (by simp; omega) _)
  have k0 : ((w.alloc (.cells (mc K F).toArray 25)).alloc (.cells (mc 0 ZF).toArray 25)).cell? ⟨w.heap.size, 0, none⟩ = some (.int .i64 K) := ((MsgAt.new w K hF).below (below_alloc _ _)).kind
  obtain ⟨W1, hW1⟩ : ∃ W1, W.setCells (w.heap.size + 2) 0 (mc K ZF).toArray.toList = W1 := ⟨_, rfl⟩
  have g1 : W.grownBy W1 (some (w.heap.size + 2)) := by rw [← hW1]; exact grown_setCells _ _ _ _
  have N1 : MsgAt W1 w.heap.size K F := M1.grown g1 (by intro e; have := Option.some.inj e; omega)
  have N2 : MsgAt W1 (w.heap.size + 1) 0 ZF := M2.grown g1 (by intro e; have := Option.some.inj e; omega)
  have N3 : MsgAt W1 (w.heap.size + 2) K ZF := by
    rw [← hW1]
    refine ⟨ZFits, World.rangeAt_setCells_same _ _ _ _ (by rw [mc_len K ZFits]; exact M3.there), ?_⟩
    exact World.there_setCells M3.there _ _ _
  have HB1 := hide (HB.out.grown g1 HB.out.size (fun k hk => by cases hk; omega))
  have HT := hide (show W.there (w.heap.size + 2) 0 (mc K ZF).toArray.size by rw [sizeMsg K ZFits]; exact M3.there)
  have HS := hide (infoSize K (F := ZF) ZFits)
  have HO := hide (oneMsg K ZF)
  have HN1 := hide N1
  have HN2 := hide N2
  have HN3 := hide N3
  have k1 := N1.kind
  clear M1 M2 M3 N1 N2 N3 HB
  generalize hC1 : (mc K F).toArray = C1 at *
  have HC1 := hide hC1
  clear hC1
  generalize (mc 0 ZF).toArray = Z at *
  generalize (mc K ZF).toArray = ZK at *
  go_enter Try.func16, Try.ntmps16
  iterate 13 go_step
  refine wp_region_lit ?_
  refine st_any (wanted_none rfl) (ex_fld rfl rfl (fa0 _ _)) ?_
  refine st_any (wanted_none rfl) (ex_load rfl rfl (ld3 k0)) ?_
  refine st_any (wanted_none rfl) (ex_build1 (t := 25) (i := 0) (x := .tmp 7) (v := .int .i64 K) (u := .agg ZK) rfl rfl (HBD.out _)) ?_
  repeat (first | refine wpList_store_mid rfl 25 (.tmp 3) (.tmp 8) rfl (w.heap.size + 2) 0 _ rfl rfl HT.out HS.out HO.out ?_ | go_step)
  refine (rfields_ex K _).mono ?_
  rintro e w2 ⟨g, a, c, rfl, hv, HF2, hg, HB2⟩
  have HL := hide (fl_len K)
  have HW2 := hide (HB1.out.trans (HB2.out.mono HB1.out.size))
  have HM1 := hide (HN1.out.below HB2.out)
  have HM2 := hide (HN2.out.below HB2.out)
  have HM3 := hide (HN3.out.below HB2.out)
  have hgt : w.heap.size + 2 < g := Nat.lt_of_lt_of_le HN3.out.lt hg
  have HV := hide (show fl K ≠ [] → a = some ⟨g, 0, none⟩ ∧ c = (fl K).length from fun hne => by
    rcases hv with ⟨_, h⟩ | ⟨h, _⟩
    · simpa using h
    · exact absurd (List.eq_nil_of_length_eq_zero h.symm) hne)
  obtain ⟨n, hn⟩ : ∃ n, (fl K).length = n := ⟨_, rfl⟩
  have HNL := hide hn
  have hn6 : n ≤ 6 := by rw [← hn]; exact HL.out
  rw [hn]
  clear hv hn HB2 HB1 HN1 HN2 HN3 hg k0 k1 HL HT HS HO HBD hW hW1 g1
  go_wp2
  go_loopw [5] (fun iv wr => ∃ k : Nat, k ≤ n ∧ iv = .int .i64 k ∧ Hid (MsgAt wr (w.heap.size + 2) K (bareK K F k)) ∧ Hid (MsgAt wr w.heap.size K F) ∧ Hid (MsgAt wr (w.heap.size + 1) 0 ZF) ∧ Hid (FlAt wr g (fl K)) ∧ Hid (Below w.heap.size w wr)) (fun iv _ => n - (intOf iv).toNat)
  case atStart => exact ⟨0, by omega, rfl, by rw [bareK_zero]; exact HM3, HM1, HM2, HF2, HW2⟩
  case round =>
    obtain ⟨k, hk, rfl, H3, H1, H2, HF, HB⟩ := hrel
    by_cases hlt : k < n
    · obtain ⟨i, hi⟩ : ∃ i, (fl K)[k]? = some i := ⟨_, List.getElem?_eq_getElem (by rw [HNL.out]; exact hlt)⟩
      obtain ⟨rfl, rfl⟩ := HV.out (by intro e; rw [e] at hi; simp at hi)
      have hck : (k : Int) < (n : Int) := by omega
      go_wp2_with fail
      have hi12 : i < 12 := fl_lt K i (List.mem_of_getElem? hi)
      obtain ⟨wd, hwd⟩ : ∃ wd, wr.drew = wd := ⟨_, rfl⟩
      have D1 : MsgAt wd w.heap.size K F := by rw [← hwd]; exact H1.out.drew
      have D2 : MsgAt wd (w.heap.size + 1) 0 ZF := by rw [← hwd]; exact H2.out.drew
      have D3 : MsgAt wd (w.heap.size + 2) K (bareK K F k) := by rw [← hwd]; exact H3.out.drew
      have DF : FlAt wd g (fl K) := by rw [← hwd]; exact HF.out.drew
      have DB : Below w.heap.size w wd := by rw [← hwd]; exact below_drew HB.out
      have hcell : wd.cell? ⟨g, k, none⟩ = some (.int .u64 (2 * (i : Int) + 1)) := DF.2 k i hi
      have lA : (Instr.loadAt 25 (.pointer (some ⟨w.heap.size + 1 + 1, 0, none⟩))).run Try.prog wd = .ok (.agg (mc K (bareK K F k)).toArray) wd := run_loadAt_mid wd _ 0 25 _ _ D3.range Try.underlying25 rfl (infoLen K D3.fits)
      have lB : (Instr.loadAt 25 (.pointer (some ⟨w.heap.size, 0, none⟩))).run Try.prog wd = .ok (.agg (mc K F).toArray) wd := run_loadAt_mid wd _ 0 25 _ _ D1.range Try.underlying25 rfl (infoLen K hF)
      have lC := ld36 hcell
      have HC := copied_any i hi12 K K (bareK K F k) F D3.fits hF wd
      rw [bareK_step hi] at HC
      have fD : Fits (bareK K F (k + 1)) := bareK_fits hF
      have oD := oneMsg K (bareK K F (k + 1))
      have sD := infoSize K fD
      have nD := sizeMsg K fD
      have HG := hide (fun (w3 : World) (hb : Below wd.heap.size wd w3) => show w3.there (w.heap.size + 1 + 1) 0 (mc K (bareK K F (k + 1))).toArray.size ∧ MsgAt (w3.setCells (w.heap.size + 1 + 1) 0 (mc K (bareK K F (k + 1))).toArray.toList) (w.heap.size + 2) K (bareK K F (k + 1))
          ∧ MsgAt (w3.setCells (w.heap.size + 1 + 1) 0 (mc K (bareK K F (k + 1))).toArray.toList) w.heap.size K F ∧ MsgAt (w3.setCells (w.heap.size + 1 + 1) 0 (mc K (bareK K F (k + 1))).toArray.toList) (w.heap.size + 1) 0 ZF
          ∧ FlAt (w3.setCells (w.heap.size + 1 + 1) 0 (mc K (bareK K F (k + 1))).toArray.toList) g (fl K) ∧ Below w.heap.size w (w3.setCells (w.heap.size + 1 + 1) 0 (mc K (bareK K F (k + 1))).toArray.toList) by
        have E1 := D1.below hb
        have E2 := D2.below hb
        have E3 := D3.below hb
        have EF := DF.below hb
        have EB := DB.trans (hb.mono DB.size)
        have hgr := grown_setCells (w.heap.size + 2) (mc K (bareK K F (k + 1))).toArray.toList 0 w3
        exact ⟨by rw [nD]; exact E3.there, ⟨fD, World.rangeAt_setCells_same _ _ _ _ (by rw [mc_len K fD]; exact E3.there), World.there_setCells E3.there _ _ _⟩,
          E1.grown hgr (by intro e; have := Option.some.inj e; omega), E2.grown hgr (by intro e; have := Option.some.inj e; omega), EF.kept hgr.size (fun hlt => hgr.block g hlt (by intro e; have := Option.some.inj e; omega)), EB.grown hgr EB.size (fun k hk => by cases hk; omega)⟩)
      have HOD := hide oD
      have HSD := hide sD
      have LA := hide lA
      have LB := hide lB
      have LC := hide lC
      have HCC := hide HC
      clear lA lB lC HC oD sD nD D1 D2 D3 DF DB hcell
      generalize (mc K (bareK K F (k + 1))).toArray = D at *
      generalize (mc K (bareK K F k)).toArray = A at *
      generalize (mc K F).toArray = B at *
      refine wp_region_any (by kernel_rfl) ?_
      show wpAny _ _ _ _ _ _ _ wr.drew
      rw [hwd]
      refine an_take (i := 2) (some 20) rfl rfl (by kernel_rfl) (by kernel_rfl) (by kernel_rfl) rfl (fun W => ex_move rfl) (fun _ _ _ h => h) ?_
      simp only [Act.put, List.setIfInBounds_toArray, List.set_cons_zero, List.set_cons_succ]
      refine an_take (i := 3) (some 21) rfl rfl (by kernel_rfl) (by kernel_rfl) (by kernel_rfl) rfl (fun W => ex_move rfl) (fun _ _ _ h => h) ?_
      simp only [Act.put, List.setIfInBounds_toArray, List.set_cons_zero, List.set_cons_succ]
      refine an_take (i := 4) (some 22) rfl rfl (by kernel_rfl) (by kernel_rfl) (by kernel_rfl) rfl (fun W => ex_index44 (k := k) rfl rfl rfl hlt) (fun _ _ _ h => h) ?_
      simp only [Act.put, List.setIfInBounds_toArray, List.set_cons_zero, List.set_cons_succ]
      refine an_three (i := 0) (j := 1) (k := 5) ⟨⟨_, rfl, rfl, rfl⟩, LA.out⟩ ⟨⟨_, rfl, rfl, rfl⟩, LB.out⟩ ⟨⟨_, rfl, rfl, rfl⟩, LC.out⟩ (by kernel_rfl) (by kernel_rfl) (by kernel_rfl) (by kernel_rfl) (by kernel_rfl) (by kernel_rfl) (by kernel_rfl) rfl rfl rfl (by decide) (by decide) (by decide) (fun o ho => by cases ho; rfl) (fun o ho => by cases ho; rfl) (fun o ho => by cases ho; rfl) ?_
      simp only [Act.put, List.setIfInBounds_toArray, List.set_cons_zero, List.set_cons_succ]
      refine an_call (i := 6) (some 24) rfl rfl (by kernel_rfl) rfl HCC.out (ex_call (f := 31) (vs := [.agg A, .agg B, .int .u64 (2 * (i : Int) + 1)]) rfl (cfCopied _) rfl) ?_
      rintro e w3 ⟨rfl, hb⟩
      refine ⟨_, rfl, ?_⟩
      simp only [Act.put, List.setIfInBounds_toArray, List.set_cons_zero, List.set_cons_succ]
      obtain ⟨T3, G3, G1, G2, GF, GB⟩ := HG.out w3 hb.out
      refine an_store (i := 7) (ty := 25) (x := .tmp 3) (y := .tmp 24) (b := w.heap.size + 1 + 1) (p := 0) (cells := D) rfl rfl (by kernel_rfl) rfl rfl rfl rfl T3 HSD.out HOD.out ?_
      refine wpAny_done (by kernel_rfl) ?_ _
      clear hwd HG HOD HSD LA LB LC HCC T3
      have J1 := hide G1
      have J2 := hide G2
      have J3 := hide G3
      have JF := hide GF
      have JB := hide GB
      clear G1 G2 G3 GF GB H1 H2 H3 HF HB hb
      generalize w3.setCells (w.heap.size + 1 + 1) 0 D.toList = w4 at *
      go_wp2
      go_roundw
      case rel => exact ⟨k + 1, by omega, by go_num, J3, J1, J2, JF, JB⟩
      case measure => simp [intOf]; omega
    · have ek : k = n := by omega
      subst ek
      have eb : bareK K F k = bareF K F := by unfold bareF; rw [HNL.out]
      rw [eb] at H3
      have hfit : Fits (bareF K F) := H3.out.fits
      have HR := hide H3.out.range
      have HLU := hide (infoLen K hfit)
      have HSU := hide (infoSize K hfit)
      have HOU := hide (oneMsg K (bareF K F))
      have HT := hide (show wr.there (w.heap.size + 1) 0 (mc K (bareF K F)).toArray.size by rw [sizeMsg K hfit]; exact H2.out.there)
      have HT' := hide (show wr.there (w.heap.size + 1) 0 (mc K (bareF K F)).length by rw [mc_len K hfit]; exact H2.out.there)
      have HP := hide (fun (tm : Array Value) (W2 : World) (h1 : tm.getD 2 undef = .pointer (some ⟨w.heap.size + 1, 0, none⟩)) (h3 : W2.rangeAt (w.heap.size + 1) 0 (mc K (bareF K F))) => ret_msg Try.results16 tm W2 (w.heap.size + 1) K hfit h1 h3)
      have hkk : ¬ (k : Int) < (k : Int) := by omega
      clear H1 H2 H3 HF HF2 HW2 HM1 HM2 HM3 HV HNL eb hlt hz
      generalize hCU : mc K (bareF K F) = C at *
      have HCU := hide hCU
      clear hCU
      repeat (first | refine wpList_load_mid rfl 25 (.tmp 3) rfl (w.heap.size + 2) 0 rfl C _ HR.out Try.underlying25 rfl HLU.out ?_ | refine wpList_store_mid rfl 25 (.tmp 2) (.tmp 25) rfl (w.heap.size + 1) 0 _ rfl rfl HT.out HSU.out HOU.out ?_ | go_step)
      refine bodyPost_ret (HP.out _ _ rfl (World.rangeAt_setCells_same _ _ _ _ HT'.out)) rfl ⟨by rw [HCU.out], ?_⟩
      exact HB.out.grown (grown_setCells _ _ _ _) HB.out.size (fun k hk => by cases hk; omega)
end Go.Proofs.Ytcbadmkgbaffpaa
