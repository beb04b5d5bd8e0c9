/- The contract of wire's Decode over this seat's translation, the walk. -/
import Derived.Test.YtcbadmkgbaffpaaWDec4
namespace Go.Proofs.Ytcbadmkgbaffpaa
open Go.RowKit
set_option linter.unusedVariables false


set_option maxRecDepth 100000 in
set_option maxHeartbeats 4000000 in
theorem wdecode_two (bb bo : Nat) (zs : List Int) (w : World) (hB : IsB w (some ⟨bb, bo, none⟩) 2 zs) (hn : zs.length = 2) (hz : Bytes zs)  :
    Calls Try.prog 17 #[.slice (some ⟨bb, bo, none⟩) 2 2] w (DecPost zs w) := by
  have HZB := hide hz
  have hz := fun w => zero25 w
  obtain ⟨z0, hz0⟩ : ∃ z, zs.getD 0 0 = z := ⟨_, rfl⟩
  obtain ⟨z1, hz1⟩ : ∃ z, zs.getD 1 0 = z := ⟨_, rfl⟩
  have HK := hide (show kindOf zs = z0 * 256 + z1 by unfold kindOf; rw [hz0, hz1])
  obtain ⟨bb', bo', hbb, hblt, hcells⟩ := hB.at (by omega)
  cases hbb
  have c0 := hcells 0 (by omega)
  have c1 := hcells 1 (by omega)
  rw [Nat.add_zero, hz0] at c0
  rw [hz1] at c1
  have hgd := getD_all HZB.out
  obtain ⟨a0, b0⟩ := hgd 0 (by omega)
  obtain ⟨a1, b1⟩ := hgd 1 (by omega)
  rw [hz0] at a0 b0
  rw [hz1] at a1 b1
  have HLEN := hide hn
  have HIB := hide hB
  have HD0 := hide (show zs.drop 2 = [] from List.drop_eq_nil_of_le (by omega))
  have HR2 : Hid (IsB w (some ⟨bb, bo, none⟩) 0 (zs.drop 2)) := by rw [HD0.out]; exact isB_none _ _
  have HDR := hide (fun (W : World) (hW : Below w.heap.size w W) => decode_any (some ⟨bb, bo, none⟩) (0) (zs.drop 2) W (HR2.out.below hW) (by rw [List.length_drop, hn]; omega) (by omega) (fun c hc => HZB.out c (List.mem_of_mem_drop hc)) none 0 0 (fun _ => 0) (.inl rfl) (by omega))
  rw [List.length_drop, hn, show 2 - 2 = 0 from rfl] at HDR
  have HDE := hide (show decT (knows (fun _ => 0) 0) (zs.drop 2) = recsOf zs from rfl)
  rw [HDE.out] at HDR
  have hor := or_kind z0 z1 a0 b0 a1 b1
  have hlt := block_lt_of_cell c0
  have hzl : (mc 0 ZF).toArray.size = 137 := sizeMsg 0 ZFits
  have hzn : ¬ (mc 0 ZF).toArray = #[] := fun e => by rw [e] at hzl; cases hzl
  have hms := mc_kind (z0 * 256 + z1) ZF
  have hso := hide (oneMsg (z0 * 256 + z1) ZF)
  have hsz : (mc (z0 * 256 + z1) ZF).toArray.size = 137 := sizeMsg _ ZFits
  have HM0 := hide (((MsgAt.new w 0 ZFits).below (below_alloc _ (.cells (mc (z0 * 256 + z1) ZF).toArray 25))).below (Below.refl _ _).drew)
  have HMB := hide (show MsgAt ((w.alloc (.cells (mc 0 ZF).toArray 25)).alloc (.cells (mc (z0 * 256 + z1) ZF).toArray 25)).drew (w.alloc (.cells (mc 0 ZF).toArray 25)).heap.size (kindOf zs) ZF by rw [HK.out]; exact (MsgAt.new (w.alloc (.cells (mc 0 ZF).toArray 25)) (z0 * 256 + z1) ZFits).below (Below.refl _ _).drew)
  have HW3 := hide ((((Below.refl w.heap.size w).alloc (Nat.le_refl _) (.cells (mc 0 ZF).toArray 25)).alloc (by simp) (.cells (mc (z0 * 256 + z1) ZF).toArray 25)).drew)
  have HP := hide (fun (tm : Array Value) (W : World) (h1 : tm.getD 2 undef = .pointer (some ⟨w.heap.size, 0, none⟩)) (h2 : tm.getD 3 undef = .int .i64 10) (h3 : W.rangeAt w.heap.size 0 (mc 0 ZF)) => ret_msg2 Try.results17 tm W w.heap.size 0 ZFits (.int .i64 10) h1 h2 h3)
  have HS := hide (infoSize 0 ZFits)
  have HO := hide (oneMsg 0 ZF)
  have HL0 := hide (mc_len 0 ZFits)
  clear hz0 hz1 hcells hgd hB hn
  generalize hC : mc 0 ZF = C at *
  generalize (mc (z0 * 256 + z1) ZF).toArray = ms at *
  have HCC := hide hC
  clear hC
  have hst : (storeCells ⟨w.heap.size + 1, 0, none⟩ ms.toList).run Try.prog ((w.alloc (.cells C.toArray 25)).alloc (.cells C.toArray 25)).drew = .ok () ((w.alloc (.cells C.toArray 25)).alloc (.cells ms 25)).drew := by
    have h := run_storeCells_new (P := Try.prog) (w.alloc (.cells C.toArray 25)).drew 25 C.toArray ms (by rw [hsz]; exact Try.info25) (by omega) hso.out
    rw [show (w.alloc (.cells C.toArray 25)).drew.heap.size = w.heap.size + 1 by simp] at h
    exact h
  have wz0 : IntKind.i64.wrap z0 = z0 := by rw [IntKind.wrap_i64]; omega
  have wz1 : IntKind.i64.wrap z1 = z1 := by rw [IntKind.wrap_i64]; omega
  have wz2 : IntKind.i64.wrap (z0 * 256) = z0 * 256 := by rw [IntKind.wrap_i64]; omega
  go_enter Try.func17, Try.ntmps17
  go_wp2
  go_step3
  go_wp2
  go_region_held3 (fun W => W.cell? ⟨bb, bo, none⟩ = some (.int .u8 z0) ∧ W.cell? ⟨bb, bo + 1, none⟩ = some (.int .u8 z1)) (go_keep) (fail)
  clear hst hms hso hsz wz0 wz1 wz2 hor c0 c1
  have HM0' : Hid (MsgAt ((w.alloc (.cells C.toArray 25)).alloc (.cells ms 25)).drew w.heap.size 0 ZF) := HM0
  have HMB' : Hid (MsgAt ((w.alloc (.cells C.toArray 25)).alloc (.cells ms 25)).drew (w.heap.size + 1) (kindOf zs) ZF) := hide (by simpa using HMB.out)
  clear HM0 HMB
  go_wp2_with fail
  refine (HDR.out _ HW3.out).mono ?_
  rintro e w4 ⟨v, q, rfl, HX, hq, HB4⟩
  obtain ⟨va, vc, rfl⟩ := HX.out.shape
  have HX3 : Hid (OwnRecs w4 (w.heap.size + 2) (.slice va q.length vc) q) := hide (by simpa using HX.out)
  have HW4 := hide (HW3.out.trans (HB4.out.mono HW3.out.size))
  have HM04 := hide (HM0'.out.below HB4.out)
  have HMB4 := hide (HMB'.out.below HB4.out)
  have HQ := hide hq
  clear HX HB4 HM0' HMB' HW3 HDR hq
  obtain ⟨ql, hql⟩ : ∃ ql, q.length = ql := ⟨_, rfl⟩
  have HQL := hide hql
  rw [hql]
  clear hql
  by_cases E0 : (recsOf zs).1 = 0
  · rw [E0]
    have HDOK := hide (recsOf_ok HZB.out E0)
    have k4 := HMB4.out.kind
    have lt4 := HMB4.out.lt
    have HGOOD := hide (fun (h3 : ∀ i ∈ fl (kindOf zs), (fldA (recsOf zs).2 i).isSome = true) (h4 : mayP (kindOf zs) (decF zs) = true) => show decGood zs from ⟨by rw [HLEN.out]; exact Nat.le_refl _, E0, h3, h4⟩)
    clear E0
    go_wp2_with fail
    go_step3
    go_wp2_with fail
    refine (fields_ex (kindOf zs) _).mono ?_
    rintro e w5 ⟨g, fa, fc, rfl, hv, HF5, hg, HB5⟩
    have HW5 := hide (HW4.out.trans (HB5.out.mono HW4.out.size))
    have HX5 := hide (HX3.out.below HB5.out)
    have HM05 := hide (HM04.out.below HB5.out)
    have HMB5 := hide (HMB4.out.below HB5.out)
    have hgb : w.heap.size + 1 < g := by omega
    have HV := hide hv
    obtain ⟨n6, hn6⟩ : ∃ n6, (fl (kindOf zs)).length = n6 := ⟨_, rfl⟩
    have HN6 := hide hn6
    have h6 : n6 ≤ 6 := by rw [← hn6]; exact fl_len _
    rw [hn6]
    clear hv hn6 hg HB5 HX3 HM04 HMB4 HW4 k4 lt4
    go_wp2
    go_loopw [7, 40] (fun fv iv wr => fv = .bool false ∧ ∃ (j : Nat) (G : Nat → Fld), j ≤ n6 ∧ iv = .int .i64 j ∧ Hid (DecI zs (w.heap.size + 1) w.heap.size j wr G) ∧ Hid (w5.grownBy wr (some (w.heap.size + 1)))) (fun _ iv _ => n6 - (intOf iv).toNat)
    case atStart => exact ⟨rfl, 0, ZF, by omega, rfl, DecI.start HMB5.out, World.grownBy.refl _ _⟩
    case round =>
      obtain ⟨rfl, j, G, hj, rfl, HI, HG⟩ := hrel
      have HM0r := hide (HM05.out.grown HG.out (by intro e; have := Option.some.inj e; omega))
      have HWr := hide (HW5.out.grown HG.out HW5.out.size (fun k hk => by cases hk; omega))
      have zr := HG.out.size
      by_cases hlt : j < n6
      · obtain ⟨i, hi⟩ : ∃ i, (fl (kindOf zs))[j]? = some i := ⟨_, List.getElem?_eq_getElem (by rw [HN6.out]; exact hlt)⟩
        have HII := hide hi
        have hi12 : i < 12 := fl_lt _ i (List.mem_of_getElem? hi)
        have hck : (j : Int) < (n6 : Int) := by omega
        obtain ⟨rfl, rfl⟩ : fa = some ⟨g, 0, none⟩ ∧ fc = (fl (kindOf zs)).length := by
          rcases HV.out with ⟨_, h⟩ | ⟨h, _⟩
          · simpa using h
          · have := HN6.out; omega
        have HFr := hide (HF5.out.grown HG.out (by intro e; have := Option.some.inj e; omega))
        have hcell := HFr.out.2 j i hi
        unfold tyV at hcell
        have HXr := hide (own_grown HX5.out HG.out (by omega))
        have HFI := hide (find_look HXr.out i (by rw [← plain_length, HQ.out]; exact HDOK.out.1) (fun r hr => (HDOK.out.2 r (by rw [← HQ.out]; exact hr)).1))
        rw [HQ.out, HQL.out] at HFI
        clear hi
        go_wp2_with fail
        refine HFI.out.mono ?_
        rintro e w6 ⟨hcase, HB6⟩
        have HW6 := hide (HWr.out.trans (HB6.out.mono HWr.out.size))
        have HM06 := hide (HM0r.out.below HB6.out)
        clear hcell HFI
        rcases hcase with ⟨hlk, rfl⟩ | ⟨L, la, lc, hlk, rfl, HIL, hfar⟩
        · have HNO := hide (show Says zs 0 ZF 10 from says_no (fun hh => by
            have := hh.2.2.1 i (List.mem_of_getElem? HII.out)
            unfold fldA at this
            rw [hlk] at this
            cases this))
          clear hlk
          have HT := hide (show w6.there w.heap.size 0 C.toArray.size by rw [hzl]; exact HM06.out.there)
          have HT' := hide (show w6.there w.heap.size 0 C.length by rw [HL0.out]; exact HM06.out.there)
          go_wp2_with (refine wpList_store_mid rfl 25 (.tmp 2) (.tmp 66) rfl w.heap.size 0 _ rfl rfl HT.out HS.out HO.out ?_)
          go_wp2
          try rw [Exit.noGoto_ret]
          refine bodyPost_ret (HP.out _ _ rfl rfl (World.rangeAt_setCells_same _ _ _ _ HT'.out)) rfl ⟨0, ZF, 10, by rw [HCC.out], ZFits, fun i _ => GoodF.zero _ i, HNO.out, ?_⟩
          exact HW6.out.grown (grown_setCells _ _ _ _) HW6.out.size (fun k hk => by cases hk; exact Nat.le_refl _)
        · have hLm := look_mem hlk
          have HLB := hide (HDOK.out.2 _ hLm)
          have HLK := hide hlk
          obtain ⟨Ln, hLn⟩ : ∃ Ln, L.length = Ln := ⟨_, rfl⟩
          have HLN := hide hLn
          rw [hLn]
          clear hLm hlk hLn
          go_wp2_with fail
          refine (make_read la Ln lc _).mono ?_
          rintro e w7 ⟨vb, rfl, hv7, v1, v2, HB7⟩
          have HB67 := hide (HB6.out.trans (HB7.out.mono HB6.out.size))
          have HW7 := hide (HWr.out.trans (HB67.out.mono HWr.out.size))
          have HM07 := hide (HM0r.out.below HB67.out)
          have z6 := HB6.out.size
          have z5 := HW5.out.size
          have HI7 := hide (HI.out.below HB67.out)
          have hne : vb ≠ w.heap.size + 1 := by have := HMB5.out.lt; omega
          have HST := hide (dec_step (L := L) hi12 HI7.out.1 (by rw [HLN.out]; exact hv7) hne (HIL.out.below HB7.out) HLB.out.2 HLB.out.1 (fun x hx hl e => by have := hfar.out x hx hl; have := HMB5.out.lt; omega))
          obtain ⟨r, hr⟩ : ∃ r, (rdF i L).isSome = r := ⟨_, rfl⟩
          have HRR := hide hr
          rw [hr] at HST
          clear hr hv7
          go_wp2_with fail
          refine HST.out.mono ?_
          rintro e w8 ⟨rfl, HRI⟩
          have HG8 := hide (grown_trans HG.out (grown_trans ⟨HB67.out.os, HB67.out.tape, HB67.out.output, HB67.out.size, fun k hk _ => HB67.out.block k hk⟩ HRI.out.1))
          have HW8 := hide (HW7.out.grown HRI.out.1 HW7.out.size (fun k hk => by cases hk; omega))
          have HM08 := hide (HM07.out.grown HRI.out.1 (by intro e; have := Option.some.inj e; omega))
          cases r with
          | true =>
            have HNX := hide (HI.out.next HB67.out HII.out HLK.out HRI.out HRR.out (fun x hx hl e => by have := hfar.out x hx hl; have := HMB5.out.lt; omega))
            clear HRI HST HI7
            go_wp2
            go_roundw
            case rel =>
              obtain ⟨G', hG'⟩ := HNX.out
              exact ⟨rfl, j + 1, G', by omega, by go_num, hG', HG8⟩
            case measure => simp [intOf]; omega
          | false =>
            have HNO := hide (show Says zs 0 ZF 10 from says_no (fun hh => by
              have := hh.2.2.1 i (List.mem_of_getElem? HII.out)
              unfold fldA at this
              rw [HLK.out] at this
              have h2 : (rdF i L).isSome = true := this
              rw [HRR.out] at h2
              cases h2))
            have HT := hide (show w8.there w.heap.size 0 C.toArray.size by rw [hzl]; exact HM08.out.there)
            have HT' := hide (show w8.there w.heap.size 0 C.length by rw [HL0.out]; exact HM08.out.there)
            go_wp2_with (refine wpList_store_mid rfl 25 (.tmp 2) (.tmp 66) rfl w.heap.size 0 _ rfl rfl HT.out HS.out HO.out ?_)
            go_wp2
            try rw [Exit.noGoto_ret]
            refine bodyPost_ret (HP.out _ _ rfl rfl (World.rangeAt_setCells_same _ _ _ _ HT'.out)) rfl ⟨0, ZF, 10, by rw [HCC.out], ZFits, fun i _ => GoodF.zero _ i, HNO.out, ?_⟩
            exact HW8.out.grown (grown_setCells _ _ _ _) HW8.out.size (fun k hk => by cases hk; exact Nat.le_refl _)
      · have ej : j = n6 := by omega
        subst ej
        rw [← HN6.out] at HI
        have HALL := hide HI.out.all
        have hGf := HI.out.1.fits
        have HGD := hide (fun i hi => (HI.out.2.1 i hi).1)
        have HAP := hide (fun i hi => (HI.out.2.1 i hi).2.2)
        have HMP := hide (show mayB (kindOf zs) G = mayP (kindOf zs) (decF zs) by rw [mayB_plain]; exact mayP_congr HALL.out.2)
        have HMY := hide (may_any (kindOf zs) G hGf (show Good wr G from HGD.out).small wr)
        have HRG := hide HI.out.1.range
        have HLG := hide (infoLen (kindOf zs) hGf)
        have HMR := hide HI.out.1
        clear HI
        generalize hCG : mc (kindOf zs) G = CG at *
        have HCG := hide hCG
        clear hCG
        cases hmay : mayB (kindOf zs) G with
        | false =>
          rw [hmay] at HMY
          have HNO := hide (show Says zs 0 ZF 10 from says_no (fun hh => by have := hh.2.2.2; rw [← HMP.out, hmay] at this; cases this))
          clear hmay
          go_wp2_with (first | refine wpList_load_mid_g rfl 25 (.tmp 4) rfl (w.heap.size + 1) 0 rfl CG _ HRG.out Try.underlying25 rfl HLG.out ?_ | fail)
          refine HMY.out.mono ?_
          rintro e w8 ⟨rfl, HB8⟩
          have HW8 := hide (HWr.out.trans (HB8.out.mono HWr.out.size))
          have HM08 := hide (HM0r.out.below HB8.out)
          have HT := hide (show w8.there w.heap.size 0 C.toArray.size by rw [hzl]; exact HM08.out.there)
          have HT' := hide (show w8.there w.heap.size 0 C.length by rw [HL0.out]; exact HM08.out.there)
          go_wp2_with (refine wpList_store_mid rfl 25 (.tmp 2) (.tmp 66) rfl w.heap.size 0 _ rfl rfl HT.out HS.out HO.out ?_)
          go_wp2
          try rw [Exit.noGoto_ret]
          refine bodyPost_ret (HP.out _ _ rfl rfl (World.rangeAt_setCells_same _ _ _ _ HT'.out)) rfl ⟨0, ZF, 10, by rw [HCC.out], ZFits, fun i _ => GoodF.zero _ i, HNO.out, ?_⟩
          exact HW8.out.grown (grown_setCells _ _ _ _) HW8.out.size (fun k hk => by cases hk; exact Nat.le_refl _)
        | true =>
          rw [hmay] at HMY
          have HYES := hide (show Says zs (kindOf zs) G 0 from .inr ⟨rfl, HGOOD.out HALL.out.1 (by rw [← HMP.out]; exact hmay), rfl, HALL.out.2⟩)
          clear hmay
          go_wp2_with (first | refine wpList_load_mid_g rfl 25 (.tmp 4) rfl (w.heap.size + 1) 0 rfl CG _ HRG.out Try.underlying25 rfl HLG.out ?_ | fail)
          refine HMY.out.mono ?_
          rintro e w8 ⟨rfl, HB8⟩
          have HW8 := hide (HWr.out.trans (HB8.out.mono HWr.out.size))
          have HM08 := hide (HM0r.out.below HB8.out)
          have HR8 := hide (HMR.out.below HB8.out).range
          rw [HCG.out] at HR8
          have HGS := hide (show CG.length = 137 by rw [← HCG.out]; exact mc_len _ hGf)
          have HT := hide (show w8.there w.heap.size 0 CG.toArray.size by rw [show CG.toArray.size = 137 by simpa using HGS.out]; exact HM08.out.there)
          have HT' := hide (show w8.there w.heap.size 0 CG.length by rw [HGS.out]; exact HM08.out.there)
          have HOG := hide (show CG.toArray.all (·.oneCell') = true by rw [← HCG.out]; exact oneMsg _ _)
          have HSG := hide (show (Try.prog.info? 25).map (·.size) = some CG.toArray.size by rw [← HCG.out]; exact infoSize _ hGf)
          have HPG := hide (fun (tm : Array Value) (W : World) (h1 : tm.getD 2 undef = .pointer (some ⟨w.heap.size, 0, none⟩)) (h2 : tm.getD 3 undef = .int .i64 0) (h3 : W.rangeAt w.heap.size 0 CG) => ret_msg2 Try.results17 tm W w.heap.size (kindOf zs) hGf (.int .i64 0) h1 h2 (by rw [HCG.out]; exact h3))
          clear HMY HRG hz HP
          dsimp only
          repeat (first | refine wpList_load_mid rfl 25 (.tmp 4) rfl (w.heap.size + 1) 0 rfl CG _ HR8.out Try.underlying25 rfl HLG.out ?_ | refine wpList_store_mid rfl 25 (.tmp 2) (.tmp 67) rfl w.heap.size 0 _ rfl rfl HT.out HSG.out HOG.out ?_ | go_step | go_guarded)
          try rw [Exit.noGoto_ret]
          refine bodyPost_ret (HPG.out _ _ rfl rfl (World.rangeAt_setCells_same _ _ _ _ HT'.out)) rfl ⟨kindOf zs, G, 0, by rw [HCG.out], hGf, ?_, HYES.out, ?_⟩
          · exact fun i hi => ((HGD.out i hi).below HB8.out).grown (grown_setCells _ _ _ _) (HAP.out i hi)
          · exact HW8.out.grown (grown_setCells _ _ _ _) HW8.out.size (fun k hk => by cases hk; exact Nat.le_refl _)
  · obtain ⟨E, hE⟩ : ∃ E, (recsOf zs).1 = E := ⟨_, rfl⟩
    have g1 : (E != 0) = true := by rw [← hE]; simp [E0]
    have HNO := hide (show Says zs 0 ZF 10 from says_no (fun hh => E0 hh.2.1))
    rw [hE]
    clear E0 hE
    have HT := hide (show w4.there w.heap.size 0 C.toArray.size by rw [hzl]; exact HM04.out.there)
    have HT' := hide (show w4.there w.heap.size 0 C.length by rw [HL0.out]; exact HM04.out.there)
    go_wp2_with (refine wpList_store_mid rfl 25 (.tmp 2) (.tmp 35) rfl w.heap.size 0 _ rfl rfl HT.out HS.out HO.out ?_)
    go_wp2
    try rw [Exit.noGoto_ret]
    refine bodyPost_ret (HP.out _ _ rfl rfl (World.rangeAt_setCells_same _ _ _ _ HT'.out)) rfl ⟨0, ZF, 10, by rw [HCC.out], ZFits, fun i _ => GoodF.zero _ i, HNO.out, ?_⟩
    exact HW4.out.grown (grown_setCells _ _ _ _) HW4.out.size (fun k hk => by cases hk; exact Nat.le_refl _)

/-- Decode: what bytes are as a message -/
theorem wdecode_any (a : Option Addr) (cap : Nat) (zs : List Int) (w : World) (hB : IsB w a cap zs) (hcap : zs.length ≤ cap) (hc : cap ≤ 9223372036854775807) (hz : Bytes zs) :
    Calls Try.prog 17 #[.slice a zs.length cap] w (DecPost zs w) := by
  by_cases h : zs.length < 2
  · exact wdecode_short a cap zs w h
  · obtain ⟨bb, bo, rfl, _⟩ := hB.at (by omega)
    by_cases h2 : cap = 2
    · subst h2
      have e : zs.length = 2 := by omega
      have := wdecode_two bb bo zs w hB e hz
      rw [← e] at this
      rw [e]
      rw [e] at this
      exact this
    · exact wdecode_more bb bo zs.length cap zs w hB rfl (by omega) hcap hc hz h2
end Go.Proofs.Ytcbadmkgbaffpaa
