/- The contract of the document's copied over this seat's translation. -/
import Derived.Test.YtcbadmkgbaffpaaWDec3
namespace Go.Proofs.Ytcbadmkgbaffpaa
open Go.RowKit
set_option linter.unusedVariables false


set_option maxHeartbeats 2000000 in
theorem cop6 (K K' : Int) (F F' : Nat → Fld) (hF : Fits F) (hF' : Fits F') (w : World) :
    Calls Try.prog 31 #[.agg (mc K F).toArray, .agg (mc K' F').toArray, .int .u64 13] w fun e w' => e = .returned (.agg (mc K (upd F 6 (F' 6))).toArray) ∧ Hid (Below w.heap.size w w') := by
  have hz := fun w => zero25 w
  obtain ⟨W, hW⟩ : ∃ W, ((w.alloc (.cells (mc K F).toArray 25)).alloc (.cells (mc K' F').toArray 25)).alloc (.cells (mc 0 ZF).toArray 25) = W := ⟨_, rfl⟩
  have M1 : MsgAt W w.heap.size K F := by rw [← hW]; exact ((MsgAt.new w K hF).below (below_alloc _ _)).below (below_alloc _ _)
  have M2 : MsgAt W (w.heap.size + 1) K' F' := by rw [← hW]; simpa using (MsgAt.new (w.alloc (.cells (mc K F).toArray 25)) K' hF').below (below_alloc _ (.cells (mc 0 ZF).toArray 25))
  have M3 : MsgAt W (w.heap.size + 2) 0 ZF := by rw [← hW]; simpa using MsgAt.new ((w.alloc (.cells (mc K F).toArray 25)).alloc (.cells (mc K' F').toArray 25)) 0 ZFits
  have HB := hide (show Below w.heap.size w W by rw [← hW]; exact (((Below.refl _ _).alloc (Nat.le_refl _) _).alloc (by simp) _).alloc (by simp; omega) _)
  have M1' := M1.set (i := 6) (by omega) (hF' 6 (by omega))
  have M3' : MsgAt (W.setCells w.heap.size (off 6) (F' 6).cells) (w.heap.size + 2) 0 ZF := M3.grown (grown_setCells _ _ _ _) (by intro e; have := Option.some.inj e; omega)
  have HB1 := hide (HB.out.grown (grown_setCells w.heap.size (F' 6).cells (off 6) W) HB.out.size (fun k hk => by cases hk; exact Nat.le_refl _))
  have hfit := M1'.fits
  have HR := hide M1'.range
  have HLU := hide (infoLen K hfit)
  have HSU := hide (infoSize K hfit)
  have HOU := hide (oneMsg K (upd F 6 (F' 6)))
  have HT := hide (show (W.setCells w.heap.size (off 6) (F' 6).cells).there (w.heap.size + 2) 0 (mc K (upd F 6 (F' 6))).toArray.size by rw [sizeMsg K hfit]; exact M3'.there)
  have HT' := hide (show (W.setCells w.heap.size (off 6) (F' 6).cells).there (w.heap.size + 2) 0 (mc K (upd F 6 (F' 6))).length by rw [mc_len K hfit]; exact M3'.there)
  have HP := hide (fun (tm : Array Value) (W2 : World) (h1 : tm.getD 6 undef = .pointer (some ⟨w.heap.size + 2, 0, none⟩)) (h3 : W2.rangeAt (w.heap.size + 2) 0 (mc K (upd F 6 (F' 6)))) => ret_msg Try.results31 tm W2 (w.heap.size + 2) K hfit h1 h3)
  have fr := M1.free (i := 6) (by omega)
  obtain ⟨y, hy, ly⟩ := fits_arr (hF' 6 (by omega)) rfl
  have P2 : Hid (W.rangeAt (w.heap.size + 1) 38 (U8 y)) := by have := M2.fld (i := 6) (by omega); rw [hy] at this; exact this
  have T1 : Hid (W.there w.heap.size 38 (U8 y).toArray.size) := by rw [show (U8 y).toArray.size = 32 by simp [U8_length, ly]]; exact M1.may (i := 6) (by omega)
  have LY := hide ly
  have hcs : W.setCells w.heap.size (off 6) (F' 6).cells = W.setCells w.heap.size 38 (U8 y).toArray.toList := by rw [hy]; rfl
  rw [hcs] at HR HT HT' HB1
  clear M1 M2 M3 M1' M3' fr hcs
  generalize hCU : mc K (upd F 6 (F' 6)) = CU at *
  have HCU := hide hCU
  clear hCU
  generalize (mc K F).toArray = C1 at *
  generalize (mc K' F').toArray = C2 at *
  generalize (mc 0 ZF).toArray = Z at *
  go_enter Try.func31, Try.ntmps31
  repeat (first | refine wpList_load_mid rfl 22 (.tmp 40) rfl (w.heap.size + 1) 38 rfl (U8 y) _ P2.out Try.underlying22 rfl (info32 LY.out) ?_ | refine wpList_store_mid rfl 22 (.tmp 42) (.tmp 41) rfl w.heap.size 38 _ rfl rfl T1.out (size32 LY.out) (all_oneCell_toArray (one_u8 y)) ?_ | refine wpList_load_mid rfl 25 (.tmp 3) rfl w.heap.size 0 rfl CU _ HR.out Try.underlying25 rfl HLU.out ?_ | refine wpList_store_mid rfl 25 (.tmp 6) (.tmp 68) rfl (w.heap.size + 2) 0 _ rfl rfl HT.out HSU.out HOU.out ?_ | go_step)
  refine bodyPost_ret (HP.out _ _ rfl (World.rangeAt_setCells_same _ _ _ _ HT'.out)) rfl ⟨rfl, ?_⟩
  exact HB1.out.grown (grown_setCells _ _ _ _) HB1.out.size (fun k hk => by cases hk; omega)

set_option maxHeartbeats 2000000 in
theorem cop7 (K K' : Int) (F F' : Nat → Fld) (hF : Fits F) (hF' : Fits F') (w : World) :
    Calls Try.prog 31 #[.agg (mc K F).toArray, .agg (mc K' F').toArray, .int .u64 15] w fun e w' => e = .returned (.agg (mc K (upd F 7 (F' 7))).toArray) ∧ Hid (Below w.heap.size w w') := by
  have hz := fun w => zero25 w
  obtain ⟨W, hW⟩ : ∃ W, ((w.alloc (.cells (mc K F).toArray 25)).alloc (.cells (mc K' F').toArray 25)).alloc (.cells (mc 0 ZF).toArray 25) = W := ⟨_, rfl⟩
  have M1 : MsgAt W w.heap.size K F := by rw [← hW]; exact ((MsgAt.new w K hF).below (below_alloc _ _)).below (below_alloc _ _)
  have M2 : MsgAt W (w.heap.size + 1) K' F' := by rw [← hW]; simpa using (MsgAt.new (w.alloc (.cells (mc K F).toArray 25)) K' hF').below (below_alloc _ (.cells (mc 0 ZF).toArray 25))
  have M3 : MsgAt W (w.heap.size + 2) 0 ZF := by rw [← hW]; simpa using MsgAt.new ((w.alloc (.cells (mc K F).toArray 25)).alloc (.cells (mc K' F').toArray 25)) 0 ZFits
  have HB := hide (show Below w.heap.size w W by rw [← hW]; exact (((Below.refl _ _).alloc (Nat.le_refl _) _).alloc (by simp) _).alloc (by simp; omega) _)
  have M1' := M1.set (i := 7) (by omega) (hF' 7 (by omega))
  have M3' : MsgAt (W.setCells w.heap.size (off 7) (F' 7).cells) (w.heap.size + 2) 0 ZF := M3.grown (grown_setCells _ _ _ _) (by intro e; have := Option.some.inj e; omega)
  have HB1 := hide (HB.out.grown (grown_setCells w.heap.size (F' 7).cells (off 7) W) HB.out.size (fun k hk => by cases hk; exact Nat.le_refl _))
  have hfit := M1'.fits
  have HR := hide M1'.range
  have HLU := hide (infoLen K hfit)
  have HSU := hide (infoSize K hfit)
  have HOU := hide (oneMsg K (upd F 7 (F' 7)))
  have HT := hide (show (W.setCells w.heap.size (off 7) (F' 7).cells).there (w.heap.size + 2) 0 (mc K (upd F 7 (F' 7))).toArray.size by rw [sizeMsg K hfit]; exact M3'.there)
  have HT' := hide (show (W.setCells w.heap.size (off 7) (F' 7).cells).there (w.heap.size + 2) 0 (mc K (upd F 7 (F' 7))).length by rw [mc_len K hfit]; exact M3'.there)
  have HP := hide (fun (tm : Array Value) (W2 : World) (h1 : tm.getD 6 undef = .pointer (some ⟨w.heap.size + 2, 0, none⟩)) (h3 : W2.rangeAt (w.heap.size + 2) 0 (mc K (upd F 7 (F' 7)))) => ret_msg Try.results31 tm W2 (w.heap.size + 2) K hfit h1 h3)
  have fr := M1.free (i := 7) (by omega)
  obtain ⟨y, hy, ly⟩ := fits_arr (hF' 7 (by omega)) rfl
  have P2 : Hid (W.rangeAt (w.heap.size + 1) 70 (U8 y)) := by have := M2.fld (i := 7) (by omega); rw [hy] at this; exact this
  have T1 : Hid (W.there w.heap.size 70 (U8 y).toArray.size) := by rw [show (U8 y).toArray.size = 32 by simp [U8_length, ly]]; exact M1.may (i := 7) (by omega)
  have LY := hide ly
  have hcs : W.setCells w.heap.size (off 7) (F' 7).cells = W.setCells w.heap.size 70 (U8 y).toArray.toList := by rw [hy]; rfl
  rw [hcs] at HR HT HT' HB1
  clear M1 M2 M3 M1' M3' fr hcs
  generalize hCU : mc K (upd F 7 (F' 7)) = CU at *
  have HCU := hide hCU
  clear hCU
  generalize (mc K F).toArray = C1 at *
  generalize (mc K' F').toArray = C2 at *
  generalize (mc 0 ZF).toArray = Z at *
  go_enter Try.func31, Try.ntmps31
  repeat (first | refine wpList_load_mid rfl 22 (.tmp 45) rfl (w.heap.size + 1) 70 rfl (U8 y) _ P2.out Try.underlying22 rfl (info32 LY.out) ?_ | refine wpList_store_mid rfl 22 (.tmp 47) (.tmp 46) rfl w.heap.size 70 _ rfl rfl T1.out (size32 LY.out) (all_oneCell_toArray (one_u8 y)) ?_ | refine wpList_load_mid rfl 25 (.tmp 3) rfl w.heap.size 0 rfl CU _ HR.out Try.underlying25 rfl HLU.out ?_ | refine wpList_store_mid rfl 25 (.tmp 6) (.tmp 68) rfl (w.heap.size + 2) 0 _ rfl rfl HT.out HSU.out HOU.out ?_ | go_step)
  refine bodyPost_ret (HP.out _ _ rfl (World.rangeAt_setCells_same _ _ _ _ HT'.out)) rfl ⟨rfl, ?_⟩
  exact HB1.out.grown (grown_setCells _ _ _ _) HB1.out.size (fun k hk => by cases hk; omega)

set_option maxHeartbeats 2000000 in
theorem cop8 (K K' : Int) (F F' : Nat → Fld) (hF : Fits F) (hF' : Fits F') (w : World) :
    Calls Try.prog 31 #[.agg (mc K F).toArray, .agg (mc K' F').toArray, .int .u64 17] w fun e w' => e = .returned (.agg (mc K (upd F 8 (F' 8))).toArray) ∧ Hid (Below w.heap.size w w') := by
  have hz := fun w => zero25 w
  obtain ⟨W, hW⟩ : ∃ W, ((w.alloc (.cells (mc K F).toArray 25)).alloc (.cells (mc K' F').toArray 25)).alloc (.cells (mc 0 ZF).toArray 25) = W := ⟨_, rfl⟩
  have M1 : MsgAt W w.heap.size K F := by rw [← hW]; exact ((MsgAt.new w K hF).below (below_alloc _ _)).below (below_alloc _ _)
  have M2 : MsgAt W (w.heap.size + 1) K' F' := by rw [← hW]; simpa using (MsgAt.new (w.alloc (.cells (mc K F).toArray 25)) K' hF').below (below_alloc _ (.cells (mc 0 ZF).toArray 25))
  have M3 : MsgAt W (w.heap.size + 2) 0 ZF := by rw [← hW]; simpa using MsgAt.new ((w.alloc (.cells (mc K F).toArray 25)).alloc (.cells (mc K' F').toArray 25)) 0 ZFits
  have HB := hide (show Below w.heap.size w W by rw [← hW]; exact (((Below.refl _ _).alloc (Nat.le_refl _) _).alloc (by simp) _).alloc (by simp; omega) _)
  have M1' := M1.set (i := 8) (by omega) (hF' 8 (by omega))
  have M3' : MsgAt (W.setCells w.heap.size (off 8) (F' 8).cells) (w.heap.size + 2) 0 ZF := M3.grown (grown_setCells _ _ _ _) (by intro e; have := Option.some.inj e; omega)
  have HB1 := hide (HB.out.grown (grown_setCells w.heap.size (F' 8).cells (off 8) W) HB.out.size (fun k hk => by cases hk; exact Nat.le_refl _))
  have hfit := M1'.fits
  have HR := hide M1'.range
  have HLU := hide (infoLen K hfit)
  have HSU := hide (infoSize K hfit)
  have HOU := hide (oneMsg K (upd F 8 (F' 8)))
  have HT := hide (show (W.setCells w.heap.size (off 8) (F' 8).cells).there (w.heap.size + 2) 0 (mc K (upd F 8 (F' 8))).toArray.size by rw [sizeMsg K hfit]; exact M3'.there)
  have HT' := hide (show (W.setCells w.heap.size (off 8) (F' 8).cells).there (w.heap.size + 2) 0 (mc K (upd F 8 (F' 8))).length by rw [mc_len K hfit]; exact M3'.there)
  have HP := hide (fun (tm : Array Value) (W2 : World) (h1 : tm.getD 6 undef = .pointer (some ⟨w.heap.size + 2, 0, none⟩)) (h3 : W2.rangeAt (w.heap.size + 2) 0 (mc K (upd F 8 (F' 8)))) => ret_msg Try.results31 tm W2 (w.heap.size + 2) K hfit h1 h3)
  have fr := M1.free (i := 8) (by omega)
  obtain ⟨y, hy, ly⟩ := fits_arr (hF' 8 (by omega)) rfl
  have P2 : Hid (W.rangeAt (w.heap.size + 1) 102 (U8 y)) := by have := M2.fld (i := 8) (by omega); rw [hy] at this; exact this
  have T1 : Hid (W.there w.heap.size 102 (U8 y).toArray.size) := by rw [show (U8 y).toArray.size = 32 by simp [U8_length, ly]]; exact M1.may (i := 8) (by omega)
  have LY := hide ly
  have hcs : W.setCells w.heap.size (off 8) (F' 8).cells = W.setCells w.heap.size 102 (U8 y).toArray.toList := by rw [hy]; rfl
  rw [hcs] at HR HT HT' HB1
  clear M1 M2 M3 M1' M3' fr hcs
  generalize hCU : mc K (upd F 8 (F' 8)) = CU at *
  have HCU := hide hCU
  clear hCU
  generalize (mc K F).toArray = C1 at *
  generalize (mc K' F').toArray = C2 at *
  generalize (mc 0 ZF).toArray = Z at *
  go_enter Try.func31, Try.ntmps31
  repeat (first | refine wpList_load_mid rfl 22 (.tmp 50) rfl (w.heap.size + 1) 102 rfl (U8 y) _ P2.out Try.underlying22 rfl (info32 LY.out) ?_ | refine wpList_store_mid rfl 22 (.tmp 52) (.tmp 51) rfl w.heap.size 102 _ rfl rfl T1.out (size32 LY.out) (all_oneCell_toArray (one_u8 y)) ?_ | refine wpList_load_mid rfl 25 (.tmp 3) rfl w.heap.size 0 rfl CU _ HR.out Try.underlying25 rfl HLU.out ?_ | refine wpList_store_mid rfl 25 (.tmp 6) (.tmp 68) rfl (w.heap.size + 2) 0 _ rfl rfl HT.out HSU.out HOU.out ?_ | go_step)
  refine bodyPost_ret (HP.out _ _ rfl (World.rangeAt_setCells_same _ _ _ _ HT'.out)) rfl ⟨rfl, ?_⟩
  exact HB1.out.grown (grown_setCells _ _ _ _) HB1.out.size (fun k hk => by cases hk; omega)
end Go.Proofs.Ytcbadmkgbaffpaa
