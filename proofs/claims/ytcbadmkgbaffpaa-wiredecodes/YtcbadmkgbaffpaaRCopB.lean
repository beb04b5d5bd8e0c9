/- The contract of the document's copied over this seat's translation. -/
import Derived.Test.YtcbadmkgbaffpaaWDec3
namespace Go.Proofs.Ytcbadmkgbaffpaa
open Go.RowKit
set_option linter.unusedVariables false


set_option maxHeartbeats 2000000 in
theorem cop3 (K K' : Int) (F F' : Nat → Fld) (hF : Fits F) (hF' : Fits F') (w : World) :
    Calls Try.prog 31 #[.agg (mc K F).toArray, .agg (mc K' F').toArray, .int .u64 7] w fun e w' => e = .returned (.agg (mc K (upd F 3 (F' 3))).toArray) ∧ Hid (Below w.heap.size w w') := by
  have hz := fun w => zero25 w
  obtain ⟨W, hW⟩ : ∃ W, ((w.alloc (.cells (mc K F).toArray 25)).alloc (.cells (mc K' F').toArray 25)).alloc (.cells (mc 0 ZF).toArray 25) = W := ⟨_, rfl⟩
  have M1 : MsgAt W w.heap.size K F := by rw [← hW]; exact ((MsgAt.new w K hF).below (below_alloc _ _)).below (below_alloc _ _)
  have M2 : MsgAt W (w.heap.size + 1) K' F' := by rw [← hW]; simpa using (MsgAt.new (w.alloc (.cells (mc K F).toArray 25)) K' hF').below (below_alloc _ (.cells (mc 0 ZF).toArray 25))
  have M3 : MsgAt W (w.heap.size + 2) 0 ZF := by rw [← hW]; simpa using MsgAt.new ((w.alloc (.cells (mc K F).toArray 25)).alloc (.cells (mc K' F').toArray 25)) 0 ZFits
  have HB := hide (show Below w.heap.size w W by rw [← hW]; exact (((Below.refl _ _).alloc (Nat.le_refl _) _).alloc (by simp) _).alloc (by simp; omega) _)
  have M1' := M1.set (i := 3) (by omega) (hF' 3 (by omega))
  have M3' : MsgAt (W.setCells w.heap.size (off 3) (F' 3).cells) (w.heap.size + 2) 0 ZF := M3.grown (grown_setCells _ _ _ _) (by intro e; have := Option.some.inj e; omega)
  have HB1 := hide (HB.out.grown (grown_setCells w.heap.size (F' 3).cells (off 3) W) HB.out.size (fun k hk => by cases hk; exact Nat.le_refl _))
  have hfit := M1'.fits
  have HR := hide M1'.range
  have HLU := hide (infoLen K hfit)
  have HSU := hide (infoSize K hfit)
  have HOU := hide (oneMsg K (upd F 3 (F' 3)))
  have HT := hide (show (W.setCells w.heap.size (off 3) (F' 3).cells).there (w.heap.size + 2) 0 (mc K (upd F 3 (F' 3))).toArray.size by rw [sizeMsg K hfit]; exact M3'.there)
  have HT' := hide (show (W.setCells w.heap.size (off 3) (F' 3).cells).there (w.heap.size + 2) 0 (mc K (upd F 3 (F' 3))).length by rw [mc_len K hfit]; exact M3'.there)
  have HP := hide (fun (tm : Array Value) (W2 : World) (h1 : tm.getD 6 undef = .pointer (some ⟨w.heap.size + 2, 0, none⟩)) (h3 : W2.rangeAt (w.heap.size + 2) 0 (mc K (upd F 3 (F' 3)))) => ret_msg Try.results31 tm W2 (w.heap.size + 2) K hfit h1 h3)
  have fr := M1.free (i := 3) (by omega)
  obtain ⟨x, hx⟩ := fits_num (hF 3 (by omega)) rfl
  obtain ⟨y, hy⟩ := fits_num (hF' 3 (by omega)) rfl
  have p1 : W.cell? ⟨w.heap.size, 4, none⟩ = some (.int .i64 x) := M1.num (i := 3) (by omega) hx
  have p2 : W.cell? ⟨w.heap.size + 1, 4, none⟩ = some (.int .i64 y) := M2.num (i := 3) (by omega) hy
  have hcs : W.setCells w.heap.size (off 3) (F' 3).cells = W.setCell ⟨w.heap.size, 4, none⟩ (.int .i64 y) := by rw [hy]; rfl
  have fr' : W.frozen? ⟨w.heap.size, 4, none⟩ = false := fr
  rw [hcs] at HR HT HT' HB1
  clear M1 M2 M3 M1' M3' fr hcs
  generalize hCU : mc K (upd F 3 (F' 3)) = CU at *
  have HCU := hide hCU
  clear hCU
  generalize (mc K F).toArray = C1 at *
  generalize (mc K' F').toArray = C2 at *
  generalize (mc 0 ZF).toArray = Z at *
  go_enter Try.func31, Try.ntmps31
  repeat (first | refine wpList_load_mid rfl 25 (.tmp 3) rfl w.heap.size 0 rfl CU _ HR.out Try.underlying25 rfl HLU.out ?_ | refine wpList_store_mid rfl 25 (.tmp 6) (.tmp 68) rfl (w.heap.size + 2) 0 _ rfl rfl HT.out HSU.out HOU.out ?_ | go_step)
  refine bodyPost_ret (HP.out _ _ rfl (World.rangeAt_setCells_same _ _ _ _ HT'.out)) rfl ⟨rfl, ?_⟩
  exact HB1.out.grown (grown_setCells _ _ _ _) HB1.out.size (fun k hk => by cases hk; omega)

set_option maxHeartbeats 2000000 in
theorem cop4 (K K' : Int) (F F' : Nat → Fld) (hF : Fits F) (hF' : Fits F') (w : World) :
    Calls Try.prog 31 #[.agg (mc K F).toArray, .agg (mc K' F').toArray, .int .u64 9] w fun e w' => e = .returned (.agg (mc K (upd F 4 (F' 4))).toArray) ∧ Hid (Below w.heap.size w w') := by
  have hz := fun w => zero25 w
  obtain ⟨W, hW⟩ : ∃ W, ((w.alloc (.cells (mc K F).toArray 25)).alloc (.cells (mc K' F').toArray 25)).alloc (.cells (mc 0 ZF).toArray 25) = W := ⟨_, rfl⟩
  have M1 : MsgAt W w.heap.size K F := by rw [← hW]; exact ((MsgAt.new w K hF).below (below_alloc _ _)).below (below_alloc _ _)
  have M2 : MsgAt W (w.heap.size + 1) K' F' := by rw [← hW]; simpa using (MsgAt.new (w.alloc (.cells (mc K F).toArray 25)) K' hF').below (below_alloc _ (.cells (mc 0 ZF).toArray 25))
  have M3 : MsgAt W (w.heap.size + 2) 0 ZF := by rw [← hW]; simpa using MsgAt.new ((w.alloc (.cells (mc K F).toArray 25)).alloc (.cells (mc K' F').toArray 25)) 0 ZFits
  have HB := hide (show Below w.heap.size w W by rw [← hW]; exact (((Below.refl _ _).alloc (Nat.le_refl _) _).alloc (by simp) _).alloc (by simp; omega) _)
  have M1' := M1.set (i := 4) (by omega) (hF' 4 (by omega))
  have M3' : MsgAt (W.setCells w.heap.size (off 4) (F' 4).cells) (w.heap.size + 2) 0 ZF := M3.grown (grown_setCells _ _ _ _) (by intro e; have := Option.some.inj e; omega)
  have HB1 := hide (HB.out.grown (grown_setCells w.heap.size (F' 4).cells (off 4) W) HB.out.size (fun k hk => by cases hk; exact Nat.le_refl _))
  have hfit := M1'.fits
  have HR := hide M1'.range
  have HLU := hide (infoLen K hfit)
  have HSU := hide (infoSize K hfit)
  have HOU := hide (oneMsg K (upd F 4 (F' 4)))
  have HT := hide (show (W.setCells w.heap.size (off 4) (F' 4).cells).there (w.heap.size + 2) 0 (mc K (upd F 4 (F' 4))).toArray.size by rw [sizeMsg K hfit]; exact M3'.there)
  have HT' := hide (show (W.setCells w.heap.size (off 4) (F' 4).cells).there (w.heap.size + 2) 0 (mc K (upd F 4 (F' 4))).length by rw [mc_len K hfit]; exact M3'.there)
  have HP := hide (fun (tm : Array Value) (W2 : World) (h1 : tm.getD 6 undef = .pointer (some ⟨w.heap.size + 2, 0, none⟩)) (h3 : W2.rangeAt (w.heap.size + 2) 0 (mc K (upd F 4 (F' 4)))) => ret_msg Try.results31 tm W2 (w.heap.size + 2) K hfit h1 h3)
  have fr := M1.free (i := 4) (by omega)
  obtain ⟨y, hy, ly⟩ := fits_arr (hF' 4 (by omega)) rfl
  have P2 : Hid (W.rangeAt (w.heap.size + 1) 5 (U8 y)) := by have := M2.fld (i := 4) (by omega); rw [hy] at this; exact this
  have T1 : Hid (W.there w.heap.size 5 (U8 y).toArray.size) := by rw [show (U8 y).toArray.size = 32 by simp [U8_length, ly]]; exact M1.may (i := 4) (by omega)
  have LY := hide ly
  have hcs : W.setCells w.heap.size (off 4) (F' 4).cells = W.setCells w.heap.size 5 (U8 y).toArray.toList := by rw [hy]; rfl
  rw [hcs] at HR HT HT' HB1
  clear M1 M2 M3 M1' M3' fr hcs
  generalize hCU : mc K (upd F 4 (F' 4)) = CU at *
  have HCU := hide hCU
  clear hCU
  generalize (mc K F).toArray = C1 at *
  generalize (mc K' F').toArray = C2 at *
  generalize (mc 0 ZF).toArray = Z at *
  go_enter Try.func31, Try.ntmps31
  repeat (first | refine wpList_load_mid rfl 22 (.tmp 30) rfl (w.heap.size + 1) 5 rfl (U8 y) _ P2.out Try.underlying22 rfl (info32 LY.out) ?_ | refine wpList_store_mid rfl 22 (.tmp 32) (.tmp 31) rfl w.heap.size 5 _ rfl rfl T1.out (size32 LY.out) (all_oneCell_toArray (one_u8 y)) ?_ | refine wpList_load_mid rfl 25 (.tmp 3) rfl w.heap.size 0 rfl CU _ HR.out Try.underlying25 rfl HLU.out ?_ | refine wpList_store_mid rfl 25 (.tmp 6) (.tmp 68) rfl (w.heap.size + 2) 0 _ rfl rfl HT.out HSU.out HOU.out ?_ | go_step)
  refine bodyPost_ret (HP.out _ _ rfl (World.rangeAt_setCells_same _ _ _ _ HT'.out)) rfl ⟨rfl, ?_⟩
  exact HB1.out.grown (grown_setCells _ _ _ _) HB1.out.size (fun k hk => by cases hk; omega)

set_option maxHeartbeats 2000000 in
theorem cop5 (K K' : Int) (F F' : Nat → Fld) (hF : Fits F) (hF' : Fits F') (w : World) :
    Calls Try.prog 31 #[.agg (mc K F).toArray, .agg (mc K' F').toArray, .int .u64 11] w fun e w' => e = .returned (.agg (mc K (upd F 5 (F' 5))).toArray) ∧ Hid (Below w.heap.size w w') := by
  have hz := fun w => zero25 w
  obtain ⟨W, hW⟩ : ∃ W, ((w.alloc (.cells (mc K F).toArray 25)).alloc (.cells (mc K' F').toArray 25)).alloc (.cells (mc 0 ZF).toArray 25) = W := ⟨_, rfl⟩
  have M1 : MsgAt W w.heap.size K F := by rw [← hW]; exact ((MsgAt.new w K hF).below (below_alloc _ _)).below (below_alloc _ _)
  have M2 : MsgAt W (w.heap.size + 1) K' F' := by rw [← hW]; simpa using (MsgAt.new (w.alloc (.cells (mc K F).toArray 25)) K' hF').below (below_alloc _ (.cells (mc 0 ZF).toArray 25))
  have M3 : MsgAt W (w.heap.size + 2) 0 ZF := by rw [← hW]; simpa using MsgAt.new ((w.alloc (.cells (mc K F).toArray 25)).alloc (.cells (mc K' F').toArray 25)) 0 ZFits
  have HB := hide (show Below w.heap.size w W by rw [← hW]; exact (((Below.refl _ _).alloc (Nat.le_refl _) _).alloc (by simp) _).alloc (by simp; omega) _)
  have M1' := M1.set (i := 5) (by omega) (hF' 5 (by omega))
  have M3' : MsgAt (W.setCells w.heap.size (off 5) (F' 5).cells) (w.heap.size + 2) 0 ZF := M3.grown (grown_setCells _ _ _ _) (by intro e; have := Option.some.inj e; omega)
  have HB1 := hide (HB.out.grown (grown_setCells w.heap.size (F' 5).cells (off 5) W) HB.out.size (fun k hk => by cases hk; exact Nat.le_refl _))
  have hfit := M1'.fits
  have HR := hide M1'.range
  have HLU := hide (infoLen K hfit)
  have HSU := hide (infoSize K hfit)
  have HOU := hide (oneMsg K (upd F 5 (F' 5)))
  have HT := hide (show (W.setCells w.heap.size (off 5) (F' 5).cells).there (w.heap.size + 2) 0 (mc K (upd F 5 (F' 5))).toArray.size by rw [sizeMsg K hfit]; exact M3'.there)
  have HT' := hide (show (W.setCells w.heap.size (off 5) (F' 5).cells).there (w.heap.size + 2) 0 (mc K (upd F 5 (F' 5))).length by rw [mc_len K hfit]; exact M3'.there)
  have HP := hide (fun (tm : Array Value) (W2 : World) (h1 : tm.getD 6 undef = .pointer (some ⟨w.heap.size + 2, 0, none⟩)) (h3 : W2.rangeAt (w.heap.size + 2) 0 (mc K (upd F 5 (F' 5)))) => ret_msg Try.results31 tm W2 (w.heap.size + 2) K hfit h1 h3)
  have fr := M1.free (i := 5) (by omega)
  obtain ⟨xa, xc, x, hx⟩ := fits_lst (hF 5 (by omega)) rfl
  obtain ⟨ya, yc, y, hy⟩ := fits_lst (hF' 5 (by omega)) rfl
  have p1 : W.cell? ⟨w.heap.size, 37, none⟩ = some (.slice xa x.length xc) := M1.lst (i := 5) (by omega) hx
  have p2 : W.cell? ⟨w.heap.size + 1, 37, none⟩ = some (.slice ya y.length yc) := M2.lst (i := 5) (by omega) hy
  have hcs : W.setCells w.heap.size (off 5) (F' 5).cells = W.setCell ⟨w.heap.size, 37, none⟩ (.slice ya y.length yc) := by rw [hy]; rfl
  have fr' : W.frozen? ⟨w.heap.size, 37, none⟩ = false := fr
  rw [hcs] at HR HT HT' HB1
  clear M1 M2 M3 M1' M3' fr hcs
  generalize hCU : mc K (upd F 5 (F' 5)) = CU at *
  have HCU := hide hCU
  clear hCU
  generalize (mc K F).toArray = C1 at *
  generalize (mc K' F').toArray = C2 at *
  generalize (mc 0 ZF).toArray = Z at *
  go_enter Try.func31, Try.ntmps31
  repeat (first | refine wpList_load_mid rfl 25 (.tmp 3) rfl w.heap.size 0 rfl CU _ HR.out Try.underlying25 rfl HLU.out ?_ | refine wpList_store_mid rfl 25 (.tmp 6) (.tmp 68) rfl (w.heap.size + 2) 0 _ rfl rfl HT.out HSU.out HOU.out ?_ | go_step)
  refine bodyPost_ret (HP.out _ _ rfl (World.rangeAt_setCells_same _ _ _ _ HT'.out)) rfl ⟨rfl, ?_⟩
  exact HB1.out.grown (grown_setCells _ _ _ _) HB1.out.size (fun k hk => by cases hk; omega)
end Go.Proofs.Ytcbadmkgbaffpaa
