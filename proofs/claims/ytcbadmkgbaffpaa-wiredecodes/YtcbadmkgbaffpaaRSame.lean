/- The contract of the document's Same over this seat's translation. -/
import Derived.Test.YtcbadmkgbaffpaaRBlk
namespace Go.Proofs.Ytcbadmkgbaffpaa
open Go.RowKit
set_option linter.unusedVariables false

theorem load32 {W : World} {b o : Nat} {l : List Int} (h : W.rangeAt b o (U8 l)) (hl : l.length = 32) : (loadCellsFrom ⟨b, o, none⟩ 0 32 #[]).run Try.prog W = .ok (U8 l).toArray W := by
  have := run_loadCells_list (P := Try.prog) W ⟨b, o, none⟩ (U8 l) (fun j v hv => by rw [addr_add]; exact h j v hv)
  rw [U8_length, hl] at this
  exact this
theorem str_inj : ∀ {a b : List Int}, Bytes a → Bytes b → strOfNums a = strOfNums b → a = b := by
  intro a b ha hb h
  unfold strOfNums at h
  have h2 : a.map (fun n => UInt8.ofNat n.toNat) = b.map (fun n => UInt8.ofNat n.toNat) := by
    have := congrArg (fun x : ByteArray => x.data.toList) h
    simpa using this
  have key : ∀ (a b : List Int), Bytes a → Bytes b → a.map (fun n => UInt8.ofNat n.toNat) = b.map (fun n => UInt8.ofNat n.toNat) → a = b := by
    intro a
    induction a with
    | nil => intro b _ _ h; cases b with | nil => rfl | cons y t => simp at h
    | cons x s ih =>
      intro b ha hb h
      cases b with
      | nil => simp at h
      | cons y t =>
        simp only [List.map_cons, List.cons.injEq] at h
        have hx := ha x (List.mem_cons_self ..)
        have hy := hb y (List.mem_cons_self ..)
        have e : x.toNat = y.toNat := by
          have := congrArg UInt8.toNat h.1
          simp only [UInt8.toNat_ofNat'] at this
          omega
        rw [ih t (fun c hc => ha c (List.mem_cons_of_mem _ hc)) (fun c hc => hb c (List.mem_cons_of_mem _ hc)) h.2]
        congr 1
        omega
  exact key a b ha hb h2
theorem str_ne {a b : List Int} (ha : Bytes a) (hb : Bytes b) (h : a ≠ b) : (strOfNums a == strOfNums b) = false := by
  cases e : (strOfNums a == strOfNums b) with
  | false => rfl
  | true => exact absurd (str_inj ha hb (by rw [beq_toListBytes] at e; have := eq_of_beq e; rw [ByteArray.toList_eq, ByteArray.toList_eq] at this; exact congrArg (fun l : List UInt8 => (⟨⟨l⟩⟩ : ByteArray)) this)) h

theorem fa0 (b : Nat) (W : World) : (Instr.fieldAt 25 (.pointer (some ⟨b, 0, none⟩)) 0).run Try.prog W = .ok (.pointer (some ⟨b, 0, none⟩)) W := by go_simp
theorem fa1 (b : Nat) (W : World) : (Instr.fieldAt 25 (.pointer (some ⟨b, 0, none⟩)) 1).run Try.prog W = .ok (.pointer (some ⟨b, 1, none⟩)) W := by go_simp
theorem fa2 (b : Nat) (W : World) : (Instr.fieldAt 25 (.pointer (some ⟨b, 0, none⟩)) 2).run Try.prog W = .ok (.pointer (some ⟨b, 2, none⟩)) W := by go_simp
theorem fa3 (b : Nat) (W : World) : (Instr.fieldAt 25 (.pointer (some ⟨b, 0, none⟩)) 3).run Try.prog W = .ok (.pointer (some ⟨b, 3, none⟩)) W := by go_simp
theorem fa4 (b : Nat) (W : World) : (Instr.fieldAt 25 (.pointer (some ⟨b, 0, none⟩)) 4).run Try.prog W = .ok (.pointer (some ⟨b, 4, none⟩)) W := by go_simp
theorem fa5 (b : Nat) (W : World) : (Instr.fieldAt 25 (.pointer (some ⟨b, 0, none⟩)) 5).run Try.prog W = .ok (.pointer (some ⟨b, 5, none⟩)) W := by go_simp
theorem fa6 (b : Nat) (W : World) : (Instr.fieldAt 25 (.pointer (some ⟨b, 0, none⟩)) 6).run Try.prog W = .ok (.pointer (some ⟨b, 37, none⟩)) W := by go_simp
theorem fa7 (b : Nat) (W : World) : (Instr.fieldAt 25 (.pointer (some ⟨b, 0, none⟩)) 7).run Try.prog W = .ok (.pointer (some ⟨b, 38, none⟩)) W := by go_simp
theorem fa8 (b : Nat) (W : World) : (Instr.fieldAt 25 (.pointer (some ⟨b, 0, none⟩)) 8).run Try.prog W = .ok (.pointer (some ⟨b, 70, none⟩)) W := by go_simp
theorem fa9 (b : Nat) (W : World) : (Instr.fieldAt 25 (.pointer (some ⟨b, 0, none⟩)) 9).run Try.prog W = .ok (.pointer (some ⟨b, 102, none⟩)) W := by go_simp
theorem fa10 (b : Nat) (W : World) : (Instr.fieldAt 25 (.pointer (some ⟨b, 0, none⟩)) 10).run Try.prog W = .ok (.pointer (some ⟨b, 134, none⟩)) W := by go_simp
theorem fa11 (b : Nat) (W : World) : (Instr.fieldAt 25 (.pointer (some ⟨b, 0, none⟩)) 11).run Try.prog W = .ok (.pointer (some ⟨b, 135, none⟩)) W := by go_simp
theorem fa12 (b : Nat) (W : World) : (Instr.fieldAt 25 (.pointer (some ⟨b, 0, none⟩)) 12).run Try.prog W = .ok (.pointer (some ⟨b, 136, none⟩)) W := by go_simp

theorem ld3 {W : World} {b o : Nat} {n : Int} (h : W.cell? ⟨b, o, none⟩ = some (.int .i64 n)) : (Instr.loadAt 3 (.pointer (some ⟨b, o, none⟩))).run Try.prog W = .ok (.int .i64 n) W := by go_simp
theorem ld23 {W : World} {b o : Nat} {a : Option Addr} {n c : Nat} (h : W.cell? ⟨b, o, none⟩ = some (.slice a n c)) : (Instr.loadAt 23 (.pointer (some ⟨b, o, none⟩))).run Try.prog W = .ok (.slice a n c) W := by go_simp
theorem eq3 (x y : Int) (W : World) : (binOp .eql 3 (.int .i64 x) (.int .i64 y)).run Try.prog W = .ok (.bool (x == y)) W := by go_simp
theorem eq9 (x y : ByteArray) (W : World) : (binOp .eql 9 (.string x) (.string y)).run Try.prog W = .ok (.bool (x.toList == y.toList)) W := by go_simp
theorem eq22 (W : World) (xs ys : List Int) (hx : xs.length = 32) (hy : ys.length = 32) : (binOp .eql 22 (.agg (U8 xs).toArray) (.agg (U8 ys).toArray)).run Try.prog W = .ok (.bool (decide (xs = ys))) W := by
  rw [run_eql_struct, eq_arrays W xs ys hx hy]
  rfl
theorem eg3 (x y : Operand) (u v : Int) (W : World) : (eqGuard .eql 3 x y (.int .i64 u) (.int .i64 v)).run Try.prog W = .ok () W := rfl
theorem eg9 (x y : Operand) (u v : ByteArray) (W : World) : (eqGuard .eql 9 x y (.string u) (.string v)).run Try.prog W = .ok () W := rfl
theorem eg22 (x y : Operand) (u v : Array Value) (W : World) : (eqGuard .eql 22 x y (.agg u) (.agg v)).run Try.prog W = .ok () W := run_eqGuard_agg W .eql 22 x y u v (by kernel_rfl)
theorem kn_start {ops : Array Oper} {rest : List Oper} {a : Act} {W : World} {Q : Exit → Act → World → Prop} {n m b1 b2 : Nat} {r : Bool} (h : Kn a n m b1 b2 r) (hk : ∀ a', Kn a' n m b1 b2 r → wpList Try.prog ops Q rest a' W) : wpList Try.prog ops Q rest a W := hk a h
theorem kn_move {a : Act} {n m b1 b2 d : Nat} {r : Bool} (h : Kn a n m b1 b2 r) (h4 : 4 < d) (hd : d < n) : Kn (a.put (some d) (a.eval (.tmp m))) n d b1 b2 r := by
  rw [eval_tmp h.last]
  exact h.to h4 hd
theorem ex_assign {op : Oper} {a : Act} {W : World} {x : Operand} (ho : op.op = .assign x) : (execOp a.eval op).run Try.prog W = .ok (.value (a.eval x)) W := by
  unfold execOp
  simp only [ho, Sem.run_pure]
/-- the walk stops here -/
def Stop (p : Prop) : Prop := p
theorem Stop.out {p : Prop} (h : p) : Stop p := h
theorem stop_fld {ops : Array Oper} {rest : List Oper} {op : Oper} {a : Act} {W : World} {Q : Exit → Act → World → Prop} {x : Operand} {i : Nat} (ho : op.op = .fieldAddr 25 x i) (h : Stop (wpList Try.prog ops Q (op :: rest) a W)) : wpList Try.prog ops Q (op :: rest) a W := h

/-- are messages the same? -/
def sameB (K K' : Int) (F F' : Nat → Fld) : Bool := (K == K') && (List.range 12).all fun i => decide ((F i).plain = (F' i).plain)
theorem sameB_eq (K K' : Int) (F F' : Nat → Fld) (c : Nat → Bool) (h : ∀ i, i < 12 → decide ((F i).plain = (F' i).plain) = c i) : sameB K K' F F' = (((((((((((((K == K') && c 0) && c 1) && c 2) && c 3) && c 4) && c 5) && c 6) && c 7) && c 8) && c 9) && c 10) && c 11) := by
  unfold sameB
  rw [show List.range 12 = [0, 1, 2, 3, 4, 5, 6, 7, 8, 9, 10, 11] from rfl]
  simp only [List.all_cons, List.all_nil, Bool.and_true, h 0 (by omega), h 1 (by omega), h 2 (by omega), h 3 (by omega), h 4 (by omega), h 5 (by omega), h 6 (by omega), h 7 (by omega), h 8 (by omega), h 9 (by omega), h 10 (by omega), h 11 (by omega), Bool.and_assoc]

set_option maxHeartbeats 2000000 in
theorem same_any (K K' : Int) (F F' : Nat → Fld) (hF : Fits F) (hF' : Fits F') (w : World) (hG : Good w F) (hG' : Good w F') :
    Calls Try.prog 14 #[.agg (mc K F).toArray, .agg (mc K' F').toArray] w fun e w' => e = .returned (.bool (sameB K K' F F')) ∧ Hid (Below w.heap.size w w') := by
  obtain ⟨W, hW⟩ : ∃ W, (w.alloc (.cells (mc K F).toArray 25)).alloc (.cells (mc K' F').toArray 25) = W := ⟨_, rfl⟩
  have M1 : MsgAt W w.heap.size K F := by rw [← hW]; exact (MsgAt.new w K hF).below (below_alloc _ _)
  have M2 : MsgAt W (w.heap.size + 1) K' F' := by rw [← hW]; simpa using MsgAt.new (w.alloc (.cells (mc K F).toArray 25)) K' hF'
  have HB := hide (show Below w.heap.size w W by rw [← hW]; exact ((Below.refl _ _).alloc (Nat.le_refl _) _).alloc (by simp) _)
  have k1 := M1.kind
  have k2 := M2.kind
  obtain ⟨x0, hx0⟩ := fits_num (hF 0 (by omega)) rfl
  obtain ⟨y0, hy0⟩ := fits_num (hF' 0 (by omega)) rfl
  have p0 := hide (ld3 (M1.num (i := 0) (by omega) hx0))
  have q0 := hide (ld3 (M2.num (i := 0) (by omega) hy0))
  have e0 := hide (eq3 x0 y0 W)
  have r0 : decide ((F 0).plain = (F' 0).plain) = (x0 == y0) := by rw [hx0, hy0]; by_cases e : x0 = y0 <;> simp [Fld.plain, e]
  obtain ⟨x1, hx1⟩ := fits_num (hF 1 (by omega)) rfl
  obtain ⟨y1, hy1⟩ := fits_num (hF' 1 (by omega)) rfl
  have p1 := hide (ld3 (M1.num (i := 1) (by omega) hx1))
  have q1 := hide (ld3 (M2.num (i := 1) (by omega) hy1))
  have e1 := hide (eq3 x1 y1 W)
  have r1 : decide ((F 1).plain = (F' 1).plain) = (x1 == y1) := by rw [hx1, hy1]; by_cases e : x1 = y1 <;> simp [Fld.plain, e]
  obtain ⟨x2, hx2⟩ := fits_num (hF 2 (by omega)) rfl
  obtain ⟨y2, hy2⟩ := fits_num (hF' 2 (by omega)) rfl
  have p2 := hide (ld3 (M1.num (i := 2) (by omega) hx2))
  have q2 := hide (ld3 (M2.num (i := 2) (by omega) hy2))
  have e2 := hide (eq3 x2 y2 W)
  have r2 : decide ((F 2).plain = (F' 2).plain) = (x2 == y2) := by rw [hx2, hy2]; by_cases e : x2 = y2 <;> simp [Fld.plain, e]
  obtain ⟨x3, hx3⟩ := fits_num (hF 3 (by omega)) rfl
  obtain ⟨y3, hy3⟩ := fits_num (hF' 3 (by omega)) rfl
  have p3 := hide (ld3 (M1.num (i := 3) (by omega) hx3))
  have q3 := hide (ld3 (M2.num (i := 3) (by omega) hy3))
  have e3 := hide (eq3 x3 y3 W)
  have r3 : decide ((F 3).plain = (F' 3).plain) = (x3 == y3) := by rw [hx3, hy3]; by_cases e : x3 = y3 <;> simp [Fld.plain, e]
  obtain ⟨x4, hx4, lx4⟩ := fits_arr (hF 4 (by omega)) rfl
  obtain ⟨y4, hy4, ly4⟩ := fits_arr (hF' 4 (by omega)) rfl
  have p4 := hide (M1.arr (i := 4) (by omega) hx4)
  have q4 := hide (M2.arr (i := 4) (by omega) hy4)
  have e4 := hide (eq22 W x4 y4 lx4 ly4)
  have r4 : decide ((F 4).plain = (F' 4).plain) = decide (x4 = y4) := by rw [hx4, hy4]; by_cases e : x4 = y4 <;> simp [Fld.plain, e]
  obtain ⟨xa5, xc5, x5, hx5⟩ := fits_lst (hF 5 (by omega)) rfl
  obtain ⟨ya5, yc5, y5, hy5⟩ := fits_lst (hF' 5 (by omega)) rfl
  have gx5 := (hG 5 (by omega)).below HB.out
  have gy5 := (hG' 5 (by omega)).below HB.out
  rw [hx5] at gx5
  rw [hy5] at gy5
  have p5 := hide (ld23 (M1.lst (i := 5) (by omega) hx5))
  have q5 := hide (ld23 (M2.lst (i := 5) (by omega) hy5))
  have cx5 := hide (conv_any gx5.1)
  have cy5 := hide (conv_any gy5.1)
  have e5 := hide (eq9 (strOfNums x5) (strOfNums y5) W)
  have r5 : decide ((F 5).plain = (F' 5).plain) = ((strOfNums x5).toList == (strOfNums y5).toList) := by
    rw [hx5, hy5, ← beq_toListBytes]
    by_cases e : x5 = y5
    · subst e; simp [Fld.plain, beq_toListBytes]
    · rw [str_ne gx5.2.2 gy5.2.2 e]; simp [Fld.plain, e]
  obtain ⟨x6, hx6, lx6⟩ := fits_arr (hF 6 (by omega)) rfl
  obtain ⟨y6, hy6, ly6⟩ := fits_arr (hF' 6 (by omega)) rfl
  have p6 := hide (M1.arr (i := 6) (by omega) hx6)
  have q6 := hide (M2.arr (i := 6) (by omega) hy6)
  have e6 := hide (eq22 W x6 y6 lx6 ly6)
  have r6 : decide ((F 6).plain = (F' 6).plain) = decide (x6 = y6) := by rw [hx6, hy6]; by_cases e : x6 = y6 <;> simp [Fld.plain, e]
  obtain ⟨x7, hx7, lx7⟩ := fits_arr (hF 7 (by omega)) rfl
  obtain ⟨y7, hy7, ly7⟩ := fits_arr (hF' 7 (by omega)) rfl
  have p7 := hide (M1.arr (i := 7) (by omega) hx7)
  have q7 := hide (M2.arr (i := 7) (by omega) hy7)
  have e7 := hide (eq22 W x7 y7 lx7 ly7)
  have r7 : decide ((F 7).plain = (F' 7).plain) = decide (x7 = y7) := by rw [hx7, hy7]; by_cases e : x7 = y7 <;> simp [Fld.plain, e]
  obtain ⟨x8, hx8, lx8⟩ := fits_arr (hF 8 (by omega)) rfl
  obtain ⟨y8, hy8, ly8⟩ := fits_arr (hF' 8 (by omega)) rfl
  have p8 := hide (M1.arr (i := 8) (by omega) hx8)
  have q8 := hide (M2.arr (i := 8) (by omega) hy8)
  have e8 := hide (eq22 W x8 y8 lx8 ly8)
  have r8 : decide ((F 8).plain = (F' 8).plain) = decide (x8 = y8) := by rw [hx8, hy8]; by_cases e : x8 = y8 <;> simp [Fld.plain, e]
  obtain ⟨x9, hx9⟩ := fits_num (hF 9 (by omega)) rfl
  obtain ⟨y9, hy9⟩ := fits_num (hF' 9 (by omega)) rfl
  have p9 := hide (ld3 (M1.num (i := 9) (by omega) hx9))
  have q9 := hide (ld3 (M2.num (i := 9) (by omega) hy9))
  have e9 := hide (eq3 x9 y9 W)
  have r9 : decide ((F 9).plain = (F' 9).plain) = (x9 == y9) := by rw [hx9, hy9]; by_cases e : x9 = y9 <;> simp [Fld.plain, e]
  obtain ⟨x10, hx10⟩ := fits_num (hF 10 (by omega)) rfl
  obtain ⟨y10, hy10⟩ := fits_num (hF' 10 (by omega)) rfl
  have p10 := hide (ld3 (M1.num (i := 10) (by omega) hx10))
  have q10 := hide (ld3 (M2.num (i := 10) (by omega) hy10))
  have e10 := hide (eq3 x10 y10 W)
  have r10 : decide ((F 10).plain = (F' 10).plain) = (x10 == y10) := by rw [hx10, hy10]; by_cases e : x10 = y10 <;> simp [Fld.plain, e]
  obtain ⟨xa11, xc11, x11, hx11⟩ := fits_lst (hF 11 (by omega)) rfl
  obtain ⟨ya11, yc11, y11, hy11⟩ := fits_lst (hF' 11 (by omega)) rfl
  have gx11 := (hG 11 (by omega)).below HB.out
  have gy11 := (hG' 11 (by omega)).below HB.out
  rw [hx11] at gx11
  rw [hy11] at gy11
  have p11 := hide (ld23 (M1.lst (i := 11) (by omega) hx11))
  have q11 := hide (ld23 (M2.lst (i := 11) (by omega) hy11))
  have cx11 := hide (conv_any gx11.1)
  have cy11 := hide (conv_any gy11.1)
  have e11 := hide (eq9 (strOfNums x11) (strOfNums y11) W)
  have r11 : decide ((F 11).plain = (F' 11).plain) = ((strOfNums x11).toList == (strOfNums y11).toList) := by
    rw [hx11, hy11, ← beq_toListBytes]
    by_cases e : x11 = y11
    · subst e; simp [Fld.plain, beq_toListBytes]
    · rw [str_ne gx11.2.2 gy11.2.2 e]; simp [Fld.plain, e]
  have HS := hide (sameB_eq K K' F F' (fun i => decide ((F i).plain = (F' i).plain)) (fun _ _ => rfl))
  simp only [r0, r1, r2, r3, r4, r5, r6, r7, r8, r9, r10, r11] at HS
  clear M1 M2 hG hG' r0 r1 r2 r3 r4 r5 r6 r7 r8 r9 r10 r11 gx5 gy5 gx11 gy11
  generalize (mc K F).toArray = C1 at *
  generalize (mc K' F').toArray = C2 at *
  go_enter Try.func14, Try.ntmps14
  iterate 16 go_step
  refine wp_region_lit ?_
  refine st_any (wanted_none rfl) (ex_fld rfl rfl (fa0 _ _)) ?_
  refine st_any (wanted_none rfl) (ex_load rfl rfl (ld3 k1)) ?_
  refine st_any (wanted_none rfl) (ex_fld rfl rfl (fa0 _ _)) ?_
  refine st_any (wanted_none rfl) (ex_load rfl rfl (ld3 k2)) ?_
  refine st_any (wanted_none rfl) (ex_eql rfl rfl rfl (eg3 _ _ _ _ _) (eq3 K K' W)) ?_
  refine st_any (wanted_none rfl) (ex_move rfl) ?_
  refine kn_start (n := 98) (m := 10) (b1 := w.heap.size) (b2 := w.heap.size + 1) (r := K == K') ⟨rfl, rfl, rfl, rfl, rfl⟩ ?_
  intro a0 h0
  refine block7 (s := 11) (gi := 5) (t := 3) h0 rfl (by omega) (by omega) (by omega) ⟨rfl, rfl, rfl⟩ ⟨rfl, rfl, rfl⟩ ⟨rfl, rfl, rfl⟩ ⟨rfl, rfl, rfl⟩ ⟨rfl, rfl, rfl⟩ ⟨rfl, rfl, rfl⟩ ⟨rfl, rfl, rfl⟩ (fun b => fa1 b W) p0.out q0.out (eg3 _ _ _ _ _) e0.out ?_
  intro a1 h1
  refine block7 (s := 18) (gi := 12) (t := 3) h1 rfl (by omega) (by omega) (by omega) ⟨rfl, rfl, rfl⟩ ⟨rfl, rfl, rfl⟩ ⟨rfl, rfl, rfl⟩ ⟨rfl, rfl, rfl⟩ ⟨rfl, rfl, rfl⟩ ⟨rfl, rfl, rfl⟩ ⟨rfl, rfl, rfl⟩ (fun b => fa2 b W) p1.out q1.out (eg3 _ _ _ _ _) e1.out ?_
  intro a2 h2
  refine block7 (s := 25) (gi := 19) (t := 3) h2 rfl (by omega) (by omega) (by omega) ⟨rfl, rfl, rfl⟩ ⟨rfl, rfl, rfl⟩ ⟨rfl, rfl, rfl⟩ ⟨rfl, rfl, rfl⟩ ⟨rfl, rfl, rfl⟩ ⟨rfl, rfl, rfl⟩ ⟨rfl, rfl, rfl⟩ (fun b => fa3 b W) p2.out q2.out (eg3 _ _ _ _ _) e2.out ?_
  intro a3 h3
  refine block7 (s := 32) (gi := 26) (t := 3) h3 rfl (by omega) (by omega) (by omega) ⟨rfl, rfl, rfl⟩ ⟨rfl, rfl, rfl⟩ ⟨rfl, rfl, rfl⟩ ⟨rfl, rfl, rfl⟩ ⟨rfl, rfl, rfl⟩ ⟨rfl, rfl, rfl⟩ ⟨rfl, rfl, rfl⟩ (fun b => fa4 b W) p3.out q3.out (eg3 _ _ _ _ _) e3.out ?_
  intro a4 h4
  refine block7 (s := 39) (gi := 33) (t := 22) h4 rfl (by omega) (by omega) (by omega) ⟨rfl, rfl, rfl⟩ ⟨rfl, rfl, rfl⟩ ⟨rfl, rfl, rfl⟩ ⟨rfl, rfl, rfl⟩ ⟨rfl, rfl, rfl⟩ ⟨rfl, rfl, rfl⟩ ⟨rfl, rfl, rfl⟩ (fun b => fa5 b W) p4.out q4.out (eg22 _ _ _ _ _) e4.out ?_
  intro a5 h5
  refine block9 (s := 46) (gi := 40) h5 rfl (by omega) (by omega) (by omega) ⟨rfl, rfl, rfl⟩ ⟨rfl, rfl, rfl⟩ ⟨rfl, rfl, rfl⟩ ⟨rfl, rfl, rfl⟩ ⟨rfl, rfl, rfl⟩ ⟨rfl, rfl, rfl⟩ ⟨rfl, rfl, rfl⟩ ⟨rfl, rfl, rfl⟩ (fun b => fa6 b W) p5.out q5.out cx5.out cy5.out (eg9 _ _ _ _ _) e5.out ?_
  intro b6 g6
  refine st_any (wanted_none rfl) (ex_move rfl) ?_
  refine kn_start (m := 54) (kn_move g6 (by omega) (by omega)) ?_
  intro a6 h6
  refine block7 (s := 55) (gi := 49) (t := 22) h6 rfl (by omega) (by omega) (by omega) ⟨rfl, rfl, rfl⟩ ⟨rfl, rfl, rfl⟩ ⟨rfl, rfl, rfl⟩ ⟨rfl, rfl, rfl⟩ ⟨rfl, rfl, rfl⟩ ⟨rfl, rfl, rfl⟩ ⟨rfl, rfl, rfl⟩ (fun b => fa7 b W) p6.out q6.out (eg22 _ _ _ _ _) e6.out ?_
  intro a7 h7
  refine block7 (s := 62) (gi := 56) (t := 22) h7 rfl (by omega) (by omega) (by omega) ⟨rfl, rfl, rfl⟩ ⟨rfl, rfl, rfl⟩ ⟨rfl, rfl, rfl⟩ ⟨rfl, rfl, rfl⟩ ⟨rfl, rfl, rfl⟩ ⟨rfl, rfl, rfl⟩ ⟨rfl, rfl, rfl⟩ (fun b => fa8 b W) p7.out q7.out (eg22 _ _ _ _ _) e7.out ?_
  intro a8 h8
  refine block7 (s := 69) (gi := 63) (t := 22) h8 rfl (by omega) (by omega) (by omega) ⟨rfl, rfl, rfl⟩ ⟨rfl, rfl, rfl⟩ ⟨rfl, rfl, rfl⟩ ⟨rfl, rfl, rfl⟩ ⟨rfl, rfl, rfl⟩ ⟨rfl, rfl, rfl⟩ ⟨rfl, rfl, rfl⟩ (fun b => fa9 b W) p8.out q8.out (eg22 _ _ _ _ _) e8.out ?_
  intro a9 h9
  refine block7 (s := 76) (gi := 70) (t := 3) h9 rfl (by omega) (by omega) (by omega) ⟨rfl, rfl, rfl⟩ ⟨rfl, rfl, rfl⟩ ⟨rfl, rfl, rfl⟩ ⟨rfl, rfl, rfl⟩ ⟨rfl, rfl, rfl⟩ ⟨rfl, rfl, rfl⟩ ⟨rfl, rfl, rfl⟩ (fun b => fa10 b W) p9.out q9.out (eg3 _ _ _ _ _) e9.out ?_
  intro a10 h10
  refine block7 (s := 83) (gi := 77) (t := 3) h10 rfl (by omega) (by omega) (by omega) ⟨rfl, rfl, rfl⟩ ⟨rfl, rfl, rfl⟩ ⟨rfl, rfl, rfl⟩ ⟨rfl, rfl, rfl⟩ ⟨rfl, rfl, rfl⟩ ⟨rfl, rfl, rfl⟩ ⟨rfl, rfl, rfl⟩ (fun b => fa11 b W) p10.out q10.out (eg3 _ _ _ _ _) e10.out ?_
  intro a11 h11
  refine block9 (s := 90) (gi := 84) h11 rfl (by omega) (by omega) (by omega) ⟨rfl, rfl, rfl⟩ ⟨rfl, rfl, rfl⟩ ⟨rfl, rfl, rfl⟩ ⟨rfl, rfl, rfl⟩ ⟨rfl, rfl, rfl⟩ ⟨rfl, rfl, rfl⟩ ⟨rfl, rfl, rfl⟩ ⟨rfl, rfl, rfl⟩ (fun b => fa12 b W) p11.out q11.out cx11.out cy11.out (eg9 _ _ _ _ _) e11.out ?_
  intro a12 h12
  refine st_any (wanted_none rfl) (ex_assign rfl) ?_
  have HA := hide (show (a12.put (some 4) (a12.eval (.tmp 97))).tmps[4]? = some (.bool (sameB K K' F F')) by rw [HS.out, eval_tmp h12.last]; exact put_same (by rw [h12.size]; omega))
  have HDF := hide (show (a12.put (some 4) (a12.eval (.tmp 97))).defers = [] from h12.defers)
  repeat go_step
  refine bodyPost_ret (v := .bool (sameB K K' F F')) ?_ HDF.out ⟨rfl, HB⟩
  rw [results_tmp Try.results14]
  exact congrArg (fun v => Result.ok v W) (eval_tmp HA.out)
end Go.Proofs.Ytcbadmkgbaffpaa
