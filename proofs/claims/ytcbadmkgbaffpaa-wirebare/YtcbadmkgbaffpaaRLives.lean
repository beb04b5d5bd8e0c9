/- The contract of the statements' lives over this seat's translation; laws for a plain region, operation by operation. -/
import Derived.Test.YtcbadmkgbaffpaaRMay2
import Derived.Test.YtcbadmkgbaffpaaWBack
namespace Go.Proofs.Ytcbadmkgbaffpaa
open Go.RowKit
set_option linter.unusedVariables false

section
variable {ops : Array Oper} {rest : List Oper} {o : Oper} {a : Act} {W W' : World} {Q : Exit → Act → World → Prop} {v : Value}
theorem st_to (d : Option Tmp) (hd : o.dst = d) (hw : Region.wanted o (yielded ops a.tmps) = true) (hr : (execOp a.eval o).run Try.prog W = .ok (.value v) W') (h : wpList Try.prog ops Q rest (a.put d v) W') : wpList Try.prog ops Q (o :: rest) a W :=
  wpList_step fun K hK => by subst hd; rw [if_pos hw]; unfold Oper.wp; rw [hr]; exact hK _ _ h
theorem st_no (d : Option Tmp) (hd : o.dst = d) (hw : Region.wanted o (yielded ops a.tmps) = false) (h : wpList Try.prog ops Q rest (a.put d undef) W) : wpList Try.prog ops Q (o :: rest) a W := by
  subst hd; exact wpList_skip hw h
theorem st_call (d : Option Tmp) (hd : o.dst = d) (hw : Region.wanted o (yielded ops a.tmps) = true) {f : FuncId} {args : Array Value} {post : Ending → World → Prop} (hc : Calls Try.prog f args W post) (hx : (execOp a.eval o).run Try.prog W = .ok (.enter f args) W)
    (h : ∀ e w', post e w' → ∃ v, e = .returned v ∧ wpList Try.prog ops Q rest (a.put d v) w') : wpList Try.prog ops Q (o :: rest) a W :=
  wpList_step fun K hK => by
    subst hd
    rw [if_pos hw]
    unfold Oper.wp
    rw [hx]
    refine Calls.mono hc fun e w' hp => ?_
    obtain ⟨v, rfl, h'⟩ := h e w' hp
    exact hK _ _ h'
theorem st_store (hd : o.dst = none) (hg : o.guard = none) {ty : TypeId} {x y : Operand} (ho : o.op = .store ty x y) {b p : Nat} {cells : Array Value} (hx : a.eval x = .pointer (some ⟨b, p, none⟩)) (hy : a.eval y = .agg cells)
    (ht : W.there b p cells.size) (hs : (Try.prog.info? ty).map (·.size) = some cells.size) (h1 : cells.all (·.oneCell') = true) (h : wpList Try.prog ops Q rest a (W.setCells b p cells.toList)) : wpList Try.prog ops Q (o :: rest) a W :=
  wpList_store_mid hg ty x y ho b p cells hx hy ht hs h1 (by rw [hd]; exact h)
theorem st_end (h : Q .normal a W) : wpList Try.prog ops Q [] a W := h
theorem ex_alloc25 (ho : o.op = .alloc 25) : (execOp a.eval o).run Try.prog W = .ok (.value (.pointer (some ⟨W.heap.size, 0, none⟩))) (W.alloc (.cells (mc 0 ZF).toArray 25)) := by
  have hz := fun w => zero25 w
  generalize (mc 0 ZF).toArray = Z at *
  unfold execOp
  simp only [ho]
  go_simp
theorem ex_box25 {x : Operand} {C : Array Value} (ho : o.op = .box 25 x) (hx : a.eval x = .agg C) : (execOp a.eval o).run Try.prog W = .ok (.value (.pointer (some ⟨W.heap.size, 0, none⟩))) (W.alloc (.cells C 25)) := by
  unfold execOp
  simp only [ho, hx]
  go_simp
theorem ex_build0 (ho : o.op = .build 25 #[]) : (execOp a.eval o).run Try.prog W = .ok (.value (.agg (mc 0 ZF).toArray)) W := by
  have hb : (Instr.build 25 #[]).run Try.prog W = .ok (.agg (mc 0 ZF).toArray) W := run_build W 25 _ _ (by kernel_rfl)
  unfold execOp
  simp [ho, hb]
end

theorem eq4 (x : Bool) (W : World) : (binOp .eql 4 (.bool x) (.bool x)).run Try.prog W = .ok (.bool true) W := by cases x <;> go_simp
theorem eg4 (bop : BinOp) (x y : Operand) (u v : Bool) (W : World) : (eqGuard bop 4 x y (.bool u) (.bool v)).run Try.prog W = .ok () W := by cases bop <;> rfl
/-- the message of lives -/
def S9 : List Int := 9 :: List.replicate 31 0
def FL : Nat → Fld := fun i => if i = 0 then .num 1 else if i = 6 then .arr S9 else ZF i
theorem FLfits : Fits FL := fun i hi => by
  unfold FL
  split
  · rename_i h; subst h; exact ⟨rfl, fun l h => by cases h⟩
  · split
    · rename_i h; subst h; exact ⟨rfl, fun l h => by cases h; rfl⟩
    · exact ZF_fits i
theorem FLgood (w : World) : Good w FL := fun i hi => by
  unfold FL
  split
  · trivial
  · split
    · intro c hc
      rcases List.mem_cons.1 hc with rfl | hc
      · omega
      · rw [List.eq_of_mem_replicate hc]; omega
    · exact GoodF.zero w i
theorem FLmay : mayB 2 FL = true := by decide
theorem digs1 : digs 1 = [1] := by rw [digs_pos 1 (by decide), show 1 / 256 = 0 from rfl, digs_zero]; rfl
theorem encFL : encB 2 FL = [0, 2, 1, 1, 1, 3, 0, 13, 32] ++ S9 := by
  show [0, 2] ++ recsB [(1, digs 1), (3, digs 0), (13, S9)] = _
  rw [digs1, digs_zero]
  rfl
theorem nomay0 : mayB 0 ZF = false := by decide
theorem build22 (W : World) : (Instr.build 22 #[(0, .int .u8 9)]).run Try.prog W = .ok (.agg (U8 S9).toArray) W := run_build W 22 _ _ (by kernel_rfl)
theorem build25 (W : World) : (Instr.build 25 #[(0, .int .i64 2), (1, .int .i64 1), (7, .agg (U8 S9).toArray)]).run Try.prog W = .ok (.agg (mc 2 FL).toArray) W := run_build W 25 _ _ (by kernel_rfl)
theorem ex_build3 {op : Oper} {a : Act} {W : World} {t i j k : Nat} {x y z : Operand} (ho : op.op = .build t #[(i, x), (j, y), (k, z)]) {v1 v2 v3 u : Value} (h1 : a.eval x = v1) (h2 : a.eval y = v2) (h3 : a.eval z = v3) (hb : (Instr.build t #[(i, v1), (j, v2), (k, v3)]).run Try.prog W = .ok u W) : (execOp a.eval op).run Try.prog W = .ok (.value u) W := by
  unfold execOp
  simp [ho, h1, h2, h3, hb]
theorem sameB_of {K : Int} {F G : Nat → Fld} (h : ∀ i, i < 12 → (F i).plain = (G i).plain) : sameB K K F G = true := by
  unfold sameB
  simp only [beq_self_eq_true, Bool.true_and, List.all_eq_true, List.mem_range]
  exact fun i hi => decide_eq_true (h i hi)
end Go.Proofs.Ytcbadmkgbaffpaa
