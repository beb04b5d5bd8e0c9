/- Operations one by one, in a plain region and in one that draws its order; blocks as letters. -/
import Derived.Test.YtkhpbjafdamhaaaDBase
import Derived.Laws.AppendOwnNone
namespace Go.Proofs.Ytkhpbjafdamhaaa
open Go.RowKit
set_option linter.unusedVariables false
set_option linter.unusedSimpArgs false
set_option maxRecDepth 100000

/-- all is kept but what F tells -/
structure Kept (F : Nat → Prop) (w w' : World) : Prop where
  os : w'.os = w.os
  tape : w'.tape = w.tape
  output : w'.output = w.output
  size : w.heap.size ≤ w'.heap.size
  block : ∀ k, k < w.heap.size → ¬ F k → w'.heap[k]? = w.heap[k]?
theorem Kept.below {F : Nat → Prop} {w w' : World} {B : Nat} (h : Kept F w w') (hB : B ≤ w.heap.size) (hF : ∀ k, F k → B ≤ k) : Below B w w' :=
  ⟨h.os, h.tape, h.output, h.size, fun k hk => h.block k (by omega) (fun e => by have := hF k e; omega)⟩
theorem lt_of {W : World} {b : Nat} {o : Obj} (h : W.heap[b]? = some o) : b < W.heap.size := (Array.getElem?_eq_some_iff.1 h).1
/-- a block is kept -/
theorem keep {W W' : World} {b : Nat} {o : Obj} (hB : Below W.heap.size W W') (h : W.heap[b]? = some o) : W'.heap[b]? = some o := (hB.block b (lt_of h)).trans h
theorem keepK {F : Nat → Prop} {W W' : World} {b : Nat} {o : Obj} (hB : Kept F W W') (h : W.heap[b]? = some o) (hn : ¬ F b) : W'.heap[b]? = some o := (hB.block b (lt_of h) hn).trans h
theorem below_next {w W W' : World} (E : Below w.heap.size w W) (B : Below W.heap.size W W') : Below w.heap.size w W' := E.trans (B.mono E.size)
theorem below_put {w W W' : World} {b : Nat} (E : Below w.heap.size w W) (hb : w.heap.size ≤ b) (K : Kept (· = b) W W') : Below w.heap.size w W' := E.trans (K.below E.size (fun k e => by subst e; exact hb))
theorem below_drew {B : Nat} {a b : World} (h : Below B a b) : Below B a b.drew := ⟨h.os, h.tape, h.output, h.size, h.block⟩
theorem at_cell {W : World} {b k T : Nat} {C : Array Value} {v : Value} (h : W.heap[b]? = some (.cells C T)) (hv : C[k]? = some v) : W.cell? ⟨b, k, none⟩ = some v := by
  unfold World.cell?
  rw [h]; exact hv
theorem at_range {W : World} {b o n T : Nat} {C : Array Value} (h : W.heap[b]? = some (.cells C T)) (hn : o + n ≤ C.size) : W.rangeAt b o (C.extract o (o + n)).toList := fun j v hv => by
  have hj := (List.getElem?_eq_some_iff.1 hv).1
  simp at hj
  refine at_cell h ?_; rw [Array.getElem?_toList, Array.getElem?_extract_of_lt (by omega)] at hv; rw [Array.getElem?_eq_getElem (by omega)]; exact hv

section
variable {ops : Array Oper} {rest : List Oper} {o : Oper} {a : Act} {W W' : World} {Q : Exit → Act → World → Prop} {v : Value}
/-- the rest of a plain region; a structure, so that nobody works it out ahead of its time -/
structure WL (ops : Array Oper) (Q : Exit → Act → World → Prop) (l : List Oper) (a : Act) (W : World) : Prop where
  out : wpList Try.prog ops Q l a W
theorem wl_in {id : Nat} {l : List Oper} (h : WL l.toArray Q l a W) : (Code.region id l.toArray false).wp Try.prog Q a W := wp_region_lit h.out
theorem wl_cap {l : List Oper} (h : ∀ Q' : Exit → Act → World → Prop, Q' = Q → WL ops Q' l a W) : WL ops Q l a W := h Q rfl
theorem st_to (d : Option Tmp) (hd : o.dst = d) (hw : Region.wanted o (yielded ops a.tmps) = true) (hr : (execOp a.eval o).run Try.prog W = .ok (.value v) W') (h : WL ops Q rest (a.put d v) W') : WL ops Q (o :: rest) a W :=
  ⟨wpList_step fun K hK => by subst hd; rw [if_pos hw]; unfold Oper.wp; rw [hr]; exact hK _ _ h.out⟩
theorem st_no (d : Option Tmp) (hd : o.dst = d) (hw : Region.wanted o (yielded ops a.tmps) = false) (h : WL ops Q rest (a.put d undef) W) : WL ops Q (o :: rest) a W := by
  subst hd; exact ⟨wpList_skip hw h.out⟩
theorem st_sk (hd : o.dst = none) (hw : Region.wanted o (yielded ops a.tmps) = true) (hr : (execOp a.eval o).run Try.prog W = .ok .skip W') (h : WL ops Q rest a W') : WL ops Q (o :: rest) a W :=
  ⟨wpList_step fun K hK => by rw [if_pos hw]; unfold Oper.wp; rw [hr]; exact hK _ _ (by rw [hd]; exact h.out)⟩
theorem st_call (d : Option Tmp) (hd : o.dst = d) (hw : Region.wanted o (yielded ops a.tmps) = true) {f : FuncId} {args : Array Value} {post : Ending → World → Prop} (hc : Calls Try.prog f args W post) (hx : (execOp a.eval o).run Try.prog W = .ok (.enter f args) W)
    (h : ∀ e w', post e w' → ∃ v, e = .returned v ∧ WL ops Q rest (a.put d v) w') : WL ops Q (o :: rest) a W :=
  ⟨wpList_step fun K hK => by
    subst hd; rw [if_pos hw]
    unfold Oper.wp
    rw [hx]; refine Calls.mono hc fun e w' hp => ?_; obtain ⟨v, rfl, h'⟩ := h e w' hp
    exact hK _ _ h'.out⟩
theorem st_end (h : Q .normal a W) : WL ops Q [] a W := ⟨h⟩
/-- what makes a block -/
theorem st_new (V : Nat → Value) (d : Option Tmp) (hd : o.dst = d) (hw : Region.wanted o (yielded ops a.tmps) = true) {ob : Obj} (hr : (execOp a.eval o).run Try.prog W = .ok (.value (V W.heap.size)) (W.alloc ob))
    (h : ∀ b W', W'.heap[b]? = some ob → W.heap.size ≤ b → Below W.heap.size W W' → WL ops Q rest (a.put d (V b)) W') : WL ops Q (o :: rest) a W :=
  st_to d hd hw hr (h _ _ (heap_alloc_last W ob) (Nat.le_refl _) ((Below.refl _ _).alloc (Nat.le_refl _) ob))
/-! the same, in short words -/
theorem sv (v : Value) (d : Tmp) (hd : o.dst = some d) (hw : Region.wanted o (yielded ops a.tmps) = true) (hr : (execOp a.eval o).run Try.prog W = .ok (.value v) W') (h : WL ops Q rest (a.put (some d) v) W') : WL ops Q (o :: rest) a W := st_to (some d) hd hw hr h
theorem sn (d : Tmp) (hd : o.dst = some d) (hw : Region.wanted o (yielded ops a.tmps) = false) (h : WL ops Q rest (a.put (some d) undef) W) : WL ops Q (o :: rest) a W := st_no (some d) hd hw h
theorem wq {id : Nat} {l : List Oper} {c : Code} (h : ∀ Q' : Exit → Act → World → Prop, Q' = Exit.then (c.wp Try.prog Q) Q → WL l.toArray Q' l a W) : (Code.seq (.region id l.toArray false) c).wp Try.prog Q a W := wp_seq (wl_in (wl_cap h))
/-! what an operation answers -/
theorem ex_mv {x : Operand} (ho : o.op = .move x) (hx : a.eval x = v) : (execOp a.eval o).run Try.prog W = .ok (.value v) W := by
  unfold execOp
  simp only [ho, hx, Sem.run_pure]
theorem ex_asg {x : Operand} (ho : o.op = .assign x) (hx : a.eval x = v) : (execOp a.eval o).run Try.prog W = .ok (.value v) W := by
  unfold execOp
  simp only [ho, hx, Sem.run_pure]
theorem sm (v : Value) (d : Tmp) {x : Operand} (hd : o.dst = some d) (hw : Region.wanted o (yielded ops a.tmps) = true) (ho : o.op = .move x) (hx : a.eval x = v) (h : WL ops Q rest (a.put (some d) v) W) : WL ops Q (o :: rest) a W := st_to (some d) hd hw (ex_mv ho hx) h
theorem sg (v : Value) (d : Tmp) {x : Operand} (hd : o.dst = some d) (hw : Region.wanted o (yielded ops a.tmps) = true) (ho : o.op = .assign x) (hx : a.eval x = v) (h : WL ops Q rest (a.put (some d) v) W) : WL ops Q (o :: rest) a W := st_to (some d) hd hw (ex_asg ho hx) h
theorem ex_ext {x : Operand} {k : Nat} {vs : Array Value} (ho : o.op = .extract x k) (hx : a.eval x = .tuple vs) (hv : vs[k]? = some v) : (execOp a.eval o).run Try.prog W = .ok (.value v) W := by
  unfold execOp
  simp [ho, hx, hv, Instr.extract]
theorem ex_pkT {c x y : Operand} (ho : o.op = .pick c x y) (hc : a.eval c = .bool true) (hx : a.eval x = v) : (execOp a.eval o).run Try.prog W = .ok (.value v) W := by
  unfold execOp
  simp only [ho, hc, hx, Sem.run_bind, Sem.run_pure]
  rfl
theorem ex_pkF {c x y : Operand} (ho : o.op = .pick c x y) (hc : a.eval c = .bool false) (hx : a.eval y = v) : (execOp a.eval o).run Try.prog W = .ok (.value v) W := by
  unfold execOp
  simp only [ho, hc, hx, Sem.run_bind, Sem.run_pure]
  rfl
theorem ex_not {x : Operand} {b c : Bool} (ho : o.op = .unOp .not 4 x) (hx : a.eval x = .bool b) (hc : (!b) = c) : (execOp a.eval o).run Try.prog W = .ok (.value (.bool c)) W := by
  subst hc
  unfold execOp
  simp only [ho, hx]
  go_simp
theorem ex_bin {x y : Operand} {b : BinOp} {t t2 : Nat} (ho : o.op = .binOp b t x y t2) {u r s : Value} (hx : a.eval x = u) (hy : a.eval y = r) (hq : (eqGuard b t x y u r).run Try.prog W = .ok () W) (hl : (binOp b t u r).run Try.prog W = .ok s W) : (execOp a.eval o).run Try.prog W = .ok (.value s) W := by
  unfold execOp
  simp only [ho, hx, hy, Sem.run_bind, Sem.run_pure, hq, hl, Result.andThen_ok]
theorem ex_fa {x : Operand} {t k : Nat} {p q : Value} (ho : o.op = .fieldAddr t x k) (hx : a.eval x = p) (hf : (Instr.fieldAt t p k).run Try.prog W = .ok q W) : (execOp a.eval o).run Try.prog W = .ok (.value q) W := by
  unfold execOp
  simp only [ho, hx, Sem.run_bind, Sem.run_pure, hf, Result.andThen_ok]
theorem ex_load {x : Operand} {t : Nat} (ho : o.op = .load t x) {p : Value} (hx : a.eval x = p) (hl : (Instr.loadAt t p).run Try.prog W = .ok v W) : (execOp a.eval o).run Try.prog W = .ok (.value v) W := by
  unfold execOp
  simp only [ho, hx, Sem.run_bind, Sem.run_pure, hl, Result.andThen_ok]
theorem ex_len {x : Operand} {t : Nat} {u : Value} (ho : o.op = .call { callee := .builtin .len, args := #[x], argTypes := #[t] }) (hx : a.eval x = u) (hr : (Builtin.len_ #[t] o.type #[u]).run Try.prog W = .ok v W) : (execOp a.eval o).run Try.prog W = .ok (.value v) W := by
  unfold execOp
  simp [ho, resolve, invoke, builtin, hx, hr, Result.andThen]
theorem ex_store {x y : Operand} {t : Nat} {p u : Value} (ho : o.op = .store t x y) (hx : a.eval x = p) (hy : a.eval y = u) (hr : (Instr.storeAt t p u).run Try.prog W = .ok () W') : (execOp a.eval o).run Try.prog W = .ok .skip W' := by
  unfold execOp
  simp [ho, hx, hy, hr]
theorem ex_app {s x : Operand} {t : Nat} {u n : Value} (ho : o.op = .call { callee := .builtin .append, args := #[s, x], argTypes := #[t, t] }) (hs : a.eval s = u) (hx : a.eval x = n) (hr : (Builtin.append_ #[t, t] o.type #[u, n]).run Try.prog W = .ok v W') : (execOp a.eval o).run Try.prog W = .ok (.value v) W' := by
  unfold execOp
  simp [ho, resolve, invoke, builtin, hs, hx, hr, Result.andThen]
theorem ex_call {f : Nat} {xs : Array Operand} {ts : Array TypeId} (ho : o.op = .call { callee := .value (.func f), args := xs, argTypes := ts }) (hf : ∀ vs, (callFunc f vs).run Try.prog W = .ok (.enter f vs) W) {vs : List Value} (hv : xs.toList.map a.eval = vs) : (execOp a.eval o).run Try.prog W = .ok (.enter f vs.toArray) W := by
  have hm : xs.map a.eval = vs.toArray := by rw [← hv, ← Array.toList_map]
  have := hf (xs.map a.eval)
  rw [← hm]
  unfold execOp
  simp only [ho, resolve, Sem.run_bind]
  have he : a.eval (.func f) = .func (.func f) #[] #[] := rfl
  rw [he]
  simp [Deferred.ofValue, invoke, this]
/-- a function that is a value is called, with what it captured behind -/
theorem ex_callv {f : Nat} {x : Operand} {xs : Array Operand} {ts : Array TypeId} {cap : Array Value} (ho : o.op = .call { callee := .value x, args := xs, argTypes := ts }) (hx : a.eval x = .func (.func f) #[] cap) (hf : ∀ vs, (callFunc f vs).run Try.prog W = .ok (.enter f vs) W) {vs : List Value} (hv : xs.toList.map a.eval = vs) : (execOp a.eval o).run Try.prog W = .ok (.enter f (vs.toArray ++ cap)) W := by
  have hm : xs.map a.eval = vs.toArray := by rw [← hv, ← Array.toList_map]
  have := hf (xs.map a.eval ++ cap)
  rw [← hm]
  unfold execOp
  simp only [ho, resolve, Sem.run_bind]; rw [hx]
  simp [Deferred.ofValue, invoke, this]
theorem ex_mkf {f : Nat} {cs : Array Operand} (ho : o.op = .makeFunc (.func f) #[] cs) {vs : List Value} (hv : cs.toList.map a.eval = vs) : (execOp a.eval o).run Try.prog W = .ok (.value (.func (.func f) #[] vs.toArray)) W := by
  have hm : cs.map a.eval = vs.toArray := by rw [← hv, ← Array.toList_map]
  rw [← hm]
  unfold execOp
  simp only [ho]
  go_simp
theorem ex_build0 {t : Nat} (ho : o.op = .build t #[]) (hb : (Instr.build t #[]).run Try.prog W = .ok v W) : (execOp a.eval o).run Try.prog W = .ok (.value v) W := by
  unfold execOp
  simp [ho, hb]
theorem ex_build1 {t k1 : Nat} {x : Operand} (ho : o.op = .build t #[(k1, x)]) {v1 : Value} (h1 : a.eval x = v1) (hb : (Instr.build t #[(k1, v1)]).run Try.prog W = .ok v W) : (execOp a.eval o).run Try.prog W = .ok (.value v) W := by
  unfold execOp
  simp [ho, h1, hb]
theorem ex_build2 {t k1 k2 : Nat} {x y : Operand} (ho : o.op = .build t #[(k1, x), (k2, y)]) {v1 v2 : Value} (h1 : a.eval x = v1) (h2 : a.eval y = v2) (hb : (Instr.build t #[(k1, v1), (k2, v2)]).run Try.prog W = .ok v W) : (execOp a.eval o).run Try.prog W = .ok (.value v) W := by
  unfold execOp
  simp [ho, h1, h2, hb]
theorem ex_build3 {t k1 k2 k3 : Nat} {x y z : Operand} (ho : o.op = .build t #[(k1, x), (k2, y), (k3, z)]) {v1 v2 v3 : Value} (h1 : a.eval x = v1) (h2 : a.eval y = v2) (h3 : a.eval z = v3) (hb : (Instr.build t #[(k1, v1), (k2, v2), (k3, v3)]).run Try.prog W = .ok v W) : (execOp a.eval o).run Try.prog W = .ok (.value v) W := by
  unfold execOp
  simp [ho, h1, h2, h3, hb]
theorem ex_build4 {t k1 k2 k3 k4 : Nat} {x y z u : Operand} (ho : o.op = .build t #[(k1, x), (k2, y), (k3, z), (k4, u)]) {v1 v2 v3 v4 : Value} (h1 : a.eval x = v1) (h2 : a.eval y = v2) (h3 : a.eval z = v3) (h4 : a.eval u = v4) (hb : (Instr.build t #[(k1, v1), (k2, v2), (k3, v3), (k4, v4)]).run Try.prog W = .ok v W) : (execOp a.eval o).run Try.prog W = .ok (.value v) W := by
  unfold execOp
  simp [ho, h1, h2, h3, h4, hb]
theorem ex_bsl0 {t : Nat} (ho : o.op = .buildSlice t 0 #[]) (hb : (Instr.buildSlice t 0 #[]).run Try.prog W = .ok v W') : (execOp a.eval o).run Try.prog W = .ok (.value v) W' := by
  unfold execOp
  simp [ho, hb]
theorem ex_bsl1 {x : Operand} {t : Nat} (ho : o.op = .buildSlice t 1 #[(0, x)]) {u : Value} (h1 : a.eval x = u) (hb : (Instr.buildSlice t 1 #[(0, u)]).run Try.prog W = .ok v W') : (execOp a.eval o).run Try.prog W = .ok (.value v) W' := by
  unfold execOp
  simp [ho, h1, hb]
theorem ex_bsl2 {x y : Operand} {t : Nat} (ho : o.op = .buildSlice t 2 #[(0, x), (1, y)]) {u r : Value} (h1 : a.eval x = u) (h2 : a.eval y = r) (hb : (Instr.buildSlice t 2 #[(0, u), (1, r)]).run Try.prog W = .ok v W') : (execOp a.eval o).run Try.prog W = .ok (.value v) W' := by
  unfold execOp
  simp [ho, h1, h2, hb]
theorem ex_bsl3 {x y z : Operand} {t : Nat} (ho : o.op = .buildSlice t 3 #[(0, x), (1, y), (2, z)]) {u r s : Value} (h1 : a.eval x = u) (h2 : a.eval y = r) (h3 : a.eval z = s) (hb : (Instr.buildSlice t 3 #[(0, u), (1, r), (2, s)]).run Try.prog W = .ok v W') : (execOp a.eval o).run Try.prog W = .ok (.value v) W' := by
  unfold execOp
  simp [ho, h1, h2, h3, hb]
theorem ex_box {x : Operand} {C : Array Value} {T : Nat} (ho : o.op = .box T x) (hx : a.eval x = .agg C) : (execOp a.eval o).run Try.prog W = .ok (.value (.pointer (some ⟨W.heap.size, 0, none⟩))) (W.alloc (.cells C T)) := by
  unfold execOp
  simp only [ho, hx]
  go_simp
theorem ex_box3 {x : Operand} {n : Int} (ho : o.op = .box 3 x) (hx : a.eval x = .int .i64 n) : (execOp a.eval o).run Try.prog W = .ok (.value (.pointer (some ⟨W.heap.size, 0, none⟩))) (W.alloc (.cells #[.int .i64 n] 3)) := by
  unfold execOp
  simp only [ho, hx]
  go_simp
theorem ex_alloc {T : Nat} {Z : Array Value} {n : Nat} (ho : o.op = .alloc T) (hz : (Try.prog.info? T).map (fun i => (i.zero, i.size)) = some (some (.agg Z), n)) : (execOp a.eval o).run Try.prog W = .ok (.value (.pointer (some ⟨W.heap.size, 0, none⟩))) (W.alloc (.cells Z T)) := by
  have hz := zero_of_info hz
  unfold execOp
  simp only [ho]
  go_simp
end
end Go.Proofs.Ytkhpbjafdamhaaa
