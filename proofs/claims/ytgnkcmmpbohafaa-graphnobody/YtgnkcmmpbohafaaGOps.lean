/- Operations one by one, in a plain region and in one that draws its order; blocks as letters; what loads answer: for this seat's types. -/
import Derived.Test.YtgnkcmmpbohafaaAmtFee
import Derived.WalkKit
import Derived.WalkSpells
import Derived.WalkLawsBesides
import Derived.Handy
import Derived.Laws.FloatArith
import Derived.Laws.Externs
import Derived.Laws.AppendOwnNone
import Derived.Deep.MidRow
import Derived.Deep.WholeRow
import Derived.Great.BuildSlice
namespace Go.Proofs.Ytgnkcmmpbohafaa
open Go.RowKit
set_option linter.unusedVariables false
set_option linter.unusedSimpArgs false
set_option maxRecDepth 100000

theorem cell_new (w : World) (C : Array Value) (T k : Nat) (v : Value) (h : C[k]? = some v) : (w.alloc (.cells C T)).cell? ⟨w.heap.size, k, none⟩ = some v := by
  unfold World.cell?
  rw [heap_alloc_last]
  exact h

/-- what a step puts into the frame -/
theorem zp : (∀ (a : Act) (d : Tmp) (v : Value), a.put (some d) v = { a with tmps := a.tmps.setIfInBounds d v }) ∧ (∀ (a : Act) (v : Value), a.put none v = a) ∧ (∀ (l : List Value) (i : Nat) (v : Value), l.toArray.setIfInBounds i v = (l.set i v).toArray) ∧ (∀ (x v : Value) (l : List Value), (x :: l).set 0 v = v :: l) ∧ (∀ (x v : Value) (l : List Value) (n : Nat), (x :: l).set (n + 1) v = x :: l.set n v) :=
  ⟨fun _ _ _ => rfl, fun _ _ => rfl, fun _ _ _ => List.setIfInBounds_toArray _ _ _, fun _ _ _ => rfl, fun _ _ _ _ => rfl⟩

/-- all is kept but what F tells -/
structure Kept (F : Nat → Prop) (w w' : World) : Prop where
  os : w'.os = w.os
  tape : w'.tape = w.tape
  output : w'.output = w.output
  size : w.heap.size ≤ w'.heap.size
  block : ∀ k, k < w.heap.size → ¬ F k → w'.heap[k]? = w.heap[k]?
theorem Kept.below {F : Nat → Prop} {w w' : World} {B : Nat} (h : Kept F w w') (hB : B ≤ w.heap.size) (hF : ∀ k, F k → B ≤ k) : Below B w w' :=
  ⟨h.os, h.tape, h.output, h.size, fun k hk => h.block k (by omega) (fun e => by have := hF k e; omega)⟩
theorem Kept.ofGrown {w w' : World} {row : Option Nat} (h : w.grownBy w' row) : Kept (fun k => row = some k) w w' := ⟨h.os, h.tape, h.output, h.size, fun k hk hn => h.block k hk (fun e => hn e.symm)⟩
theorem lt_of {W : World} {b : Nat} {o : Obj} (h : W.heap[b]? = some o) : b < W.heap.size := (Array.getElem?_eq_some_iff.1 h).1
/-- a block is kept -/
theorem keep {W W' : World} {b : Nat} {o : Obj} (hB : Below W.heap.size W W') (h : W.heap[b]? = some o) : W'.heap[b]? = some o := (hB.block b (lt_of h)).trans h
theorem keepK {F : Nat → Prop} {W W' : World} {b : Nat} {o : Obj} (hB : Kept F W W') (h : W.heap[b]? = some o) (hn : ¬ F b) : W'.heap[b]? = some o := (hB.block b (lt_of h) hn).trans h
theorem below_next {w W W' : World} (E : Below w.heap.size w W) (B : Below W.heap.size W W') : Below w.heap.size w W' := E.trans (B.mono E.size)
theorem below_put {w W W' : World} {b : Nat} (E : Below w.heap.size w W) (hb : w.heap.size ≤ b) (K : Kept (· = b) W W') : Below w.heap.size w W' := E.trans (K.below E.size (fun k e => by subst e; exact hb))
theorem below_drewB {B : Nat} {a b : World} (h : Below B a b) : Below B a b.drew := ⟨h.os, h.tape, h.output, h.size, h.block⟩
theorem at_cell {W : World} {b k T : Nat} {C : Array Value} {v : Value} (h : W.heap[b]? = some (.cells C T)) (hv : C[k]? = some v) : W.cell? ⟨b, k, none⟩ = some v := by
  unfold World.cell?
  rw [h]
  exact hv
theorem at_range {W : World} {b o n T : Nat} {C : Array Value} (h : W.heap[b]? = some (.cells C T)) (hn : o + n ≤ C.size) : W.rangeAt b o (C.extract o (o + n)).toList := fun j v hv => by
  have hj := (List.getElem?_eq_some_iff.1 hv).1
  simp at hj
  refine at_cell h ?_
  rw [Array.getElem?_toList, Array.getElem?_extract_of_lt (by omega)] at hv
  rw [Array.getElem?_eq_getElem (by omega)]
  exact hv

section
variable {ops : Array Oper} {rest : List Oper} {o : Oper} {a : Act} {W W' : World} {Q : Exit → Act → World → Prop} {v : Value}
/-- the rest of a plain region; a structure, so that nobody works it out ahead of its time -/
structure WL (ops : Array Oper) (Q : Exit → Act → World → Prop) (l : List Oper) (a : Act) (W : World) : Prop where
  out : wpList Try.prog ops Q l a W
theorem wl_in {id : Nat} {l : List Oper} (h : WL l.toArray Q l a W) : (Code.region id l.toArray false).wp Try.prog Q a W := wp_region_lit h.out
theorem wl_cap {l : List Oper} (h : ∀ Q' : Exit → Act → World → Prop, Q' = Q → WL ops Q' l a W) : WL ops Q l a W := h Q rfl
theorem st_to (d : Option Tmp) (hd : o.dst = d) (hw : Region.wanted o (yielded ops a.tmps) = true) (hr : (execOp a.eval o).run Try.prog W = .ok (.value v) W') (h : WL ops Q rest (a.put d v) W') : WL ops Q (o :: rest) a W :=
  ⟨wpList_step fun K hK => by subst hd; rw [if_pos hw]; unfold Oper.wp; rw [hr]; exact hK _ _ h.out⟩
theorem st_no (d : Option Tmp) (hd : o.dst = d) (hw : Region.wanted o (yielded ops a.tmps) = false) (h : WL ops Q rest (a.put d undef) W) : WL ops Q (o :: rest) a W := by
  subst hd; exact ⟨wpList_skip hw h.out⟩
theorem st_sk (hd : o.dst = none) (hw : Region.wanted o (yielded ops a.tmps) = true) (hr : (execOp a.eval o).run Try.prog W = .ok .skip W') (h : WL ops Q rest a W') : WL ops Q (o :: rest) a W :=
  ⟨wpList_step fun K hK => by rw [if_pos hw]; unfold Oper.wp; rw [hr]; exact hK _ _ (by rw [hd]; exact h.out)⟩
theorem st_call (d : Option Tmp) (hd : o.dst = d) (hw : Region.wanted o (yielded ops a.tmps) = true) {f : FuncId} {args : Array Value} {post : Ending → World → Prop} (hc : Calls Try.prog f args W post) (hx : (execOp a.eval o).run Try.prog W = .ok (.enter f args) W)
    (h : ∀ e w', post e w' → ∃ v, e = .returned v ∧ WL ops Q rest (a.put d v) w') : WL ops Q (o :: rest) a W :=
  ⟨wpList_step fun K hK => by
    subst hd
    rw [if_pos hw]
    unfold Oper.wp
    rw [hx]
    refine Calls.mono hc fun e w' hp => ?_
    obtain ⟨v, rfl, h'⟩ := h e w' hp
    exact hK _ _ h'.out⟩
theorem st_end (h : Q .normal a W) : WL ops Q [] a W := ⟨h⟩
/-- what makes a block -/
theorem st_new (V : Nat → Value) (d : Option Tmp) (hd : o.dst = d) (hw : Region.wanted o (yielded ops a.tmps) = true) {ob : Obj} (hr : (execOp a.eval o).run Try.prog W = .ok (.value (V W.heap.size)) (W.alloc ob))
    (h : ∀ b W', W'.heap[b]? = some ob → W.heap.size ≤ b → Below W.heap.size W W' → WL ops Q rest (a.put d (V b)) W') : WL ops Q (o :: rest) a W :=
  st_to d hd hw hr (h _ _ (heap_alloc_last W ob) (Nat.le_refl _) ((Below.refl _ _).alloc (Nat.le_refl _) ob))
/-! the same, in short words -/
theorem sv (v : Value) (d : Tmp) (hd : o.dst = some d) (hw : Region.wanted o (yielded ops a.tmps) = true) (hr : (execOp a.eval o).run Try.prog W = .ok (.value v) W') (h : WL ops Q rest (a.put (some d) v) W') : WL ops Q (o :: rest) a W := st_to (some d) hd hw hr h
theorem sn (d : Tmp) (hd : o.dst = some d) (hw : Region.wanted o (yielded ops a.tmps) = false) (h : WL ops Q rest (a.put (some d) undef) W) : WL ops Q (o :: rest) a W := st_no (some d) hd hw h
theorem wq {id : Nat} {l : List Oper} {c : Code} (h : ∀ Q' : Exit → Act → World → Prop, Q' = Exit.then (c.wp Try.prog Q) Q → WL l.toArray Q' l a W) : (Code.seq (.region id l.toArray false) c).wp Try.prog Q a W := wp_seq (wl_in (wl_cap h))
/-! what an operation answers -/
theorem ex_mv {x : Operand} (ho : o.op = .move x) (hx : a.eval x = v) : (execOp a.eval o).run Try.prog W = .ok (.value v) W := by
  unfold execOp
  simp only [ho, hx, Sem.run_pure]
theorem ex_asg {x : Operand} (ho : o.op = .assign x) (hx : a.eval x = v) : (execOp a.eval o).run Try.prog W = .ok (.value v) W := by
  unfold execOp
  simp only [ho, hx, Sem.run_pure]
theorem sm (v : Value) (d : Tmp) {x : Operand} (hd : o.dst = some d) (hw : Region.wanted o (yielded ops a.tmps) = true) (ho : o.op = .move x) (hx : a.eval x = v) (h : WL ops Q rest (a.put (some d) v) W) : WL ops Q (o :: rest) a W := st_to (some d) hd hw (ex_mv ho hx) h
theorem sg (v : Value) (d : Tmp) {x : Operand} (hd : o.dst = some d) (hw : Region.wanted o (yielded ops a.tmps) = true) (ho : o.op = .assign x) (hx : a.eval x = v) (h : WL ops Q rest (a.put (some d) v) W) : WL ops Q (o :: rest) a W := st_to (some d) hd hw (ex_asg ho hx) h
theorem ex_ext {x : Operand} {k : Nat} {vs : Array Value} (ho : o.op = .extract x k) (hx : a.eval x = .tuple vs) (hv : vs[k]? = some v) : (execOp a.eval o).run Try.prog W = .ok (.value v) W := by
  unfold execOp
  simp [ho, hx, hv, Instr.extract]
theorem ex_pkT {c x y : Operand} (ho : o.op = .pick c x y) (hc : a.eval c = .bool true) (hx : a.eval x = v) : (execOp a.eval o).run Try.prog W = .ok (.value v) W := by
  unfold execOp
  simp only [ho, hc, hx, Sem.run_bind, Sem.run_pure]
  rfl
theorem ex_pkF {c x y : Operand} (ho : o.op = .pick c x y) (hc : a.eval c = .bool false) (hx : a.eval y = v) : (execOp a.eval o).run Try.prog W = .ok (.value v) W := by
  unfold execOp
  simp only [ho, hc, hx, Sem.run_bind, Sem.run_pure]
  rfl
theorem ex_not {x : Operand} {b c : Bool} (ho : o.op = .unOp .not 4 x) (hx : a.eval x = .bool b) (hc : (!b) = c) : (execOp a.eval o).run Try.prog W = .ok (.value (.bool c)) W := by
  subst hc
  unfold execOp
  simp only [ho, hx]
  go_simp
theorem ex_bin {x y : Operand} {b : BinOp} {t t2 : Nat} (ho : o.op = .binOp b t x y t2) {u r s : Value} (hx : a.eval x = u) (hy : a.eval y = r) (hq : (eqGuard b t x y u r).run Try.prog W = .ok () W) (hl : (binOp b t u r).run Try.prog W = .ok s W) : (execOp a.eval o).run Try.prog W = .ok (.value s) W := by
  unfold execOp
  simp only [ho, hx, hy, Sem.run_bind, Sem.run_pure, hq, hl, Result.andThen_ok]
theorem ex_fa {x : Operand} {t k : Nat} {p q : Value} (ho : o.op = .fieldAddr t x k) (hx : a.eval x = p) (hf : (Instr.fieldAt t p k).run Try.prog W = .ok q W) : (execOp a.eval o).run Try.prog W = .ok (.value q) W := by
  unfold execOp
  simp only [ho, hx, Sem.run_bind, Sem.run_pure, hf, Result.andThen_ok]
theorem ex_load {x : Operand} {t : Nat} (ho : o.op = .load t x) {p : Value} (hx : a.eval x = p) (hl : (Instr.loadAt t p).run Try.prog W = .ok v W) : (execOp a.eval o).run Try.prog W = .ok (.value v) W := by
  unfold execOp
  simp only [ho, hx, Sem.run_bind, Sem.run_pure, hl, Result.andThen_ok]
theorem ex_len {x : Operand} {t : Nat} {u : Value} (ho : o.op = .call { callee := .builtin .len, args := #[x], argTypes := #[t] }) (hx : a.eval x = u) (hr : (Builtin.len_ #[t] o.type #[u]).run Try.prog W = .ok v W) : (execOp a.eval o).run Try.prog W = .ok (.value v) W := by
  unfold execOp
  simp [ho, resolve, invoke, builtin, hx, hr, Result.andThen]
theorem ex_store {x y : Operand} {t : Nat} {p u : Value} (ho : o.op = .store t x y) (hx : a.eval x = p) (hy : a.eval y = u) (hr : (Instr.storeAt t p u).run Try.prog W = .ok () W') : (execOp a.eval o).run Try.prog W = .ok .skip W' := by
  unfold execOp
  simp [ho, hx, hy, hr]
theorem ex_app {s x : Operand} {t : Nat} {u n : Value} (ho : o.op = .call { callee := .builtin .append, args := #[s, x], argTypes := #[t, t] }) (hs : a.eval s = u) (hx : a.eval x = n) (hr : (Builtin.append_ #[t, t] o.type #[u, n]).run Try.prog W = .ok v W') : (execOp a.eval o).run Try.prog W = .ok (.value v) W' := by
  unfold execOp
  simp [ho, resolve, invoke, builtin, hs, hx, hr, Result.andThen]
theorem ex_call {f : Nat} {xs : Array Operand} {ts : Array TypeId} (ho : o.op = .call { callee := .value (.func f), args := xs, argTypes := ts }) (hf : ∀ vs, (callFunc f vs).run Try.prog W = .ok (.enter f vs) W) {vs : List Value} (hv : xs.toList.map a.eval = vs) : (execOp a.eval o).run Try.prog W = .ok (.enter f vs.toArray) W := by
  have hm : xs.map a.eval = vs.toArray := by rw [← hv, ← Array.toList_map]
  have := hf (xs.map a.eval)
  rw [← hm]
  unfold execOp
  simp only [ho, resolve, Sem.run_bind]
  have he : a.eval (.func f) = .func (.func f) #[] #[] := rfl
  rw [he]
  simp [Deferred.ofValue, invoke, this]
/-- a function that is a value is called, with what it captured behind -/
theorem ex_callv {f : Nat} {x : Operand} {xs : Array Operand} {ts : Array TypeId} {cap : Array Value} (ho : o.op = .call { callee := .value x, args := xs, argTypes := ts }) (hx : a.eval x = .func (.func f) #[] cap) (hf : ∀ vs, (callFunc f vs).run Try.prog W = .ok (.enter f vs) W) {vs : List Value} (hv : xs.toList.map a.eval = vs) : (execOp a.eval o).run Try.prog W = .ok (.enter f (vs.toArray ++ cap)) W := by
  have hm : xs.map a.eval = vs.toArray := by rw [← hv, ← Array.toList_map]
  have := hf (xs.map a.eval ++ cap)
  rw [← hm]
  unfold execOp
  simp only [ho, resolve, Sem.run_bind]
  rw [hx]
  simp [Deferred.ofValue, invoke, this]
theorem ex_mkf {f : Nat} {cs : Array Operand} (ho : o.op = .makeFunc (.func f) #[] cs) {vs : List Value} (hv : cs.toList.map a.eval = vs) : (execOp a.eval o).run Try.prog W = .ok (.value (.func (.func f) #[] vs.toArray)) W := by
  have hm : cs.map a.eval = vs.toArray := by rw [← hv, ← Array.toList_map]
  rw [← hm]
  unfold execOp
  simp only [ho]
  go_simp
theorem ex_build0 {t : Nat} (ho : o.op = .build t #[]) (hb : (Instr.build t #[]).run Try.prog W = .ok v W) : (execOp a.eval o).run Try.prog W = .ok (.value v) W := by
  unfold execOp
  simp [ho, hb]
theorem ex_build1 {t k1 : Nat} {x : Operand} (ho : o.op = .build t #[(k1, x)]) {v1 : Value} (h1 : a.eval x = v1) (hb : (Instr.build t #[(k1, v1)]).run Try.prog W = .ok v W) : (execOp a.eval o).run Try.prog W = .ok (.value v) W := by
  unfold execOp
  simp [ho, h1, hb]
theorem ex_build2 {t k1 k2 : Nat} {x y : Operand} (ho : o.op = .build t #[(k1, x), (k2, y)]) {v1 v2 : Value} (h1 : a.eval x = v1) (h2 : a.eval y = v2) (hb : (Instr.build t #[(k1, v1), (k2, v2)]).run Try.prog W = .ok v W) : (execOp a.eval o).run Try.prog W = .ok (.value v) W := by
  unfold execOp
  simp [ho, h1, h2, hb]
theorem ex_build3 {t k1 k2 k3 : Nat} {x y z : Operand} (ho : o.op = .build t #[(k1, x), (k2, y), (k3, z)]) {v1 v2 v3 : Value} (h1 : a.eval x = v1) (h2 : a.eval y = v2) (h3 : a.eval z = v3) (hb : (Instr.build t #[(k1, v1), (k2, v2), (k3, v3)]).run Try.prog W = .ok v W) : (execOp a.eval o).run Try.prog W = .ok (.value v) W := by
  unfold execOp
  simp [ho, h1, h2, h3, hb]
theorem ex_build4 {t k1 k2 k3 k4 : Nat} {x y z u : Operand} (ho : o.op = .build t #[(k1, x), (k2, y), (k3, z), (k4, u)]) {v1 v2 v3 v4 : Value} (h1 : a.eval x = v1) (h2 : a.eval y = v2) (h3 : a.eval z = v3) (h4 : a.eval u = v4) (hb : (Instr.build t #[(k1, v1), (k2, v2), (k3, v3), (k4, v4)]).run Try.prog W = .ok v W) : (execOp a.eval o).run Try.prog W = .ok (.value v) W := by
  unfold execOp
  simp [ho, h1, h2, h3, h4, hb]
theorem ex_bsl0 {t : Nat} (ho : o.op = .buildSlice t 0 #[]) (hb : (Instr.buildSlice t 0 #[]).run Try.prog W = .ok v W') : (execOp a.eval o).run Try.prog W = .ok (.value v) W' := by
  unfold execOp
  simp [ho, hb]
theorem ex_bsl1 {x : Operand} {t : Nat} (ho : o.op = .buildSlice t 1 #[(0, x)]) {u : Value} (h1 : a.eval x = u) (hb : (Instr.buildSlice t 1 #[(0, u)]).run Try.prog W = .ok v W') : (execOp a.eval o).run Try.prog W = .ok (.value v) W' := by
  unfold execOp
  simp [ho, h1, hb]
theorem ex_bsl2 {x y : Operand} {t : Nat} (ho : o.op = .buildSlice t 2 #[(0, x), (1, y)]) {u r : Value} (h1 : a.eval x = u) (h2 : a.eval y = r) (hb : (Instr.buildSlice t 2 #[(0, u), (1, r)]).run Try.prog W = .ok v W') : (execOp a.eval o).run Try.prog W = .ok (.value v) W' := by
  unfold execOp
  simp [ho, h1, h2, hb]
theorem ex_bsl3 {x y z : Operand} {t : Nat} (ho : o.op = .buildSlice t 3 #[(0, x), (1, y), (2, z)]) {u r s : Value} (h1 : a.eval x = u) (h2 : a.eval y = r) (h3 : a.eval z = s) (hb : (Instr.buildSlice t 3 #[(0, u), (1, r), (2, s)]).run Try.prog W = .ok v W') : (execOp a.eval o).run Try.prog W = .ok (.value v) W' := by
  unfold execOp
  simp [ho, h1, h2, h3, hb]
theorem ex_box {x : Operand} {C : Array Value} {T : Nat} (ho : o.op = .box T x) (hx : a.eval x = .agg C) : (execOp a.eval o).run Try.prog W = .ok (.value (.pointer (some ⟨W.heap.size, 0, none⟩))) (W.alloc (.cells C T)) := by
  unfold execOp
  simp only [ho, hx]
  go_simp
theorem ex_box3 {x : Operand} {n : Int} (ho : o.op = .box 3 x) (hx : a.eval x = .int .i64 n) : (execOp a.eval o).run Try.prog W = .ok (.value (.pointer (some ⟨W.heap.size, 0, none⟩))) (W.alloc (.cells #[.int .i64 n] 3)) := by
  unfold execOp
  simp only [ho, hx]
  go_simp
theorem ex_alloc {T : Nat} {Z : Array Value} {n : Nat} (ho : o.op = .alloc T) (hz : (Try.prog.info? T).map (fun i => (i.zero, i.size)) = some (some (.agg Z), n)) : (execOp a.eval o).run Try.prog W = .ok (.value (.pointer (some ⟨W.heap.size, 0, none⟩))) (W.alloc (.cells Z T)) := by
  have hz := zero_of_info hz
  unfold execOp
  simp only [ho]
  go_simp
end

section
variable {o : Oper} {a : Act} {W : World}
/-- a function that is a value is called: what it is bound to ahead, what it captured behind -/
theorem ex_callq {f : Nat} {x : Operand} {xs : Array Operand} {ts : Array TypeId} {q cap : Array Value} (ho : o.op = .call { callee := .value x, args := xs, argTypes := ts }) (hx : a.eval x = .func (.func f) q cap) (hf : ∀ vs, (callFunc f vs).run Try.prog W = .ok (.enter f vs) W) {vs : List Value} (hv : xs.toList.map a.eval = vs) : (execOp a.eval o).run Try.prog W = .ok (.enter f (q ++ vs.toArray ++ cap)) W := by
  have hm : xs.map a.eval = vs.toArray := by rw [← hv, ← Array.toList_map]
  have := hf (q ++ xs.map a.eval ++ cap)
  rw [← hm]
  unfold execOp
  simp only [ho, resolve, Sem.run_bind]
  rw [hx]
  simp [Deferred.ofValue, invoke] at this ⊢
  exact this
theorem ex_mkb {f : Nat} {x : Operand} {v : Value} (ho : o.op = .makeFunc (.func f) #[x] #[]) (hv : a.eval x = v) : (execOp a.eval o).run Try.prog W = .ok (.value (.func (.func f) #[v] #[])) W := by
  subst hv
  unfold execOp
  simp only [ho]
  go_simp
theorem ex_boxf {T : Nat} {x : Operand} {f : Fn} {q : Array Value} {cap : Array Value} (ho : o.op = .box T x) (hx : a.eval x = .func f q cap) : (execOp a.eval o).run Try.prog W = .ok (.value (.pointer (some ⟨W.heap.size, 0, none⟩))) (W.alloc (.cells #[.func f q cap] T)) := by
  unfold execOp
  simp only [ho, hx]
  go_simp
theorem ex_build5 {t k1 k2 k3 k4 k5 : Nat} {x y z u s : Operand} (ho : o.op = .build t #[(k1, x), (k2, y), (k3, z), (k4, u), (k5, s)]) {v v1 v2 v3 v4 v5 : Value} (h1 : a.eval x = v1) (h2 : a.eval y = v2) (h3 : a.eval z = v3) (h4 : a.eval u = v4) (h5 : a.eval s = v5) (hb : (Instr.build t #[(k1, v1), (k2, v2), (k3, v3), (k4, v4), (k5, v5)]).run Try.prog W = .ok v W) : (execOp a.eval o).run Try.prog W = .ok (.value v) W := by
  unfold execOp
  simp [ho, h1, h2, h3, h4, h5, hb]
end

section
variable {ops : Array Oper} {rest : List Oper} {o : Oper} {a : Act} {w w' : World} {Q : Exit → Act → World → Prop} {md : Region.Mode} {fuel : Nat} {L : Array Bool} {i j k l : Nat} {v : Value} {S : World → Prop}
theorem ah_take (d : Option Tmp) (hi : ops[i]? = some o) (hd : o.dst = d) (hs : Region.noSelect ops = true) (hf : Region.free md ops L i = true) (hr : (Region.ready md ops L).contains i = true) (hw : Region.wanted o (yielded ops a.tmps) = true) (hx : ∀ W, S W → (execOp a.eval o).run Try.prog W = .ok (.value v) W) (hS : S w)
    (hQ : ∀ c a w, Q (.panic c) (a.put d v) w → Q (.panic c) a w) (h : wpAnyH Try.prog md ops Q S fuel (L.setIfInBounds i true) (a.put d v) w) : wpAnyH Try.prog md ops Q S (fuel + 1) L a w := by
  subst hd
  exact wpAnyH_take hi hs hf hr hQ (.inl ⟨hw, hx⟩) hS h
theorem ah_skip (d : Option Tmp) (hi : ops[i]? = some o) (hd : o.dst = d) (hs : Region.noSelect ops = true) (hf : Region.free md ops L i = true) (hr : (Region.ready md ops L).contains i = true) (hw : Region.wanted o (yielded ops a.tmps) = false) (hS : S w)
    (hQ : ∀ c a w, Q (.panic c) (a.put d undef) w → Q (.panic c) a w) (h : wpAnyH Try.prog md ops Q S fuel (L.setIfInBounds i true) (a.put d undef) w) : wpAnyH Try.prog md ops Q S (fuel + 1) L a w := by
  subst hd
  exact wpAnyH_take hi hs hf hr hQ (.inr ⟨hw, rfl⟩) hS h
theorem ah_done (hr : Region.ready md ops L = []) (h : Q .normal a w) : wpAnyH Try.prog md ops Q S fuel L a w := wpAnyH_done hr h _
/-- it comes up next -/
def Nx (md : Region.Mode) (ops : Array Oper) (Q : Exit → Act → World → Prop) (S : World → Prop) (fuel : Nat) (L : Array Bool) (i : Nat) (a : Act) (w : World) : Prop := wpOp Try.prog ops Q i (fun a' w' => S w' ∧ wpAnyH Try.prog md ops Q S fuel (L.setIfInBounds i true) a' w') a w
theorem ah_or1 (hr : Region.ready md ops L = [i]) (h1 : Nx md ops Q S fuel L i a w) : wpAnyH Try.prog md ops Q S (fuel + 1) L a w :=
  wpAnyH_all hr (by simp) fun m hm => by rw [List.mem_singleton.1 hm]; exact h1
theorem ah_or2 (hr : Region.ready md ops L = [i, j]) (h1 : Nx md ops Q S fuel L i a w) (h2 : Nx md ops Q S fuel L j a w) : wpAnyH Try.prog md ops Q S (fuel + 1) L a w :=
  wpAnyH_all hr (by simp) fun m hm => by
    rcases List.mem_cons.1 hm with rfl | hm
    · exact h1
    · rw [List.mem_singleton.1 hm]; exact h2
theorem ah_or3 (hr : Region.ready md ops L = [i, j, k]) (h1 : Nx md ops Q S fuel L i a w) (h2 : Nx md ops Q S fuel L j a w) (h3 : Nx md ops Q S fuel L k a w) : wpAnyH Try.prog md ops Q S (fuel + 1) L a w :=
  wpAnyH_all hr (by simp) fun m hm => by
    rcases List.mem_cons.1 hm with rfl | hm
    · exact h1
    rcases List.mem_cons.1 hm with rfl | hm
    · exact h2
    · rw [List.mem_singleton.1 hm]; exact h3
theorem nx_wp (hi : ops[i]? = some o) (hw : Region.wanted o (yielded ops a.tmps) = true)
    (h : ∀ K : Act → World → Prop, (∀ a' w', S w' → wpAnyH Try.prog md ops Q S fuel (L.setIfInBounds i true) a' w' → K a' w') → o.wp Try.prog a w K Q) : Nx md ops Q S fuel L i a w :=
  wpOp_step hi fun K hK => by rw [if_pos hw]; exact h K (fun a' w' h1 h2 => hK a' w' ⟨h1, h2⟩)
theorem nx_to (d : Option Tmp) (hi : ops[i]? = some o) (hd : o.dst = d) (hw : Region.wanted o (yielded ops a.tmps) = true) (hx : (execOp a.eval o).run Try.prog w = .ok (.value v) w') (hS : S w')
    (h : wpAnyH Try.prog md ops Q S fuel (L.setIfInBounds i true) (a.put d v) w') : Nx md ops Q S fuel L i a w :=
  nx_wp hi hw fun K hK => by subst hd; unfold Oper.wp; rw [hx]; exact hK _ _ hS h
theorem nx_sk (hi : ops[i]? = some o) (hd : o.dst = none) (hw : Region.wanted o (yielded ops a.tmps) = true) (hx : (execOp a.eval o).run Try.prog w = .ok .skip w') (hS : S w')
    (h : wpAnyH Try.prog md ops Q S fuel (L.setIfInBounds i true) a w') : Nx md ops Q S fuel L i a w :=
  nx_wp hi hw fun K hK => by unfold Oper.wp; rw [hx]; exact hK _ _ hS (by rw [hd]; exact h)
theorem nx_call (d : Option Tmp) (hi : ops[i]? = some o) (hd : o.dst = d) (hw : Region.wanted o (yielded ops a.tmps) = true) {f : FuncId} {args : Array Value} {post : Ending → World → Prop} (hc : Calls Try.prog f args w post) (hx : (execOp a.eval o).run Try.prog w = .ok (.enter f args) w)
    (h : ∀ e w', post e w' → ∃ v, e = .returned v ∧ S w' ∧ wpAnyH Try.prog md ops Q S fuel (L.setIfInBounds i true) (a.put d v) w') : Nx md ops Q S fuel L i a w :=
  nx_wp hi hw fun K hK => by
    subst hd
    unfold Oper.wp
    rw [hx]
    refine Calls.mono hc fun e w' hp => ?_
    obtain ⟨v, rfl, hS, h'⟩ := h e w' hp
    exact hK _ _ hS h'
theorem nx_new (V : Nat → Value) (d : Option Tmp) (hi : ops[i]? = some o) (hd : o.dst = d) (hw : Region.wanted o (yielded ops a.tmps) = true) {ob : Obj} (hx : (execOp a.eval o).run Try.prog w = .ok (.value (V w.heap.size)) (w.alloc ob))
    (h : ∀ b w', w'.heap[b]? = some ob → w.heap.size ≤ b → Below w.heap.size w w' → S w' ∧ wpAnyH Try.prog md ops Q S fuel (L.setIfInBounds i true) (a.put d (V b)) w') : Nx md ops Q S fuel L i a w :=
  have hh := h _ _ (heap_alloc_last w ob) (Nat.le_refl _) ((Below.refl _ _).alloc (Nat.le_refl _) ob)
  nx_to d hi hd hw hx hh.1 hh.2
end
/-- a store of all of a block -/
theorem put_all {W : World} {b T : Nat} {C D : Array Value} (k : W.heap[b]? = some (.cells C T)) (hs : C.size = D.size) (hi : (Try.prog.info? T).map (·.size) = some D.size) (h1 : D.all (·.oneCell') = true) :
    ∃ W', (Instr.storeAt T (.pointer (some ⟨b, 0, none⟩)) (.agg D)).run Try.prog W = .ok () W' ∧ W'.heap[b]? = some (.cells D T) ∧ Kept (· = b) W W' := by
  refine ⟨W.setRow b D, ?_, setRow_heap W b C D T _ k, ⟨rfl, rfl, rfl, by simp, fun j hj hn => setRow_other W b j D hn⟩⟩
  simp only [Instr.storeAt, Instr.sureAddr, Sem.run_bind, Sem.run_pure, Result.andThen]
  exact run_storeVar_row _ _ T T C D k hi hs h1
/-- a store of one cell -/
theorem put_cell {W : World} {b T i : Nat} {C : Array Value} (v : Value) (k : W.heap[b]? = some (.cells C T)) : (W.setCell ⟨b, i, none⟩ v).heap[b]? = some (.cells (C.setIfInBounds i v) T) ∧ Kept (· = b) W (W.setCell ⟨b, i, none⟩ v) :=
  ⟨Go.heap_setCell_same W b i C T v k, ⟨rfl, rfl, rfl, by simp [World.setCell], fun j hj hn => Below.heap_setCell W _ _ j hn⟩⟩
theorem unfrozen {W : World} {b T i : Nat} {C : Array Value} (k : W.heap[b]? = some (.cells C T)) : W.frozen? ⟨b, i, none⟩ = false := by
  simp [World.frozen?, k]
theorem ld_all {W : World} {b T : Nat} {C : Array Value} {d : TypeDesc} (hb : W.heap[b]? = some (.cells C T)) (hu : Try.prog.underlying T = some d) (hd : d.isRow = true) (hi : (Try.prog.info? T).map (·.size) = some C.size) :
    (Instr.loadAt T (.pointer (some ⟨b, 0, none⟩))).run Try.prog W = .ok (.agg C) W := by
  have := run_loadAt_mid (P := Try.prog) W b 0 T (C.toList) d (fun j v hv => by
    rw [Nat.zero_add]
    exact at_cell hb (by simpa using hv)) hu hd (by simpa using hi)
  simpa using this
/-- a part of a block -/
theorem ld_part {W : World} {b o n T t : Nat} {C : Array Value} {d : TypeDesc} (hb : W.heap[b]? = some (.cells C T)) (hn : o + n ≤ C.size) (hu : Try.prog.underlying t = some d) (hd : d.isRow = true) (hi : (Try.prog.info? t).map (·.size) = some n) :
    (Instr.loadAt t (.pointer (some ⟨b, o, none⟩))).run Try.prog W = .ok (.agg (C.extract o (o + n))) W := by
  have := run_loadAt_mid (P := Try.prog) W b o t ((C.extract o (o + n)).toList) d (at_range hb hn) hu hd (by rw [hi]; simp; omega)
  rw [Array.toArray_toList] at this
  exact this
/-- cells, wherever they are -/
theorem ld_range {W : World} {b o t : Nat} {C : Array Value} {d : TypeDesc} (hb : W.rangeAt b o C.toList) (hu : Try.prog.underlying t = some d) (hd : d.isRow = true) (hi : (Try.prog.info? t).map (·.size) = some C.size) :
    (Instr.loadAt t (.pointer (some ⟨b, o, none⟩))).run Try.prog W = .ok (.agg C) W := by
  have := run_loadAt_mid (P := Try.prog) W b o t (C.toList) d hb hu hd (by simpa using hi)
  simpa using this


theorem inf32 : (Try.prog.info? 32).map (·.size) = some 7 := by kernel_rfl
theorem inf36 : (Try.prog.info? 36).map (·.size) = some 5 := by kernel_rfl
theorem inf43 : (Try.prog.info? 43).map (·.size) = some 2 := by kernel_rfl
theorem inf45 : (Try.prog.info? 45).map (·.size) = some 5 := by kernel_rfl
theorem inf47 : (Try.prog.info? 47).map (·.size) = some 4 := by kernel_rfl
theorem inf49 : (Try.prog.info? 49).map (·.size) = some 13 := by kernel_rfl
theorem inf54 : (Try.prog.info? 54).map (·.size) = some 101 := by kernel_rfl
theorem inf60 : (Try.prog.info? 60).map (·.size) = some 17 := by kernel_rfl
theorem inf74 : (Try.prog.info? 74).map (·.size) = some 1 := by kernel_rfl
theorem inf84 : (Try.prog.info? 84).map (·.size) = some 7 := by kernel_rfl
theorem inf90 : (Try.prog.info? 90).map (·.size) = some 8 := by kernel_rfl
theorem inf93 : (Try.prog.info? 93).map (·.size) = some 2 := by kernel_rfl
theorem inf105 : (Try.prog.info? 105).map (·.size) = some 1 := by kernel_rfl
theorem inf113 : (Try.prog.info? 113).map (·.size) = some 8 := by kernel_rfl
theorem inf117 : (Try.prog.info? 117).map (·.size) = some 8 := by kernel_rfl
theorem inf119 : (Try.prog.info? 119).map (·.size) = some 0 := by kernel_rfl
theorem zero32 : (Try.prog.info? 32).map (fun i => (i.zero, i.size)) = some (some (.agg #[.int .i64 0, .int .i64 0, .int .i64 0, .int .i64 0, .int .i64 0, .slice none 0 0, .int .i64 0]), 7) := by kernel_rfl
theorem zero36 : (Try.prog.info? 36).map (fun i => (i.zero, i.size)) = some (some (.agg #[.slice none 0 0, .slice none 0 0, .slice none 0 0, .int .i64 0, .float .f64 0]), 5) := by kernel_rfl
theorem zero43 : (Try.prog.info? 43).map (fun i => (i.zero, i.size)) = some (some (.agg #[.int .i64 0, .int .i64 0]), 2) := by kernel_rfl
theorem zero45 : (Try.prog.info? 45).map (fun i => (i.zero, i.size)) = some (some (.agg #[.int .i64 0, .int .i64 0, .int .i64 0, .int .i64 0, .int .i64 0]), 5) := by kernel_rfl
theorem zero47 : (Try.prog.info? 47).map (fun i => (i.zero, i.size)) = some (some (.agg #[.int .i64 0, .int .i64 0, .int .i64 0, .int .i64 0]), 4) := by kernel_rfl
theorem zero49 : (Try.prog.info? 49).map (fun i => (i.zero, i.size)) = some (some (.agg #[.int .i64 0, .int .i64 0, .int .i64 0, .int .i64 0, .int .i64 0, .int .i64 0, .int .i64 0, .int .i64 0, .int .i64 0, .int .i64 0, .int .i64 0, .int .i64 0, .int .i64 0]), 13) := by kernel_rfl
theorem zero60 : (Try.prog.info? 60).map (fun i => (i.zero, i.size)) = some (some (.agg #[.int .i64 0, .int .i64 0, .int .i64 0, .int .i64 0, .int .i64 0, .int .i64 0, .int .i64 0, .int .i64 0, .int .i64 0, .int .i64 0, .int .i64 0, .int .i64 0, .int .i64 0, .int .i64 0, .int .i64 0, .int .i64 0, .bool false]), 17) := by kernel_rfl
theorem zero90 : (Try.prog.info? 90).map (fun i => (i.zero, i.size)) = some (some (.agg #[.int .i64 0, .int .i64 0, .int .i64 0, .int .i64 0, .int .i64 0, .int .i64 0, .int .i64 0, .int .i64 0]), 8) := by kernel_rfl
theorem zero93 : (Try.prog.info? 93).map (fun i => (i.zero, i.size)) = some (some (.agg #[.int .i64 0, .nilFunc]), 2) := by kernel_rfl
theorem zero113 : (Try.prog.info? 113).map (fun i => (i.zero, i.size)) = some (some (.agg #[.slice none 0 0, .slice none 0 0, .slice none 0 0, .slice none 0 0, .slice none 0 0, .slice none 0 0, .slice none 0 0, .slice none 0 0]), 8) := by kernel_rfl
theorem zero117 : (Try.prog.info? 117).map (fun i => (i.zero, i.size)) = some (some (.agg #[.bool false, .bool false, .bool false, .bool false, .bool false, .bool false, .bool false, .bool false]), 8) := by kernel_rfl
theorem zero119 : (Try.prog.info? 119).map (fun i => (i.zero, i.size)) = some (some (.agg #[]), 0) := by kernel_rfl
theorem ld3 {W : World} {b o : Nat} {n : Int} (h : W.cell? ⟨b, o, none⟩ = some (.int .i64 n)) : (Instr.loadAt 3 (.pointer (some ⟨b, o, none⟩))).run Try.prog W = .ok (.int .i64 n) W := by go_simp
theorem ld4 {W : World} {b o : Nat} {n : Bool} (h : W.cell? ⟨b, o, none⟩ = some (.bool n)) : (Instr.loadAt 4 (.pointer (some ⟨b, o, none⟩))).run Try.prog W = .ok (.bool n) W := by go_simp
theorem ld23 {W : World} {b o : Nat} {x : Option Addr} (h : W.cell? ⟨b, o, none⟩ = some (.pointer x)) : (Instr.loadAt 23 (.pointer (some ⟨b, o, none⟩))).run Try.prog W = .ok (.pointer x) W := by go_simp
theorem ld27 {W : World} {b o : Nat} {f : Fn} {q cap : Array Value} (h : W.cell? ⟨b, o, none⟩ = some (.func f q cap)) : (Instr.loadAt 27 (.pointer (some ⟨b, o, none⟩))).run Try.prog W = .ok (.func f q cap) W := by go_simp
theorem ld30 {W : World} {b o : Nat} {x : Option Addr} {n c : Nat} (h : W.cell? ⟨b, o, none⟩ = some (.slice x n c)) : (Instr.loadAt 30 (.pointer (some ⟨b, o, none⟩))).run Try.prog W = .ok (.slice x n c) W := by go_simp
theorem ld33 {W : World} {b o : Nat} {x : Option Addr} {n c : Nat} (h : W.cell? ⟨b, o, none⟩ = some (.slice x n c)) : (Instr.loadAt 33 (.pointer (some ⟨b, o, none⟩))).run Try.prog W = .ok (.slice x n c) W := by go_simp
theorem ld34 {W : World} {b o : Nat} {n : Nat} (h : W.cell? ⟨b, o, none⟩ = some (.float .f64 n)) : (Instr.loadAt 34 (.pointer (some ⟨b, o, none⟩))).run Try.prog W = .ok (.float .f64 n) W := by go_simp
theorem sto3 {W : World} {b i : Nat} {old : Value} {n : Int} (h : W.cell? ⟨b, i, none⟩ = some old) (hf : W.frozen? ⟨b, i, none⟩ = false) : (Instr.storeAt 3 (.pointer (some ⟨b, i, none⟩)) (.int .i64 n)).run Try.prog W = .ok () (W.setCell ⟨b, i, none⟩ (.int .i64 n)) := by
  go_simp
theorem sto4 {W : World} {b i : Nat} {old : Value} {n : Bool} (h : W.cell? ⟨b, i, none⟩ = some old) (hf : W.frozen? ⟨b, i, none⟩ = false) : (Instr.storeAt 4 (.pointer (some ⟨b, i, none⟩)) (.bool n)).run Try.prog W = .ok () (W.setCell ⟨b, i, none⟩ (.bool n)) := by
  go_simp
theorem sto30 {W : World} {b i : Nat} {old : Value} {x : Option Addr} {n c : Nat} (h : W.cell? ⟨b, i, none⟩ = some old) (hf : W.frozen? ⟨b, i, none⟩ = false) : (Instr.storeAt 30 (.pointer (some ⟨b, i, none⟩)) (.slice x n c)).run Try.prog W = .ok () (W.setCell ⟨b, i, none⟩ (.slice x n c)) := by
  go_simp
theorem sto33 {W : World} {b i : Nat} {old : Value} {x : Option Addr} {n c : Nat} (h : W.cell? ⟨b, i, none⟩ = some old) (hf : W.frozen? ⟨b, i, none⟩ = false) : (Instr.storeAt 33 (.pointer (some ⟨b, i, none⟩)) (.slice x n c)).run Try.prog W = .ok () (W.setCell ⟨b, i, none⟩ (.slice x n c)) := by
  go_simp
theorem sto34 {W : World} {b i : Nat} {old : Value} {n : Nat} (h : W.cell? ⟨b, i, none⟩ = some old) (hf : W.frozen? ⟨b, i, none⟩ = false) : (Instr.storeAt 34 (.pointer (some ⟨b, i, none⟩)) (.float .f64 n)).run Try.prog W = .ok () (W.setCell ⟨b, i, none⟩ (.float .f64 n)) := by
  go_simp
  rw [run_store _ _ _ _ _ rfl]
  go_simp
theorem len22 (x : Option Addr) (n c : Nat) (ty : TypeId) (W : World) : (Builtin.len_ #[22] ty #[.slice x n c]).run Try.prog W = .ok (.int .i64 n) W := by go_simp
theorem len30 (x : Option Addr) (n c : Nat) (ty : TypeId) (W : World) : (Builtin.len_ #[30] ty #[.slice x n c]).run Try.prog W = .ok (.int .i64 n) W := by go_simp
theorem len33 (x : Option Addr) (n c : Nat) (ty : TypeId) (W : World) : (Builtin.len_ #[33] ty #[.slice x n c]).run Try.prog W = .ok (.int .i64 n) W := by go_simp
theorem len50 (x : Option Addr) (n c : Nat) (ty : TypeId) (W : World) : (Builtin.len_ #[50] ty #[.slice x n c]).run Try.prog W = .ok (.int .i64 n) W := by go_simp
theorem len124 (x : Option Addr) (n c : Nat) (ty : TypeId) (W : World) : (Builtin.len_ #[124] ty #[.slice x n c]).run Try.prog W = .ok (.int .i64 n) W := by go_simp
theorem len139 (x : Option Addr) (n c : Nat) (ty : TypeId) (W : World) : (Builtin.len_ #[139] ty #[.slice x n c]).run Try.prog W = .ok (.int .i64 n) W := by go_simp
theorem fa32_0 (b : Nat) (W : World) : (Instr.fieldAt 32 (.pointer (some ⟨b, 0, none⟩)) 0).run Try.prog W = .ok (.pointer (some ⟨b, 0, none⟩)) W := by go_simp
theorem fg32_0 (b p : Nat) (W : World) : (Instr.fieldAt 32 (.pointer (some ⟨b, p, none⟩)) 0).run Try.prog W = .ok (.pointer (some ⟨b, p, none⟩)) W := by go_simp
theorem fa32_1 (b : Nat) (W : World) : (Instr.fieldAt 32 (.pointer (some ⟨b, 0, none⟩)) 1).run Try.prog W = .ok (.pointer (some ⟨b, 1, none⟩)) W := by go_simp
theorem fg32_1 (b p : Nat) (W : World) : (Instr.fieldAt 32 (.pointer (some ⟨b, p, none⟩)) 1).run Try.prog W = .ok (.pointer (some ⟨b, p + 1, none⟩)) W := by go_simp
theorem fa32_2 (b : Nat) (W : World) : (Instr.fieldAt 32 (.pointer (some ⟨b, 0, none⟩)) 2).run Try.prog W = .ok (.pointer (some ⟨b, 2, none⟩)) W := by go_simp
theorem fg32_2 (b p : Nat) (W : World) : (Instr.fieldAt 32 (.pointer (some ⟨b, p, none⟩)) 2).run Try.prog W = .ok (.pointer (some ⟨b, p + 2, none⟩)) W := by go_simp
theorem fa32_3 (b : Nat) (W : World) : (Instr.fieldAt 32 (.pointer (some ⟨b, 0, none⟩)) 3).run Try.prog W = .ok (.pointer (some ⟨b, 3, none⟩)) W := by go_simp
theorem fg32_3 (b p : Nat) (W : World) : (Instr.fieldAt 32 (.pointer (some ⟨b, p, none⟩)) 3).run Try.prog W = .ok (.pointer (some ⟨b, p + 3, none⟩)) W := by go_simp
theorem fa32_4 (b : Nat) (W : World) : (Instr.fieldAt 32 (.pointer (some ⟨b, 0, none⟩)) 4).run Try.prog W = .ok (.pointer (some ⟨b, 4, none⟩)) W := by go_simp
theorem fg32_4 (b p : Nat) (W : World) : (Instr.fieldAt 32 (.pointer (some ⟨b, p, none⟩)) 4).run Try.prog W = .ok (.pointer (some ⟨b, p + 4, none⟩)) W := by go_simp
theorem fa32_5 (b : Nat) (W : World) : (Instr.fieldAt 32 (.pointer (some ⟨b, 0, none⟩)) 5).run Try.prog W = .ok (.pointer (some ⟨b, 5, none⟩)) W := by go_simp
theorem fg32_5 (b p : Nat) (W : World) : (Instr.fieldAt 32 (.pointer (some ⟨b, p, none⟩)) 5).run Try.prog W = .ok (.pointer (some ⟨b, p + 5, none⟩)) W := by go_simp
theorem fa32_6 (b : Nat) (W : World) : (Instr.fieldAt 32 (.pointer (some ⟨b, 0, none⟩)) 6).run Try.prog W = .ok (.pointer (some ⟨b, 6, none⟩)) W := by go_simp
theorem fg32_6 (b p : Nat) (W : World) : (Instr.fieldAt 32 (.pointer (some ⟨b, p, none⟩)) 6).run Try.prog W = .ok (.pointer (some ⟨b, p + 6, none⟩)) W := by go_simp
theorem fa36_0 (b : Nat) (W : World) : (Instr.fieldAt 36 (.pointer (some ⟨b, 0, none⟩)) 0).run Try.prog W = .ok (.pointer (some ⟨b, 0, none⟩)) W := by go_simp
theorem fg36_0 (b p : Nat) (W : World) : (Instr.fieldAt 36 (.pointer (some ⟨b, p, none⟩)) 0).run Try.prog W = .ok (.pointer (some ⟨b, p, none⟩)) W := by go_simp
theorem fa36_1 (b : Nat) (W : World) : (Instr.fieldAt 36 (.pointer (some ⟨b, 0, none⟩)) 1).run Try.prog W = .ok (.pointer (some ⟨b, 1, none⟩)) W := by go_simp
theorem fg36_1 (b p : Nat) (W : World) : (Instr.fieldAt 36 (.pointer (some ⟨b, p, none⟩)) 1).run Try.prog W = .ok (.pointer (some ⟨b, p + 1, none⟩)) W := by go_simp
theorem fa36_2 (b : Nat) (W : World) : (Instr.fieldAt 36 (.pointer (some ⟨b, 0, none⟩)) 2).run Try.prog W = .ok (.pointer (some ⟨b, 2, none⟩)) W := by go_simp
theorem fg36_2 (b p : Nat) (W : World) : (Instr.fieldAt 36 (.pointer (some ⟨b, p, none⟩)) 2).run Try.prog W = .ok (.pointer (some ⟨b, p + 2, none⟩)) W := by go_simp
theorem fa36_3 (b : Nat) (W : World) : (Instr.fieldAt 36 (.pointer (some ⟨b, 0, none⟩)) 3).run Try.prog W = .ok (.pointer (some ⟨b, 3, none⟩)) W := by go_simp
theorem fg36_3 (b p : Nat) (W : World) : (Instr.fieldAt 36 (.pointer (some ⟨b, p, none⟩)) 3).run Try.prog W = .ok (.pointer (some ⟨b, p + 3, none⟩)) W := by go_simp
theorem fa36_4 (b : Nat) (W : World) : (Instr.fieldAt 36 (.pointer (some ⟨b, 0, none⟩)) 4).run Try.prog W = .ok (.pointer (some ⟨b, 4, none⟩)) W := by go_simp
theorem fg36_4 (b p : Nat) (W : World) : (Instr.fieldAt 36 (.pointer (some ⟨b, p, none⟩)) 4).run Try.prog W = .ok (.pointer (some ⟨b, p + 4, none⟩)) W := by go_simp
theorem fa43_0 (b : Nat) (W : World) : (Instr.fieldAt 43 (.pointer (some ⟨b, 0, none⟩)) 0).run Try.prog W = .ok (.pointer (some ⟨b, 0, none⟩)) W := by go_simp
theorem fg43_0 (b p : Nat) (W : World) : (Instr.fieldAt 43 (.pointer (some ⟨b, p, none⟩)) 0).run Try.prog W = .ok (.pointer (some ⟨b, p, none⟩)) W := by go_simp
theorem fa43_1 (b : Nat) (W : World) : (Instr.fieldAt 43 (.pointer (some ⟨b, 0, none⟩)) 1).run Try.prog W = .ok (.pointer (some ⟨b, 1, none⟩)) W := by go_simp
theorem fg43_1 (b p : Nat) (W : World) : (Instr.fieldAt 43 (.pointer (some ⟨b, p, none⟩)) 1).run Try.prog W = .ok (.pointer (some ⟨b, p + 1, none⟩)) W := by go_simp
theorem fa45_0 (b : Nat) (W : World) : (Instr.fieldAt 45 (.pointer (some ⟨b, 0, none⟩)) 0).run Try.prog W = .ok (.pointer (some ⟨b, 0, none⟩)) W := by go_simp
theorem fg45_0 (b p : Nat) (W : World) : (Instr.fieldAt 45 (.pointer (some ⟨b, p, none⟩)) 0).run Try.prog W = .ok (.pointer (some ⟨b, p, none⟩)) W := by go_simp
theorem fa45_1 (b : Nat) (W : World) : (Instr.fieldAt 45 (.pointer (some ⟨b, 0, none⟩)) 1).run Try.prog W = .ok (.pointer (some ⟨b, 2, none⟩)) W := by go_simp
theorem fg45_1 (b p : Nat) (W : World) : (Instr.fieldAt 45 (.pointer (some ⟨b, p, none⟩)) 1).run Try.prog W = .ok (.pointer (some ⟨b, p + 2, none⟩)) W := by go_simp
theorem fa45_2 (b : Nat) (W : World) : (Instr.fieldAt 45 (.pointer (some ⟨b, 0, none⟩)) 2).run Try.prog W = .ok (.pointer (some ⟨b, 3, none⟩)) W := by go_simp
theorem fg45_2 (b p : Nat) (W : World) : (Instr.fieldAt 45 (.pointer (some ⟨b, p, none⟩)) 2).run Try.prog W = .ok (.pointer (some ⟨b, p + 3, none⟩)) W := by go_simp
theorem fa45_3 (b : Nat) (W : World) : (Instr.fieldAt 45 (.pointer (some ⟨b, 0, none⟩)) 3).run Try.prog W = .ok (.pointer (some ⟨b, 4, none⟩)) W := by go_simp
theorem fg45_3 (b p : Nat) (W : World) : (Instr.fieldAt 45 (.pointer (some ⟨b, p, none⟩)) 3).run Try.prog W = .ok (.pointer (some ⟨b, p + 4, none⟩)) W := by go_simp
theorem fa47_0 (b : Nat) (W : World) : (Instr.fieldAt 47 (.pointer (some ⟨b, 0, none⟩)) 0).run Try.prog W = .ok (.pointer (some ⟨b, 0, none⟩)) W := by go_simp
theorem fg47_0 (b p : Nat) (W : World) : (Instr.fieldAt 47 (.pointer (some ⟨b, p, none⟩)) 0).run Try.prog W = .ok (.pointer (some ⟨b, p, none⟩)) W := by go_simp
theorem fa47_1 (b : Nat) (W : World) : (Instr.fieldAt 47 (.pointer (some ⟨b, 0, none⟩)) 1).run Try.prog W = .ok (.pointer (some ⟨b, 1, none⟩)) W := by go_simp
theorem fg47_1 (b p : Nat) (W : World) : (Instr.fieldAt 47 (.pointer (some ⟨b, p, none⟩)) 1).run Try.prog W = .ok (.pointer (some ⟨b, p + 1, none⟩)) W := by go_simp
theorem fa47_2 (b : Nat) (W : World) : (Instr.fieldAt 47 (.pointer (some ⟨b, 0, none⟩)) 2).run Try.prog W = .ok (.pointer (some ⟨b, 2, none⟩)) W := by go_simp
theorem fg47_2 (b p : Nat) (W : World) : (Instr.fieldAt 47 (.pointer (some ⟨b, p, none⟩)) 2).run Try.prog W = .ok (.pointer (some ⟨b, p + 2, none⟩)) W := by go_simp
theorem fa47_3 (b : Nat) (W : World) : (Instr.fieldAt 47 (.pointer (some ⟨b, 0, none⟩)) 3).run Try.prog W = .ok (.pointer (some ⟨b, 3, none⟩)) W := by go_simp
theorem fg47_3 (b p : Nat) (W : World) : (Instr.fieldAt 47 (.pointer (some ⟨b, p, none⟩)) 3).run Try.prog W = .ok (.pointer (some ⟨b, p + 3, none⟩)) W := by go_simp
theorem fa49_0 (b : Nat) (W : World) : (Instr.fieldAt 49 (.pointer (some ⟨b, 0, none⟩)) 0).run Try.prog W = .ok (.pointer (some ⟨b, 0, none⟩)) W := by go_simp
theorem fg49_0 (b p : Nat) (W : World) : (Instr.fieldAt 49 (.pointer (some ⟨b, p, none⟩)) 0).run Try.prog W = .ok (.pointer (some ⟨b, p, none⟩)) W := by go_simp
theorem fa49_1 (b : Nat) (W : World) : (Instr.fieldAt 49 (.pointer (some ⟨b, 0, none⟩)) 1).run Try.prog W = .ok (.pointer (some ⟨b, 1, none⟩)) W := by go_simp
theorem fg49_1 (b p : Nat) (W : World) : (Instr.fieldAt 49 (.pointer (some ⟨b, p, none⟩)) 1).run Try.prog W = .ok (.pointer (some ⟨b, p + 1, none⟩)) W := by go_simp
theorem fa49_2 (b : Nat) (W : World) : (Instr.fieldAt 49 (.pointer (some ⟨b, 0, none⟩)) 2).run Try.prog W = .ok (.pointer (some ⟨b, 2, none⟩)) W := by go_simp
theorem fg49_2 (b p : Nat) (W : World) : (Instr.fieldAt 49 (.pointer (some ⟨b, p, none⟩)) 2).run Try.prog W = .ok (.pointer (some ⟨b, p + 2, none⟩)) W := by go_simp
theorem fa49_3 (b : Nat) (W : World) : (Instr.fieldAt 49 (.pointer (some ⟨b, 0, none⟩)) 3).run Try.prog W = .ok (.pointer (some ⟨b, 3, none⟩)) W := by go_simp
theorem fg49_3 (b p : Nat) (W : World) : (Instr.fieldAt 49 (.pointer (some ⟨b, p, none⟩)) 3).run Try.prog W = .ok (.pointer (some ⟨b, p + 3, none⟩)) W := by go_simp
theorem fa49_4 (b : Nat) (W : World) : (Instr.fieldAt 49 (.pointer (some ⟨b, 0, none⟩)) 4).run Try.prog W = .ok (.pointer (some ⟨b, 4, none⟩)) W := by go_simp
theorem fg49_4 (b p : Nat) (W : World) : (Instr.fieldAt 49 (.pointer (some ⟨b, p, none⟩)) 4).run Try.prog W = .ok (.pointer (some ⟨b, p + 4, none⟩)) W := by go_simp
theorem fa49_5 (b : Nat) (W : World) : (Instr.fieldAt 49 (.pointer (some ⟨b, 0, none⟩)) 5).run Try.prog W = .ok (.pointer (some ⟨b, 9, none⟩)) W := by go_simp
theorem fg49_5 (b p : Nat) (W : World) : (Instr.fieldAt 49 (.pointer (some ⟨b, p, none⟩)) 5).run Try.prog W = .ok (.pointer (some ⟨b, p + 9, none⟩)) W := by go_simp
theorem fa54_0 (b : Nat) (W : World) : (Instr.fieldAt 54 (.pointer (some ⟨b, 0, none⟩)) 0).run Try.prog W = .ok (.pointer (some ⟨b, 0, none⟩)) W := by go_simp
theorem fg54_0 (b p : Nat) (W : World) : (Instr.fieldAt 54 (.pointer (some ⟨b, p, none⟩)) 0).run Try.prog W = .ok (.pointer (some ⟨b, p, none⟩)) W := by go_simp
theorem fa54_1 (b : Nat) (W : World) : (Instr.fieldAt 54 (.pointer (some ⟨b, 0, none⟩)) 1).run Try.prog W = .ok (.pointer (some ⟨b, 1, none⟩)) W := by go_simp
theorem fg54_1 (b p : Nat) (W : World) : (Instr.fieldAt 54 (.pointer (some ⟨b, p, none⟩)) 1).run Try.prog W = .ok (.pointer (some ⟨b, p + 1, none⟩)) W := by go_simp
theorem fa54_2 (b : Nat) (W : World) : (Instr.fieldAt 54 (.pointer (some ⟨b, 0, none⟩)) 2).run Try.prog W = .ok (.pointer (some ⟨b, 2, none⟩)) W := by go_simp
theorem fg54_2 (b p : Nat) (W : World) : (Instr.fieldAt 54 (.pointer (some ⟨b, p, none⟩)) 2).run Try.prog W = .ok (.pointer (some ⟨b, p + 2, none⟩)) W := by go_simp
theorem fa54_3 (b : Nat) (W : World) : (Instr.fieldAt 54 (.pointer (some ⟨b, 0, none⟩)) 3).run Try.prog W = .ok (.pointer (some ⟨b, 3, none⟩)) W := by go_simp
theorem fg54_3 (b p : Nat) (W : World) : (Instr.fieldAt 54 (.pointer (some ⟨b, p, none⟩)) 3).run Try.prog W = .ok (.pointer (some ⟨b, p + 3, none⟩)) W := by go_simp
theorem fa54_4 (b : Nat) (W : World) : (Instr.fieldAt 54 (.pointer (some ⟨b, 0, none⟩)) 4).run Try.prog W = .ok (.pointer (some ⟨b, 35, none⟩)) W := by go_simp
theorem fg54_4 (b p : Nat) (W : World) : (Instr.fieldAt 54 (.pointer (some ⟨b, p, none⟩)) 4).run Try.prog W = .ok (.pointer (some ⟨b, p + 35, none⟩)) W := by go_simp
theorem fa54_5 (b : Nat) (W : World) : (Instr.fieldAt 54 (.pointer (some ⟨b, 0, none⟩)) 5).run Try.prog W = .ok (.pointer (some ⟨b, 36, none⟩)) W := by go_simp
theorem fg54_5 (b p : Nat) (W : World) : (Instr.fieldAt 54 (.pointer (some ⟨b, p, none⟩)) 5).run Try.prog W = .ok (.pointer (some ⟨b, p + 36, none⟩)) W := by go_simp
theorem fa54_6 (b : Nat) (W : World) : (Instr.fieldAt 54 (.pointer (some ⟨b, 0, none⟩)) 6).run Try.prog W = .ok (.pointer (some ⟨b, 68, none⟩)) W := by go_simp
theorem fg54_6 (b p : Nat) (W : World) : (Instr.fieldAt 54 (.pointer (some ⟨b, p, none⟩)) 6).run Try.prog W = .ok (.pointer (some ⟨b, p + 68, none⟩)) W := by go_simp
theorem fa54_7 (b : Nat) (W : World) : (Instr.fieldAt 54 (.pointer (some ⟨b, 0, none⟩)) 7).run Try.prog W = .ok (.pointer (some ⟨b, 69, none⟩)) W := by go_simp
theorem fg54_7 (b p : Nat) (W : World) : (Instr.fieldAt 54 (.pointer (some ⟨b, p, none⟩)) 7).run Try.prog W = .ok (.pointer (some ⟨b, p + 69, none⟩)) W := by go_simp
theorem fa60_0 (b : Nat) (W : World) : (Instr.fieldAt 60 (.pointer (some ⟨b, 0, none⟩)) 0).run Try.prog W = .ok (.pointer (some ⟨b, 0, none⟩)) W := by go_simp
theorem fg60_0 (b p : Nat) (W : World) : (Instr.fieldAt 60 (.pointer (some ⟨b, p, none⟩)) 0).run Try.prog W = .ok (.pointer (some ⟨b, p, none⟩)) W := by go_simp
theorem fa60_1 (b : Nat) (W : World) : (Instr.fieldAt 60 (.pointer (some ⟨b, 0, none⟩)) 1).run Try.prog W = .ok (.pointer (some ⟨b, 1, none⟩)) W := by go_simp
theorem fg60_1 (b p : Nat) (W : World) : (Instr.fieldAt 60 (.pointer (some ⟨b, p, none⟩)) 1).run Try.prog W = .ok (.pointer (some ⟨b, p + 1, none⟩)) W := by go_simp
theorem fa60_2 (b : Nat) (W : World) : (Instr.fieldAt 60 (.pointer (some ⟨b, 0, none⟩)) 2).run Try.prog W = .ok (.pointer (some ⟨b, 14, none⟩)) W := by go_simp
theorem fg60_2 (b p : Nat) (W : World) : (Instr.fieldAt 60 (.pointer (some ⟨b, p, none⟩)) 2).run Try.prog W = .ok (.pointer (some ⟨b, p + 14, none⟩)) W := by go_simp
theorem fa60_3 (b : Nat) (W : World) : (Instr.fieldAt 60 (.pointer (some ⟨b, 0, none⟩)) 3).run Try.prog W = .ok (.pointer (some ⟨b, 15, none⟩)) W := by go_simp
theorem fg60_3 (b p : Nat) (W : World) : (Instr.fieldAt 60 (.pointer (some ⟨b, p, none⟩)) 3).run Try.prog W = .ok (.pointer (some ⟨b, p + 15, none⟩)) W := by go_simp
theorem fa60_4 (b : Nat) (W : World) : (Instr.fieldAt 60 (.pointer (some ⟨b, 0, none⟩)) 4).run Try.prog W = .ok (.pointer (some ⟨b, 16, none⟩)) W := by go_simp
theorem fg60_4 (b p : Nat) (W : World) : (Instr.fieldAt 60 (.pointer (some ⟨b, p, none⟩)) 4).run Try.prog W = .ok (.pointer (some ⟨b, p + 16, none⟩)) W := by go_simp
theorem fa74_0 (b : Nat) (W : World) : (Instr.fieldAt 74 (.pointer (some ⟨b, 0, none⟩)) 0).run Try.prog W = .ok (.pointer (some ⟨b, 0, none⟩)) W := by go_simp
theorem fg74_0 (b p : Nat) (W : World) : (Instr.fieldAt 74 (.pointer (some ⟨b, p, none⟩)) 0).run Try.prog W = .ok (.pointer (some ⟨b, p, none⟩)) W := by go_simp
theorem fa84_0 (b : Nat) (W : World) : (Instr.fieldAt 84 (.pointer (some ⟨b, 0, none⟩)) 0).run Try.prog W = .ok (.pointer (some ⟨b, 0, none⟩)) W := by go_simp
theorem fg84_0 (b p : Nat) (W : World) : (Instr.fieldAt 84 (.pointer (some ⟨b, p, none⟩)) 0).run Try.prog W = .ok (.pointer (some ⟨b, p, none⟩)) W := by go_simp
theorem fa84_1 (b : Nat) (W : World) : (Instr.fieldAt 84 (.pointer (some ⟨b, 0, none⟩)) 1).run Try.prog W = .ok (.pointer (some ⟨b, 1, none⟩)) W := by go_simp
theorem fg84_1 (b p : Nat) (W : World) : (Instr.fieldAt 84 (.pointer (some ⟨b, p, none⟩)) 1).run Try.prog W = .ok (.pointer (some ⟨b, p + 1, none⟩)) W := by go_simp
theorem fa84_2 (b : Nat) (W : World) : (Instr.fieldAt 84 (.pointer (some ⟨b, 0, none⟩)) 2).run Try.prog W = .ok (.pointer (some ⟨b, 6, none⟩)) W := by go_simp
theorem fg84_2 (b p : Nat) (W : World) : (Instr.fieldAt 84 (.pointer (some ⟨b, p, none⟩)) 2).run Try.prog W = .ok (.pointer (some ⟨b, p + 6, none⟩)) W := by go_simp
theorem fa90_0 (b : Nat) (W : World) : (Instr.fieldAt 90 (.pointer (some ⟨b, 0, none⟩)) 0).run Try.prog W = .ok (.pointer (some ⟨b, 0, none⟩)) W := by go_simp
theorem fg90_0 (b p : Nat) (W : World) : (Instr.fieldAt 90 (.pointer (some ⟨b, p, none⟩)) 0).run Try.prog W = .ok (.pointer (some ⟨b, p, none⟩)) W := by go_simp
theorem fa90_1 (b : Nat) (W : World) : (Instr.fieldAt 90 (.pointer (some ⟨b, 0, none⟩)) 1).run Try.prog W = .ok (.pointer (some ⟨b, 5, none⟩)) W := by go_simp
theorem fg90_1 (b p : Nat) (W : World) : (Instr.fieldAt 90 (.pointer (some ⟨b, p, none⟩)) 1).run Try.prog W = .ok (.pointer (some ⟨b, p + 5, none⟩)) W := by go_simp
theorem fa90_2 (b : Nat) (W : World) : (Instr.fieldAt 90 (.pointer (some ⟨b, 0, none⟩)) 2).run Try.prog W = .ok (.pointer (some ⟨b, 6, none⟩)) W := by go_simp
theorem fg90_2 (b p : Nat) (W : World) : (Instr.fieldAt 90 (.pointer (some ⟨b, p, none⟩)) 2).run Try.prog W = .ok (.pointer (some ⟨b, p + 6, none⟩)) W := by go_simp
theorem fa90_3 (b : Nat) (W : World) : (Instr.fieldAt 90 (.pointer (some ⟨b, 0, none⟩)) 3).run Try.prog W = .ok (.pointer (some ⟨b, 7, none⟩)) W := by go_simp
theorem fg90_3 (b p : Nat) (W : World) : (Instr.fieldAt 90 (.pointer (some ⟨b, p, none⟩)) 3).run Try.prog W = .ok (.pointer (some ⟨b, p + 7, none⟩)) W := by go_simp
theorem fa93_0 (b : Nat) (W : World) : (Instr.fieldAt 93 (.pointer (some ⟨b, 0, none⟩)) 0).run Try.prog W = .ok (.pointer (some ⟨b, 0, none⟩)) W := by go_simp
theorem fg93_0 (b p : Nat) (W : World) : (Instr.fieldAt 93 (.pointer (some ⟨b, p, none⟩)) 0).run Try.prog W = .ok (.pointer (some ⟨b, p, none⟩)) W := by go_simp
theorem fa93_1 (b : Nat) (W : World) : (Instr.fieldAt 93 (.pointer (some ⟨b, 0, none⟩)) 1).run Try.prog W = .ok (.pointer (some ⟨b, 1, none⟩)) W := by go_simp
theorem fg93_1 (b p : Nat) (W : World) : (Instr.fieldAt 93 (.pointer (some ⟨b, p, none⟩)) 1).run Try.prog W = .ok (.pointer (some ⟨b, p + 1, none⟩)) W := by go_simp
theorem fa105_0 (b : Nat) (W : World) : (Instr.fieldAt 105 (.pointer (some ⟨b, 0, none⟩)) 0).run Try.prog W = .ok (.pointer (some ⟨b, 0, none⟩)) W := by go_simp
theorem fg105_0 (b p : Nat) (W : World) : (Instr.fieldAt 105 (.pointer (some ⟨b, p, none⟩)) 0).run Try.prog W = .ok (.pointer (some ⟨b, p, none⟩)) W := by go_simp
section
variable {o : Oper} {a : Act} {W : World}
theorem ix22 {x y : Operand} {b p n c k : Nat} {i : Int} (ho : o.op = .indexAddr 22 x y) (hx : a.eval x = .slice (some ⟨b, p, none⟩) n c) (hy : a.eval y = .int .i64 i) (hi : i = (k : Int)) (hk : k < n) : (execOp a.eval o).run Try.prog W = .ok (.value (.pointer (some ⟨b, p + k * 17, none⟩))) W := by
  subst hi
  have h1 : (k : Int) < (n : Int) := by omega
  unfold execOp
  simp only [ho, hx, hy]
  go_simp
theorem ix30 {x y : Operand} {b p n c k : Nat} {i : Int} (ho : o.op = .indexAddr 30 x y) (hx : a.eval x = .slice (some ⟨b, p, none⟩) n c) (hy : a.eval y = .int .i64 i) (hi : i = (k : Int)) (hk : k < n) : (execOp a.eval o).run Try.prog W = .ok (.value (.pointer (some ⟨b, p + k, none⟩))) W := by
  subst hi
  have h1 : (k : Int) < (n : Int) := by omega
  unfold execOp
  simp only [ho, hx, hy]
  go_simp
theorem ix33 {x y : Operand} {b p n c k : Nat} {i : Int} (ho : o.op = .indexAddr 33 x y) (hx : a.eval x = .slice (some ⟨b, p, none⟩) n c) (hy : a.eval y = .int .i64 i) (hi : i = (k : Int)) (hk : k < n) : (execOp a.eval o).run Try.prog W = .ok (.value (.pointer (some ⟨b, p + k * 13, none⟩))) W := by
  subst hi
  have h1 : (k : Int) < (n : Int) := by omega
  unfold execOp
  simp only [ho, hx, hy]
  go_simp
theorem ix50 {x y : Operand} {b p n c k : Nat} {i : Int} (ho : o.op = .indexAddr 50 x y) (hx : a.eval x = .slice (some ⟨b, p, none⟩) n c) (hy : a.eval y = .int .i64 i) (hi : i = (k : Int)) (hk : k < n) : (execOp a.eval o).run Try.prog W = .ok (.value (.pointer (some ⟨b, p + k, none⟩))) W := by
  subst hi
  have h1 : (k : Int) < (n : Int) := by omega
  unfold execOp
  simp only [ho, hx, hy]
  go_simp
theorem ix118 {x y : Operand} {b p n c k : Nat} {i : Int} (ho : o.op = .indexAddr 118 x y) (hx : a.eval x = .slice (some ⟨b, p, none⟩) n c) (hy : a.eval y = .int .i64 i) (hi : i = (k : Int)) (hk : k < n) : (execOp a.eval o).run Try.prog W = .ok (.value (.pointer (some ⟨b, p + k, none⟩))) W := by
  subst hi
  have h1 : (k : Int) < (n : Int) := by omega
  unfold execOp
  simp only [ho, hx, hy]
  go_simp
theorem ix124 {x y : Operand} {b p n c k : Nat} {i : Int} (ho : o.op = .indexAddr 124 x y) (hx : a.eval x = .slice (some ⟨b, p, none⟩) n c) (hy : a.eval y = .int .i64 i) (hi : i = (k : Int)) (hk : k < n) : (execOp a.eval o).run Try.prog W = .ok (.value (.pointer (some ⟨b, p + k * 2, none⟩))) W := by
  subst hi
  have h1 : (k : Int) < (n : Int) := by omega
  unfold execOp
  simp only [ho, hx, hy]
  go_simp
theorem ix139 {x y : Operand} {b p n c k : Nat} {i : Int} (ho : o.op = .indexAddr 139 x y) (hx : a.eval x = .slice (some ⟨b, p, none⟩) n c) (hy : a.eval y = .int .i64 i) (hi : i = (k : Int)) (hk : k < n) : (execOp a.eval o).run Try.prog W = .ok (.value (.pointer (some ⟨b, p + k * 2, none⟩))) W := by
  subst hi
  have h1 : (k : Int) < (n : Int) := by omega
  unfold execOp
  simp only [ho, hx, hy]
  go_simp
end
theorem eql3 {x y : Int} {c : Bool} (W : World) (hc : decide (x = y) = c) : (binOp .eql 3 (.int .i64 x) (.int .i64 y)).run Try.prog W = .ok (.bool c) W := by
  subst hc
  go_simp; by_cases h : x = y <;> simp [h]
theorem neq3 {x y : Int} {c : Bool} (W : World) (hc : decide (x ≠ y) = c) : (binOp .neq 3 (.int .i64 x) (.int .i64 y)).run Try.prog W = .ok (.bool c) W := by
  subst hc
  go_simp; by_cases h : x = y <;> simp [h]
theorem lss3 {x y : Int} {c : Bool} (W : World) (hc : decide (x < y) = c) : (binOp .lss 3 (.int .i64 x) (.int .i64 y)).run Try.prog W = .ok (.bool c) W := by
  subst hc
  go_simp
theorem leq3 {x y : Int} {c : Bool} (W : World) (hc : decide (x ≤ y) = c) : (binOp .leq 3 (.int .i64 x) (.int .i64 y)).run Try.prog W = .ok (.bool c) W := by
  subst hc
  go_simp
theorem gtr3 {x y : Int} {c : Bool} (W : World) (hc : decide (y < x) = c) : (binOp .gtr 3 (.int .i64 x) (.int .i64 y)).run Try.prog W = .ok (.bool c) W := by
  subst hc
  go_simp
theorem geq3 {x y : Int} {c : Bool} (W : World) (hc : decide (y ≤ x) = c) : (binOp .geq 3 (.int .i64 x) (.int .i64 y)).run Try.prog W = .ok (.bool c) W := by
  subst hc
  go_simp
theorem eg3 (bop : BinOp) (x y : Operand) (u v : Int) (W : World) : (eqGuard bop 3 x y (.int .i64 u) (.int .i64 v)).run Try.prog W = .ok () W := by cases bop <;> rfl
theorem eql4 {x y c : Bool} (W : World) (hc : (x == y) = c) : (binOp .eql 4 (.bool x) (.bool y)).run Try.prog W = .ok (.bool c) W := by
  subst hc
  cases x <;> cases y <;> (go_simp; try rfl)
theorem neq4 {x y c : Bool} (W : World) (hc : (x != y) = c) : (binOp .neq 4 (.bool x) (.bool y)).run Try.prog W = .ok (.bool c) W := by
  subst hc
  cases x <;> cases y <;> (go_simp; try rfl)
theorem eg4 (bop : BinOp) (x y : Operand) (u v : Bool) (W : World) : (eqGuard bop 4 x y (.bool u) (.bool v)).run Try.prog W = .ok () W := by cases bop <;> rfl
theorem eql37 {x y : Int} {c : Bool} (W : World) (hc : decide (x = y) = c) : (binOp .eql 37 (.int .i64 x) (.int .i64 y)).run Try.prog W = .ok (.bool c) W := by
  subst hc
  go_simp; by_cases h : x = y <;> simp [h]
theorem neq37 {x y : Int} {c : Bool} (W : World) (hc : decide (x ≠ y) = c) : (binOp .neq 37 (.int .i64 x) (.int .i64 y)).run Try.prog W = .ok (.bool c) W := by
  subst hc
  go_simp; by_cases h : x = y <;> simp [h]
theorem lss37 {x y : Int} {c : Bool} (W : World) (hc : decide (x < y) = c) : (binOp .lss 37 (.int .i64 x) (.int .i64 y)).run Try.prog W = .ok (.bool c) W := by
  subst hc
  go_simp
theorem leq37 {x y : Int} {c : Bool} (W : World) (hc : decide (x ≤ y) = c) : (binOp .leq 37 (.int .i64 x) (.int .i64 y)).run Try.prog W = .ok (.bool c) W := by
  subst hc
  go_simp
theorem gtr37 {x y : Int} {c : Bool} (W : World) (hc : decide (y < x) = c) : (binOp .gtr 37 (.int .i64 x) (.int .i64 y)).run Try.prog W = .ok (.bool c) W := by
  subst hc
  go_simp
theorem geq37 {x y : Int} {c : Bool} (W : World) (hc : decide (y ≤ x) = c) : (binOp .geq 37 (.int .i64 x) (.int .i64 y)).run Try.prog W = .ok (.bool c) W := by
  subst hc
  go_simp
theorem eg37 (bop : BinOp) (x y : Operand) (u v : Int) (W : World) : (eqGuard bop 37 x y (.int .i64 u) (.int .i64 v)).run Try.prog W = .ok () W := by cases bop <;> rfl
theorem eql87 {x y : Int} {c : Bool} (W : World) (hc : decide (x = y) = c) : (binOp .eql 87 (.int .u64 x) (.int .u64 y)).run Try.prog W = .ok (.bool c) W := by
  subst hc
  go_simp; by_cases h : x = y <;> simp [h]
theorem neq87 {x y : Int} {c : Bool} (W : World) (hc : decide (x ≠ y) = c) : (binOp .neq 87 (.int .u64 x) (.int .u64 y)).run Try.prog W = .ok (.bool c) W := by
  subst hc
  go_simp; by_cases h : x = y <;> simp [h]
theorem lss87 {x y : Int} {c : Bool} (W : World) (hc : decide (x < y) = c) : (binOp .lss 87 (.int .u64 x) (.int .u64 y)).run Try.prog W = .ok (.bool c) W := by
  subst hc
  go_simp
theorem leq87 {x y : Int} {c : Bool} (W : World) (hc : decide (x ≤ y) = c) : (binOp .leq 87 (.int .u64 x) (.int .u64 y)).run Try.prog W = .ok (.bool c) W := by
  subst hc
  go_simp
theorem gtr87 {x y : Int} {c : Bool} (W : World) (hc : decide (y < x) = c) : (binOp .gtr 87 (.int .u64 x) (.int .u64 y)).run Try.prog W = .ok (.bool c) W := by
  subst hc
  go_simp
theorem geq87 {x y : Int} {c : Bool} (W : World) (hc : decide (y ≤ x) = c) : (binOp .geq 87 (.int .u64 x) (.int .u64 y)).run Try.prog W = .ok (.bool c) W := by
  subst hc
  go_simp
theorem eg87 (bop : BinOp) (x y : Operand) (u v : Int) (W : World) : (eqGuard bop 87 x y (.int .u64 u) (.int .u64 v)).run Try.prog W = .ok () W := by cases bop <;> rfl
theorem Kept.next {F : Nat → Prop} {a b c : World} (h : Kept F a b) (k : Below b.heap.size b c) : Kept F a c :=
  ⟨k.os.trans h.os, k.tape.trans h.tape, k.output.trans h.output, Nat.le_trans h.size k.size, fun i hi hn => (k.block i (Nat.lt_of_lt_of_le hi h.size)).trans (h.block i hi hn)⟩
theorem Kept.putX {X : Nat} {a b c : World} (h : Kept (· = X) a b) (k : Kept (· = X) b c) : Kept (· = X) a c :=
  ⟨k.os.trans h.os, k.tape.trans h.tape, k.output.trans h.output, Nat.le_trans h.size k.size, fun i hi hn => (k.block i (Nat.lt_of_lt_of_le hi h.size) hn).trans (h.block i hi hn)⟩
theorem Kept.putN {F : Nat → Prop} {n : Nat} {a b c : World} (h : Kept F a b) (k : Kept (· = n) b c) (hn : a.heap.size ≤ n) : Kept F a c :=
  ⟨k.os.trans h.os, k.tape.trans h.tape, k.output.trans h.output, Nat.le_trans h.size k.size, fun i hi hf => (k.block i (Nat.lt_of_lt_of_le hi h.size) (fun e => by omega)).trans (h.block i hi hf)⟩
theorem Kept.refl (F : Nat → Prop) (w : World) : Kept F w w := ⟨rfl, rfl, rfl, Nat.le_refl _, fun _ _ _ => rfl⟩
theorem Kept.putL {X Y : Nat} {a b c : World} (h : Kept (fun k => k = X ∨ k = Y) a b) (k : Kept (· = X) b c) : Kept (fun k => k = X ∨ k = Y) a c :=
  ⟨k.os.trans h.os, k.tape.trans h.tape, k.output.trans h.output, Nat.le_trans h.size k.size, fun i hi hn => (k.block i (Nat.lt_of_lt_of_le hi h.size) (fun e => hn (.inl e))).trans (h.block i hi hn)⟩
theorem Kept.putR {X Y : Nat} {a b c : World} (h : Kept (fun k => k = X ∨ k = Y) a b) (k : Kept (· = Y) b c) : Kept (fun k => k = X ∨ k = Y) a c :=
  ⟨k.os.trans h.os, k.tape.trans h.tape, k.output.trans h.output, Nat.le_trans h.size k.size, fun i hi hn => (k.block i (Nat.lt_of_lt_of_le hi h.size) (fun e => hn (.inr e))).trans (h.block i hi hn)⟩
theorem ne_tag {W : World} {b c T U : Nat} {C D : Array Value} (h : W.heap[b]? = some (.cells C T)) (k : W.heap[c]? = some (.cells D U)) (hT : T ≠ U) (e : b = c) : False := by
  rw [e, k] at h
  cases h
  exact hT rfl
theorem ah_L {ops : Array Oper} {a : Act} {w : World} {Q : Exit → Act → World → Prop} {md : Region.Mode} {fuel : Nat} {L L' : Array Bool} {S : World → Prop} (e : L = L') (h : wpAnyH Try.prog md ops Q S fuel L' a w) : wpAnyH Try.prog md ops Q S fuel L a w := e ▸ h
theorem capQ {ops : Array Oper} {a : Act} {w : World} {Q : Exit → Act → World → Prop} {md : Region.Mode} {fuel : Nat} {L : Array Bool} {S : World → Prop} (h : ∀ Q' : Exit → Act → World → Prop, Q' = Q → wpAnyH Try.prog md ops Q' S fuel L a w) : wpAnyH Try.prog md ops Q S fuel L a w := h Q rfl
theorem cap2 {ops : Array Oper} {a : Act} {w : World} {Q : Exit → Act → World → Prop} {md : Region.Mode} {fuel : Nat} {L : Array Bool} {S : World → Prop} (h : ∀ (ops' : Array Oper) (S' : World → Prop), ops' = ops → S' = S → wpAnyH Try.prog md ops' Q S' fuel L a w) : wpAnyH Try.prog md ops Q S fuel L a w := h ops S rfl rfl
def Nil : Nat → Prop := fun _ => False
theorem nilN (b : Nat) : ¬ Nil b := fun h => h


theorem bslice (W : World) (t e : TypeId) (len : Nat) (parts : Array (Nat × Value)) (cells : Array Value) (z : Value) (n : Nat) (hu : Try.prog.underlying t = some (.slice e)) (hi : (Try.prog.info? e).map (fun i => (i.zero, i.size)) = some (some z, n)) (h1 : ¬ len * n > 2 ^ 24) (h2 : ¬ len * n = 0)
    (h : Instr.fill (fun i => some (i * n, n)) ((Array.range (len * n)).map (z.cells[· % z.cells.size]!)) parts.toList = some cells) :
    (Instr.buildSlice t len parts).run Try.prog W = .ok (.slice (some ⟨W.heap.size, 0, none⟩) len len) (W.alloc (.cells cells e)) := by
  cases hq : Try.prog.info? e with
  | none => rw [hq] at hi; cases hi
  | some ie =>
    rw [hq] at hi
    simp only [Option.map_some, Option.some.injEq, Prod.mk.injEq] at hi
    obtain ⟨hz, rfl⟩ := hi
    exact run_buildSlice W t e len parts cells ie z hu hq hz h1 h2 h

theorem ret_out {next : Act → World → Prop} {Q : Exit → Act → World → Prop} {a : Act} {w : World} (h : Q .ret a w) : Exit.then next Q .ret a w := h
theorem then_go {next : Act → World → Prop} {Q : Exit → Act → World → Prop} {a : Act} {w : World} (h : next a w) : Exit.then next Q .normal a w := h
theorem ex_then {next : Act → World → Prop} {Q : Exit → Act → World → Prop} {a : Act} {w : World} {i : Nat} (h : Q (.exit i) a w) : Exit.then next Q (.exit i) a w := h
theorem ex_blk {Q : Exit → Act → World → Prop} {a : Act} {w : World} {i : Nat} (h : Q .normal a w) : Exit.inBlock i Q (.exit i) a w := by
  unfold Exit.inBlock
  simp only [if_true]
  exact h
theorem ret_blk {Q : Exit → Act → World → Prop} {a : Act} {w : World} {i : Nat} (h : Q .ret a w) : Exit.inBlock i Q .ret a w := h

theorem range_below {w W : World} {b o : Nat} {C : List Value} (h : w.rangeAt b o C) (hB : Below w.heap.size w W) : W.rangeAt b o C := fun j v hv => by
  have := h j v hv
  rw [hB.cell (block_lt_of_cell this)]
  exact this

theorem add3 {x y z : Int} (W : World) (hz : x + y = z) (h : -9223372036854775808 ≤ z ∧ z ≤ 9223372036854775807) : (binOp .add 3 (.int .i64 x) (.int .i64 y)).run Try.prog W = .ok (.int .i64 z) W := by
  subst hz
  have := IntKind.wrap_i64 (x + y)
  go_simp
  omega
theorem sub3 {x y z : Int} (W : World) (hz : x - y = z) (h : -9223372036854775808 ≤ z ∧ z ≤ 9223372036854775807) : (binOp .sub 3 (.int .i64 x) (.int .i64 y)).run Try.prog W = .ok (.int .i64 z) W := by
  subst hz
  have := IntKind.wrap_i64 (x - y)
  go_simp
  omega


theorem ops_in {ops ops' : Array Oper} {a : Act} {w : World} {Q : Exit → Act → World → Prop} {md : Region.Mode} {fuel : Nat} {L : Array Bool} {S S' : World → Prop} (e : ops = ops') (f : S = S') (h : wpAnyH Try.prog md ops' Q S' fuel L a w) : wpAnyH Try.prog md ops Q S fuel L a w := by
  subst e f
  exact h
theorem ops_out {ops ops' : Array Oper} {a : Act} {w : World} {Q : Exit → Act → World → Prop} {md : Region.Mode} {fuel : Nat} {L : Array Bool} {S S' : World → Prop} (e : ops = ops') (f : S = S') (h : wpAnyH Try.prog md ops Q S fuel L a w) : wpAnyH Try.prog md ops' Q S' fuel L a w := by
  subst e f
  exact h


theorem fadd_run {x y z : Nat} (W : World) (h : Ieee.double.add x y = some z) : (binOp .add 34 (.float .f64 x) (.float .f64 y)).run Try.prog W = .ok (.float .f64 z) W := run_float_arith W .add 34 .f64 x y z h
theorem fsub_run {x y z : Nat} (W : World) (h : Ieee.double.sub x y = some z) : (binOp .sub 34 (.float .f64 x) (.float .f64 y)).run Try.prog W = .ok (.float .f64 z) W := run_float_arith W .sub 34 .f64 x y z h
theorem fmul_run {x y z : Nat} (W : World) (h : Ieee.double.mul x y = some z) : (binOp .mul 34 (.float .f64 x) (.float .f64 y)).run Try.prog W = .ok (.float .f64 z) W := run_float_arith W .mul 34 .f64 x y z h
theorem fdiv_run {x y z : Nat} (W : World) (h : Ieee.double.div x y = some z) : (binOp .quo 34 (.float .f64 x) (.float .f64 y)).run Try.prog W = .ok (.float .f64 z) W := run_float_arith W .quo 34 .f64 x y z h
theorem eqlF {x y : Nat} {c : Bool} (W : World) (hc : (Ieee.double.order x y == some .eq) = c) : (binOp .eql 34 (.float .f64 x) (.float .f64 y)).run Try.prog W = .ok (.bool c) W := by
  subst hc
  rw [binOp_float_cmp_eql]
  rfl
theorem neqF {x y : Nat} {c : Bool} (W : World) (hc : (Ieee.double.order x y != some .eq) = c) : (binOp .neq 34 (.float .f64 x) (.float .f64 y)).run Try.prog W = .ok (.bool c) W := by
  subst hc
  rw [binOp_float_cmp_neq]
  rfl
theorem lssF {x y : Nat} {c : Bool} (W : World) (hc : (Ieee.double.order x y == some .lt) = c) : (binOp .lss 34 (.float .f64 x) (.float .f64 y)).run Try.prog W = .ok (.bool c) W := by
  subst hc
  rw [binOp_float_cmp_lss]
  rfl
theorem leqF {x y : Nat} {c : Bool} (W : World) (hc : (Ieee.double.order x y == some .lt || Ieee.double.order x y == some .eq) = c) : (binOp .leq 34 (.float .f64 x) (.float .f64 y)).run Try.prog W = .ok (.bool c) W := by
  subst hc
  rw [binOp_float_cmp_leq]
  rfl
theorem gtrF {x y : Nat} {c : Bool} (W : World) (hc : (Ieee.double.order x y == some .gt) = c) : (binOp .gtr 34 (.float .f64 x) (.float .f64 y)).run Try.prog W = .ok (.bool c) W := by
  subst hc
  rw [binOp_float_cmp_gtr]
  rfl
theorem geqF {x y : Nat} {c : Bool} (W : World) (hc : (Ieee.double.order x y == some .gt || Ieee.double.order x y == some .eq) = c) : (binOp .geq 34 (.float .f64 x) (.float .f64 y)).run Try.prog W = .ok (.bool c) W := by
  subst hc
  rw [binOp_float_cmp_geq]
  rfl
theorem egF (bop : BinOp) (x y : Operand) (u v : Nat) (W : World) : (eqGuard bop 34 x y (.float .f64 u) (.float .f64 v)).run Try.prog W = .ok () W := by cases bop <;> rfl
theorem cf2 (W : World) (vs : Array Value) : (callFunc 2 vs).run Try.prog W = .ok (.enter 2 vs) W := by go_simp
theorem cf3 (W : World) (vs : Array Value) : (callFunc 3 vs).run Try.prog W = .ok (.enter 3 vs) W := by go_simp
theorem cf4 (W : World) (vs : Array Value) : (callFunc 4 vs).run Try.prog W = .ok (.enter 4 vs) W := by go_simp
theorem cf5 (W : World) (vs : Array Value) : (callFunc 5 vs).run Try.prog W = .ok (.enter 5 vs) W := by go_simp
theorem cf6 (W : World) (vs : Array Value) : (callFunc 6 vs).run Try.prog W = .ok (.enter 6 vs) W := by go_simp
theorem cf7 (W : World) (vs : Array Value) : (callFunc 7 vs).run Try.prog W = .ok (.enter 7 vs) W := by go_simp
theorem cf8 (W : World) (vs : Array Value) : (callFunc 8 vs).run Try.prog W = .ok (.enter 8 vs) W := by go_simp
theorem cf9 (W : World) (vs : Array Value) : (callFunc 9 vs).run Try.prog W = .ok (.enter 9 vs) W := by go_simp
theorem cf10 (W : World) (vs : Array Value) : (callFunc 10 vs).run Try.prog W = .ok (.enter 10 vs) W := by go_simp
theorem cf11 (W : World) (vs : Array Value) : (callFunc 11 vs).run Try.prog W = .ok (.enter 11 vs) W := by go_simp
theorem cf12 (W : World) (vs : Array Value) : (callFunc 12 vs).run Try.prog W = .ok (.enter 12 vs) W := by go_simp
theorem cf13 (W : World) (vs : Array Value) : (callFunc 13 vs).run Try.prog W = .ok (.enter 13 vs) W := by go_simp
theorem cf14 (W : World) (vs : Array Value) : (callFunc 14 vs).run Try.prog W = .ok (.enter 14 vs) W := by go_simp
theorem cf15 (W : World) (vs : Array Value) : (callFunc 15 vs).run Try.prog W = .ok (.enter 15 vs) W := by go_simp
theorem cf16 (W : World) (vs : Array Value) : (callFunc 16 vs).run Try.prog W = .ok (.enter 16 vs) W := by go_simp
theorem cf17 (W : World) (vs : Array Value) : (callFunc 17 vs).run Try.prog W = .ok (.enter 17 vs) W := by go_simp
theorem cf18 (W : World) (vs : Array Value) : (callFunc 18 vs).run Try.prog W = .ok (.enter 18 vs) W := by go_simp
theorem cf19 (W : World) (vs : Array Value) : (callFunc 19 vs).run Try.prog W = .ok (.enter 19 vs) W := by go_simp
theorem cf20 (W : World) (vs : Array Value) : (callFunc 20 vs).run Try.prog W = .ok (.enter 20 vs) W := by go_simp
theorem cf21 (W : World) (vs : Array Value) : (callFunc 21 vs).run Try.prog W = .ok (.enter 21 vs) W := by go_simp
theorem cf22 (W : World) (vs : Array Value) : (callFunc 22 vs).run Try.prog W = .ok (.enter 22 vs) W := by go_simp
theorem cf23 (W : World) (vs : Array Value) : (callFunc 23 vs).run Try.prog W = .ok (.enter 23 vs) W := by go_simp
theorem cf24 (W : World) (vs : Array Value) : (callFunc 24 vs).run Try.prog W = .ok (.enter 24 vs) W := by go_simp
theorem cf25 (W : World) (vs : Array Value) : (callFunc 25 vs).run Try.prog W = .ok (.enter 25 vs) W := by go_simp
theorem cf26 (W : World) (vs : Array Value) : (callFunc 26 vs).run Try.prog W = .ok (.enter 26 vs) W := by go_simp
theorem cf27 (W : World) (vs : Array Value) : (callFunc 27 vs).run Try.prog W = .ok (.enter 27 vs) W := by go_simp
theorem cf28 (W : World) (vs : Array Value) : (callFunc 28 vs).run Try.prog W = .ok (.enter 28 vs) W := by go_simp
theorem cf29 (W : World) (vs : Array Value) : (callFunc 29 vs).run Try.prog W = .ok (.enter 29 vs) W := by go_simp
theorem cf30 (W : World) (vs : Array Value) : (callFunc 30 vs).run Try.prog W = .ok (.enter 30 vs) W := by go_simp
theorem cf31 (W : World) (vs : Array Value) : (callFunc 31 vs).run Try.prog W = .ok (.enter 31 vs) W := by go_simp
theorem cf32 (W : World) (vs : Array Value) : (callFunc 32 vs).run Try.prog W = .ok (.enter 32 vs) W := by go_simp
theorem cf33 (W : World) (vs : Array Value) : (callFunc 33 vs).run Try.prog W = .ok (.enter 33 vs) W := by go_simp
theorem cf34 (W : World) (vs : Array Value) : (callFunc 34 vs).run Try.prog W = .ok (.enter 34 vs) W := by go_simp
theorem cf35 (W : World) (vs : Array Value) : (callFunc 35 vs).run Try.prog W = .ok (.enter 35 vs) W := by go_simp
theorem cf36 (W : World) (vs : Array Value) : (callFunc 36 vs).run Try.prog W = .ok (.enter 36 vs) W := by go_simp
theorem cf37 (W : World) (vs : Array Value) : (callFunc 37 vs).run Try.prog W = .ok (.enter 37 vs) W := by go_simp
theorem cf38 (W : World) (vs : Array Value) : (callFunc 38 vs).run Try.prog W = .ok (.enter 38 vs) W := by go_simp
theorem cf39 (W : World) (vs : Array Value) : (callFunc 39 vs).run Try.prog W = .ok (.enter 39 vs) W := by go_simp
theorem cf40 (W : World) (vs : Array Value) : (callFunc 40 vs).run Try.prog W = .ok (.enter 40 vs) W := by go_simp
theorem cf41 (W : World) (vs : Array Value) : (callFunc 41 vs).run Try.prog W = .ok (.enter 41 vs) W := by go_simp
theorem cf43 (W : World) (vs : Array Value) : (callFunc 43 vs).run Try.prog W = .ok (.enter 43 vs) W := by go_simp
theorem cf44 (W : World) (vs : Array Value) : (callFunc 44 vs).run Try.prog W = .ok (.enter 44 vs) W := by go_simp
theorem cf45 (W : World) (vs : Array Value) : (callFunc 45 vs).run Try.prog W = .ok (.enter 45 vs) W := by go_simp
theorem cf46 (W : World) (vs : Array Value) : (callFunc 46 vs).run Try.prog W = .ok (.enter 46 vs) W := by go_simp
theorem cf47 (W : World) (vs : Array Value) : (callFunc 47 vs).run Try.prog W = .ok (.enter 47 vs) W := by go_simp
theorem cf48 (W : World) (vs : Array Value) : (callFunc 48 vs).run Try.prog W = .ok (.enter 48 vs) W := by go_simp
theorem cf49 (W : World) (vs : Array Value) : (callFunc 49 vs).run Try.prog W = .ok (.enter 49 vs) W := by go_simp
theorem cf50 (W : World) (vs : Array Value) : (callFunc 50 vs).run Try.prog W = .ok (.enter 50 vs) W := by go_simp
theorem cf51 (W : World) (vs : Array Value) : (callFunc 51 vs).run Try.prog W = .ok (.enter 51 vs) W := by go_simp
theorem cf52 (W : World) (vs : Array Value) : (callFunc 52 vs).run Try.prog W = .ok (.enter 52 vs) W := by go_simp
theorem cf53 (W : World) (vs : Array Value) : (callFunc 53 vs).run Try.prog W = .ok (.enter 53 vs) W := by go_simp
theorem cf54 (W : World) (vs : Array Value) : (callFunc 54 vs).run Try.prog W = .ok (.enter 54 vs) W := by go_simp
theorem cf55 (W : World) (vs : Array Value) : (callFunc 55 vs).run Try.prog W = .ok (.enter 55 vs) W := by go_simp
theorem cf56 (W : World) (vs : Array Value) : (callFunc 56 vs).run Try.prog W = .ok (.enter 56 vs) W := by go_simp
theorem cf57 (W : World) (vs : Array Value) : (callFunc 57 vs).run Try.prog W = .ok (.enter 57 vs) W := by go_simp
theorem cf58 (W : World) (vs : Array Value) : (callFunc 58 vs).run Try.prog W = .ok (.enter 58 vs) W := by go_simp
theorem cf59 (W : World) (vs : Array Value) : (callFunc 59 vs).run Try.prog W = .ok (.enter 59 vs) W := by go_simp
theorem cf60 (W : World) (vs : Array Value) : (callFunc 60 vs).run Try.prog W = .ok (.enter 60 vs) W := by go_simp
theorem cf61 (W : World) (vs : Array Value) : (callFunc 61 vs).run Try.prog W = .ok (.enter 61 vs) W := by go_simp
theorem cf62 (W : World) (vs : Array Value) : (callFunc 62 vs).run Try.prog W = .ok (.enter 62 vs) W := by go_simp
theorem cf63 (W : World) (vs : Array Value) : (callFunc 63 vs).run Try.prog W = .ok (.enter 63 vs) W := by go_simp
theorem cf64 (W : World) (vs : Array Value) : (callFunc 64 vs).run Try.prog W = .ok (.enter 64 vs) W := by go_simp
theorem cf65 (W : World) (vs : Array Value) : (callFunc 65 vs).run Try.prog W = .ok (.enter 65 vs) W := by go_simp
theorem cf66 (W : World) (vs : Array Value) : (callFunc 66 vs).run Try.prog W = .ok (.enter 66 vs) W := by go_simp
theorem cf67 (W : World) (vs : Array Value) : (callFunc 67 vs).run Try.prog W = .ok (.enter 67 vs) W := by go_simp
theorem cf68 (W : World) (vs : Array Value) : (callFunc 68 vs).run Try.prog W = .ok (.enter 68 vs) W := by go_simp
theorem cf69 (W : World) (vs : Array Value) : (callFunc 69 vs).run Try.prog W = .ok (.enter 69 vs) W := by go_simp
theorem cf70 (W : World) (vs : Array Value) : (callFunc 70 vs).run Try.prog W = .ok (.enter 70 vs) W := by go_simp
theorem cf71 (W : World) (vs : Array Value) : (callFunc 71 vs).run Try.prog W = .ok (.enter 71 vs) W := by go_simp
theorem cf72 (W : World) (vs : Array Value) : (callFunc 72 vs).run Try.prog W = .ok (.enter 72 vs) W := by go_simp
theorem cf73 (W : World) (vs : Array Value) : (callFunc 73 vs).run Try.prog W = .ok (.enter 73 vs) W := by go_simp
theorem cf74 (W : World) (vs : Array Value) : (callFunc 74 vs).run Try.prog W = .ok (.enter 74 vs) W := by go_simp
theorem cf75 (W : World) (vs : Array Value) : (callFunc 75 vs).run Try.prog W = .ok (.enter 75 vs) W := by go_simp
theorem cf76 (W : World) (vs : Array Value) : (callFunc 76 vs).run Try.prog W = .ok (.enter 76 vs) W := by go_simp
theorem cf77 (W : World) (vs : Array Value) : (callFunc 77 vs).run Try.prog W = .ok (.enter 77 vs) W := by go_simp
theorem cf78 (W : World) (vs : Array Value) : (callFunc 78 vs).run Try.prog W = .ok (.enter 78 vs) W := by go_simp
theorem cf79 (W : World) (vs : Array Value) : (callFunc 79 vs).run Try.prog W = .ok (.enter 79 vs) W := by go_simp
theorem cf80 (W : World) (vs : Array Value) : (callFunc 80 vs).run Try.prog W = .ok (.enter 80 vs) W := by go_simp
theorem cf81 (W : World) (vs : Array Value) : (callFunc 81 vs).run Try.prog W = .ok (.enter 81 vs) W := by go_simp
theorem cf82 (W : World) (vs : Array Value) : (callFunc 82 vs).run Try.prog W = .ok (.enter 82 vs) W := by go_simp
theorem cf83 (W : World) (vs : Array Value) : (callFunc 83 vs).run Try.prog W = .ok (.enter 83 vs) W := by go_simp
theorem cf85 (W : World) (vs : Array Value) : (callFunc 85 vs).run Try.prog W = .ok (.enter 85 vs) W := by go_simp
theorem cf86 (W : World) (vs : Array Value) : (callFunc 86 vs).run Try.prog W = .ok (.enter 86 vs) W := by go_simp
theorem cf87 (W : World) (vs : Array Value) : (callFunc 87 vs).run Try.prog W = .ok (.enter 87 vs) W := by go_simp
theorem cf89 (W : World) (vs : Array Value) : (callFunc 89 vs).run Try.prog W = .ok (.enter 89 vs) W := by go_simp
theorem cf90 (W : World) (vs : Array Value) : (callFunc 90 vs).run Try.prog W = .ok (.enter 90 vs) W := by go_simp
theorem cf91 (W : World) (vs : Array Value) : (callFunc 91 vs).run Try.prog W = .ok (.enter 91 vs) W := by go_simp
theorem cf92 (W : World) (vs : Array Value) : (callFunc 92 vs).run Try.prog W = .ok (.enter 92 vs) W := by go_simp
theorem cf93 (W : World) (vs : Array Value) : (callFunc 93 vs).run Try.prog W = .ok (.enter 93 vs) W := by go_simp
theorem cf94 (W : World) (vs : Array Value) : (callFunc 94 vs).run Try.prog W = .ok (.enter 94 vs) W := by go_simp
theorem cf95 (W : World) (vs : Array Value) : (callFunc 95 vs).run Try.prog W = .ok (.enter 95 vs) W := by go_simp
theorem cf96 (W : World) (vs : Array Value) : (callFunc 96 vs).run Try.prog W = .ok (.enter 96 vs) W := by go_simp
theorem cf97 (W : World) (vs : Array Value) : (callFunc 97 vs).run Try.prog W = .ok (.enter 97 vs) W := by go_simp
theorem cf98 (W : World) (vs : Array Value) : (callFunc 98 vs).run Try.prog W = .ok (.enter 98 vs) W := by go_simp
theorem cf99 (W : World) (vs : Array Value) : (callFunc 99 vs).run Try.prog W = .ok (.enter 99 vs) W := by go_simp
theorem cf100 (W : World) (vs : Array Value) : (callFunc 100 vs).run Try.prog W = .ok (.enter 100 vs) W := by go_simp
theorem cf101 (W : World) (vs : Array Value) : (callFunc 101 vs).run Try.prog W = .ok (.enter 101 vs) W := by go_simp
theorem cf102 (W : World) (vs : Array Value) : (callFunc 102 vs).run Try.prog W = .ok (.enter 102 vs) W := by go_simp
theorem cf103 (W : World) (vs : Array Value) : (callFunc 103 vs).run Try.prog W = .ok (.enter 103 vs) W := by go_simp
theorem cf104 (W : World) (vs : Array Value) : (callFunc 104 vs).run Try.prog W = .ok (.enter 104 vs) W := by go_simp
theorem cf105 (W : World) (vs : Array Value) : (callFunc 105 vs).run Try.prog W = .ok (.enter 105 vs) W := by go_simp
theorem cf106 (W : World) (vs : Array Value) : (callFunc 106 vs).run Try.prog W = .ok (.enter 106 vs) W := by go_simp
theorem cf107 (W : World) (vs : Array Value) : (callFunc 107 vs).run Try.prog W = .ok (.enter 107 vs) W := by go_simp
theorem cf108 (W : World) (vs : Array Value) : (callFunc 108 vs).run Try.prog W = .ok (.enter 108 vs) W := by go_simp
theorem cf109 (W : World) (vs : Array Value) : (callFunc 109 vs).run Try.prog W = .ok (.enter 109 vs) W := by go_simp
theorem cf110 (W : World) (vs : Array Value) : (callFunc 110 vs).run Try.prog W = .ok (.enter 110 vs) W := by go_simp
theorem cf111 (W : World) (vs : Array Value) : (callFunc 111 vs).run Try.prog W = .ok (.enter 111 vs) W := by go_simp
theorem cf112 (W : World) (vs : Array Value) : (callFunc 112 vs).run Try.prog W = .ok (.enter 112 vs) W := by go_simp
theorem cf113 (W : World) (vs : Array Value) : (callFunc 113 vs).run Try.prog W = .ok (.enter 113 vs) W := by go_simp
theorem cf114 (W : World) (vs : Array Value) : (callFunc 114 vs).run Try.prog W = .ok (.enter 114 vs) W := by go_simp
theorem cf115 (W : World) (vs : Array Value) : (callFunc 115 vs).run Try.prog W = .ok (.enter 115 vs) W := by go_simp
theorem cf116 (W : World) (vs : Array Value) : (callFunc 116 vs).run Try.prog W = .ok (.enter 116 vs) W := by go_simp
theorem cf117 (W : World) (vs : Array Value) : (callFunc 117 vs).run Try.prog W = .ok (.enter 117 vs) W := by go_simp
theorem cf118 (W : World) (vs : Array Value) : (callFunc 118 vs).run Try.prog W = .ok (.enter 118 vs) W := by go_simp
theorem cf119 (W : World) (vs : Array Value) : (callFunc 119 vs).run Try.prog W = .ok (.enter 119 vs) W := by go_simp
theorem cf120 (W : World) (vs : Array Value) : (callFunc 120 vs).run Try.prog W = .ok (.enter 120 vs) W := by go_simp
end Go.Proofs.Ytgnkcmmpbohafaa
