/- Some texts, in one. -/
import Derived.Test.YtgnkcmmpbohafaaDoe00
import Derived.WalkKit
import Derived.WalkSpells
import Derived.WalkLawsBesides
import Derived.Handy
import Derived.Laws.FloatArith
import Derived.Laws.Externs
import Derived.Laws.AppendOwnNone
import Derived.Deep.MidRow
import Derived.Deep.WholeRow
import Derived.Great.BuildSlice
import Ieee.Arith
import Derived.Laws.FloatBits
/- Operations one by one, in a plain region and in one that draws its order; blocks as letters; what loads answer: for this seat's types. -/
namespace Go.Proofs.Ytgnkcmmpbohafaa
open Go.RowKit
set_option linter.unusedVariables false
set_option linter.unusedSimpArgs false
set_option maxRecDepth 100000

/-- what a step puts into the frame -/
theorem zp : (∀ (a : Act) (d : Tmp) (v : Value), a.put (some d) v = { a with tmps := a.tmps.setIfInBounds d v }) ∧ (∀ (a : Act) (v : Value), a.put none v = a) ∧ (∀ (l : List Value) (i : Nat) (v : Value), l.toArray.setIfInBounds i v = (l.set i v).toArray) ∧ (∀ (x v : Value) (l : List Value), (x :: l).set 0 v = v :: l) ∧ (∀ (x v : Value) (l : List Value) (n : Nat), (x :: l).set (n + 1) v = x :: l.set n v) :=
  ⟨fun _ _ _ => rfl, fun _ _ => rfl, fun _ _ _ => List.setIfInBounds_toArray _ _ _, fun _ _ _ => rfl, fun _ _ _ _ => rfl⟩

/-- all is kept but what F tells -/
structure Kept (F : Nat → Prop) (w w' : World) : Prop where
  os : w'.os = w.os
  tape : w'.tape = w.tape
  output : w'.output = w.output
  size : w.heap.size ≤ w'.heap.size
  block : ∀ k, k < w.heap.size → ¬ F k → w'.heap[k]? = w.heap[k]?
theorem Kept.below {F : Nat → Prop} {w w' : World} {B : Nat} (h : Kept F w w') (hB : B ≤ w.heap.size) (hF : ∀ k, F k → B ≤ k) : Below B w w' :=
  ⟨h.os, h.tape, h.output, h.size, fun k hk => h.block k (by omega) (fun e => by have := hF k e; omega)⟩
theorem Kept.ofGrown {w w' : World} {row : Option Nat} (h : w.grownBy w' row) : Kept (fun k => row = some k) w w' := ⟨h.os, h.tape, h.output, h.size, fun k hk hn => h.block k hk (fun e => hn e.symm)⟩
theorem lt_of {W : World} {b : Nat} {o : Obj} (h : W.heap[b]? = some o) : b < W.heap.size := (Array.getElem?_eq_some_iff.1 h).1
/-- a block is kept -/
theorem keep {W W' : World} {b : Nat} {o : Obj} (hB : Below W.heap.size W W') (h : W.heap[b]? = some o) : W'.heap[b]? = some o := (hB.block b (lt_of h)).trans h
theorem keepK {F : Nat → Prop} {W W' : World} {b : Nat} {o : Obj} (hB : Kept F W W') (h : W.heap[b]? = some o) (hn : ¬ F b) : W'.heap[b]? = some o := (hB.block b (lt_of h) hn).trans h
theorem below_next {w W W' : World} (E : Below w.heap.size w W) (B : Below W.heap.size W W') : Below w.heap.size w W' := E.trans (B.mono E.size)
theorem below_put {w W W' : World} {b : Nat} (E : Below w.heap.size w W) (hb : w.heap.size ≤ b) (K : Kept (· = b) W W') : Below w.heap.size w W' := E.trans (K.below E.size (fun k e => by subst e; exact hb))
theorem below_drewB {B : Nat} {a b : World} (h : Below B a b) : Below B a b.drew := ⟨h.os, h.tape, h.output, h.size, h.block⟩
theorem at_cell {W : World} {b k T : Nat} {C : Array Value} {v : Value} (h : W.heap[b]? = some (.cells C T)) (hv : C[k]? = some v) : W.cell? ⟨b, k, none⟩ = some v := by
  unfold World.cell?
  rw [h]; exact hv
theorem at_range {W : World} {b o n T : Nat} {C : Array Value} (h : W.heap[b]? = some (.cells C T)) (hn : o + n ≤ C.size) : W.rangeAt b o (C.extract o (o + n)).toList := fun j v hv => by
  have hj := (List.getElem?_eq_some_iff.1 hv).1
  simp at hj
  refine at_cell h ?_; rw [Array.getElem?_toList, Array.getElem?_extract_of_lt (by omega)] at hv; rw [Array.getElem?_eq_getElem (by omega)]; exact hv

section
variable {ops : Array Oper} {rest : List Oper} {o : Oper} {a : Act} {W W' : World} {Q : Exit → Act → World → Prop} {v : Value}
/-- the rest of a plain region; a structure, so that nobody works it out ahead of its time -/
structure WL (ops : Array Oper) (Q : Exit → Act → World → Prop) (l : List Oper) (a : Act) (W : World) : Prop where
  out : wpList Try.prog ops Q l a W
theorem wl_in {id : Nat} {l : List Oper} (h : WL l.toArray Q l a W) : (Code.region id l.toArray false).wp Try.prog Q a W := wp_region_lit h.out
theorem wl_cap {l : List Oper} (h : ∀ Q' : Exit → Act → World → Prop, Q' = Q → WL ops Q' l a W) : WL ops Q l a W := h Q rfl
theorem st_to (d : Option Tmp) (hd : o.dst = d) (hw : Region.wanted o (yielded ops a.tmps) = true) (hr : (execOp a.eval o).run Try.prog W = .ok (.value v) W') (h : WL ops Q rest (a.put d v) W') : WL ops Q (o :: rest) a W :=
  ⟨wpList_step fun K hK => by subst hd; rw [if_pos hw]; unfold Oper.wp; rw [hr]; exact hK _ _ h.out⟩
theorem st_no (d : Option Tmp) (hd : o.dst = d) (hw : Region.wanted o (yielded ops a.tmps) = false) (h : WL ops Q rest (a.put d undef) W) : WL ops Q (o :: rest) a W := by
  subst hd; exact ⟨wpList_skip hw h.out⟩
theorem st_sk (hd : o.dst = none) (hw : Region.wanted o (yielded ops a.tmps) = true) (hr : (execOp a.eval o).run Try.prog W = .ok .skip W') (h : WL ops Q rest a W') : WL ops Q (o :: rest) a W :=
  ⟨wpList_step fun K hK => by rw [if_pos hw]; unfold Oper.wp; rw [hr]; exact hK _ _ (by rw [hd]; exact h.out)⟩
theorem st_call (d : Option Tmp) (hd : o.dst = d) (hw : Region.wanted o (yielded ops a.tmps) = true) {f : FuncId} {args : Array Value} {post : Ending → World → Prop} (hc : Calls Try.prog f args W post) (hx : (execOp a.eval o).run Try.prog W = .ok (.enter f args) W)
    (h : ∀ e w', post e w' → ∃ v, e = .returned v ∧ WL ops Q rest (a.put d v) w') : WL ops Q (o :: rest) a W :=
  ⟨wpList_step fun K hK => by
    subst hd; rw [if_pos hw]
    unfold Oper.wp
    rw [hx]; refine Calls.mono hc fun e w' hp => ?_; obtain ⟨v, rfl, h'⟩ := h e w' hp
    exact hK _ _ h'.out⟩
theorem st_end (h : Q .normal a W) : WL ops Q [] a W := ⟨h⟩
/-- what makes a block -/
theorem st_new (V : Nat → Value) (d : Option Tmp) (hd : o.dst = d) (hw : Region.wanted o (yielded ops a.tmps) = true) {ob : Obj} (hr : (execOp a.eval o).run Try.prog W = .ok (.value (V W.heap.size)) (W.alloc ob))
    (h : ∀ b W', W'.heap[b]? = some ob → W.heap.size ≤ b → Below W.heap.size W W' → WL ops Q rest (a.put d (V b)) W') : WL ops Q (o :: rest) a W :=
  st_to d hd hw hr (h _ _ (heap_alloc_last W ob) (Nat.le_refl _) ((Below.refl _ _).alloc (Nat.le_refl _) ob))
/-! the same, in short words -/
theorem sv (v : Value) (d : Tmp) (hd : o.dst = some d) (hw : Region.wanted o (yielded ops a.tmps) = true) (hr : (execOp a.eval o).run Try.prog W = .ok (.value v) W') (h : WL ops Q rest (a.put (some d) v) W') : WL ops Q (o :: rest) a W := st_to (some d) hd hw hr h
theorem sn (d : Tmp) (hd : o.dst = some d) (hw : Region.wanted o (yielded ops a.tmps) = false) (h : WL ops Q rest (a.put (some d) undef) W) : WL ops Q (o :: rest) a W := st_no (some d) hd hw h
theorem wq {id : Nat} {l : List Oper} {c : Code} (h : ∀ Q' : Exit → Act → World → Prop, Q' = Exit.then (c.wp Try.prog Q) Q → WL l.toArray Q' l a W) : (Code.seq (.region id l.toArray false) c).wp Try.prog Q a W := wp_seq (wl_in (wl_cap h))
/-! what an operation answers -/
theorem ex_mv {x : Operand} (ho : o.op = .move x) (hx : a.eval x = v) : (execOp a.eval o).run Try.prog W = .ok (.value v) W := by
  unfold execOp
  simp only [ho, hx, Sem.run_pure]
theorem ex_asg {x : Operand} (ho : o.op = .assign x) (hx : a.eval x = v) : (execOp a.eval o).run Try.prog W = .ok (.value v) W := by
  unfold execOp
  simp only [ho, hx, Sem.run_pure]
theorem sm (v : Value) (d : Tmp) {x : Operand} (hd : o.dst = some d) (hw : Region.wanted o (yielded ops a.tmps) = true) (ho : o.op = .move x) (hx : a.eval x = v) (h : WL ops Q rest (a.put (some d) v) W) : WL ops Q (o :: rest) a W := st_to (some d) hd hw (ex_mv ho hx) h
theorem sg (v : Value) (d : Tmp) {x : Operand} (hd : o.dst = some d) (hw : Region.wanted o (yielded ops a.tmps) = true) (ho : o.op = .assign x) (hx : a.eval x = v) (h : WL ops Q rest (a.put (some d) v) W) : WL ops Q (o :: rest) a W := st_to (some d) hd hw (ex_asg ho hx) h
theorem ex_ext {x : Operand} {k : Nat} {vs : Array Value} (ho : o.op = .extract x k) (hx : a.eval x = .tuple vs) (hv : vs[k]? = some v) : (execOp a.eval o).run Try.prog W = .ok (.value v) W := by
  unfold execOp
  simp [ho, hx, hv, Instr.extract]
theorem ex_pkT {c x y : Operand} (ho : o.op = .pick c x y) (hc : a.eval c = .bool true) (hx : a.eval x = v) : (execOp a.eval o).run Try.prog W = .ok (.value v) W := by
  unfold execOp
  simp only [ho, hc, hx, Sem.run_bind, Sem.run_pure]
  rfl
theorem ex_pkF {c x y : Operand} (ho : o.op = .pick c x y) (hc : a.eval c = .bool false) (hx : a.eval y = v) : (execOp a.eval o).run Try.prog W = .ok (.value v) W := by
  unfold execOp
  simp only [ho, hc, hx, Sem.run_bind, Sem.run_pure]
  rfl
theorem ex_not {x : Operand} {b c : Bool} (ho : o.op = .unOp .not 4 x) (hx : a.eval x = .bool b) (hc : (!b) = c) : (execOp a.eval o).run Try.prog W = .ok (.value (.bool c)) W := by
  subst hc
  unfold execOp
  simp only [ho, hx]
  go_simp
theorem ex_bin {x y : Operand} {b : BinOp} {t t2 : Nat} (ho : o.op = .binOp b t x y t2) {u r s : Value} (hx : a.eval x = u) (hy : a.eval y = r) (hq : (eqGuard b t x y u r).run Try.prog W = .ok () W) (hl : (binOp b t u r).run Try.prog W = .ok s W) : (execOp a.eval o).run Try.prog W = .ok (.value s) W := by
  unfold execOp
  simp only [ho, hx, hy, Sem.run_bind, Sem.run_pure, hq, hl, Result.andThen_ok]
theorem ex_fa {x : Operand} {t k : Nat} {p q : Value} (ho : o.op = .fieldAddr t x k) (hx : a.eval x = p) (hf : (Instr.fieldAt t p k).run Try.prog W = .ok q W) : (execOp a.eval o).run Try.prog W = .ok (.value q) W := by
  unfold execOp
  simp only [ho, hx, Sem.run_bind, Sem.run_pure, hf, Result.andThen_ok]
theorem ex_load {x : Operand} {t : Nat} (ho : o.op = .load t x) {p : Value} (hx : a.eval x = p) (hl : (Instr.loadAt t p).run Try.prog W = .ok v W) : (execOp a.eval o).run Try.prog W = .ok (.value v) W := by
  unfold execOp
  simp only [ho, hx, Sem.run_bind, Sem.run_pure, hl, Result.andThen_ok]
theorem ex_len {x : Operand} {t : Nat} {u : Value} (ho : o.op = .call { callee := .builtin .len, args := #[x], argTypes := #[t] }) (hx : a.eval x = u) (hr : (Builtin.len_ #[t] o.type #[u]).run Try.prog W = .ok v W) : (execOp a.eval o).run Try.prog W = .ok (.value v) W := by
  unfold execOp
  simp [ho, resolve, invoke, builtin, hx, hr, Result.andThen]
theorem ex_store {x y : Operand} {t : Nat} {p u : Value} (ho : o.op = .store t x y) (hx : a.eval x = p) (hy : a.eval y = u) (hr : (Instr.storeAt t p u).run Try.prog W = .ok () W') : (execOp a.eval o).run Try.prog W = .ok .skip W' := by
  unfold execOp
  simp [ho, hx, hy, hr]
theorem ex_app {s x : Operand} {t : Nat} {u n : Value} (ho : o.op = .call { callee := .builtin .append, args := #[s, x], argTypes := #[t, t] }) (hs : a.eval s = u) (hx : a.eval x = n) (hr : (Builtin.append_ #[t, t] o.type #[u, n]).run Try.prog W = .ok v W') : (execOp a.eval o).run Try.prog W = .ok (.value v) W' := by
  unfold execOp
  simp [ho, resolve, invoke, builtin, hs, hx, hr, Result.andThen]
theorem ex_call {f : Nat} {xs : Array Operand} {ts : Array TypeId} (ho : o.op = .call { callee := .value (.func f), args := xs, argTypes := ts }) (hf : ∀ vs, (callFunc f vs).run Try.prog W = .ok (.enter f vs) W) {vs : List Value} (hv : xs.toList.map a.eval = vs) : (execOp a.eval o).run Try.prog W = .ok (.enter f vs.toArray) W := by
  have hm : xs.map a.eval = vs.toArray := by rw [← hv, ← Array.toList_map]
  have := hf (xs.map a.eval)
  rw [← hm]
  unfold execOp
  simp only [ho, resolve, Sem.run_bind]
  have he : a.eval (.func f) = .func (.func f) #[] #[] := rfl
  rw [he]
  simp [Deferred.ofValue, invoke, this]
/-- a function that is a value is called, with what it captured behind -/
theorem ex_callv {f : Nat} {x : Operand} {xs : Array Operand} {ts : Array TypeId} {cap : Array Value} (ho : o.op = .call { callee := .value x, args := xs, argTypes := ts }) (hx : a.eval x = .func (.func f) #[] cap) (hf : ∀ vs, (callFunc f vs).run Try.prog W = .ok (.enter f vs) W) {vs : List Value} (hv : xs.toList.map a.eval = vs) : (execOp a.eval o).run Try.prog W = .ok (.enter f (vs.toArray ++ cap)) W := by
  have hm : xs.map a.eval = vs.toArray := by rw [← hv, ← Array.toList_map]
  have := hf (xs.map a.eval ++ cap)
  rw [← hm]
  unfold execOp
  simp only [ho, resolve, Sem.run_bind]; rw [hx]
  simp [Deferred.ofValue, invoke, this]
theorem ex_mkf {f : Nat} {cs : Array Operand} (ho : o.op = .makeFunc (.func f) #[] cs) {vs : List Value} (hv : cs.toList.map a.eval = vs) : (execOp a.eval o).run Try.prog W = .ok (.value (.func (.func f) #[] vs.toArray)) W := by
  have hm : cs.map a.eval = vs.toArray := by rw [← hv, ← Array.toList_map]
  rw [← hm]
  unfold execOp
  simp only [ho]
  go_simp
theorem ex_build0 {t : Nat} (ho : o.op = .build t #[]) (hb : (Instr.build t #[]).run Try.prog W = .ok v W) : (execOp a.eval o).run Try.prog W = .ok (.value v) W := by
  unfold execOp
  simp [ho, hb]
theorem ex_build1 {t k1 : Nat} {x : Operand} (ho : o.op = .build t #[(k1, x)]) {v1 : Value} (h1 : a.eval x = v1) (hb : (Instr.build t #[(k1, v1)]).run Try.prog W = .ok v W) : (execOp a.eval o).run Try.prog W = .ok (.value v) W := by
  unfold execOp
  simp [ho, h1, hb]
theorem ex_build2 {t k1 k2 : Nat} {x y : Operand} (ho : o.op = .build t #[(k1, x), (k2, y)]) {v1 v2 : Value} (h1 : a.eval x = v1) (h2 : a.eval y = v2) (hb : (Instr.build t #[(k1, v1), (k2, v2)]).run Try.prog W = .ok v W) : (execOp a.eval o).run Try.prog W = .ok (.value v) W := by
  unfold execOp
  simp [ho, h1, h2, hb]
theorem ex_build3 {t k1 k2 k3 : Nat} {x y z : Operand} (ho : o.op = .build t #[(k1, x), (k2, y), (k3, z)]) {v1 v2 v3 : Value} (h1 : a.eval x = v1) (h2 : a.eval y = v2) (h3 : a.eval z = v3) (hb : (Instr.build t #[(k1, v1), (k2, v2), (k3, v3)]).run Try.prog W = .ok v W) : (execOp a.eval o).run Try.prog W = .ok (.value v) W := by
  unfold execOp
  simp [ho, h1, h2, h3, hb]
theorem ex_build4 {t k1 k2 k3 k4 : Nat} {x y z u : Operand} (ho : o.op = .build t #[(k1, x), (k2, y), (k3, z), (k4, u)]) {v1 v2 v3 v4 : Value} (h1 : a.eval x = v1) (h2 : a.eval y = v2) (h3 : a.eval z = v3) (h4 : a.eval u = v4) (hb : (Instr.build t #[(k1, v1), (k2, v2), (k3, v3), (k4, v4)]).run Try.prog W = .ok v W) : (execOp a.eval o).run Try.prog W = .ok (.value v) W := by
  unfold execOp
  simp [ho, h1, h2, h3, h4, hb]
theorem ex_bsl0 {t : Nat} (ho : o.op = .buildSlice t 0 #[]) (hb : (Instr.buildSlice t 0 #[]).run Try.prog W = .ok v W') : (execOp a.eval o).run Try.prog W = .ok (.value v) W' := by
  unfold execOp
  simp [ho, hb]
theorem ex_bsl1 {x : Operand} {t : Nat} (ho : o.op = .buildSlice t 1 #[(0, x)]) {u : Value} (h1 : a.eval x = u) (hb : (Instr.buildSlice t 1 #[(0, u)]).run Try.prog W = .ok v W') : (execOp a.eval o).run Try.prog W = .ok (.value v) W' := by
  unfold execOp
  simp [ho, h1, hb]
theorem ex_bsl2 {x y : Operand} {t : Nat} (ho : o.op = .buildSlice t 2 #[(0, x), (1, y)]) {u r : Value} (h1 : a.eval x = u) (h2 : a.eval y = r) (hb : (Instr.buildSlice t 2 #[(0, u), (1, r)]).run Try.prog W = .ok v W') : (execOp a.eval o).run Try.prog W = .ok (.value v) W' := by
  unfold execOp
  simp [ho, h1, h2, hb]
theorem ex_box {x : Operand} {C : Array Value} {T : Nat} (ho : o.op = .box T x) (hx : a.eval x = .agg C) : (execOp a.eval o).run Try.prog W = .ok (.value (.pointer (some ⟨W.heap.size, 0, none⟩))) (W.alloc (.cells C T)) := by
  unfold execOp
  simp only [ho, hx]
  go_simp
theorem ex_box3 {x : Operand} {n : Int} (ho : o.op = .box 3 x) (hx : a.eval x = .int .i64 n) : (execOp a.eval o).run Try.prog W = .ok (.value (.pointer (some ⟨W.heap.size, 0, none⟩))) (W.alloc (.cells #[.int .i64 n] 3)) := by
  unfold execOp
  simp only [ho, hx]
  go_simp
theorem ex_alloc {T : Nat} {Z : Array Value} {n : Nat} (ho : o.op = .alloc T) (hz : (Try.prog.info? T).map (fun i => (i.zero, i.size)) = some (some (.agg Z), n)) : (execOp a.eval o).run Try.prog W = .ok (.value (.pointer (some ⟨W.heap.size, 0, none⟩))) (W.alloc (.cells Z T)) := by
  have hz := zero_of_info hz
  unfold execOp
  simp only [ho]
  go_simp
end

section
variable {o : Oper} {a : Act} {W : World}
theorem ex_build5 {t k1 k2 k3 k4 k5 : Nat} {x y z u s : Operand} (ho : o.op = .build t #[(k1, x), (k2, y), (k3, z), (k4, u), (k5, s)]) {v v1 v2 v3 v4 v5 : Value} (h1 : a.eval x = v1) (h2 : a.eval y = v2) (h3 : a.eval z = v3) (h4 : a.eval u = v4) (h5 : a.eval s = v5) (hb : (Instr.build t #[(k1, v1), (k2, v2), (k3, v3), (k4, v4), (k5, v5)]).run Try.prog W = .ok v W) : (execOp a.eval o).run Try.prog W = .ok (.value v) W := by
  unfold execOp
  simp [ho, h1, h2, h3, h4, h5, hb]
end

section
variable {ops : Array Oper} {rest : List Oper} {o : Oper} {a : Act} {w w' : World} {Q : Exit → Act → World → Prop} {md : Region.Mode} {fuel : Nat} {L : Array Bool} {i j k l : Nat} {v : Value} {S : World → Prop}
theorem ah_take (d : Option Tmp) (hi : ops[i]? = some o) (hd : o.dst = d) (hs : Region.noSelect ops = true) (hf : Region.free md ops L i = true) (hr : (Region.ready md ops L).contains i = true) (hw : Region.wanted o (yielded ops a.tmps) = true) (hx : ∀ W, S W → (execOp a.eval o).run Try.prog W = .ok (.value v) W) (hS : S w)
    (hQ : ∀ c a w, Q (.panic c) (a.put d v) w → Q (.panic c) a w) (h : wpAnyH Try.prog md ops Q S fuel (L.setIfInBounds i true) (a.put d v) w) : wpAnyH Try.prog md ops Q S (fuel + 1) L a w := by
  subst hd; exact wpAnyH_take hi hs hf hr hQ (.inl ⟨hw, hx⟩) hS h
theorem ah_skip (d : Option Tmp) (hi : ops[i]? = some o) (hd : o.dst = d) (hs : Region.noSelect ops = true) (hf : Region.free md ops L i = true) (hr : (Region.ready md ops L).contains i = true) (hw : Region.wanted o (yielded ops a.tmps) = false) (hS : S w)
    (hQ : ∀ c a w, Q (.panic c) (a.put d undef) w → Q (.panic c) a w) (h : wpAnyH Try.prog md ops Q S fuel (L.setIfInBounds i true) (a.put d undef) w) : wpAnyH Try.prog md ops Q S (fuel + 1) L a w := by
  subst hd; exact wpAnyH_take hi hs hf hr hQ (.inr ⟨hw, rfl⟩) hS h
theorem ah_done (hr : Region.ready md ops L = []) (h : Q .normal a w) : wpAnyH Try.prog md ops Q S fuel L a w := wpAnyH_done hr h _
/-- it comes up next -/
def Nx (md : Region.Mode) (ops : Array Oper) (Q : Exit → Act → World → Prop) (S : World → Prop) (fuel : Nat) (L : Array Bool) (i : Nat) (a : Act) (w : World) : Prop := wpOp Try.prog ops Q i (fun a' w' => S w' ∧ wpAnyH Try.prog md ops Q S fuel (L.setIfInBounds i true) a' w') a w
theorem ah_or1 (hr : Region.ready md ops L = [i]) (h1 : Nx md ops Q S fuel L i a w) : wpAnyH Try.prog md ops Q S (fuel + 1) L a w :=
  wpAnyH_all hr (by simp) fun m hm => by rw [List.mem_singleton.1 hm]; exact h1
theorem ah_or2 (hr : Region.ready md ops L = [i, j]) (h1 : Nx md ops Q S fuel L i a w) (h2 : Nx md ops Q S fuel L j a w) : wpAnyH Try.prog md ops Q S (fuel + 1) L a w :=
  wpAnyH_all hr (by simp) fun m hm => by
    rcases List.mem_cons.1 hm with rfl | hm
    · exact h1
    · rw [List.mem_singleton.1 hm]; exact h2
theorem ah_or3 (hr : Region.ready md ops L = [i, j, k]) (h1 : Nx md ops Q S fuel L i a w) (h2 : Nx md ops Q S fuel L j a w) (h3 : Nx md ops Q S fuel L k a w) : wpAnyH Try.prog md ops Q S (fuel + 1) L a w :=
  wpAnyH_all hr (by simp) fun m hm => by
    rcases List.mem_cons.1 hm with rfl | hm
    · exact h1
    rcases List.mem_cons.1 hm with rfl | hm
    · exact h2
    · rw [List.mem_singleton.1 hm]; exact h3
theorem nx_wp (hi : ops[i]? = some o) (hw : Region.wanted o (yielded ops a.tmps) = true)
    (h : ∀ K : Act → World → Prop, (∀ a' w', S w' → wpAnyH Try.prog md ops Q S fuel (L.setIfInBounds i true) a' w' → K a' w') → o.wp Try.prog a w K Q) : Nx md ops Q S fuel L i a w :=
  wpOp_step hi fun K hK => by rw [if_pos hw]; exact h K (fun a' w' h1 h2 => hK a' w' ⟨h1, h2⟩)
theorem nx_to (d : Option Tmp) (hi : ops[i]? = some o) (hd : o.dst = d) (hw : Region.wanted o (yielded ops a.tmps) = true) (hx : (execOp a.eval o).run Try.prog w = .ok (.value v) w') (hS : S w')
    (h : wpAnyH Try.prog md ops Q S fuel (L.setIfInBounds i true) (a.put d v) w') : Nx md ops Q S fuel L i a w :=
  nx_wp hi hw fun K hK => by subst hd; unfold Oper.wp; rw [hx]; exact hK _ _ hS h
theorem nx_sk (hi : ops[i]? = some o) (hd : o.dst = none) (hw : Region.wanted o (yielded ops a.tmps) = true) (hx : (execOp a.eval o).run Try.prog w = .ok .skip w') (hS : S w')
    (h : wpAnyH Try.prog md ops Q S fuel (L.setIfInBounds i true) a w') : Nx md ops Q S fuel L i a w :=
  nx_wp hi hw fun K hK => by unfold Oper.wp; rw [hx]; exact hK _ _ hS (by rw [hd]; exact h)
theorem nx_call (d : Option Tmp) (hi : ops[i]? = some o) (hd : o.dst = d) (hw : Region.wanted o (yielded ops a.tmps) = true) {f : FuncId} {args : Array Value} {post : Ending → World → Prop} (hc : Calls Try.prog f args w post) (hx : (execOp a.eval o).run Try.prog w = .ok (.enter f args) w)
    (h : ∀ e w', post e w' → ∃ v, e = .returned v ∧ S w' ∧ wpAnyH Try.prog md ops Q S fuel (L.setIfInBounds i true) (a.put d v) w') : Nx md ops Q S fuel L i a w :=
  nx_wp hi hw fun K hK => by
    subst hd
    unfold Oper.wp
    rw [hx]; refine Calls.mono hc fun e w' hp => ?_; obtain ⟨v, rfl, hS, h'⟩ := h e w' hp; exact hK _ _ hS h'
theorem nx_new (V : Nat → Value) (d : Option Tmp) (hi : ops[i]? = some o) (hd : o.dst = d) (hw : Region.wanted o (yielded ops a.tmps) = true) {ob : Obj} (hx : (execOp a.eval o).run Try.prog w = .ok (.value (V w.heap.size)) (w.alloc ob))
    (h : ∀ b w', w'.heap[b]? = some ob → w.heap.size ≤ b → Below w.heap.size w w' → S w' ∧ wpAnyH Try.prog md ops Q S fuel (L.setIfInBounds i true) (a.put d (V b)) w') : Nx md ops Q S fuel L i a w :=
  have hh := h _ _ (heap_alloc_last w ob) (Nat.le_refl _) ((Below.refl _ _).alloc (Nat.le_refl _) ob)
  nx_to d hi hd hw hx hh.1 hh.2
end
/-- a store of all of a block -/
theorem put_all {W : World} {b T : Nat} {C D : Array Value} (k : W.heap[b]? = some (.cells C T)) (hs : C.size = D.size) (hi : (Try.prog.info? T).map (·.size) = some D.size) (h1 : D.all (·.oneCell') = true) :
    ∃ W', (Instr.storeAt T (.pointer (some ⟨b, 0, none⟩)) (.agg D)).run Try.prog W = .ok () W' ∧ W'.heap[b]? = some (.cells D T) ∧ Kept (· = b) W W' := by
  refine ⟨W.setRow b D, ?_, setRow_heap W b C D T _ k, ⟨rfl, rfl, rfl, by simp, fun j hj hn => setRow_other W b j D hn⟩⟩; simp only [Instr.storeAt, Instr.sureAddr, Sem.run_bind, Sem.run_pure, Result.andThen]; exact run_storeVar_row _ _ T T C D k hi hs h1
/-- a store of one cell -/
theorem put_cell {W : World} {b T i : Nat} {C : Array Value} (v : Value) (k : W.heap[b]? = some (.cells C T)) : (W.setCell ⟨b, i, none⟩ v).heap[b]? = some (.cells (C.setIfInBounds i v) T) ∧ Kept (· = b) W (W.setCell ⟨b, i, none⟩ v) :=
  ⟨Go.heap_setCell_same W b i C T v k, ⟨rfl, rfl, rfl, by simp [World.setCell], fun j hj hn => Below.heap_setCell W _ _ j hn⟩⟩
theorem unfrozen {W : World} {b T i : Nat} {C : Array Value} (k : W.heap[b]? = some (.cells C T)) : W.frozen? ⟨b, i, none⟩ = false := by
  simp [World.frozen?, k]
theorem ld_all {W : World} {b T : Nat} {C : Array Value} {d : TypeDesc} (hb : W.heap[b]? = some (.cells C T)) (hu : Try.prog.underlying T = some d) (hd : d.isRow = true) (hi : (Try.prog.info? T).map (·.size) = some C.size) :
    (Instr.loadAt T (.pointer (some ⟨b, 0, none⟩))).run Try.prog W = .ok (.agg C) W := by
  have := run_loadAt_mid (P := Try.prog) W b 0 T (C.toList) d (fun j v hv => by
    rw [Nat.zero_add]
    exact at_cell hb (by simpa using hv)) hu hd (by simpa using hi)
  simpa using this
/-- a part of a block -/
theorem ld_part {W : World} {b o n T t : Nat} {C : Array Value} {d : TypeDesc} (hb : W.heap[b]? = some (.cells C T)) (hn : o + n ≤ C.size) (hu : Try.prog.underlying t = some d) (hd : d.isRow = true) (hi : (Try.prog.info? t).map (·.size) = some n) :
    (Instr.loadAt t (.pointer (some ⟨b, o, none⟩))).run Try.prog W = .ok (.agg (C.extract o (o + n))) W := by
  have := run_loadAt_mid (P := Try.prog) W b o t ((C.extract o (o + n)).toList) d (at_range hb hn) hu hd (by rw [hi]; simp; omega)
  rw [Array.toArray_toList] at this; exact this
/-- cells, wherever they are -/
theorem ld_range {W : World} {b o t : Nat} {C : Array Value} {d : TypeDesc} (hb : W.rangeAt b o C.toList) (hu : Try.prog.underlying t = some d) (hd : d.isRow = true) (hi : (Try.prog.info? t).map (·.size) = some C.size) :
    (Instr.loadAt t (.pointer (some ⟨b, o, none⟩))).run Try.prog W = .ok (.agg C) W := by
  have := run_loadAt_mid (P := Try.prog) W b o t (C.toList) d hb hu hd (by simpa using hi)
  simpa using this


theorem inf32 : (Try.prog.info? 32).map (·.size) = some 7 := by kernel_rfl
theorem inf36 : (Try.prog.info? 36).map (·.size) = some 5 := by kernel_rfl
theorem inf43 : (Try.prog.info? 43).map (·.size) = some 2 := by kernel_rfl
theorem inf45 : (Try.prog.info? 45).map (·.size) = some 5 := by kernel_rfl
theorem inf47 : (Try.prog.info? 47).map (·.size) = some 4 := by kernel_rfl
theorem inf49 : (Try.prog.info? 49).map (·.size) = some 13 := by kernel_rfl
theorem inf60 : (Try.prog.info? 60).map (·.size) = some 17 := by kernel_rfl
theorem inf113 : (Try.prog.info? 113).map (·.size) = some 8 := by kernel_rfl
theorem inf119 : (Try.prog.info? 119).map (·.size) = some 0 := by kernel_rfl
theorem zero36 : (Try.prog.info? 36).map (fun i => (i.zero, i.size)) = some (some (.agg #[.slice none 0 0, .slice none 0 0, .slice none 0 0, .int .i64 0, .float .f64 0]), 5) := by kernel_rfl
theorem zero45 : (Try.prog.info? 45).map (fun i => (i.zero, i.size)) = some (some (.agg #[.int .i64 0, .int .i64 0, .int .i64 0, .int .i64 0, .int .i64 0]), 5) := by kernel_rfl
theorem zero47 : (Try.prog.info? 47).map (fun i => (i.zero, i.size)) = some (some (.agg #[.int .i64 0, .int .i64 0, .int .i64 0, .int .i64 0]), 4) := by kernel_rfl
theorem zero49 : (Try.prog.info? 49).map (fun i => (i.zero, i.size)) = some (some (.agg #[.int .i64 0, .int .i64 0, .int .i64 0, .int .i64 0, .int .i64 0, .int .i64 0, .int .i64 0, .int .i64 0, .int .i64 0, .int .i64 0, .int .i64 0, .int .i64 0, .int .i64 0]), 13) := by kernel_rfl
theorem zero60 : (Try.prog.info? 60).map (fun i => (i.zero, i.size)) = some (some (.agg #[.int .i64 0, .int .i64 0, .int .i64 0, .int .i64 0, .int .i64 0, .int .i64 0, .int .i64 0, .int .i64 0, .int .i64 0, .int .i64 0, .int .i64 0, .int .i64 0, .int .i64 0, .int .i64 0, .int .i64 0, .int .i64 0, .bool false]), 17) := by kernel_rfl
theorem zero113 : (Try.prog.info? 113).map (fun i => (i.zero, i.size)) = some (some (.agg #[.slice none 0 0, .slice none 0 0, .slice none 0 0, .slice none 0 0, .slice none 0 0, .slice none 0 0, .slice none 0 0, .slice none 0 0]), 8) := by kernel_rfl
theorem zero117 : (Try.prog.info? 117).map (fun i => (i.zero, i.size)) = some (some (.agg #[.bool false, .bool false, .bool false, .bool false, .bool false, .bool false, .bool false, .bool false]), 8) := by kernel_rfl
theorem zero119 : (Try.prog.info? 119).map (fun i => (i.zero, i.size)) = some (some (.agg #[]), 0) := by kernel_rfl
theorem ld3 {W : World} {b o : Nat} {n : Int} (h : W.cell? ⟨b, o, none⟩ = some (.int .i64 n)) : (Instr.loadAt 3 (.pointer (some ⟨b, o, none⟩))).run Try.prog W = .ok (.int .i64 n) W := by go_simp
theorem ld4 {W : World} {b o : Nat} {n : Bool} (h : W.cell? ⟨b, o, none⟩ = some (.bool n)) : (Instr.loadAt 4 (.pointer (some ⟨b, o, none⟩))).run Try.prog W = .ok (.bool n) W := by go_simp
theorem ld23 {W : World} {b o : Nat} {x : Option Addr} (h : W.cell? ⟨b, o, none⟩ = some (.pointer x)) : (Instr.loadAt 23 (.pointer (some ⟨b, o, none⟩))).run Try.prog W = .ok (.pointer x) W := by go_simp
theorem ld30 {W : World} {b o : Nat} {x : Option Addr} {n c : Nat} (h : W.cell? ⟨b, o, none⟩ = some (.slice x n c)) : (Instr.loadAt 30 (.pointer (some ⟨b, o, none⟩))).run Try.prog W = .ok (.slice x n c) W := by go_simp
theorem ld33 {W : World} {b o : Nat} {x : Option Addr} {n c : Nat} (h : W.cell? ⟨b, o, none⟩ = some (.slice x n c)) : (Instr.loadAt 33 (.pointer (some ⟨b, o, none⟩))).run Try.prog W = .ok (.slice x n c) W := by go_simp
theorem ld34 {W : World} {b o : Nat} {n : Nat} (h : W.cell? ⟨b, o, none⟩ = some (.float .f64 n)) : (Instr.loadAt 34 (.pointer (some ⟨b, o, none⟩))).run Try.prog W = .ok (.float .f64 n) W := by go_simp
theorem sto3 {W : World} {b i : Nat} {old : Value} {n : Int} (h : W.cell? ⟨b, i, none⟩ = some old) (hf : W.frozen? ⟨b, i, none⟩ = false) : (Instr.storeAt 3 (.pointer (some ⟨b, i, none⟩)) (.int .i64 n)).run Try.prog W = .ok () (W.setCell ⟨b, i, none⟩ (.int .i64 n)) := by
  go_simp
theorem sto4 {W : World} {b i : Nat} {old : Value} {n : Bool} (h : W.cell? ⟨b, i, none⟩ = some old) (hf : W.frozen? ⟨b, i, none⟩ = false) : (Instr.storeAt 4 (.pointer (some ⟨b, i, none⟩)) (.bool n)).run Try.prog W = .ok () (W.setCell ⟨b, i, none⟩ (.bool n)) := by
  go_simp
theorem sto33 {W : World} {b i : Nat} {old : Value} {x : Option Addr} {n c : Nat} (h : W.cell? ⟨b, i, none⟩ = some old) (hf : W.frozen? ⟨b, i, none⟩ = false) : (Instr.storeAt 33 (.pointer (some ⟨b, i, none⟩)) (.slice x n c)).run Try.prog W = .ok () (W.setCell ⟨b, i, none⟩ (.slice x n c)) := by
  go_simp
theorem sto34 {W : World} {b i : Nat} {old : Value} {n : Nat} (h : W.cell? ⟨b, i, none⟩ = some old) (hf : W.frozen? ⟨b, i, none⟩ = false) : (Instr.storeAt 34 (.pointer (some ⟨b, i, none⟩)) (.float .f64 n)).run Try.prog W = .ok () (W.setCell ⟨b, i, none⟩ (.float .f64 n)) := by
  go_simp
  rw [run_store _ _ _ _ _ rfl]
  go_simp
theorem len22 (x : Option Addr) (n c : Nat) (ty : TypeId) (W : World) : (Builtin.len_ #[22] ty #[.slice x n c]).run Try.prog W = .ok (.int .i64 n) W := by go_simp
theorem len30 (x : Option Addr) (n c : Nat) (ty : TypeId) (W : World) : (Builtin.len_ #[30] ty #[.slice x n c]).run Try.prog W = .ok (.int .i64 n) W := by go_simp
theorem len33 (x : Option Addr) (n c : Nat) (ty : TypeId) (W : World) : (Builtin.len_ #[33] ty #[.slice x n c]).run Try.prog W = .ok (.int .i64 n) W := by go_simp
theorem len50 (x : Option Addr) (n c : Nat) (ty : TypeId) (W : World) : (Builtin.len_ #[50] ty #[.slice x n c]).run Try.prog W = .ok (.int .i64 n) W := by go_simp
theorem fa32_0 (b : Nat) (W : World) : (Instr.fieldAt 32 (.pointer (some ⟨b, 0, none⟩)) 0).run Try.prog W = .ok (.pointer (some ⟨b, 0, none⟩)) W := by go_simp
theorem fa32_1 (b : Nat) (W : World) : (Instr.fieldAt 32 (.pointer (some ⟨b, 0, none⟩)) 1).run Try.prog W = .ok (.pointer (some ⟨b, 1, none⟩)) W := by go_simp
theorem fa32_2 (b : Nat) (W : World) : (Instr.fieldAt 32 (.pointer (some ⟨b, 0, none⟩)) 2).run Try.prog W = .ok (.pointer (some ⟨b, 2, none⟩)) W := by go_simp
theorem fa32_3 (b : Nat) (W : World) : (Instr.fieldAt 32 (.pointer (some ⟨b, 0, none⟩)) 3).run Try.prog W = .ok (.pointer (some ⟨b, 3, none⟩)) W := by go_simp
theorem fa32_4 (b : Nat) (W : World) : (Instr.fieldAt 32 (.pointer (some ⟨b, 0, none⟩)) 4).run Try.prog W = .ok (.pointer (some ⟨b, 4, none⟩)) W := by go_simp
theorem fa32_5 (b : Nat) (W : World) : (Instr.fieldAt 32 (.pointer (some ⟨b, 0, none⟩)) 5).run Try.prog W = .ok (.pointer (some ⟨b, 5, none⟩)) W := by go_simp
theorem fa32_6 (b : Nat) (W : World) : (Instr.fieldAt 32 (.pointer (some ⟨b, 0, none⟩)) 6).run Try.prog W = .ok (.pointer (some ⟨b, 6, none⟩)) W := by go_simp
theorem fa36_0 (b : Nat) (W : World) : (Instr.fieldAt 36 (.pointer (some ⟨b, 0, none⟩)) 0).run Try.prog W = .ok (.pointer (some ⟨b, 0, none⟩)) W := by go_simp
theorem fa36_1 (b : Nat) (W : World) : (Instr.fieldAt 36 (.pointer (some ⟨b, 0, none⟩)) 1).run Try.prog W = .ok (.pointer (some ⟨b, 1, none⟩)) W := by go_simp
theorem fa36_2 (b : Nat) (W : World) : (Instr.fieldAt 36 (.pointer (some ⟨b, 0, none⟩)) 2).run Try.prog W = .ok (.pointer (some ⟨b, 2, none⟩)) W := by go_simp
theorem fa36_3 (b : Nat) (W : World) : (Instr.fieldAt 36 (.pointer (some ⟨b, 0, none⟩)) 3).run Try.prog W = .ok (.pointer (some ⟨b, 3, none⟩)) W := by go_simp
theorem fa36_4 (b : Nat) (W : World) : (Instr.fieldAt 36 (.pointer (some ⟨b, 0, none⟩)) 4).run Try.prog W = .ok (.pointer (some ⟨b, 4, none⟩)) W := by go_simp
theorem fa43_0 (b : Nat) (W : World) : (Instr.fieldAt 43 (.pointer (some ⟨b, 0, none⟩)) 0).run Try.prog W = .ok (.pointer (some ⟨b, 0, none⟩)) W := by go_simp
theorem fa43_1 (b : Nat) (W : World) : (Instr.fieldAt 43 (.pointer (some ⟨b, 0, none⟩)) 1).run Try.prog W = .ok (.pointer (some ⟨b, 1, none⟩)) W := by go_simp
theorem fa45_0 (b : Nat) (W : World) : (Instr.fieldAt 45 (.pointer (some ⟨b, 0, none⟩)) 0).run Try.prog W = .ok (.pointer (some ⟨b, 0, none⟩)) W := by go_simp
theorem fg45_0 (b p : Nat) (W : World) : (Instr.fieldAt 45 (.pointer (some ⟨b, p, none⟩)) 0).run Try.prog W = .ok (.pointer (some ⟨b, p, none⟩)) W := by go_simp
theorem fa45_1 (b : Nat) (W : World) : (Instr.fieldAt 45 (.pointer (some ⟨b, 0, none⟩)) 1).run Try.prog W = .ok (.pointer (some ⟨b, 2, none⟩)) W := by go_simp
theorem fg45_1 (b p : Nat) (W : World) : (Instr.fieldAt 45 (.pointer (some ⟨b, p, none⟩)) 1).run Try.prog W = .ok (.pointer (some ⟨b, p + 2, none⟩)) W := by go_simp
theorem fa45_2 (b : Nat) (W : World) : (Instr.fieldAt 45 (.pointer (some ⟨b, 0, none⟩)) 2).run Try.prog W = .ok (.pointer (some ⟨b, 3, none⟩)) W := by go_simp
theorem fa45_3 (b : Nat) (W : World) : (Instr.fieldAt 45 (.pointer (some ⟨b, 0, none⟩)) 3).run Try.prog W = .ok (.pointer (some ⟨b, 4, none⟩)) W := by go_simp
theorem fa47_0 (b : Nat) (W : World) : (Instr.fieldAt 47 (.pointer (some ⟨b, 0, none⟩)) 0).run Try.prog W = .ok (.pointer (some ⟨b, 0, none⟩)) W := by go_simp
theorem fa47_1 (b : Nat) (W : World) : (Instr.fieldAt 47 (.pointer (some ⟨b, 0, none⟩)) 1).run Try.prog W = .ok (.pointer (some ⟨b, 1, none⟩)) W := by go_simp
theorem fa47_2 (b : Nat) (W : World) : (Instr.fieldAt 47 (.pointer (some ⟨b, 0, none⟩)) 2).run Try.prog W = .ok (.pointer (some ⟨b, 2, none⟩)) W := by go_simp
theorem fa47_3 (b : Nat) (W : World) : (Instr.fieldAt 47 (.pointer (some ⟨b, 0, none⟩)) 3).run Try.prog W = .ok (.pointer (some ⟨b, 3, none⟩)) W := by go_simp
theorem fa49_0 (b : Nat) (W : World) : (Instr.fieldAt 49 (.pointer (some ⟨b, 0, none⟩)) 0).run Try.prog W = .ok (.pointer (some ⟨b, 0, none⟩)) W := by go_simp
theorem fg49_0 (b p : Nat) (W : World) : (Instr.fieldAt 49 (.pointer (some ⟨b, p, none⟩)) 0).run Try.prog W = .ok (.pointer (some ⟨b, p, none⟩)) W := by go_simp
theorem fa49_1 (b : Nat) (W : World) : (Instr.fieldAt 49 (.pointer (some ⟨b, 0, none⟩)) 1).run Try.prog W = .ok (.pointer (some ⟨b, 1, none⟩)) W := by go_simp
theorem fg49_1 (b p : Nat) (W : World) : (Instr.fieldAt 49 (.pointer (some ⟨b, p, none⟩)) 1).run Try.prog W = .ok (.pointer (some ⟨b, p + 1, none⟩)) W := by go_simp
theorem fa49_2 (b : Nat) (W : World) : (Instr.fieldAt 49 (.pointer (some ⟨b, 0, none⟩)) 2).run Try.prog W = .ok (.pointer (some ⟨b, 2, none⟩)) W := by go_simp
theorem fg49_2 (b p : Nat) (W : World) : (Instr.fieldAt 49 (.pointer (some ⟨b, p, none⟩)) 2).run Try.prog W = .ok (.pointer (some ⟨b, p + 2, none⟩)) W := by go_simp
theorem fa49_3 (b : Nat) (W : World) : (Instr.fieldAt 49 (.pointer (some ⟨b, 0, none⟩)) 3).run Try.prog W = .ok (.pointer (some ⟨b, 3, none⟩)) W := by go_simp
theorem fg49_3 (b p : Nat) (W : World) : (Instr.fieldAt 49 (.pointer (some ⟨b, p, none⟩)) 3).run Try.prog W = .ok (.pointer (some ⟨b, p + 3, none⟩)) W := by go_simp
theorem fa49_4 (b : Nat) (W : World) : (Instr.fieldAt 49 (.pointer (some ⟨b, 0, none⟩)) 4).run Try.prog W = .ok (.pointer (some ⟨b, 4, none⟩)) W := by go_simp
theorem fg49_4 (b p : Nat) (W : World) : (Instr.fieldAt 49 (.pointer (some ⟨b, p, none⟩)) 4).run Try.prog W = .ok (.pointer (some ⟨b, p + 4, none⟩)) W := by go_simp
theorem fa49_5 (b : Nat) (W : World) : (Instr.fieldAt 49 (.pointer (some ⟨b, 0, none⟩)) 5).run Try.prog W = .ok (.pointer (some ⟨b, 9, none⟩)) W := by go_simp
theorem fg49_5 (b p : Nat) (W : World) : (Instr.fieldAt 49 (.pointer (some ⟨b, p, none⟩)) 5).run Try.prog W = .ok (.pointer (some ⟨b, p + 9, none⟩)) W := by go_simp
theorem fa60_0 (b : Nat) (W : World) : (Instr.fieldAt 60 (.pointer (some ⟨b, 0, none⟩)) 0).run Try.prog W = .ok (.pointer (some ⟨b, 0, none⟩)) W := by go_simp
theorem fa60_1 (b : Nat) (W : World) : (Instr.fieldAt 60 (.pointer (some ⟨b, 0, none⟩)) 1).run Try.prog W = .ok (.pointer (some ⟨b, 1, none⟩)) W := by go_simp
theorem fa60_2 (b : Nat) (W : World) : (Instr.fieldAt 60 (.pointer (some ⟨b, 0, none⟩)) 2).run Try.prog W = .ok (.pointer (some ⟨b, 14, none⟩)) W := by go_simp
theorem fa60_3 (b : Nat) (W : World) : (Instr.fieldAt 60 (.pointer (some ⟨b, 0, none⟩)) 3).run Try.prog W = .ok (.pointer (some ⟨b, 15, none⟩)) W := by go_simp
theorem fa60_4 (b : Nat) (W : World) : (Instr.fieldAt 60 (.pointer (some ⟨b, 0, none⟩)) 4).run Try.prog W = .ok (.pointer (some ⟨b, 16, none⟩)) W := by go_simp
theorem fa74_0 (b : Nat) (W : World) : (Instr.fieldAt 74 (.pointer (some ⟨b, 0, none⟩)) 0).run Try.prog W = .ok (.pointer (some ⟨b, 0, none⟩)) W := by go_simp
theorem fa105_0 (b : Nat) (W : World) : (Instr.fieldAt 105 (.pointer (some ⟨b, 0, none⟩)) 0).run Try.prog W = .ok (.pointer (some ⟨b, 0, none⟩)) W := by go_simp
section
variable {o : Oper} {a : Act} {W : World}
theorem ix22 {x y : Operand} {b p n c k : Nat} {i : Int} (ho : o.op = .indexAddr 22 x y) (hx : a.eval x = .slice (some ⟨b, p, none⟩) n c) (hy : a.eval y = .int .i64 i) (hi : i = (k : Int)) (hk : k < n) : (execOp a.eval o).run Try.prog W = .ok (.value (.pointer (some ⟨b, p + k * 17, none⟩))) W := by
  subst hi
  have h1 : (k : Int) < (n : Int) := by omega
  unfold execOp
  simp only [ho, hx, hy]
  go_simp
theorem ix30 {x y : Operand} {b p n c k : Nat} {i : Int} (ho : o.op = .indexAddr 30 x y) (hx : a.eval x = .slice (some ⟨b, p, none⟩) n c) (hy : a.eval y = .int .i64 i) (hi : i = (k : Int)) (hk : k < n) : (execOp a.eval o).run Try.prog W = .ok (.value (.pointer (some ⟨b, p + k, none⟩))) W := by
  subst hi
  have h1 : (k : Int) < (n : Int) := by omega
  unfold execOp
  simp only [ho, hx, hy]
  go_simp
theorem ix33 {x y : Operand} {b p n c k : Nat} {i : Int} (ho : o.op = .indexAddr 33 x y) (hx : a.eval x = .slice (some ⟨b, p, none⟩) n c) (hy : a.eval y = .int .i64 i) (hi : i = (k : Int)) (hk : k < n) : (execOp a.eval o).run Try.prog W = .ok (.value (.pointer (some ⟨b, p + k * 13, none⟩))) W := by
  subst hi
  have h1 : (k : Int) < (n : Int) := by omega
  unfold execOp
  simp only [ho, hx, hy]
  go_simp
theorem ix118 {x y : Operand} {b p n c k : Nat} {i : Int} (ho : o.op = .indexAddr 118 x y) (hx : a.eval x = .slice (some ⟨b, p, none⟩) n c) (hy : a.eval y = .int .i64 i) (hi : i = (k : Int)) (hk : k < n) : (execOp a.eval o).run Try.prog W = .ok (.value (.pointer (some ⟨b, p + k, none⟩))) W := by
  subst hi
  have h1 : (k : Int) < (n : Int) := by omega
  unfold execOp
  simp only [ho, hx, hy]
  go_simp
end
theorem eql3 {x y : Int} {c : Bool} (W : World) (hc : decide (x = y) = c) : (binOp .eql 3 (.int .i64 x) (.int .i64 y)).run Try.prog W = .ok (.bool c) W := by
  subst hc
  go_simp; by_cases h : x = y <;> simp [h]
theorem neq3 {x y : Int} {c : Bool} (W : World) (hc : decide (x ≠ y) = c) : (binOp .neq 3 (.int .i64 x) (.int .i64 y)).run Try.prog W = .ok (.bool c) W := by
  subst hc
  go_simp; by_cases h : x = y <;> simp [h]
theorem lss3 {x y : Int} {c : Bool} (W : World) (hc : decide (x < y) = c) : (binOp .lss 3 (.int .i64 x) (.int .i64 y)).run Try.prog W = .ok (.bool c) W := by
  subst hc
  go_simp
theorem leq3 {x y : Int} {c : Bool} (W : World) (hc : decide (x ≤ y) = c) : (binOp .leq 3 (.int .i64 x) (.int .i64 y)).run Try.prog W = .ok (.bool c) W := by
  subst hc
  go_simp
theorem gtr3 {x y : Int} {c : Bool} (W : World) (hc : decide (y < x) = c) : (binOp .gtr 3 (.int .i64 x) (.int .i64 y)).run Try.prog W = .ok (.bool c) W := by
  subst hc
  go_simp
theorem geq3 {x y : Int} {c : Bool} (W : World) (hc : decide (y ≤ x) = c) : (binOp .geq 3 (.int .i64 x) (.int .i64 y)).run Try.prog W = .ok (.bool c) W := by
  subst hc
  go_simp
theorem eg3 (bop : BinOp) (x y : Operand) (u v : Int) (W : World) : (eqGuard bop 3 x y (.int .i64 u) (.int .i64 v)).run Try.prog W = .ok () W := by cases bop <;> rfl
theorem neq4 {x y c : Bool} (W : World) (hc : (x != y) = c) : (binOp .neq 4 (.bool x) (.bool y)).run Try.prog W = .ok (.bool c) W := by
  subst hc
  cases x <;> cases y <;> (go_simp; try rfl)
theorem eg4 (bop : BinOp) (x y : Operand) (u v : Bool) (W : World) : (eqGuard bop 4 x y (.bool u) (.bool v)).run Try.prog W = .ok () W := by cases bop <;> rfl
theorem eql37 {x y : Int} {c : Bool} (W : World) (hc : decide (x = y) = c) : (binOp .eql 37 (.int .i64 x) (.int .i64 y)).run Try.prog W = .ok (.bool c) W := by
  subst hc
  go_simp; by_cases h : x = y <;> simp [h]
theorem neq37 {x y : Int} {c : Bool} (W : World) (hc : decide (x ≠ y) = c) : (binOp .neq 37 (.int .i64 x) (.int .i64 y)).run Try.prog W = .ok (.bool c) W := by
  subst hc
  go_simp; by_cases h : x = y <;> simp [h]
theorem eg37 (bop : BinOp) (x y : Operand) (u v : Int) (W : World) : (eqGuard bop 37 x y (.int .i64 u) (.int .i64 v)).run Try.prog W = .ok () W := by cases bop <;> rfl
theorem Kept.next {F : Nat → Prop} {a b c : World} (h : Kept F a b) (k : Below b.heap.size b c) : Kept F a c :=
  ⟨k.os.trans h.os, k.tape.trans h.tape, k.output.trans h.output, Nat.le_trans h.size k.size, fun i hi hn => (k.block i (Nat.lt_of_lt_of_le hi h.size)).trans (h.block i hi hn)⟩
theorem Kept.putX {X : Nat} {a b c : World} (h : Kept (· = X) a b) (k : Kept (· = X) b c) : Kept (· = X) a c :=
  ⟨k.os.trans h.os, k.tape.trans h.tape, k.output.trans h.output, Nat.le_trans h.size k.size, fun i hi hn => (k.block i (Nat.lt_of_lt_of_le hi h.size) hn).trans (h.block i hi hn)⟩
theorem Kept.putN {F : Nat → Prop} {n : Nat} {a b c : World} (h : Kept F a b) (k : Kept (· = n) b c) (hn : a.heap.size ≤ n) : Kept F a c :=
  ⟨k.os.trans h.os, k.tape.trans h.tape, k.output.trans h.output, Nat.le_trans h.size k.size, fun i hi hf => (k.block i (Nat.lt_of_lt_of_le hi h.size) (fun e => by omega)).trans (h.block i hi hf)⟩
theorem Kept.refl (F : Nat → Prop) (w : World) : Kept F w w := ⟨rfl, rfl, rfl, Nat.le_refl _, fun _ _ _ => rfl⟩
theorem Kept.putL {X Y : Nat} {a b c : World} (h : Kept (fun k => k = X ∨ k = Y) a b) (k : Kept (· = X) b c) : Kept (fun k => k = X ∨ k = Y) a c :=
  ⟨k.os.trans h.os, k.tape.trans h.tape, k.output.trans h.output, Nat.le_trans h.size k.size, fun i hi hn => (k.block i (Nat.lt_of_lt_of_le hi h.size) (fun e => hn (.inl e))).trans (h.block i hi hn)⟩
theorem Kept.putR {X Y : Nat} {a b c : World} (h : Kept (fun k => k = X ∨ k = Y) a b) (k : Kept (· = Y) b c) : Kept (fun k => k = X ∨ k = Y) a c :=
  ⟨k.os.trans h.os, k.tape.trans h.tape, k.output.trans h.output, Nat.le_trans h.size k.size, fun i hi hn => (k.block i (Nat.lt_of_lt_of_le hi h.size) (fun e => hn (.inr e))).trans (h.block i hi hn)⟩
theorem ne_tag {W : World} {b c T U : Nat} {C D : Array Value} (h : W.heap[b]? = some (.cells C T)) (k : W.heap[c]? = some (.cells D U)) (hT : T ≠ U) (e : b = c) : False := by
  rw [e, k] at h
  cases h
  exact hT rfl
theorem ah_L {ops : Array Oper} {a : Act} {w : World} {Q : Exit → Act → World → Prop} {md : Region.Mode} {fuel : Nat} {L L' : Array Bool} {S : World → Prop} (e : L = L') (h : wpAnyH Try.prog md ops Q S fuel L' a w) : wpAnyH Try.prog md ops Q S fuel L a w := e ▸ h
theorem capQ {ops : Array Oper} {a : Act} {w : World} {Q : Exit → Act → World → Prop} {md : Region.Mode} {fuel : Nat} {L : Array Bool} {S : World → Prop} (h : ∀ Q' : Exit → Act → World → Prop, Q' = Q → wpAnyH Try.prog md ops Q' S fuel L a w) : wpAnyH Try.prog md ops Q S fuel L a w := h Q rfl
theorem cap2 {ops : Array Oper} {a : Act} {w : World} {Q : Exit → Act → World → Prop} {md : Region.Mode} {fuel : Nat} {L : Array Bool} {S : World → Prop} (h : ∀ (ops' : Array Oper) (S' : World → Prop), ops' = ops → S' = S → wpAnyH Try.prog md ops' Q S' fuel L a w) : wpAnyH Try.prog md ops Q S fuel L a w := h ops S rfl rfl
def Nil : Nat → Prop := fun _ => False
theorem nilN (b : Nat) : ¬ Nil b := fun h => h


theorem bslice (W : World) (t e : TypeId) (len : Nat) (parts : Array (Nat × Value)) (cells : Array Value) (z : Value) (n : Nat) (hu : Try.prog.underlying t = some (.slice e)) (hi : (Try.prog.info? e).map (fun i => (i.zero, i.size)) = some (some z, n)) (h1 : ¬ len * n > 2 ^ 24) (h2 : ¬ len * n = 0)
    (h : Instr.fill (fun i => some (i * n, n)) ((Array.range (len * n)).map (z.cells[· % z.cells.size]!)) parts.toList = some cells) :
    (Instr.buildSlice t len parts).run Try.prog W = .ok (.slice (some ⟨W.heap.size, 0, none⟩) len len) (W.alloc (.cells cells e)) := by
  cases hq : Try.prog.info? e with
  | none => rw [hq] at hi; cases hi
  | some ie =>
    rw [hq] at hi; simp only [Option.map_some, Option.some.injEq, Prod.mk.injEq] at hi; obtain ⟨hz, rfl⟩ := hi; exact run_buildSlice W t e len parts cells ie z hu hq hz h1 h2 h

theorem ret_out {next : Act → World → Prop} {Q : Exit → Act → World → Prop} {a : Act} {w : World} (h : Q .ret a w) : Exit.then next Q .ret a w := h
theorem then_go {next : Act → World → Prop} {Q : Exit → Act → World → Prop} {a : Act} {w : World} (h : next a w) : Exit.then next Q .normal a w := h
theorem ex_then {next : Act → World → Prop} {Q : Exit → Act → World → Prop} {a : Act} {w : World} {i : Nat} (h : Q (.exit i) a w) : Exit.then next Q (.exit i) a w := h
theorem ex_blk {Q : Exit → Act → World → Prop} {a : Act} {w : World} {i : Nat} (h : Q .normal a w) : Exit.inBlock i Q (.exit i) a w := by
  unfold Exit.inBlock
  simp only [if_true]; exact h
theorem ret_blk {Q : Exit → Act → World → Prop} {a : Act} {w : World} {i : Nat} (h : Q .ret a w) : Exit.inBlock i Q .ret a w := h

theorem range_below {w W : World} {b o : Nat} {C : List Value} (h : w.rangeAt b o C) (hB : Below w.heap.size w W) : W.rangeAt b o C := fun j v hv => by
  have := h j v hv
  rw [hB.cell (block_lt_of_cell this)]; exact this

theorem add3 {x y z : Int} (W : World) (hz : x + y = z) (h : -9223372036854775808 ≤ z ∧ z ≤ 9223372036854775807) : (binOp .add 3 (.int .i64 x) (.int .i64 y)).run Try.prog W = .ok (.int .i64 z) W := by
  subst hz
  have := IntKind.wrap_i64 (x + y)
  go_simp
  omega
theorem sub3 {x y z : Int} (W : World) (hz : x - y = z) (h : -9223372036854775808 ≤ z ∧ z ≤ 9223372036854775807) : (binOp .sub 3 (.int .i64 x) (.int .i64 y)).run Try.prog W = .ok (.int .i64 z) W := by
  subst hz
  have := IntKind.wrap_i64 (x - y)
  go_simp
  omega


theorem ops_in {ops ops' : Array Oper} {a : Act} {w : World} {Q : Exit → Act → World → Prop} {md : Region.Mode} {fuel : Nat} {L : Array Bool} {S S' : World → Prop} (e : ops = ops') (f : S = S') (h : wpAnyH Try.prog md ops' Q S' fuel L a w) : wpAnyH Try.prog md ops Q S fuel L a w := by
  subst e f; exact h
theorem ops_out {ops ops' : Array Oper} {a : Act} {w : World} {Q : Exit → Act → World → Prop} {md : Region.Mode} {fuel : Nat} {L : Array Bool} {S S' : World → Prop} (e : ops = ops') (f : S = S') (h : wpAnyH Try.prog md ops Q S fuel L a w) : wpAnyH Try.prog md ops' Q S' fuel L a w := by
  subst e f; exact h


theorem fadd_run {x y z : Nat} (W : World) (h : Ieee.double.add x y = some z) : (binOp .add 34 (.float .f64 x) (.float .f64 y)).run Try.prog W = .ok (.float .f64 z) W := run_float_arith W .add 34 .f64 x y z h
theorem fsub_run {x y z : Nat} (W : World) (h : Ieee.double.sub x y = some z) : (binOp .sub 34 (.float .f64 x) (.float .f64 y)).run Try.prog W = .ok (.float .f64 z) W := run_float_arith W .sub 34 .f64 x y z h
theorem fmul_run {x y z : Nat} (W : World) (h : Ieee.double.mul x y = some z) : (binOp .mul 34 (.float .f64 x) (.float .f64 y)).run Try.prog W = .ok (.float .f64 z) W := run_float_arith W .mul 34 .f64 x y z h
theorem fdiv_run {x y z : Nat} (W : World) (h : Ieee.double.div x y = some z) : (binOp .quo 34 (.float .f64 x) (.float .f64 y)).run Try.prog W = .ok (.float .f64 z) W := run_float_arith W .quo 34 .f64 x y z h
theorem eqlF {x y : Nat} {c : Bool} (W : World) (hc : (Ieee.double.order x y == some .eq) = c) : (binOp .eql 34 (.float .f64 x) (.float .f64 y)).run Try.prog W = .ok (.bool c) W := by
  subst hc; rw [binOp_float_cmp_eql]
  rfl
theorem lssF {x y : Nat} {c : Bool} (W : World) (hc : (Ieee.double.order x y == some .lt) = c) : (binOp .lss 34 (.float .f64 x) (.float .f64 y)).run Try.prog W = .ok (.bool c) W := by
  subst hc; rw [binOp_float_cmp_lss]
  rfl
theorem gtrF {x y : Nat} {c : Bool} (W : World) (hc : (Ieee.double.order x y == some .gt) = c) : (binOp .gtr 34 (.float .f64 x) (.float .f64 y)).run Try.prog W = .ok (.bool c) W := by
  subst hc; rw [binOp_float_cmp_gtr]
  rfl
theorem geqF {x y : Nat} {c : Bool} (W : World) (hc : (Ieee.double.order x y == some .gt || Ieee.double.order x y == some .eq) = c) : (binOp .geq 34 (.float .f64 x) (.float .f64 y)).run Try.prog W = .ok (.bool c) W := by
  subst hc; rw [binOp_float_cmp_geq]
  rfl
theorem egF (bop : BinOp) (x y : Operand) (u v : Nat) (W : World) : (eqGuard bop 34 x y (.float .f64 u) (.float .f64 v)).run Try.prog W = .ok () W := by cases bop <;> rfl
theorem cf9 (W : World) (vs : Array Value) : (callFunc 9 vs).run Try.prog W = .ok (.enter 9 vs) W := by go_simp
theorem cf10 (W : World) (vs : Array Value) : (callFunc 10 vs).run Try.prog W = .ok (.enter 10 vs) W := by go_simp
theorem cf11 (W : World) (vs : Array Value) : (callFunc 11 vs).run Try.prog W = .ok (.enter 11 vs) W := by go_simp
theorem cf12 (W : World) (vs : Array Value) : (callFunc 12 vs).run Try.prog W = .ok (.enter 12 vs) W := by go_simp
theorem cf16 (W : World) (vs : Array Value) : (callFunc 16 vs).run Try.prog W = .ok (.enter 16 vs) W := by go_simp
theorem cf17 (W : World) (vs : Array Value) : (callFunc 17 vs).run Try.prog W = .ok (.enter 17 vs) W := by go_simp
theorem cf18 (W : World) (vs : Array Value) : (callFunc 18 vs).run Try.prog W = .ok (.enter 18 vs) W := by go_simp
theorem cf19 (W : World) (vs : Array Value) : (callFunc 19 vs).run Try.prog W = .ok (.enter 19 vs) W := by go_simp
theorem cf20 (W : World) (vs : Array Value) : (callFunc 20 vs).run Try.prog W = .ok (.enter 20 vs) W := by go_simp
theorem cf21 (W : World) (vs : Array Value) : (callFunc 21 vs).run Try.prog W = .ok (.enter 21 vs) W := by go_simp
theorem cf22 (W : World) (vs : Array Value) : (callFunc 22 vs).run Try.prog W = .ok (.enter 22 vs) W := by go_simp
theorem cf23 (W : World) (vs : Array Value) : (callFunc 23 vs).run Try.prog W = .ok (.enter 23 vs) W := by go_simp
theorem cf24 (W : World) (vs : Array Value) : (callFunc 24 vs).run Try.prog W = .ok (.enter 24 vs) W := by go_simp
theorem cf25 (W : World) (vs : Array Value) : (callFunc 25 vs).run Try.prog W = .ok (.enter 25 vs) W := by go_simp
theorem cf26 (W : World) (vs : Array Value) : (callFunc 26 vs).run Try.prog W = .ok (.enter 26 vs) W := by go_simp
theorem cf27 (W : World) (vs : Array Value) : (callFunc 27 vs).run Try.prog W = .ok (.enter 27 vs) W := by go_simp
theorem cf28 (W : World) (vs : Array Value) : (callFunc 28 vs).run Try.prog W = .ok (.enter 28 vs) W := by go_simp
theorem cf29 (W : World) (vs : Array Value) : (callFunc 29 vs).run Try.prog W = .ok (.enter 29 vs) W := by go_simp
theorem cf30 (W : World) (vs : Array Value) : (callFunc 30 vs).run Try.prog W = .ok (.enter 30 vs) W := by go_simp
theorem cf31 (W : World) (vs : Array Value) : (callFunc 31 vs).run Try.prog W = .ok (.enter 31 vs) W := by go_simp
theorem cf32 (W : World) (vs : Array Value) : (callFunc 32 vs).run Try.prog W = .ok (.enter 32 vs) W := by go_simp
theorem cf33 (W : World) (vs : Array Value) : (callFunc 33 vs).run Try.prog W = .ok (.enter 33 vs) W := by go_simp
theorem cf34 (W : World) (vs : Array Value) : (callFunc 34 vs).run Try.prog W = .ok (.enter 34 vs) W := by go_simp
theorem cf35 (W : World) (vs : Array Value) : (callFunc 35 vs).run Try.prog W = .ok (.enter 35 vs) W := by go_simp
theorem cf36 (W : World) (vs : Array Value) : (callFunc 36 vs).run Try.prog W = .ok (.enter 36 vs) W := by go_simp
theorem cf37 (W : World) (vs : Array Value) : (callFunc 37 vs).run Try.prog W = .ok (.enter 37 vs) W := by go_simp
theorem cf38 (W : World) (vs : Array Value) : (callFunc 38 vs).run Try.prog W = .ok (.enter 38 vs) W := by go_simp
theorem cf39 (W : World) (vs : Array Value) : (callFunc 39 vs).run Try.prog W = .ok (.enter 39 vs) W := by go_simp
theorem cf53 (W : World) (vs : Array Value) : (callFunc 53 vs).run Try.prog W = .ok (.enter 53 vs) W := by go_simp
theorem cf54 (W : World) (vs : Array Value) : (callFunc 54 vs).run Try.prog W = .ok (.enter 54 vs) W := by go_simp
theorem cf55 (W : World) (vs : Array Value) : (callFunc 55 vs).run Try.prog W = .ok (.enter 55 vs) W := by go_simp
theorem cf56 (W : World) (vs : Array Value) : (callFunc 56 vs).run Try.prog W = .ok (.enter 56 vs) W := by go_simp
theorem cf57 (W : World) (vs : Array Value) : (callFunc 57 vs).run Try.prog W = .ok (.enter 57 vs) W := by go_simp
theorem cf58 (W : World) (vs : Array Value) : (callFunc 58 vs).run Try.prog W = .ok (.enter 58 vs) W := by go_simp
theorem cf59 (W : World) (vs : Array Value) : (callFunc 59 vs).run Try.prog W = .ok (.enter 59 vs) W := by go_simp
theorem cf60 (W : World) (vs : Array Value) : (callFunc 60 vs).run Try.prog W = .ok (.enter 60 vs) W := by go_simp
theorem cf61 (W : World) (vs : Array Value) : (callFunc 61 vs).run Try.prog W = .ok (.enter 61 vs) W := by go_simp
theorem cf62 (W : World) (vs : Array Value) : (callFunc 62 vs).run Try.prog W = .ok (.enter 62 vs) W := by go_simp
theorem cf63 (W : World) (vs : Array Value) : (callFunc 63 vs).run Try.prog W = .ok (.enter 63 vs) W := by go_simp
theorem cf64 (W : World) (vs : Array Value) : (callFunc 64 vs).run Try.prog W = .ok (.enter 64 vs) W := by go_simp
theorem cf65 (W : World) (vs : Array Value) : (callFunc 65 vs).run Try.prog W = .ok (.enter 65 vs) W := by go_simp
theorem cf66 (W : World) (vs : Array Value) : (callFunc 66 vs).run Try.prog W = .ok (.enter 66 vs) W := by go_simp
theorem cf67 (W : World) (vs : Array Value) : (callFunc 67 vs).run Try.prog W = .ok (.enter 67 vs) W := by go_simp
theorem cf68 (W : World) (vs : Array Value) : (callFunc 68 vs).run Try.prog W = .ok (.enter 68 vs) W := by go_simp
theorem cf69 (W : World) (vs : Array Value) : (callFunc 69 vs).run Try.prog W = .ok (.enter 69 vs) W := by go_simp
theorem cf70 (W : World) (vs : Array Value) : (callFunc 70 vs).run Try.prog W = .ok (.enter 70 vs) W := by go_simp
theorem cf71 (W : World) (vs : Array Value) : (callFunc 71 vs).run Try.prog W = .ok (.enter 71 vs) W := by go_simp
theorem cf72 (W : World) (vs : Array Value) : (callFunc 72 vs).run Try.prog W = .ok (.enter 72 vs) W := by go_simp
theorem cf73 (W : World) (vs : Array Value) : (callFunc 73 vs).run Try.prog W = .ok (.enter 73 vs) W := by go_simp
theorem cf74 (W : World) (vs : Array Value) : (callFunc 74 vs).run Try.prog W = .ok (.enter 74 vs) W := by go_simp
theorem cf75 (W : World) (vs : Array Value) : (callFunc 75 vs).run Try.prog W = .ok (.enter 75 vs) W := by go_simp
theorem cf76 (W : World) (vs : Array Value) : (callFunc 76 vs).run Try.prog W = .ok (.enter 76 vs) W := by go_simp
theorem cf77 (W : World) (vs : Array Value) : (callFunc 77 vs).run Try.prog W = .ok (.enter 77 vs) W := by go_simp
theorem cf82 (W : World) (vs : Array Value) : (callFunc 82 vs).run Try.prog W = .ok (.enter 82 vs) W := by go_simp
theorem cf85 (W : World) (vs : Array Value) : (callFunc 85 vs).run Try.prog W = .ok (.enter 85 vs) W := by go_simp
theorem cf86 (W : World) (vs : Array Value) : (callFunc 86 vs).run Try.prog W = .ok (.enter 86 vs) W := by go_simp
theorem cf87 (W : World) (vs : Array Value) : (callFunc 87 vs).run Try.prog W = .ok (.enter 87 vs) W := by go_simp
theorem cf90 (W : World) (vs : Array Value) : (callFunc 90 vs).run Try.prog W = .ok (.enter 90 vs) W := by go_simp
theorem cf91 (W : World) (vs : Array Value) : (callFunc 91 vs).run Try.prog W = .ok (.enter 91 vs) W := by go_simp
theorem cf92 (W : World) (vs : Array Value) : (callFunc 92 vs).run Try.prog W = .ok (.enter 92 vs) W := by go_simp
theorem cf93 (W : World) (vs : Array Value) : (callFunc 93 vs).run Try.prog W = .ok (.enter 93 vs) W := by go_simp
theorem cf94 (W : World) (vs : Array Value) : (callFunc 94 vs).run Try.prog W = .ok (.enter 94 vs) W := by go_simp
theorem cf101 (W : World) (vs : Array Value) : (callFunc 101 vs).run Try.prog W = .ok (.enter 101 vs) W := by go_simp
theorem cf102 (W : World) (vs : Array Value) : (callFunc 102 vs).run Try.prog W = .ok (.enter 102 vs) W := by go_simp
theorem cf104 (W : World) (vs : Array Value) : (callFunc 104 vs).run Try.prog W = .ok (.enter 104 vs) W := by go_simp
theorem cf114 (W : World) (vs : Array Value) : (callFunc 114 vs).run Try.prog W = .ok (.enter 114 vs) W := by go_simp
abbrev Pz (b o : Nat) : Value := .pointer (some ⟨b, o, none⟩)
section
variable {md : Region.Mode} {ops : Array Oper} {Q : Exit → Act → World → Prop} {S : World → Prop} {fuel : Nat} {L : Array Bool} {o : Oper} {rest : List Oper} {a a' : Act} {w W W' : World}
theorem vv (v : Value) (d : Tmp) (hd : o.dst = some d) (hw : Region.wanted o (yielded ops a.tmps) = true) (hr : (execOp a.eval o).run Try.prog W = .ok (.value v) W') (h : WL ops Q rest a' W') (ha : a.put (some d) v = a' := by simp only [zp]; rfl) : WL ops Q (o :: rest) a W := by
  subst ha; exact sv v d hd hw hr h
theorem vn (d : Tmp) (hd : o.dst = some d) (hw : Region.wanted o (yielded ops a.tmps) = false) (h : WL ops Q rest a' W) (ha : a.put (some d) undef = a' := by simp only [zp]; rfl) : WL ops Q (o :: rest) a W := by
  subst ha; exact sn d hd hw h
theorem vm {x : Operand} (v : Value) (d : Tmp) (hd : o.dst = some d) (hw : Region.wanted o (yielded ops a.tmps) = true) (ho : o.op = .move x) (hx : a.eval x = v) (h : WL ops Q rest a' W) (ha : a.put (some d) v = a' := by simp only [zp]; rfl) : WL ops Q (o :: rest) a W := by
  subst ha; exact sm v d hd hw ho hx h
theorem vg {x : Operand} (v : Value) (d : Tmp) (hd : o.dst = some d) (hw : Region.wanted o (yielded ops a.tmps) = true) (ho : o.op = .assign x) (hx : a.eval x = v) (h : WL ops Q rest a' W) (ha : a.put (some d) v = a' := by simp only [zp]; rfl) : WL ops Q (o :: rest) a W := by
  subst ha; exact sg v d hd hw ho hx h
theorem tk (v : Value) (i d : Nat) (hi : ops[i]? = some o) (hd : o.dst = some d) (hw : Region.wanted o (yielded ops a.tmps) = true) (hx : ∀ W, S W → (execOp a.eval o).run Try.prog W = .ok (.value v) W) (hS : S w) (hQ : ∀ c (a : Act) (d : Nat) v w, Q (.panic c) (a.put (some d) v) w → Q (.panic c) a w) (h : wpAnyH Try.prog md ops Q S fuel (L.setIfInBounds i true) a' w) (ha : a.put (some d) v = a' := by simp only [zp]; rfl) (hs : Region.noSelect ops = true := by kernel_rfl) (hf : Region.free md ops L i = true := by kernel_rfl) (hr : (Region.ready md ops L).contains i = true := by kernel_rfl) : wpAnyH Try.prog md ops Q S (fuel + 1) L a w := by
  subst ha; exact ah_take (some d) hi hd hs hf hr hw hx hS (fun c a w h => hQ c a _ _ w h) h
theorem tks (i d : Nat) (hi : ops[i]? = some o) (hd : o.dst = some d) (hw : Region.wanted o (yielded ops a.tmps) = false) (hS : S w) (hQ : ∀ c (a : Act) (d : Nat) v w, Q (.panic c) (a.put (some d) v) w → Q (.panic c) a w) (h : wpAnyH Try.prog md ops Q S fuel (L.setIfInBounds i true) a' w) (ha : a.put (some d) undef = a' := by simp only [zp]; rfl) (hs : Region.noSelect ops = true := by kernel_rfl) (hf : Region.free md ops L i = true := by kernel_rfl) (hr : (Region.ready md ops L).contains i = true := by kernel_rfl) : wpAnyH Try.prog md ops Q S (fuel + 1) L a w := by
  subst ha; exact ah_skip (some d) hi hd hs hf hr hw hS (fun c a w h => hQ c a _ _ w h) h
end
end Go.Proofs.Ytgnkcmmpbohafaa

/- Conversions to floats, bits of floats. -/
namespace Go.Proofs.Ytgnkcmmpbohafaa
open Go.RowKit
set_option linter.unusedVariables false
set_option linter.unusedSimpArgs false
set_option maxRecDepth 100000
section
variable {o : Oper} {a : Act} {W : World}
theorem ex_cvt {x : Operand} {n : Int} (ho : o.op = .convert 3 34 x) (hx : a.eval x = .int .i64 n) : (execOp a.eval o).run Try.prog W = .ok (.value (.float .f64 (FloatKind.f64.nearest n))) W := by
  have := run_convert_int_float (P := Try.prog) W 3 34 .i64 .f64 n (by rw [Try.underlying3]; rfl) Try.underlying34
  unfold execOp
  simp only [ho, hx]
  simp [this]
  rfl
theorem ex_ext1 {f : Nat} {x : Operand} {ts : Array TypeId} {v r : Value} (ho : o.op = .call { callee := .value (.func f), args := #[x], argTypes := ts }) (hx : a.eval x = v) (hf : (callFunc f #[v]).run Try.prog W = .ok (.value r) W) : (execOp a.eval o).run Try.prog W = .ok (.value r) W := by
  have hm : #[x].map a.eval = #[v] := by rw [← hx]; simp
  unfold execOp
  simp only [ho, resolve, Sem.run_bind]
  have he : a.eval (.func f) = .func (.func f) #[] #[] := rfl
  rw [he, hm]
  simp [Deferred.ofValue, invoke, hf]
theorem call_frombits (b : Nat) (W : World) : (callFunc 84 #[.int .u64 (b : Int)]).run Try.prog W = .ok (.value (.float .f64 b)) W := by
  rw [run_callFunc_extern (fn := Try.f84) (e := Extern.MathFloatBits.float64frombits) Try.func84 (by kernel_rfl) (by kernel_rfl) (by kernel_rfl) (by kernel_rfl)]
  rfl
end
end Go.Proofs.Ytgnkcmmpbohafaa

/- Doubles by their rungs: what a rung stands for, and that to round is to count the midpoints below. -/
namespace Go.Proofs.Ytgnkcmmpbohafaa
open Ieee
set_option linter.unusedVariables false

theorem d_binade : double.binade = 4503599627370496 := by decide +kernel
theorem d_inf : double.infRung = 9218868437227405312 := by decide +kernel
theorem d_least : double.leastPlace = -1074 := by decide +kernel
theorem d_sign : double.signWeight = 9223372036854775808 := by decide +kernel
theorem d_frac : double.fractionBits = 52 := rfl

/-- what a rung stands for, in units of the least number -/
def iv (x : Nat) : Nat := if x < 4503599627370496 then x else (4503599627370496 + x % 4503599627370496) * 2 ^ (x / 4503599627370496 - 1)
theorem iv_at (e k : Nat) (hk : k ≤ 9007199254740992) (h : e = 0 ∨ 4503599627370496 ≤ k) : iv (e * 4503599627370496 + k) = k * 2 ^ e := by
  unfold iv
  by_cases h1 : k < 4503599627370496
  · have he : e = 0 := by omega
    subst he; rw [if_pos (by omega)]
    simp
  · rw [if_neg (by omega)]
    by_cases h2 : k = 9007199254740992
    · subst h2
      rw [show (e * 4503599627370496 + 9007199254740992) % 4503599627370496 = 0 by omega, show (e * 4503599627370496 + 9007199254740992) / 4503599627370496 - 1 = e + 1 by omega, Nat.pow_succ]
      omega
    · rw [show (e * 4503599627370496 + k) % 4503599627370496 = k - 4503599627370496 by omega, show (e * 4503599627370496 + k) / 4503599627370496 - 1 = e by omega, show 4503599627370496 + (k - 4503599627370496) = k by omega]
theorem iv_split (x : Nat) : ∃ e k, x = e * 4503599627370496 + k ∧ k < 9007199254740992 ∧ (e = 0 ∨ 4503599627370496 ≤ k) := by
  by_cases h : x < 4503599627370496
  · exact ⟨0, x, by omega, by omega, .inl rfl⟩
  · exact ⟨x / 4503599627370496 - 1, x % 4503599627370496 + 4503599627370496, by omega, by omega, .inr (by omega)⟩
theorem iv_step (x : Nat) : iv x < iv (x + 1) := by
  obtain ⟨e, k, rfl, hk, h⟩ := iv_split x; rw [iv_at e k (by omega) h, Nat.add_assoc, iv_at e (k + 1) (by omega) (by omega)]; exact Nat.mul_lt_mul_of_pos_right (by omega) (Nat.two_pow_pos _)
theorem iv_lt {x y : Nat} (h : x < y) : iv x < iv y := by
  induction y with
  | zero => omega
  | succ y ih =>
    by_cases e : x = y
    · subst e; exact iv_step x
    · exact Nat.lt_trans (ih (by omega)) (iv_step y)
theorem iv_le {x y : Nat} (h : x ≤ y) : iv x ≤ iv y := by
  by_cases e : x = y
  · subst e; exact Nat.le_refl _
  · exact Nat.le_of_lt (iv_lt (by omega))
theorem iv_lt_iff {x y : Nat} : iv x < iv y ↔ x < y := ⟨fun h => by
  by_cases e : y ≤ x
  · have := iv_le e
    omega
  · omega, iv_lt⟩
theorem iv_inj {x y : Nat} (h : iv x = iv y) : x = y := by
  by_cases h1 : x < y
  · have := iv_lt h1
    omega
  · by_cases h2 : y < x
    · have := iv_lt h2
      omega
    · omega

/-- to the nearest, and between two to the even one -/
theorem cut_spec (n d c : Nat) (hc : Toward.even.cut false n d = c) : 2 * n ≤ (2 * c + 1) * 2 ^ d ∧ (2 * n = (2 * c + 1) * 2 ^ d → c % 2 = 0) ∧ 2 * c * 2 ^ d ≤ 2 * n + 2 ^ d ∧ (2 * c * 2 ^ d = 2 * n + 2 ^ d → c % 2 = 0) := by
  subst hc
  unfold Toward.cut
  dsimp only
  by_cases h : d ≤ n.log2 + 2
  · rw [Nat.min_eq_left h, Nat.shiftLeft_eq, Nat.one_mul]
    have hG := Nat.two_pow_pos d
    generalize 2 ^ d = G at *
    have e := Nat.div_add_mod n G; have l := Nat.mod_lt n hG
    generalize n / G = low at *
    generalize n % G = rest at *
    rw [Nat.mul_comm] at e
    cases hb : (decide (G < 2 * rest) || (G == 2 * rest && low % 2 == 1)) with
    | false =>
      simp only [Bool.or_eq_false_iff, decide_eq_false_iff_not, Bool.and_eq_false_iff, beq_eq_false_iff_ne] at hb; simp only [Bool.toNat_false, Nat.add_zero]; rw [Nat.add_mul, Nat.mul_assoc, Nat.one_mul]
      generalize low * G = P at *
      omega
    | true =>
      simp only [Bool.or_eq_true, decide_eq_true_eq, Bool.and_eq_true, beq_iff_eq] at hb; simp only [Bool.toNat_true]; rw [Nat.add_mul, Nat.mul_assoc, Nat.add_mul, Nat.one_mul]
      generalize low * G = P at *
      omega
  · rw [Nat.min_eq_right (by omega), Nat.shiftLeft_eq, Nat.one_mul]
    have h1 : n < 2 ^ (n.log2 + 1) := Nat.lt_log2_self
    have h2 : 2 ^ (n.log2 + 2) = 2 * 2 ^ (n.log2 + 1) := by rw [Nat.pow_succ _ (n.log2 + 1)]; omega
    have h3 : 2 ^ (n.log2 + 2) ≤ 2 ^ d := Nat.pow_le_pow_right (by decide) (by omega)
    have hG := Nat.two_pow_pos (n.log2 + 2)
    generalize 2 ^ (n.log2 + 2) = G at *
    have e1 : n / G = 0 := Nat.div_eq_of_lt (by omega)
    have e2 : n % G = n := Nat.mod_eq_of_lt (by omega)
    rw [e1, e2]
    have hb : (decide (G < 2 * n) || (G == 2 * n && 0 % 2 == 1)) = false := by
      simp
      omega
    rw [hb]; simp only [Bool.toNat_false, Nat.add_zero, Nat.mul_zero, Nat.zero_mul, Nat.zero_add, Nat.one_mul]
    omega
end Go.Proofs.Ytgnkcmmpbohafaa

/- Doubles: the word nearest to a number counts the midpoints below it. -/
namespace Go.Proofs.Ytgnkcmmpbohafaa
open Ieee
set_option linter.unusedVariables false

/-- the number A / T (in units of the least one) lies above the midpoint behind rung r, or on it, and r is odd -/
def Above (r A T : Nat) : Prop := (iv r + iv (r + 1)) * T < 2 * A ∨ ((iv r + iv (r + 1)) * T = 2 * A ∧ r % 2 = 1)

theorem sum_lt {r s : Nat} (h : r < s) : iv r + iv (r + 1) < iv s + iv (s + 1) := by
  have := iv_lt h
  have := iv_lt (show r + 1 < s + 1 by omega)
  omega
theorem sum_le {r s : Nat} (h : r ≤ s) : iv r + iv (r + 1) ≤ iv s + iv (s + 1) := by
  have := iv_le h
  have := iv_le (show r + 1 ≤ s + 1 by omega)
  omega
/-- a rung that was found by rounding at place e -/
theorem rung_above (e c A T : Nat) (hT : 0 < T) (hc : c ≤ 9007199254740992) (he : 0 < e → 4503599627370496 ≤ c ∧ 4503599627370496 * 2 ^ e * T ≤ A)
    (u1 : 2 * A ≤ (2 * c + 1) * 2 ^ e * T) (u2 : 2 * A = (2 * c + 1) * 2 ^ e * T → c % 2 = 0) (l1 : 2 * c * 2 ^ e * T ≤ 2 * A + 2 ^ e * T) (l2 : 2 * c * 2 ^ e * T = 2 * A + 2 ^ e * T → c % 2 = 0) (r : Nat) :
    r < e * 4503599627370496 + c ↔ Above r A T := by
  have hE := Nat.two_pow_pos e
  have hce : e = 0 ∨ 4503599627370496 ≤ c := by
    by_cases h : e = 0
    · exact .inl h
    · exact .inr (he (by omega)).1
  have i0 : iv (e * 4503599627370496 + c) = c * 2 ^ e := iv_at e c hc hce
  have i1 : (c + 1) * 2 ^ e ≤ iv (e * 4503599627370496 + c + 1) := by
    by_cases h : c = 9007199254740992
    · subst h
      rw [show e * 4503599627370496 + 9007199254740992 + 1 = (e + 1) * 4503599627370496 + 4503599627370497 by omega, iv_at (e + 1) 4503599627370497 (by decide) (.inr (by decide)), Nat.pow_succ]
      omega
    · rw [Nat.add_assoc, iv_at e (c + 1) (by omega) (by omega)]
      exact Nat.le_refl _
  constructor
  · intro hr
    have hc0 : 0 < c := by
      by_cases h : e = 0
      · subst h; omega
      · have := (he (by omega)).1; omega
    obtain ⟨s, hs⟩ : ∃ s, e * 4503599627370496 + c = s + 1 := ⟨e * 4503599627370496 + c - 1, by omega⟩
    have hrs : r ≤ s := by omega
    rw [hs] at i0
    -- the sum at s
    have key : (iv s + iv (s + 1)) * T < 2 * A ∨ ((iv s + iv (s + 1)) * T = 2 * A ∧ s % 2 = 1) := by
      by_cases h : e = 0 ∨ 4503599627370496 < c
      · have is : iv s = (c - 1) * 2 ^ e := by
          have := iv_at e (c - 1) (by omega) (by omega)
          rw [show e * 4503599627370496 + (c - 1) = s by omega] at this; exact this
        obtain ⟨c', rfl⟩ : ∃ c', c = c' + 1 := ⟨c - 1, by omega⟩; rw [is, i0, ← Nat.add_mul]
        have e1 : (c' + 1 - 1 + (c' + 1)) * 2 ^ e * T + 2 ^ e * T = 2 * (c' + 1) * 2 ^ e * T := by
          rw [← Nat.add_mul, ← Nat.succ_mul]
          congr 2
          omega
        generalize hX : (c' + 1 - 1 + (c' + 1)) * 2 ^ e * T = X at *
        generalize 2 * (c' + 1) * 2 ^ e * T = Y at *
        generalize 2 ^ e * T = Z at *
        have : s % 2 = c' % 2 := by omega
        by_cases q : X < 2 * A
        · exact .inl q
        · have q2 := l2 (by omega)
          exact .inr ⟨by omega, by omega⟩
      · have h0 : 0 < e := by omega
        have hcb : c = 4503599627370496 := by have := (he h0).1; omega
        left
        have hl := iv_step s; have hA := (he h0).2
        have hp : (iv s + iv (s + 1)) < 2 * (c * 2 ^ e) := by omega
        have := Nat.mul_lt_mul_of_pos_right hp hT
        rw [hcb, Nat.mul_assoc 2] at this
        omega
    by_cases q : r = s
    · subst q; exact key
    · have := Nat.mul_lt_mul_of_pos_right (sum_lt (show r < s by omega)) hT
      left
      rcases key with k | k <;> omega
  · intro hab
    by_cases hr : r < e * 4503599627370496 + c
    · exact hr
    · exfalso
      have hs := sum_le (show e * 4503599627370496 + c ≤ r by omega)
      have s0 : (2 * c + 1) * 2 ^ e ≤ iv (e * 4503599627370496 + c) + iv (e * 4503599627370496 + c + 1) := by
        have : (2 * c + 1) * 2 ^ e = c * 2 ^ e + (c + 1) * 2 ^ e := by rw [← Nat.add_mul]; congr 1; omega
        omega
      have m1 := Nat.mul_le_mul_right T (Nat.le_trans s0 hs)
      rcases hab with h | ⟨h, ho⟩
      · omega
      · have heq := u2 (by omega)
        by_cases q : r = e * 4503599627370496 + c
        · omega
        · have := Nat.mul_lt_mul_of_pos_right (sum_lt (show e * 4503599627370496 + c < r by omega)) hT
          have := Nat.mul_le_mul_right T s0
          omega

/-- to round is to count midpoints: of mag * 2 ^ place -/
theorem near_spec (m : Nat) (p : Int) (r : Nat) (hr : r < 9218868437227405312) :
    r < double.nearest false m p ↔ Above r (m * 2 ^ (p + 1074).toNat) (2 ^ (-1074 - p).toNat) := by
  unfold Format.nearest
  by_cases hm : m = 0
  · subst hm
    rw [if_pos rfl]
    have := iv_step r
    have hT := Nat.two_pow_pos (-1074 - p).toNat
    have : 0 < (iv r + iv (r + 1)) * 2 ^ (-1074 - p).toNat := Nat.mul_pos (by omega) hT
    unfold Format.word Above
    rw [Nat.zero_mul]
    simp
    omega
  · rw [if_neg hm]
    dsimp only
    rw [d_frac, d_least, d_binade, d_inf]
    unfold Format.word
    simp only [Bool.false_eq_true, if_false]; obtain ⟨last, hl⟩ : ∃ last, last = max (p + (m.log2 : Int) - (52 : Nat)) (-1074) := ⟨_, rfl⟩; rw [← hl]
    have hlast : -1074 ≤ last := by omega
    obtain ⟨e, he⟩ : ∃ e : Nat, (last - -1074).toNat = e := ⟨_, rfl⟩; obtain ⟨d, hd⟩ : ∃ d : Nat, (last - p).toNat = d := ⟨_, rfl⟩; obtain ⟨f, hf⟩ : ∃ f : Nat, (p - last).toNat = f := ⟨_, rfl⟩; obtain ⟨t, ht⟩ : ∃ t : Nat, (-1074 - p).toNat = t := ⟨_, rfl⟩; obtain ⟨a, ha⟩ : ∃ a : Nat, (p + 1074).toNat = a := ⟨_, rfl⟩; rw [he, hd, hf, ht, ha, Nat.shiftLeft_eq]; obtain ⟨c, hc⟩ : ∃ c, Toward.even.cut false (m * 2 ^ f) d = c := ⟨_, rfl⟩; rw [hc]; obtain ⟨c1, c2, c3, c4⟩ := cut_spec _ _ _ hc
    have hexp : a + d = f + t + e := by omega
    have hlo : 2 ^ m.log2 ≤ m := Nat.log2_self_le hm
    have hhi : m < 2 ^ (m.log2 + 1) := Nat.lt_log2_self
    have hD := Nat.two_pow_pos d; have hT := Nat.two_pow_pos t; have hE := Nat.two_pow_pos e
    -- cross multiplied
    have cross : m * 2 ^ a * 2 ^ d = m * 2 ^ f * (2 ^ e * 2 ^ t) := by
      rw [Nat.mul_assoc, ← Nat.pow_add, hexp, Nat.pow_add, Nat.pow_add, Nat.mul_assoc m, Nat.mul_assoc (2 ^ f), Nat.mul_comm (2 ^ t)]
    have nhi : m * 2 ^ f < 9007199254740992 * 2 ^ d := by
      have h1 : m * 2 ^ f < 2 ^ (m.log2 + 1) * 2 ^ f := Nat.mul_lt_mul_of_pos_right hhi (Nat.two_pow_pos f)
      rw [← Nat.pow_add] at h1
      have h2 : 2 ^ (m.log2 + 1 + f) ≤ 2 ^ (53 + d) := Nat.pow_le_pow_right (by decide) (by omega)
      rw [Nat.pow_add 2 53 d] at h2; exact Nat.lt_of_lt_of_le h1 h2
    have nlo : 0 < e → 4503599627370496 * 2 ^ d ≤ m * 2 ^ f := fun h0 => by
      have h1 : 2 ^ m.log2 * 2 ^ f ≤ m * 2 ^ f := Nat.mul_le_mul_right _ hlo
      rw [← Nat.pow_add] at h1
      have h2 : 2 ^ (52 + d) ≤ 2 ^ (m.log2 + f) := Nat.pow_le_pow_right (by decide) (by omega)
      rw [Nat.pow_add 2 52 d] at h2; exact Nat.le_trans h2 h1
    have up : ∀ {x y : Nat}, x * 2 ^ d ≤ y * (m * 2 ^ f) → x * (2 ^ e * 2 ^ t) ≤ y * (m * 2 ^ a) := fun {x y} h => by
      refine Nat.le_of_mul_le_mul_right (c := 2 ^ d) ?_ hD; have h1 := Nat.mul_le_mul_right (2 ^ e * 2 ^ t) h; rw [Nat.mul_assoc y, cross, ← Nat.mul_assoc y]; rw [Nat.mul_right_comm]; exact h1
    have dn : ∀ {x y : Nat}, y * (m * 2 ^ f) ≤ x * 2 ^ d → y * (m * 2 ^ a) ≤ x * (2 ^ e * 2 ^ t) := fun {x y} h => by
      refine Nat.le_of_mul_le_mul_right (c := 2 ^ d) ?_ hD; have h1 := Nat.mul_le_mul_right (2 ^ e * 2 ^ t) h; rw [Nat.mul_assoc y, cross, ← Nat.mul_assoc y, Nat.mul_right_comm x]; exact h1
    have same : ∀ {x y : Nat}, y * (m * 2 ^ a) = x * (2 ^ e * 2 ^ t) → y * (m * 2 ^ f) = x * 2 ^ d := fun {x y} h => by
      refine Nat.eq_of_mul_eq_mul_right (Nat.mul_pos hE hT) ?_; rw [Nat.mul_assoc y, ← cross, ← Nat.mul_assoc y, h, Nat.mul_right_comm]
    have cle : c ≤ 9007199254740992 := by
      have : 2 * c * 2 ^ d < 18014398509481985 * 2 ^ d := by omega
      have := Nat.lt_of_mul_lt_mul_right this
      omega
    have cge : 0 < e → 4503599627370496 ≤ c := fun h0 => by
      have h1 := nlo h0
      have : 9007199254740992 * 2 ^ d ≤ (2 * c + 1) * 2 ^ d := by omega
      have := Nat.le_of_mul_le_mul_right this hD
      omega
    have main := rung_above e c (m * 2 ^ a) (2 ^ t) hT cle (fun h0 => ⟨cge h0, by
        have := up (x := 4503599627370496) (y := 1) (by rw [Nat.one_mul]; exact nlo h0)
        rw [Nat.one_mul, ← Nat.mul_assoc] at this
        exact this⟩) (by have := dn (x := 2 * c + 1) (y := 2) c1; rw [← Nat.mul_assoc (2 * c + 1)] at this; exact this)
      (fun h => c2 (same (x := 2 * c + 1) (y := 2) (by rw [h, Nat.mul_assoc])))
      (by
        by_cases h0 : c = 0
        · subst h0; simp
        · obtain ⟨b, rfl⟩ : ∃ b, c = b + 1 := ⟨c - 1, by omega⟩
          have h1 : (2 * b + 1) * 2 ^ d ≤ 2 * (m * 2 ^ f) := by
            rw [show 2 * (b + 1) = 2 * b + 1 + 1 by omega, Nat.add_mul (2 * b + 1), Nat.one_mul] at c3
            omega
          have h2 := up (x := 2 * b + 1) (y := 2) h1; rw [show 2 * (b + 1) = 2 * b + 1 + 1 by omega, Nat.mul_assoc, Nat.add_mul (2 * b + 1), Nat.one_mul]
          omega)
      (fun h => by
        by_cases h0 : c = 0
        · subst h0; rfl
        · obtain ⟨b, rfl⟩ : ∃ b, c = b + 1 := ⟨c - 1, by omega⟩
          refine c4 ?_; rw [show 2 * (b + 1) = 2 * b + 1 + 1 by omega, Nat.mul_assoc, Nat.add_mul (2 * b + 1), Nat.one_mul] at h; have h3 := same (x := 2 * b + 1) (y := 2) (by omega); rw [show 2 * (b + 1) = 2 * b + 1 + 1 by omega, Nat.add_mul (2 * b + 1), Nat.one_mul]
          omega) r
    rw [← main]; exact ⟨fun h => Nat.lt_of_lt_of_le h (Nat.min_le_left ..), fun h => Nat.lt_min.2 ⟨h, hr⟩⟩
end Go.Proofs.Ytgnkcmmpbohafaa

/- Doubles that are not below nought: sums, differences, products, integers; how they are ordered. -/
namespace Go.Proofs.Ytgnkcmmpbohafaa
open Ieee
set_option linter.unusedVariables false
set_option linter.unusedSimpArgs false

/-- one, in units of the least number -/
def UK : Nat := 1074
theorem UK_is : UK = 1074 := rfl
def UT : Nat := 2 ^ UK
theorem UT_pos : 0 < UT := Nat.two_pow_pos _
/-- z is A / T (in units of the least number), rounded -/
def IsR (z A T : Nat) : Prop := z ≤ 9218868437227405312 ∧ ∀ r, r < 9218868437227405312 → (r < z ↔ Above r A T)
theorem Above.mono {r A T A' T' : Nat} (hT : 0 < T) (hT' : 0 < T') (h : A * T' ≤ A' * T) (ha : Above r A T) : Above r A' T' := by
  unfold Above at ha ⊢
  generalize iv r + iv (r + 1) = S at *
  have h2 : 2 * A * T' ≤ 2 * A' * T := by rw [Nat.mul_assoc, Nat.mul_assoc]; omega
  rcases ha with ha | ⟨ha, ho⟩
  · left
    refine Nat.lt_of_mul_lt_mul_right (a := T) ?_
    have := Nat.mul_lt_mul_of_pos_right ha hT'
    rw [Nat.mul_right_comm] at this; exact Nat.lt_of_lt_of_le this h2
  · have e1 : S * T' * T ≤ 2 * A' * T := by rw [Nat.mul_right_comm, ha]; exact h2
    have := Nat.le_of_mul_le_mul_right e1 hT
    by_cases q : S * T' = 2 * A'
    · exact .inr ⟨q, ho⟩
    · exact .inl (by omega)
theorem IsR.le {z A T z' A' T' : Nat} (h : IsR z A T) (h' : IsR z' A' T') (hT : 0 < T) (hT' : 0 < T') (hl : A * T' ≤ A' * T) : z ≤ z' := by
  by_cases q : z ≤ z'
  · exact q
  · have h1 := h.1
    have := (h'.2 z' (by omega)).2 (Above.mono hT hT' hl ((h.2 z' (by omega)).1 (by omega)))
    omega
theorem IsR.eq {z A T z' A' T' : Nat} (h : IsR z A T) (h' : IsR z' A' T') (hT : 0 < T) (hT' : 0 < T') (hl : A * T' = A' * T) : z = z' :=
  Nat.le_antisymm (h.le h' hT hT' (Nat.le_of_eq hl)) (h'.le h hT' hT (Nat.le_of_eq hl.symm))
theorem IsR.exact {x : Nat} (h : x ≤ 9218868437227405312) : IsR x (iv x) 1 := by
  refine ⟨h, fun r hr => ?_⟩
  unfold Above
  rw [Nat.mul_one]
  constructor
  · intro hx
    have := iv_step r
    have := iv_le (show r + 1 ≤ x by omega)
    omega
  · intro hx
    by_cases q : r < x
    · exact q
    · have := iv_step r
      have := iv_le (show x ≤ r by omega)
      omega
theorem near_le (m : Nat) (p : Int) : double.nearest false m p ≤ 9218868437227405312 := by
  unfold Format.nearest
  split
  · unfold Format.word; simp
  · dsimp only
    unfold Format.word
    rw [d_inf]; simp only [Bool.false_eq_true, if_false]; exact Nat.min_le_right ..
theorem near_is (m : Nat) (p : Int) : IsR (double.nearest false m p) (m * 2 ^ (p + 1074).toNat) (2 ^ (-1074 - p).toNat) := ⟨near_le m p, fun r hr => near_spec m p r hr⟩
theorem near_up (m k : Nat) : IsR (double.nearest false m (-1074 + (k : Int))) (m * 2 ^ k) 1 := by
  have := near_is m (-1074 + (k : Int))
  rw [show (-1074 + (k : Int) + 1074).toNat = k by omega, show (-1074 - (-1074 + (k : Int))).toNat = 0 by omega] at this; exact this

/-- a word below infinity is a number -/
theorem read_fin (x : Nat) (hx : x < 9218868437227405312) : ∃ m k : Nat, double.read x = .number false m (-1074 + (k : Int)) ∧ m * 2 ^ k = iv x := by
  unfold Format.read
  rw [d_sign, d_binade, d_inf, d_least]
  dsimp only
  rw [show x / 9223372036854775808 = 0 from Nat.div_eq_of_lt (by omega), show x % 9223372036854775808 = x from Nat.mod_eq_of_lt (by omega)]
  by_cases h : x < 4503599627370496
  · rw [if_pos h]
    exact ⟨x, 0, rfl, by unfold iv; rw [if_pos h]; simp⟩
  · rw [if_neg h, if_pos hx]
    exact ⟨4503599627370496 + x % 4503599627370496, x / 4503599627370496 - 1, rfl, by unfold iv; rw [if_neg h]⟩
theorem read_inf : double.read 9218868437227405312 = .infinity false := by decide +kernel
theorem sgp (m up : Nat) : signed false m up = ((m * 2 ^ up : Nat) : Int) := by
  unfold signed
  simp [Nat.shiftLeft_eq]
theorem sgm (m up : Nat) : signed true m up = -((m * 2 ^ up : Nat) : Int) := by
  unfold signed
  simp [Nat.shiftLeft_eq]
theorem base_at (m i j : Nat) (h : j ≤ i) : m * 2 ^ (-1074 + (i : Int) - (-1074 + (j : Int))).toNat * 2 ^ j = m * 2 ^ i := by
  rw [show (-1074 + (i : Int) - (-1074 + (j : Int))).toNat = i - j by omega, Nat.mul_assoc, ← Nat.pow_add, show i - j + j = i by omega]
theorem min_at (i j : Nat) : min (-1074 + (i : Int)) (-1074 + (j : Int)) = -1074 + ((min i j : Nat) : Int) := by omega
theorem add_fin {x y : Nat} (hx : x < 9218868437227405312) (hy : y < 9218868437227405312) : ∃ z, double.add x y = some z ∧ IsR z (iv x + iv y) 1 := by
  obtain ⟨m, i, e1, v1⟩ := read_fin x hx; obtain ⟨n, j, e2, v2⟩ := read_fin y hy
  unfold Format.add
  rw [e1, e2]
  unfold Datum.sum
  dsimp only
  rw [min_at, sgp, sgp]; refine ⟨_, rfl, ?_⟩
  generalize hb : min i j = b
  have hi := base_at m i b (by omega); have hj := base_at n j b (by omega)
  generalize m * 2 ^ (-1074 + (i : Int) - (-1074 + (b : Int))).toNat = M at *
  generalize n * 2 ^ (-1074 + (j : Int) - (-1074 + (b : Int))).toNat = N at *
  have hs : (if (M : Int) + (N : Int) = 0 then false && false else decide ((M : Int) + (N : Int) < 0)) = false := by
    split
    · rfl
    · exact decide_eq_false (by omega)
  rw [hs, show ((M : Int) + (N : Int)).natAbs = M + N by omega]
  have := near_up (M + N) b
  rw [Nat.add_mul, hi, hj, v1, v2] at this; exact this
theorem sub_fin {x y : Nat} (hx : x < 9218868437227405312) (hy : y < 9218868437227405312) (hxy : y ≤ x) : ∃ z, double.sub x y = some z ∧ IsR z (iv x - iv y) 1 := by
  obtain ⟨m, i, e1, v1⟩ := read_fin x hx; obtain ⟨n, j, e2, v2⟩ := read_fin y hy; have hv := iv_le hxy
  unfold Format.sub
  rw [e1, e2]
  unfold Datum.opposite Datum.sum
  dsimp only
  rw [min_at, Bool.not_false, sgp, sgm]; refine ⟨_, rfl, ?_⟩
  generalize hb : min i j = b
  have hi := base_at m i b (by omega); have hj := base_at n j b (by omega)
  generalize m * 2 ^ (-1074 + (i : Int) - (-1074 + (b : Int))).toNat = M at *
  generalize n * 2 ^ (-1074 + (j : Int) - (-1074 + (b : Int))).toNat = N at *
  have hMN : N ≤ M := by
    rw [← v1, ← v2, ← hi, ← hj] at hv; exact Nat.le_of_mul_le_mul_right hv (Nat.two_pow_pos b)
  have hs : (if (M : Int) + -(N : Int) = 0 then false && true else decide ((M : Int) + -(N : Int) < 0)) = false := by
    split
    · rfl
    · exact decide_eq_false (by omega)
  rw [hs, show ((M : Int) + -(N : Int)).natAbs = M - N by omega]
  have := near_up (M - N) b
  rw [Nat.sub_mul, hi, hj, v1, v2] at this; exact this
theorem mul_fin {x y : Nat} (hx : x < 9218868437227405312) (hy : y < 9218868437227405312) : ∃ z, double.mul x y = some z ∧ IsR z (iv x * iv y) UT := by
  obtain ⟨m, i, e1, v1⟩ := read_fin x hx; obtain ⟨n, j, e2, v2⟩ := read_fin y hy
  unfold Format.mul
  rw [e1, e2]
  unfold Datum.product
  refine ⟨_, rfl, ?_⟩
  show IsR (double.nearest false (m * n) (-1074 + (i : Int) + (-1074 + (j : Int)))) _ _
  have := near_is (m * n) (-1074 + (i : Int) + (-1074 + (j : Int)))
  refine ⟨this.1, fun r hr => ?_⟩; rw [this.2 r hr]
  have hv : iv x * iv y = m * n * 2 ^ (i + j) := by rw [← v1, ← v2, Nat.pow_add]; simp [Nat.mul_comm, Nat.mul_left_comm, Nat.mul_assoc]
  have h1 := Nat.two_pow_pos (-1074 - (-1074 + (i : Int) + (-1074 + (j : Int)))).toNat; have h2 := UT_pos; have hU := UK_is
  have key : m * n * 2 ^ (-1074 + (i : Int) + (-1074 + (j : Int)) + 1074).toNat * UT = iv x * iv y * 2 ^ (-1074 - (-1074 + (i : Int) + (-1074 + (j : Int)))).toNat := by
    unfold UT
    rw [hv, Nat.mul_assoc (m * n), Nat.mul_assoc (m * n), ← Nat.pow_add, ← Nat.pow_add]
    congr 2
    omega
  exact ⟨Above.mono h1 h2 (Nat.le_of_eq key), Above.mono h2 h1 (Nat.le_of_eq key.symm)⟩
/-- an integer as a double -/
theorem int_fin (n : Nat) : IsR (FloatKind.f64.nearest (n : Int)) (n * UT) 1 := by
  show IsR (double.write (.number (decide ((n : Int) < 0)) (n : Int).natAbs 0)) _ _
  rw [show decide ((n : Int) < 0) = false from decide_eq_false (by omega), show (n : Int).natAbs = n by omega]
  have := near_up n UK
  rw [show -1074 + (UK : Int) = 0 by rw [UK_is]; rfl] at this; exact this
end Go.Proofs.Ytgnkcmmpbohafaa
