/- A block of a chain of comparisons: seven or nine operations, run or skipped. -/
import Derived.Test.YtcbadmkgbaffpaaWDec3
namespace Go.Proofs.Ytcbadmkgbaffpaa
open Go.RowKit
set_option linter.unusedVariables false

section
variable {ops : Array Oper} {rest : List Oper} {op : Oper} {a : Act} {W : World} {Q : Exit → Act → World → Prop}
theorem st_any (hw : Region.wanted op (yielded ops a.tmps) = true) {v : Value} (hr : (execOp a.eval op).run Try.prog W = .ok (.value v) W) (h : wpList Try.prog ops Q rest (a.put op.dst v) W) : wpList Try.prog ops Q (op :: rest) a W :=
  wpList_step fun K hK => by rw [if_pos hw]; unfold Oper.wp; rw [hr]; exact hK _ _ h
theorem put_at {a : Act} {d k : Nat} {v : Value} (h : k ≠ d) : (a.put (some d) v).tmps[k]? = a.tmps[k]? := by
  show (a.tmps.setIfInBounds d v)[k]? = _
  exact Array.getElem?_setIfInBounds_ne (by omega)
theorem put_same {a : Act} {d : Nat} {v : Value} (h : d < a.tmps.size) : (a.put (some d) v).tmps[d]? = some v := by
  show (a.tmps.setIfInBounds d v)[d]? = _
  simp [h]
theorem put_size {a : Act} {d : Nat} {v : Value} : (a.put (some d) v).tmps.size = a.tmps.size := by
  show (a.tmps.setIfInBounds d v).size = _
  simp
theorem eval_tmp {a : Act} {k : Nat} {v : Value} (h : a.tmps[k]? = some v) : a.eval (.tmp k) = v := by
  show a.tmps.getD k undef = v
  simp [h]
theorem wanted_of {gi m : Nat} {r : Bool} (hg : op.guard = some (gi, true)) (hd : (ops[gi]?).bind (·.dst) = some m) (hm : a.tmps[m]? = some (.bool r)) : Region.wanted op (yielded ops a.tmps) = r := by
  have hy : yielded ops a.tmps gi = some r := by
    unfold yielded
    rw [hd]
    show (match a.tmps[m]? with | some (.bool b) => some b | _ => none) = some r
    rw [hm]
  unfold Region.wanted
  rw [hg]
  show (yielded ops a.tmps gi == some true) = r
  rw [hy]
  cases r <;> rfl
theorem wanted_none (hg : op.guard = none) : Region.wanted op (yielded ops a.tmps) = true := by unfold Region.wanted; rw [hg]
theorem ex_fld {x : Operand} {i : Nat} (ho : op.op = .fieldAddr 25 x i) {b o : Nat} (hx : a.eval x = .pointer (some ⟨b, 0, none⟩)) (hf : (Instr.fieldAt 25 (.pointer (some ⟨b, 0, none⟩)) i).run Try.prog W = .ok (.pointer (some ⟨b, o, none⟩)) W) : (execOp a.eval op).run Try.prog W = .ok (.value (.pointer (some ⟨b, o, none⟩))) W := by
  unfold execOp
  simp only [ho, hx, Sem.run_bind, Sem.run_pure, hf, Result.andThen_ok]
theorem ex_load {x : Operand} {t : Nat} (ho : op.op = .load t x) {p v : Value} (hx : a.eval x = p) (hl : (Instr.loadAt t p).run Try.prog W = .ok v W) : (execOp a.eval op).run Try.prog W = .ok (.value v) W := by
  unfold execOp
  simp only [ho, hx, Sem.run_bind, Sem.run_pure, hl, Result.andThen_ok]
theorem ex_eql {x y : Operand} {t t2 : Nat} (ho : op.op = .binOp .eql t x y t2) {u v : Value} {c : Bool} (hx : a.eval x = u) (hy : a.eval y = v) (hq : (eqGuard .eql t x y u v).run Try.prog W = .ok () W) (hl : (binOp .eql t u v).run Try.prog W = .ok (.bool c) W) : (execOp a.eval op).run Try.prog W = .ok (.value (.bool c)) W := by
  unfold execOp
  simp only [ho, hx, hy, Sem.run_bind, Sem.run_pure, hq, hl, Result.andThen_ok]
theorem ex_pick {x y : Operand} (ho : op.op = .pick x y (.const (.bool false))) {r : Bool} (hx : a.eval x = .bool r) : (execOp a.eval op).run Try.prog W = .ok (.value (if r = true then a.eval y else .bool false)) W := by
  unfold execOp
  simp only [ho, hx, Sem.run_bind, Sem.run_pure]
  cases r <;> rfl
theorem ex_move {x : Operand} (ho : op.op = .move x) : (execOp a.eval op).run Try.prog W = .ok (.value (a.eval x)) W := by
  unfold execOp
  simp only [ho, Sem.run_pure]
theorem ex_conv {x : Operand} {t u : Nat} (ho : op.op = .convert t u x) {p v : Value} (hx : a.eval x = p) (hl : (convert t u p).run Try.prog W = .ok v W) : (execOp a.eval op).run Try.prog W = .ok (.value v) W := by
  unfold execOp
  simp only [ho, hx, Sem.run_bind, Sem.run_pure, hl, Result.andThen_ok]
end

/-- what is known of the frame: the two messages, and what the chain has come to -/
structure Kn (a : Act) (n m b1 b2 : Nat) (r : Bool) : Prop where
  size : a.tmps.size = n
  two : a.tmps[2]? = some (.pointer (some ⟨b1, 0, none⟩))
  three : a.tmps[3]? = some (.pointer (some ⟨b2, 0, none⟩))
  last : a.tmps[m]? = some (.bool r)
  defers : a.defers = []
theorem Kn.put {a : Act} {n m b1 b2 d : Nat} {r : Bool} (h : Kn a n m b1 b2 r) (v : Value) (h4 : 4 < d) (hm : m ≠ d) : Kn (a.put (some d) v) n m b1 b2 r :=
  ⟨put_size.trans h.size, (put_at (by omega)).trans h.two, (put_at (by omega)).trans h.three, (put_at hm).trans h.last, h.defers⟩
theorem Kn.to {a : Act} {n m b1 b2 d : Nat} {r r' : Bool} (h : Kn a n m b1 b2 r) (h4 : 4 < d) (hd : d < n) : Kn (a.put (some d) (.bool r')) n d b1 b2 r' :=
  ⟨put_size.trans h.size, (put_at (by omega)).trans h.two, (put_at (by omega)).trans h.three, put_same (by rw [h.size]; exact hd), h.defers⟩

/-- a comparison of two fields behind a guard -/
theorem block7 {ops : Array Oper} {rest : List Oper} {a : Act} {W : World} {Q : Exit → Act → World → Prop} {o1 o2 o3 o4 o5 o6 o7 : Oper} {n m gi s i t t2 b1 b2 o : Nat} {r c : Bool} {v1 v2 : Value} (h : Kn a n m b1 b2 r) (hd : (ops[gi]?).bind (·.dst) = some m) (h4 : 4 < s) (hn : s + 6 < n) (hm : m < s)
    (p1 : o1.op = .fieldAddr 25 (.tmp 2) i ∧ o1.dst = some s ∧ o1.guard = some (gi, true)) (p2 : o2.op = .load t (.tmp s) ∧ o2.dst = some (s + 1) ∧ o2.guard = some (gi, true)) (p3 : o3.op = .fieldAddr 25 (.tmp 3) i ∧ o3.dst = some (s + 2) ∧ o3.guard = some (gi, true)) (p4 : o4.op = .load t (.tmp (s + 2)) ∧ o4.dst = some (s + 3) ∧ o4.guard = some (gi, true))
    (p5 : o5.op = .binOp .eql t (.tmp (s + 1)) (.tmp (s + 3)) t2 ∧ o5.dst = some (s + 4) ∧ o5.guard = some (gi, true)) (p6 : o6.op = .pick (.tmp m) (.tmp (s + 4)) (.const (.bool false)) ∧ o6.dst = some (s + 5) ∧ o6.guard = none) (p7 : o7.op = .move (.tmp (s + 5)) ∧ o7.dst = some (s + 6) ∧ o7.guard = none)
    (hf : ∀ b, (Instr.fieldAt 25 (.pointer (some ⟨b, 0, none⟩)) i).run Try.prog W = .ok (.pointer (some ⟨b, o, none⟩)) W) (l1 : (Instr.loadAt t (.pointer (some ⟨b1, o, none⟩))).run Try.prog W = .ok v1 W) (l2 : (Instr.loadAt t (.pointer (some ⟨b2, o, none⟩))).run Try.prog W = .ok v2 W)
    (hq : (eqGuard .eql t (.tmp (s + 1)) (.tmp (s + 3)) v1 v2).run Try.prog W = .ok () W) (he : (binOp .eql t v1 v2).run Try.prog W = .ok (.bool c) W)
    (hk : ∀ a', Kn a' n (s + 6) b1 b2 (r && c) → wpList Try.prog ops Q rest a' W) : wpList Try.prog ops Q (o1 :: o2 :: o3 :: o4 :: o5 :: o6 :: o7 :: rest) a W := by
  have fin : ∀ {a5 : Act} (x : Value), Kn a5 n m b1 b2 r → a5.tmps[s + 4]? = some x → (r = true → x = .bool c) → wpList Try.prog ops Q (o6 :: o7 :: rest) a5 W := fun {a5} x h5 hx hr => by
    have e6 := ex_pick (W := W) p6.1 (eval_tmp h5.last)
    have ev : (if r = true then a5.eval (.tmp (s + 4)) else .bool false) = .bool (r && c) := by
      cases r with
      | false => rfl
      | true => show a5.eval (.tmp (s + 4)) = _; rw [eval_tmp hx, hr rfl]; rfl
    rw [ev] at e6
    refine st_any (wanted_none p6.2.2) e6 ?_
    rw [p6.2.1]
    have h6 := h5.put (d := s + 5) (.bool (r && c)) (by omega) (by omega)
    have e7 := ex_move (a := a5.put (some (s + 5)) (.bool (r && c))) (W := W) p7.1
    rw [eval_tmp (put_same (by rw [h5.size]; omega))] at e7
    refine st_any (wanted_none p7.2.2) e7 ?_
    rw [p7.2.1]
    exact hk _ (h6.to (by omega) (by omega))
  cases r with
  | true =>
    refine st_any (wanted_of p1.2.2 hd h.last) (ex_fld p1.1 (eval_tmp h.two) (hf b1)) ?_
    rw [p1.2.1]
    have h1 := h.put (d := s) (.pointer (some ⟨b1, o, none⟩)) h4 (by omega)
    have q1 := put_same (a := a) (d := s) (v := .pointer (some ⟨b1, o, none⟩)) (by rw [h.size]; omega)
    refine st_any (wanted_of p2.2.2 hd h1.last) (ex_load p2.1 (eval_tmp q1) l1) ?_
    rw [p2.2.1]
    have h2 := h1.put (d := s + 1) v1 (by omega) (by omega)
    have q2 := put_same (a := a.put (some s) (.pointer (some ⟨b1, o, none⟩))) (d := s + 1) (v := v1) (by rw [h1.size]; omega)
    refine st_any (wanted_of p3.2.2 hd h2.last) (ex_fld p3.1 (eval_tmp h2.three) (hf b2)) ?_
    rw [p3.2.1]
    generalize (a.put (some s) (.pointer (some ⟨b1, o, none⟩))).put (some (s + 1)) v1 = a2 at *
    have h3 := h2.put (d := s + 2) (.pointer (some ⟨b2, o, none⟩)) (by omega) (by omega)
    have q3 := put_same (a := a2) (d := s + 2) (v := .pointer (some ⟨b2, o, none⟩)) (by rw [h2.size]; omega)
    have q23 := (put_at (a := a2) (d := s + 2) (k := s + 1) (v := .pointer (some ⟨b2, o, none⟩)) (by omega)).trans q2
    generalize a2.put (some (s + 2)) (.pointer (some ⟨b2, o, none⟩)) = a3 at *
    refine st_any (wanted_of p4.2.2 hd h3.last) (ex_load p4.1 (eval_tmp q3) l2) ?_
    rw [p4.2.1]
    have h4' := h3.put (d := s + 3) v2 (by omega) (by omega)
    have q4 := put_same (a := a3) (d := s + 3) (v := v2) (by rw [h3.size]; omega)
    have q24 := (put_at (a := a3) (d := s + 3) (k := s + 1) (v := v2) (by omega)).trans q23
    generalize a3.put (some (s + 3)) v2 = a4 at *
    refine st_any (wanted_of p5.2.2 hd h4'.last) (ex_eql p5.1 (eval_tmp q24) (eval_tmp q4) hq he) ?_
    rw [p5.2.1]
    exact fin (.bool c) (h4'.put (d := s + 4) (.bool c) (by omega) (by omega)) (put_same (by rw [h4'.size]; omega)) (fun _ => rfl)
  | false =>
    refine wpList_skip (wanted_of p1.2.2 hd h.last) ?_
    rw [p1.2.1]
    have h1 := h.put (d := s) undef h4 (by omega)
    refine wpList_skip (wanted_of p2.2.2 hd h1.last) ?_
    rw [p2.2.1]
    have h2 := h1.put (d := s + 1) undef (by omega) (by omega)
    refine wpList_skip (wanted_of p3.2.2 hd h2.last) ?_
    rw [p3.2.1]
    have h3 := h2.put (d := s + 2) undef (by omega) (by omega)
    refine wpList_skip (wanted_of p4.2.2 hd h3.last) ?_
    rw [p4.2.1]
    have h4' := h3.put (d := s + 3) undef (by omega) (by omega)
    refine wpList_skip (wanted_of p5.2.2 hd h4'.last) ?_
    rw [p5.2.1]
    exact fin undef (h4'.put (d := s + 4) undef (by omega) (by omega)) (put_same (by rw [h4'.size]; omega)) (fun e => by cases e)

/-- two lists, as strings -/
theorem block9 {ops : Array Oper} {rest : List Oper} {a : Act} {W : World} {Q : Exit → Act → World → Prop} {o1 o2 o3 o4 o5 o6 o7 o8 : Oper} {n m gi s i b1 b2 o : Nat} {r c : Bool} {u1 u2 v1 v2 : Value} (h : Kn a n m b1 b2 r) (hd : (ops[gi]?).bind (·.dst) = some m) (h4 : 4 < s) (hn : s + 7 < n) (hm : m < s)
    (p1 : o1.op = .fieldAddr 25 (.tmp 2) i ∧ o1.dst = some s ∧ o1.guard = some (gi, true)) (p2 : o2.op = .load 23 (.tmp s) ∧ o2.dst = some (s + 1) ∧ o2.guard = some (gi, true)) (p3 : o3.op = .convert 23 9 (.tmp (s + 1)) ∧ o3.dst = some (s + 2) ∧ o3.guard = some (gi, true))
    (p4 : o4.op = .fieldAddr 25 (.tmp 3) i ∧ o4.dst = some (s + 3) ∧ o4.guard = some (gi, true)) (p5 : o5.op = .load 23 (.tmp (s + 3)) ∧ o5.dst = some (s + 4) ∧ o5.guard = some (gi, true)) (p6 : o6.op = .convert 23 9 (.tmp (s + 4)) ∧ o6.dst = some (s + 5) ∧ o6.guard = some (gi, true))
    (p7 : o7.op = .binOp .eql 9 (.tmp (s + 2)) (.tmp (s + 5)) 9 ∧ o7.dst = some (s + 6) ∧ o7.guard = some (gi, true)) (p8 : o8.op = .pick (.tmp m) (.tmp (s + 6)) (.const (.bool false)) ∧ o8.dst = some (s + 7) ∧ o8.guard = none)
    (hf : ∀ b, (Instr.fieldAt 25 (.pointer (some ⟨b, 0, none⟩)) i).run Try.prog W = .ok (.pointer (some ⟨b, o, none⟩)) W) (l1 : (Instr.loadAt 23 (.pointer (some ⟨b1, o, none⟩))).run Try.prog W = .ok u1 W) (l2 : (Instr.loadAt 23 (.pointer (some ⟨b2, o, none⟩))).run Try.prog W = .ok u2 W)
    (c1 : (convert 23 9 u1).run Try.prog W = .ok v1 W) (c2 : (convert 23 9 u2).run Try.prog W = .ok v2 W) (hq : (eqGuard .eql 9 (.tmp (s + 2)) (.tmp (s + 5)) v1 v2).run Try.prog W = .ok () W) (he : (binOp .eql 9 v1 v2).run Try.prog W = .ok (.bool c) W)
    (hk : ∀ a', Kn a' n (s + 7) b1 b2 (r && c) → wpList Try.prog ops Q rest a' W) : wpList Try.prog ops Q (o1 :: o2 :: o3 :: o4 :: o5 :: o6 :: o7 :: o8 :: rest) a W := by
  have fin : ∀ {a5 : Act} (x : Value), Kn a5 n m b1 b2 r → a5.tmps[s + 6]? = some x → (r = true → x = .bool c) → wpList Try.prog ops Q (o8 :: rest) a5 W := fun {a5} x h5 hx hr => by
    have e6 := ex_pick (W := W) p8.1 (eval_tmp h5.last)
    have ev : (if r = true then a5.eval (.tmp (s + 6)) else .bool false) = .bool (r && c) := by
      cases r with
      | false => rfl
      | true => show a5.eval (.tmp (s + 6)) = _; rw [eval_tmp hx, hr rfl]; rfl
    rw [ev] at e6
    refine st_any (wanted_none p8.2.2) e6 ?_
    rw [p8.2.1]
    exact hk _ (h5.to (by omega) (by omega))
  cases r with
  | true =>
    refine st_any (wanted_of p1.2.2 hd h.last) (ex_fld p1.1 (eval_tmp h.two) (hf b1)) ?_
    rw [p1.2.1]
    have h1 := h.put (d := s) (.pointer (some ⟨b1, o, none⟩)) h4 (by omega)
    have q1 := put_same (a := a) (d := s) (v := .pointer (some ⟨b1, o, none⟩)) (by rw [h.size]; omega)
    generalize a.put (some s) (.pointer (some ⟨b1, o, none⟩)) = a1 at *
    refine st_any (wanted_of p2.2.2 hd h1.last) (ex_load p2.1 (eval_tmp q1) l1) ?_
    rw [p2.2.1]
    have h2 := h1.put (d := s + 1) u1 (by omega) (by omega)
    have q2 := put_same (a := a1) (d := s + 1) (v := u1) (by rw [h1.size]; omega)
    generalize a1.put (some (s + 1)) u1 = a2 at *
    refine st_any (wanted_of p3.2.2 hd h2.last) (ex_conv p3.1 (eval_tmp q2) c1) ?_
    rw [p3.2.1]
    have h3 := h2.put (d := s + 2) v1 (by omega) (by omega)
    have q3 := put_same (a := a2) (d := s + 2) (v := v1) (by rw [h2.size]; omega)
    generalize a2.put (some (s + 2)) v1 = a3 at *
    refine st_any (wanted_of p4.2.2 hd h3.last) (ex_fld p4.1 (eval_tmp h3.three) (hf b2)) ?_
    rw [p4.2.1]
    have h4' := h3.put (d := s + 3) (.pointer (some ⟨b2, o, none⟩)) (by omega) (by omega)
    have q4 := put_same (a := a3) (d := s + 3) (v := .pointer (some ⟨b2, o, none⟩)) (by rw [h3.size]; omega)
    have q34 := (put_at (a := a3) (d := s + 3) (k := s + 2) (v := .pointer (some ⟨b2, o, none⟩)) (by omega)).trans q3
    generalize a3.put (some (s + 3)) (.pointer (some ⟨b2, o, none⟩)) = a4 at *
    refine st_any (wanted_of p5.2.2 hd h4'.last) (ex_load p5.1 (eval_tmp q4) l2) ?_
    rw [p5.2.1]
    have h5 := h4'.put (d := s + 4) u2 (by omega) (by omega)
    have q5 := put_same (a := a4) (d := s + 4) (v := u2) (by rw [h4'.size]; omega)
    have q35 := (put_at (a := a4) (d := s + 4) (k := s + 2) (v := u2) (by omega)).trans q34
    generalize a4.put (some (s + 4)) u2 = a5 at *
    refine st_any (wanted_of p6.2.2 hd h5.last) (ex_conv p6.1 (eval_tmp q5) c2) ?_
    rw [p6.2.1]
    have h6 := h5.put (d := s + 5) v2 (by omega) (by omega)
    have q6 := put_same (a := a5) (d := s + 5) (v := v2) (by rw [h5.size]; omega)
    have q36 := (put_at (a := a5) (d := s + 5) (k := s + 2) (v := v2) (by omega)).trans q35
    generalize a5.put (some (s + 5)) v2 = a6 at *
    refine st_any (wanted_of p7.2.2 hd h6.last) (ex_eql p7.1 (eval_tmp q36) (eval_tmp q6) hq he) ?_
    rw [p7.2.1]
    exact fin (.bool c) (h6.put (d := s + 6) (.bool c) (by omega) (by omega)) (put_same (by rw [h6.size]; omega)) (fun _ => rfl)
  | false =>
    refine wpList_skip (wanted_of p1.2.2 hd h.last) ?_
    rw [p1.2.1]
    have h1 := h.put (d := s) undef h4 (by omega)
    refine wpList_skip (wanted_of p2.2.2 hd h1.last) ?_
    rw [p2.2.1]
    have h2 := h1.put (d := s + 1) undef (by omega) (by omega)
    refine wpList_skip (wanted_of p3.2.2 hd h2.last) ?_
    rw [p3.2.1]
    have h3 := h2.put (d := s + 2) undef (by omega) (by omega)
    refine wpList_skip (wanted_of p4.2.2 hd h3.last) ?_
    rw [p4.2.1]
    have h4' := h3.put (d := s + 3) undef (by omega) (by omega)
    refine wpList_skip (wanted_of p5.2.2 hd h4'.last) ?_
    rw [p5.2.1]
    have h5 := h4'.put (d := s + 4) undef (by omega) (by omega)
    refine wpList_skip (wanted_of p6.2.2 hd h5.last) ?_
    rw [p6.2.1]
    have h6 := h5.put (d := s + 5) undef (by omega) (by omega)
    refine wpList_skip (wanted_of p7.2.2 hd h6.last) ?_
    rw [p7.2.1]
    exact fin undef (h6.put (d := s + 6) undef (by omega) (by omega)) (put_same (by rw [h6.size]; omega)) (fun e => by cases e)
end Go.Proofs.Ytcbadmkgbaffpaa
