/- A region that draws its order, operation by operation: what runs alone, and two or three loads that come in any order. -/
import Derived.Test.YtcbadmkgbaffpaaRBlk
namespace Go.Proofs.Ytcbadmkgbaffpaa
open Go.RowKit
set_option linter.unusedVariables false

theorem cfEncode (W : World) (vs : Array Value) : (callFunc 9 vs).run Try.prog W = .ok (.enter 9 vs) W := by go_simp
theorem cfREncode (W : World) (vs : Array Value) : (callFunc 10 vs).run Try.prog W = .ok (.enter 10 vs) W := by go_simp
theorem cfLives (W : World) (vs : Array Value) : (callFunc 11 vs).run Try.prog W = .ok (.enter 11 vs) W := by go_simp
theorem cfMay (W : World) (vs : Array Value) : (callFunc 12 vs).run Try.prog W = .ok (.enter 12 vs) W := by go_simp
theorem cfRMay (W : World) (vs : Array Value) : (callFunc 13 vs).run Try.prog W = .ok (.enter 13 vs) W := by go_simp
theorem cfSame (W : World) (vs : Array Value) : (callFunc 14 vs).run Try.prog W = .ok (.enter 14 vs) W := by go_simp
theorem cfBare (W : World) (vs : Array Value) : (callFunc 15 vs).run Try.prog W = .ok (.enter 15 vs) W := by go_simp
theorem cfRBare (W : World) (vs : Array Value) : (callFunc 16 vs).run Try.prog W = .ok (.enter 16 vs) W := by go_simp
theorem cfDecode (W : World) (vs : Array Value) : (callFunc 17 vs).run Try.prog W = .ok (.enter 17 vs) W := by go_simp
theorem cfRDecode (W : World) (vs : Array Value) : (callFunc 18 vs).run Try.prog W = .ok (.enter 18 vs) W := by go_simp
theorem cfRFields (W : World) (vs : Array Value) : (callFunc 23 vs).run Try.prog W = .ok (.enter 23 vs) W := by go_simp
theorem cfValue (W : World) (vs : Array Value) : (callFunc 24 vs).run Try.prog W = .ok (.enter 24 vs) W := by go_simp
theorem cfCopied (W : World) (vs : Array Value) : (callFunc 31 vs).run Try.prog W = .ok (.enter 31 vs) W := by go_simp
theorem cfWith (W : World) (vs : Array Value) : (callFunc 36 vs).run Try.prog W = .ok (.enter 36 vs) W := by go_simp
theorem cfNumber (W : World) (vs : Array Value) : (callFunc 44 vs).run Try.prog W = .ok (.enter 44 vs) W := by go_simp
theorem cfHash (W : World) (vs : Array Value) : (callFunc 68 vs).run Try.prog W = .ok (.enter 68 vs) W := by go_simp
theorem cfRead (W : World) (vs : Array Value) : (callFunc 69 vs).run Try.prog W = .ok (.enter 69 vs) W := by go_simp
section
variable {ops : Array Oper} {o : Oper} {a : Act} {w : World} {Q : Exit → Act → World → Prop} {md : Region.Mode} {fuel : Nat} {L : Array Bool} {i : Nat}
/-- the only one that may come up -/
theorem an_wp (hi : ops[i]? = some o) (hr : Region.ready md ops L = [i]) (hw : Region.wanted o (yielded ops a.tmps) = true)
    (h : ∀ K : Act → World → Prop, (∀ a' w', wpAny Try.prog md ops Q fuel (L.setIfInBounds i true) a' w' → K a' w') → o.wp Try.prog a w K Q) : wpAny Try.prog md ops Q (fuel + 1) L a w :=
  wpAny_all hr (by simp) fun j hj => by
    rw [List.mem_singleton.1 hj]
    exact wpOp_step hi fun K hK => by rw [if_pos hw]; exact h K hK
theorem an_one (d : Option Tmp) (hi : ops[i]? = some o) (hd : o.dst = d) (hr : Region.ready md ops L = [i]) (hw : Region.wanted o (yielded ops a.tmps) = true) {v : Value} (hx : (execOp a.eval o).run Try.prog w = .ok (.value v) w)
    (h : wpAny Try.prog md ops Q fuel (L.setIfInBounds i true) (a.put d v) w) : wpAny Try.prog md ops Q (fuel + 1) L a w :=
  an_wp hi hr hw fun K hK => by subst hd; unfold Oper.wp; rw [hx]; exact hK _ _ h
/-- it is not wanted -/
theorem an_skip (d : Option Tmp) (hi : ops[i]? = some o) (hd : o.dst = d) (hr : Region.ready md ops L = [i]) (hw : Region.wanted o (yielded ops a.tmps) = false)
    (h : wpAny Try.prog md ops Q fuel (L.setIfInBounds i true) (a.put d undef) w) : wpAny Try.prog md ops Q (fuel + 1) L a w :=
  wpAny_all hr (by simp) fun j hj => by
    rw [List.mem_singleton.1 hj]
    subst hd
    exact wpOp_step hi fun K hK => by rw [if_neg (by rw [hw]; simp)]; exact hK _ _ h
/-- a call -/
theorem an_call (d : Option Tmp) (hi : ops[i]? = some o) (hd : o.dst = d) (hr : Region.ready md ops L = [i]) (hw : Region.wanted o (yielded ops a.tmps) = true) {f : FuncId} {args : Array Value} {post : Ending → World → Prop} (hc : Calls Try.prog f args w post) (hx : (execOp a.eval o).run Try.prog w = .ok (.enter f args) w)
    (h : ∀ e w', post e w' → ∃ v, e = .returned v ∧ wpAny Try.prog md ops Q fuel (L.setIfInBounds i true) (a.put d v) w') : wpAny Try.prog md ops Q (fuel + 1) L a w :=
  an_wp hi hr hw fun K hK => by
    subst hd
    unfold Oper.wp
    rw [hx]
    refine Calls.mono hc fun e w' hp => ?_
    obtain ⟨v, rfl, h'⟩ := h e w' hp
    exact hK _ _ h'
theorem ex_call {f : Nat} {xs : Array Operand} {ts : Array TypeId} (ho : o.op = .call { callee := .value (.func f), args := xs, argTypes := ts }) (hf : ∀ vs, (callFunc f vs).run Try.prog w = .ok (.enter f vs) w) {vs : List Value} (hv : xs.toList.map a.eval = vs) : (execOp a.eval o).run Try.prog w = .ok (.enter f vs.toArray) w := by
  have hm : xs.map a.eval = vs.toArray := by rw [← hv, ← Array.toList_map]
  have := hf (xs.map a.eval)
  rw [← hm]
  unfold execOp
  simp only [ho, resolve, Sem.run_bind]
  have he : a.eval (.func f) = .func (.func f) #[] #[] := rfl
  rw [he]
  simp [Deferred.ofValue, invoke, this]
theorem an_take {v : Value} (d : Option Tmp) (hi : ops[i]? = some o) (hd : o.dst = d) (hs : Region.noSelect ops = true) (hf : Region.free md ops L i = true) (hr : (Region.ready md ops L).contains i = true) (hw : Region.wanted o (yielded ops a.tmps) = true) (hx : ∀ W, (execOp a.eval o).run Try.prog W = .ok (.value v) W)
    (hQ : ∀ c a w, Q (.panic c) (a.put d v) w → Q (.panic c) a w) (h : wpAny Try.prog md ops Q fuel (L.setIfInBounds i true) (a.put d v) w) : wpAny Try.prog md ops Q (fuel + 1) L a w := by
  subst hd
  exact wpAny_take hi hs hf hr hQ (.inl ⟨hw, hx⟩) h
theorem an_drop (d : Option Tmp) (hi : ops[i]? = some o) (hd : o.dst = d) (hs : Region.noSelect ops = true) (hf : Region.free md ops L i = true) (hr : (Region.ready md ops L).contains i = true) (hw : Region.wanted o (yielded ops a.tmps) = false)
    (hQ : ∀ c a w, Q (.panic c) (a.put d undef) w → Q (.panic c) a w) (h : wpAny Try.prog md ops Q fuel (L.setIfInBounds i true) (a.put d undef) w) : wpAny Try.prog md ops Q (fuel + 1) L a w := by
  subst hd
  exact wpAny_take hi hs hf hr hQ (.inr ⟨hw, rfl⟩) h
/-- a store of many cells -/
theorem an_store (hi : ops[i]? = some o) (hd : o.dst = none) (hr : Region.ready md ops L = [i]) (hw : Region.wanted o (yielded ops a.tmps) = true) {ty : TypeId} {x y : Operand} (ho : o.op = .store ty x y) {b p : Nat} {cells : Array Value} (hx : a.eval x = .pointer (some ⟨b, p, none⟩)) (hy : a.eval y = .agg cells)
    (ht : w.there b p cells.size) (hs : (Try.prog.info? ty).map (·.size) = some cells.size) (h1 : cells.all (·.oneCell') = true) (h : wpAny Try.prog md ops Q fuel (L.setIfInBounds i true) a (w.setCells b p cells.toList)) : wpAny Try.prog md ops Q (fuel + 1) L a w :=
  an_wp hi hr hw fun K hK => wp_store_mid ty x y ho b p cells hx hy ht hs h1 (hK _ _ (by rw [hd]; exact h))
theorem ex_mv {x : Operand} {v : Value} (ho : o.op = .move x) (hx : a.eval x = v) : (execOp a.eval o).run Try.prog w = .ok (.value v) w := hx ▸ ex_move ho
theorem ex_pkT {c x y : Operand} {v : Value} (ho : o.op = .pick c x y) (hc : a.eval c = .bool true) (hx : a.eval x = v) : (execOp a.eval o).run Try.prog w = .ok (.value v) w := by
  unfold execOp
  simp only [ho, hc, hx, Sem.run_bind, Sem.run_pure]
  rfl
theorem ex_pkF {c x y : Operand} {v : Value} (ho : o.op = .pick c x y) (hc : a.eval c = .bool false) (hx : a.eval y = v) : (execOp a.eval o).run Try.prog w = .ok (.value v) w := by
  unfold execOp
  simp only [ho, hc, hx, Sem.run_bind, Sem.run_pure]
  rfl
theorem ex_asg {x : Operand} {v : Value} (ho : o.op = .assign x) (hx : a.eval x = v) : (execOp a.eval o).run Try.prog w = .ok (.value v) w := by
  unfold execOp
  simp only [ho, hx, Sem.run_pure]
theorem ex_ext {x : Operand} {k : Nat} {vs : Array Value} {v : Value} (ho : o.op = .extract x k) (hx : a.eval x = .tuple vs) (hv : vs[k]? = some v) : (execOp a.eval o).run Try.prog w = .ok (.value v) w := by
  unfold execOp
  simp [ho, hx, hv, Instr.extract]
/-- one load -/
structure Ld (ops : Array Oper) (i ty x d : Nat) (p v : Value) (w : World) : Prop where
  at_ : ∃ o, ops[i]? = some o ∧ o.op = .load ty (.tmp x) ∧ o.dst = some d
  run : (Instr.loadAt ty p).run Try.prog w = .ok v w
theorem Ld.step {K : Act → World → Prop} {ty x d : Nat} {p v : Value} (h : Ld ops i ty x d p v w) (hp : a.tmps[x]? = some p) (hw : ∀ o, ops[i]? = some o → Region.wanted o (yielded ops a.tmps) = true) (hK : K (a.put (some d) v) w) : wpOp Try.prog ops Q i K a w := by
  obtain ⟨o, ho, h1, h2⟩ := h.at_
  refine wpOp_step ho fun K' hK' => ?_
  rw [if_pos (hw o ho)]
  unfold Oper.wp
  rw [ex_load h1 (eval_tmp hp) h.run]
  refine hK' _ _ ?_
  rw [h2]
  exact hK
variable {j k ti tj tk xi xj xk di dj dk : Nat} {pi pj pk vi vj vk : Value}
theorem an_two (hi : Ld ops i ti xi di pi vi w) (hj : Ld ops j tj xj dj pj vj w) (hr : Region.ready md ops L = [i, j]) (hri : Region.ready md ops (L.setIfInBounds i true) = [j]) (hrj : Region.ready md ops (L.setIfInBounds j true) = [i])
    (qi : a.tmps[xi]? = some pi) (qj : a.tmps[xj]? = some pj) (n1 : xi ≠ dj) (n2 : xj ≠ di) (n3 : di ≠ dj) (n4 : i ≠ j)
    (wi : ∀ o, ops[i]? = some o → Region.wanted o (yielded ops a.tmps) = true ∧ Region.wanted o (yielded ops (a.put (some dj) vj).tmps) = true)
    (wj : ∀ o, ops[j]? = some o → Region.wanted o (yielded ops a.tmps) = true ∧ Region.wanted o (yielded ops (a.put (some di) vi).tmps) = true)
    (h : wpAny Try.prog md ops Q fuel ((L.setIfInBounds i true).setIfInBounds j true) ((a.put (some di) vi).put (some dj) vj) w) : wpAny Try.prog md ops Q (fuel + 2) L a w :=
  wpAny_all hr (by simp) fun m hm => by
    rcases List.mem_cons.1 hm with rfl | hm
    · refine hi.step qi (fun o ho => (wi o ho).1) ?_
      refine wpAny_all hri (by simp) fun m' hm' => ?_
      rw [List.mem_singleton.1 hm']
      exact hj.step ((put_at n2).trans qj) (fun o ho => (wj o ho).2) h
    · rw [List.mem_singleton.1 hm]
      refine hj.step qj (fun o ho => (wj o ho).1) ?_
      refine wpAny_all hrj (by simp) fun m' hm' => ?_
      rw [List.mem_singleton.1 hm']
      refine hi.step ((put_at n1).trans qi) (fun o ho => (wi o ho).2) ?_
      rw [Array.setIfInBounds_comm _ _ (Ne.symm n4), Act.put_comm a vj vi (fun d hd => by cases hd; intro e; cases e; exact n3 rfl)]
      exact h
/-- three loads, none of them behind a guard -/
theorem an_three (hi : Ld ops i ti xi di pi vi w) (hj : Ld ops j tj xj dj pj vj w) (hk : Ld ops k tk xk dk pk vk w) (hr : Region.ready md ops L = [i, j, k])
    (ri : Region.ready md ops (L.setIfInBounds i true) = [j, k]) (rj : Region.ready md ops (L.setIfInBounds j true) = [i, k]) (rk : Region.ready md ops (L.setIfInBounds k true) = [i, j])
    (rij : Region.ready md ops ((L.setIfInBounds i true).setIfInBounds j true) = [k]) (rik : Region.ready md ops ((L.setIfInBounds i true).setIfInBounds k true) = [j]) (rjk : Region.ready md ops ((L.setIfInBounds j true).setIfInBounds k true) = [i])
    (qi : a.tmps[xi]? = some pi) (qj : a.tmps[xj]? = some pj) (qk : a.tmps[xk]? = some pk)
    (n1 : xi ≠ dj ∧ xi ≠ dk ∧ xj ≠ di ∧ xj ≠ dk ∧ xk ≠ di ∧ xk ≠ dj) (n3 : di ≠ dj ∧ di ≠ dk ∧ dj ≠ dk) (n4 : i ≠ j ∧ i ≠ k ∧ j ≠ k)
    (gi : ∀ o, ops[i]? = some o → o.guard = none) (gj : ∀ o, ops[j]? = some o → o.guard = none) (gk : ∀ o, ops[k]? = some o → o.guard = none)
    (h : wpAny Try.prog md ops Q fuel (((L.setIfInBounds i true).setIfInBounds j true).setIfInBounds k true) (((a.put (some di) vi).put (some dj) vj).put (some dk) vk) w) : wpAny Try.prog md ops Q (fuel + 3) L a w := by
  obtain ⟨a1, a2, a3, a4, a5, a6⟩ := n1
  obtain ⟨b1, b2, b3⟩ := n3
  obtain ⟨c1, c2, c3⟩ := n4
  have cm : ∀ (b : Act) {x y : Nat} (u v : Value), x ≠ y → (b.put (some x) u).put (some y) v = (b.put (some y) v).put (some x) u := fun b x y u v hxy => Act.put_comm b u v (fun d hd => by cases hd; intro e; cases e; exact hxy rfl)
  have lm : ∀ (M : Array Bool) {x y : Nat}, x ≠ y → (M.setIfInBounds x true).setIfInBounds y true = (M.setIfInBounds y true).setIfInBounds x true := fun M x y hxy => Array.setIfInBounds_comm _ _ hxy
  refine wpAny_all hr (by simp) fun m hm => ?_
  rcases List.mem_cons.1 hm with rfl | hm
  · refine hi.step qi (fun o ho => wanted_none (gi o ho)) ?_
    exact an_two hj hk ri rij rik ((put_at a3).trans qj) ((put_at a5).trans qk) a4 a6 b3 c3 (fun o ho => ⟨wanted_none (gj o ho), wanted_none (gj o ho)⟩) (fun o ho => ⟨wanted_none (gk o ho), wanted_none (gk o ho)⟩) h
  rcases List.mem_cons.1 hm with rfl | hm
  · refine hj.step qj (fun o ho => wanted_none (gj o ho)) ?_
    refine an_two hi hk rj (by rw [← lm L c1]; exact rij) rjk ((put_at a1).trans qi) ((put_at a6).trans qk) a2 a5 b2 c2 (fun o ho => ⟨wanted_none (gi o ho), wanted_none (gi o ho)⟩) (fun o ho => ⟨wanted_none (gk o ho), wanted_none (gk o ho)⟩) ?_
    rw [← lm L c1, ← cm a vi vj b1]
    exact h
  · rw [List.mem_singleton.1 hm]
    refine hk.step qk (fun o ho => wanted_none (gk o ho)) ?_
    refine an_two hi hj rk (by rw [← lm L c2]; exact rik) (by rw [← lm L c3]; exact rjk) ((put_at a2).trans qi) ((put_at a4).trans qj) a1 a3 b1 c1 (fun o ho => ⟨wanted_none (gi o ho), wanted_none (gi o ho)⟩) (fun o ho => ⟨wanted_none (gj o ho), wanted_none (gj o ho)⟩) ?_
    rw [← lm L c2, ← lm (L.setIfInBounds i true) c3, ← cm a vi vk b2, ← cm (a.put (some di) vi) vj vk b3]
    exact h

/-! ### the same, where a condition on the world is kept -/
variable {S : World → Prop} {v : Value}
theorem ah_take (d : Option Tmp) (hi : ops[i]? = some o) (hd : o.dst = d) (hs : Region.noSelect ops = true) (hf : Region.free md ops L i = true) (hr : (Region.ready md ops L).contains i = true) (hw : Region.wanted o (yielded ops a.tmps) = true) (hx : ∀ W, S W → (execOp a.eval o).run Try.prog W = .ok (.value v) W) (hS : S w)
    (hQ : ∀ c a w, Q (.panic c) (a.put d v) w → Q (.panic c) a w) (h : wpAnyH Try.prog md ops Q S fuel (L.setIfInBounds i true) (a.put d v) w) : wpAnyH Try.prog md ops Q S (fuel + 1) L a w :=
  by subst hd; exact wpAnyH_take hi hs hf hr hQ (.inl ⟨hw, hx⟩) hS h
theorem ah_skip (d : Option Tmp) (hi : ops[i]? = some o) (hd : o.dst = d) (hs : Region.noSelect ops = true) (hf : Region.free md ops L i = true) (hr : (Region.ready md ops L).contains i = true) (hw : Region.wanted o (yielded ops a.tmps) = false) (hS : S w)
    (hQ : ∀ c a w, Q (.panic c) (a.put d undef) w → Q (.panic c) a w) (h : wpAnyH Try.prog md ops Q S fuel (L.setIfInBounds i true) (a.put d undef) w) : wpAnyH Try.prog md ops Q S (fuel + 1) L a w :=
  by subst hd; exact wpAnyH_take hi hs hf hr hQ (.inr ⟨hw, rfl⟩) hS h
theorem ah_call (d : Option Tmp) (hi : ops[i]? = some o) (hd : o.dst = d) (hr : Region.ready md ops L = [i]) (hw : Region.wanted o (yielded ops a.tmps) = true) {f : FuncId} {args : Array Value} {post : Ending → World → Prop} (hc : Calls Try.prog f args w post) (hx : (execOp a.eval o).run Try.prog w = .ok (.enter f args) w)
    (h : ∀ e w', post e w' → ∃ v, e = .returned v ∧ S w' ∧ wpAnyH Try.prog md ops Q S fuel (L.setIfInBounds i true) (a.put d v) w') : wpAnyH Try.prog md ops Q S (fuel + 1) L a w :=
  wpAnyH_all hr (by simp) fun j hj => by
    rw [List.mem_singleton.1 hj]
    subst hd
    refine wpOp_step hi fun K hK => ?_
    rw [if_pos hw]
    unfold Oper.wp
    rw [hx]
    refine Calls.mono hc fun e w' hp => ?_
    obtain ⟨v, rfl, h'⟩ := h e w' hp
    exact hK _ _ h'
theorem ah_done (hr : Region.ready md ops L = []) (h : Q .normal a w) : wpAnyH Try.prog md ops Q S fuel L a w := wpAnyH_done hr h _
end
end Go.Proofs.Ytcbadmkgbaffpaa
