/- The texts on the document's side, in one. -/
import Derived.Test.YtcbadmkgbaffpaaRBlk
import Derived.Test.YtcbadmkgbaffpaaRCop
import Derived.Test.YtcbadmkgbaffpaaRSame
import Derived.Test.YtcbadmkgbaffpaaWDec5
import Derived.Test.YtcbadmkgbaffpaaWEnc3
import Derived.Test.YtcbadmkgbaffpaaRows
import Derived.Test.YtcbadmkgbaffpaaBigRow
import Derived.WalkKit
import Derived.ProofKit
import Derived.OpenShut
import Derived.SizedLaws
import Derived.Deep.Slices
import Derived.WideShapes
import Derived.Test.YtcbadmkgbaffpaaREnc2
import Derived.Deep.AppendLies
/- A region that draws its order, operation by operation: what runs alone, and two or three loads that come in any order. -/
namespace Go.Proofs.Ytcbadmkgbaffpaa
open Go.RowKit
set_option linter.unusedVariables false

theorem cfEncode (W : World) (vs : Array Value) : (callFunc 9 vs).run Try.prog W = .ok (.enter 9 vs) W := by go_simp
theorem cfREncode (W : World) (vs : Array Value) : (callFunc 10 vs).run Try.prog W = .ok (.enter 10 vs) W := by go_simp
theorem cfLives (W : World) (vs : Array Value) : (callFunc 11 vs).run Try.prog W = .ok (.enter 11 vs) W := by go_simp
theorem cfMay (W : World) (vs : Array Value) : (callFunc 12 vs).run Try.prog W = .ok (.enter 12 vs) W := by go_simp
theorem cfRMay (W : World) (vs : Array Value) : (callFunc 13 vs).run Try.prog W = .ok (.enter 13 vs) W := by go_simp
theorem cfSame (W : World) (vs : Array Value) : (callFunc 14 vs).run Try.prog W = .ok (.enter 14 vs) W := by go_simp
theorem cfBare (W : World) (vs : Array Value) : (callFunc 15 vs).run Try.prog W = .ok (.enter 15 vs) W := by go_simp
theorem cfRBare (W : World) (vs : Array Value) : (callFunc 16 vs).run Try.prog W = .ok (.enter 16 vs) W := by go_simp
theorem cfDecode (W : World) (vs : Array Value) : (callFunc 17 vs).run Try.prog W = .ok (.enter 17 vs) W := by go_simp
theorem cfRDecode (W : World) (vs : Array Value) : (callFunc 18 vs).run Try.prog W = .ok (.enter 18 vs) W := by go_simp
theorem cfRFields (W : World) (vs : Array Value) : (callFunc 23 vs).run Try.prog W = .ok (.enter 23 vs) W := by go_simp
theorem cfValue (W : World) (vs : Array Value) : (callFunc 24 vs).run Try.prog W = .ok (.enter 24 vs) W := by go_simp
theorem cfCopied (W : World) (vs : Array Value) : (callFunc 31 vs).run Try.prog W = .ok (.enter 31 vs) W := by go_simp
theorem cfWith (W : World) (vs : Array Value) : (callFunc 36 vs).run Try.prog W = .ok (.enter 36 vs) W := by go_simp
theorem cfNumber (W : World) (vs : Array Value) : (callFunc 44 vs).run Try.prog W = .ok (.enter 44 vs) W := by go_simp
theorem cfHash (W : World) (vs : Array Value) : (callFunc 68 vs).run Try.prog W = .ok (.enter 68 vs) W := by go_simp
theorem cfRead (W : World) (vs : Array Value) : (callFunc 69 vs).run Try.prog W = .ok (.enter 69 vs) W := by go_simp
section
variable {ops : Array Oper} {o : Oper} {a : Act} {w : World} {Q : Exit → Act → World → Prop} {md : Region.Mode} {fuel : Nat} {L : Array Bool} {i : Nat}
/-- the only one that may come up -/
theorem an_wp (hi : ops[i]? = some o) (hr : Region.ready md ops L = [i]) (hw : Region.wanted o (yielded ops a.tmps) = true)
    (h : ∀ K : Act → World → Prop, (∀ a' w', wpAny Try.prog md ops Q fuel (L.setIfInBounds i true) a' w' → K a' w') → o.wp Try.prog a w K Q) : wpAny Try.prog md ops Q (fuel + 1) L a w :=
  wpAny_all hr (by simp) fun j hj => by
    rw [List.mem_singleton.1 hj]
    exact wpOp_step hi fun K hK => by rw [if_pos hw]; exact h K hK
theorem an_one (d : Option Tmp) (hi : ops[i]? = some o) (hd : o.dst = d) (hr : Region.ready md ops L = [i]) (hw : Region.wanted o (yielded ops a.tmps) = true) {v : Value} (hx : (execOp a.eval o).run Try.prog w = .ok (.value v) w)
    (h : wpAny Try.prog md ops Q fuel (L.setIfInBounds i true) (a.put d v) w) : wpAny Try.prog md ops Q (fuel + 1) L a w :=
  an_wp hi hr hw fun K hK => by subst hd; unfold Oper.wp; rw [hx]; exact hK _ _ h
/-- it is not wanted -/
theorem an_skip (d : Option Tmp) (hi : ops[i]? = some o) (hd : o.dst = d) (hr : Region.ready md ops L = [i]) (hw : Region.wanted o (yielded ops a.tmps) = false)
    (h : wpAny Try.prog md ops Q fuel (L.setIfInBounds i true) (a.put d undef) w) : wpAny Try.prog md ops Q (fuel + 1) L a w :=
  wpAny_all hr (by simp) fun j hj => by
    rw [List.mem_singleton.1 hj]
    subst hd
    exact wpOp_step hi fun K hK => by rw [if_neg (by rw [hw]; simp)]; exact hK _ _ h
/-- a call -/
theorem an_call (d : Option Tmp) (hi : ops[i]? = some o) (hd : o.dst = d) (hr : Region.ready md ops L = [i]) (hw : Region.wanted o (yielded ops a.tmps) = true) {f : FuncId} {args : Array Value} {post : Ending → World → Prop} (hc : Calls Try.prog f args w post) (hx : (execOp a.eval o).run Try.prog w = .ok (.enter f args) w)
    (h : ∀ e w', post e w' → ∃ v, e = .returned v ∧ wpAny Try.prog md ops Q fuel (L.setIfInBounds i true) (a.put d v) w') : wpAny Try.prog md ops Q (fuel + 1) L a w :=
  an_wp hi hr hw fun K hK => by
    subst hd
    unfold Oper.wp
    rw [hx]
    refine Calls.mono hc fun e w' hp => ?_
    obtain ⟨v, rfl, h'⟩ := h e w' hp
    exact hK _ _ h'
theorem ex_call {f : Nat} {xs : Array Operand} {ts : Array TypeId} (ho : o.op = .call { callee := .value (.func f), args := xs, argTypes := ts }) (hf : ∀ vs, (callFunc f vs).run Try.prog w = .ok (.enter f vs) w) {vs : List Value} (hv : xs.toList.map a.eval = vs) : (execOp a.eval o).run Try.prog w = .ok (.enter f vs.toArray) w := by
  have hm : xs.map a.eval = vs.toArray := by rw [← hv, ← Array.toList_map]
  have := hf (xs.map a.eval)
  rw [← hm]
  unfold execOp
  simp only [ho, resolve, Sem.run_bind]
  have he : a.eval (.func f) = .func (.func f) #[] #[] := rfl
  rw [he]
  simp [Deferred.ofValue, invoke, this]
theorem an_take {v : Value} (d : Option Tmp) (hi : ops[i]? = some o) (hd : o.dst = d) (hs : Region.noSelect ops = true) (hf : Region.free md ops L i = true) (hr : (Region.ready md ops L).contains i = true) (hw : Region.wanted o (yielded ops a.tmps) = true) (hx : ∀ W, (execOp a.eval o).run Try.prog W = .ok (.value v) W)
    (hQ : ∀ c a w, Q (.panic c) (a.put d v) w → Q (.panic c) a w) (h : wpAny Try.prog md ops Q fuel (L.setIfInBounds i true) (a.put d v) w) : wpAny Try.prog md ops Q (fuel + 1) L a w := by
  subst hd
  exact wpAny_take hi hs hf hr hQ (.inl ⟨hw, hx⟩) h
theorem an_drop (d : Option Tmp) (hi : ops[i]? = some o) (hd : o.dst = d) (hs : Region.noSelect ops = true) (hf : Region.free md ops L i = true) (hr : (Region.ready md ops L).contains i = true) (hw : Region.wanted o (yielded ops a.tmps) = false)
    (hQ : ∀ c a w, Q (.panic c) (a.put d undef) w → Q (.panic c) a w) (h : wpAny Try.prog md ops Q fuel (L.setIfInBounds i true) (a.put d undef) w) : wpAny Try.prog md ops Q (fuel + 1) L a w := by
  subst hd
  exact wpAny_take hi hs hf hr hQ (.inr ⟨hw, rfl⟩) h
/-- a store of many cells -/
theorem an_store (hi : ops[i]? = some o) (hd : o.dst = none) (hr : Region.ready md ops L = [i]) (hw : Region.wanted o (yielded ops a.tmps) = true) {ty : TypeId} {x y : Operand} (ho : o.op = .store ty x y) {b p : Nat} {cells : Array Value} (hx : a.eval x = .pointer (some ⟨b, p, none⟩)) (hy : a.eval y = .agg cells)
    (ht : w.there b p cells.size) (hs : (Try.prog.info? ty).map (·.size) = some cells.size) (h1 : cells.all (·.oneCell') = true) (h : wpAny Try.prog md ops Q fuel (L.setIfInBounds i true) a (w.setCells b p cells.toList)) : wpAny Try.prog md ops Q (fuel + 1) L a w :=
  an_wp hi hr hw fun K hK => wp_store_mid ty x y ho b p cells hx hy ht hs h1 (hK _ _ (by rw [hd]; exact h))
theorem ex_mv {x : Operand} {v : Value} (ho : o.op = .move x) (hx : a.eval x = v) : (execOp a.eval o).run Try.prog w = .ok (.value v) w := hx ▸ ex_move ho
theorem ex_pkT {c x y : Operand} {v : Value} (ho : o.op = .pick c x y) (hc : a.eval c = .bool true) (hx : a.eval x = v) : (execOp a.eval o).run Try.prog w = .ok (.value v) w := by
  unfold execOp
  simp only [ho, hc, hx, Sem.run_bind, Sem.run_pure]
  rfl
theorem ex_pkF {c x y : Operand} {v : Value} (ho : o.op = .pick c x y) (hc : a.eval c = .bool false) (hx : a.eval y = v) : (execOp a.eval o).run Try.prog w = .ok (.value v) w := by
  unfold execOp
  simp only [ho, hc, hx, Sem.run_bind, Sem.run_pure]
  rfl
theorem ex_asg {x : Operand} {v : Value} (ho : o.op = .assign x) (hx : a.eval x = v) : (execOp a.eval o).run Try.prog w = .ok (.value v) w := by
  unfold execOp
  simp only [ho, hx, Sem.run_pure]
theorem ex_ext {x : Operand} {k : Nat} {vs : Array Value} {v : Value} (ho : o.op = .extract x k) (hx : a.eval x = .tuple vs) (hv : vs[k]? = some v) : (execOp a.eval o).run Try.prog w = .ok (.value v) w := by
  unfold execOp
  simp [ho, hx, hv, Instr.extract]
/-- one load -/
structure Ld (ops : Array Oper) (i ty x d : Nat) (p v : Value) (w : World) : Prop where
  at_ : ∃ o, ops[i]? = some o ∧ o.op = .load ty (.tmp x) ∧ o.dst = some d
  run : (Instr.loadAt ty p).run Try.prog w = .ok v w
theorem Ld.step {K : Act → World → Prop} {ty x d : Nat} {p v : Value} (h : Ld ops i ty x d p v w) (hp : a.tmps[x]? = some p) (hw : ∀ o, ops[i]? = some o → Region.wanted o (yielded ops a.tmps) = true) (hK : K (a.put (some d) v) w) : wpOp Try.prog ops Q i K a w := by
  obtain ⟨o, ho, h1, h2⟩ := h.at_
  refine wpOp_step ho fun K' hK' => ?_
  rw [if_pos (hw o ho)]
  unfold Oper.wp
  rw [ex_load h1 (eval_tmp hp) h.run]
  refine hK' _ _ ?_
  rw [h2]
  exact hK
variable {j k ti tj tk xi xj xk di dj dk : Nat} {pi pj pk vi vj vk : Value}
theorem an_two (hi : Ld ops i ti xi di pi vi w) (hj : Ld ops j tj xj dj pj vj w) (hr : Region.ready md ops L = [i, j]) (hri : Region.ready md ops (L.setIfInBounds i true) = [j]) (hrj : Region.ready md ops (L.setIfInBounds j true) = [i])
    (qi : a.tmps[xi]? = some pi) (qj : a.tmps[xj]? = some pj) (n1 : xi ≠ dj) (n2 : xj ≠ di) (n3 : di ≠ dj) (n4 : i ≠ j)
    (wi : ∀ o, ops[i]? = some o → Region.wanted o (yielded ops a.tmps) = true ∧ Region.wanted o (yielded ops (a.put (some dj) vj).tmps) = true)
    (wj : ∀ o, ops[j]? = some o → Region.wanted o (yielded ops a.tmps) = true ∧ Region.wanted o (yielded ops (a.put (some di) vi).tmps) = true)
    (h : wpAny Try.prog md ops Q fuel ((L.setIfInBounds i true).setIfInBounds j true) ((a.put (some di) vi).put (some dj) vj) w) : wpAny Try.prog md ops Q (fuel + 2) L a w :=
  wpAny_all hr (by simp) fun m hm => by
    rcases List.mem_cons.1 hm with rfl | hm
    · refine hi.step qi (fun o ho => (wi o ho).1) ?_
      refine wpAny_all hri (by simp) fun m' hm' => ?_
      rw [List.mem_singleton.1 hm']
      exact hj.step ((put_at n2).trans qj) (fun o ho => (wj o ho).2) h
    · rw [List.mem_singleton.1 hm]
      refine hj.step qj (fun o ho => (wj o ho).1) ?_
      refine wpAny_all hrj (by simp) fun m' hm' => ?_
      rw [List.mem_singleton.1 hm']
      refine hi.step ((put_at n1).trans qi) (fun o ho => (wi o ho).2) ?_
      rw [Array.setIfInBounds_comm _ _ (Ne.symm n4), Act.put_comm a vj vi (fun d hd => by cases hd; intro e; cases e; exact n3 rfl)]
      exact h
/-- three loads, none of them behind a guard -/
theorem an_three (hi : Ld ops i ti xi di pi vi w) (hj : Ld ops j tj xj dj pj vj w) (hk : Ld ops k tk xk dk pk vk w) (hr : Region.ready md ops L = [i, j, k])
    (ri : Region.ready md ops (L.setIfInBounds i true) = [j, k]) (rj : Region.ready md ops (L.setIfInBounds j true) = [i, k]) (rk : Region.ready md ops (L.setIfInBounds k true) = [i, j])
    (rij : Region.ready md ops ((L.setIfInBounds i true).setIfInBounds j true) = [k]) (rik : Region.ready md ops ((L.setIfInBounds i true).setIfInBounds k true) = [j]) (rjk : Region.ready md ops ((L.setIfInBounds j true).setIfInBounds k true) = [i])
    (qi : a.tmps[xi]? = some pi) (qj : a.tmps[xj]? = some pj) (qk : a.tmps[xk]? = some pk)
    (n1 : xi ≠ dj ∧ xi ≠ dk ∧ xj ≠ di ∧ xj ≠ dk ∧ xk ≠ di ∧ xk ≠ dj) (n3 : di ≠ dj ∧ di ≠ dk ∧ dj ≠ dk) (n4 : i ≠ j ∧ i ≠ k ∧ j ≠ k)
    (gi : ∀ o, ops[i]? = some o → o.guard = none) (gj : ∀ o, ops[j]? = some o → o.guard = none) (gk : ∀ o, ops[k]? = some o → o.guard = none)
    (h : wpAny Try.prog md ops Q fuel (((L.setIfInBounds i true).setIfInBounds j true).setIfInBounds k true) (((a.put (some di) vi).put (some dj) vj).put (some dk) vk) w) : wpAny Try.prog md ops Q (fuel + 3) L a w := by
  obtain ⟨a1, a2, a3, a4, a5, a6⟩ := n1
  obtain ⟨b1, b2, b3⟩ := n3
  obtain ⟨c1, c2, c3⟩ := n4
  have cm : ∀ (b : Act) {x y : Nat} (u v : Value), x ≠ y → (b.put (some x) u).put (some y) v = (b.put (some y) v).put (some x) u := fun b x y u v hxy => Act.put_comm b u v (fun d hd => by cases hd; intro e; cases e; exact hxy rfl)
  have lm : ∀ (M : Array Bool) {x y : Nat}, x ≠ y → (M.setIfInBounds x true).setIfInBounds y true = (M.setIfInBounds y true).setIfInBounds x true := fun M x y hxy => Array.setIfInBounds_comm _ _ hxy
  refine wpAny_all hr (by simp) fun m hm => ?_
  rcases List.mem_cons.1 hm with rfl | hm
  · refine hi.step qi (fun o ho => wanted_none (gi o ho)) ?_
    exact an_two hj hk ri rij rik ((put_at a3).trans qj) ((put_at a5).trans qk) a4 a6 b3 c3 (fun o ho => ⟨wanted_none (gj o ho), wanted_none (gj o ho)⟩) (fun o ho => ⟨wanted_none (gk o ho), wanted_none (gk o ho)⟩) h
  rcases List.mem_cons.1 hm with rfl | hm
  · refine hj.step qj (fun o ho => wanted_none (gj o ho)) ?_
    refine an_two hi hk rj (by rw [← lm L c1]; exact rij) rjk ((put_at a1).trans qi) ((put_at a6).trans qk) a2 a5 b2 c2 (fun o ho => ⟨wanted_none (gi o ho), wanted_none (gi o ho)⟩) (fun o ho => ⟨wanted_none (gk o ho), wanted_none (gk o ho)⟩) ?_
    rw [← lm L c1, ← cm a vi vj b1]
    exact h
  · rw [List.mem_singleton.1 hm]
    refine hk.step qk (fun o ho => wanted_none (gk o ho)) ?_
    refine an_two hi hj rk (by rw [← lm L c2]; exact rik) (by rw [← lm L c3]; exact rjk) ((put_at a2).trans qi) ((put_at a4).trans qj) a1 a3 b1 c1 (fun o ho => ⟨wanted_none (gi o ho), wanted_none (gi o ho)⟩) (fun o ho => ⟨wanted_none (gj o ho), wanted_none (gj o ho)⟩) ?_
    rw [← lm L c2, ← lm (L.setIfInBounds i true) c3, ← cm a vi vk b2, ← cm (a.put (some di) vi) vj vk b3]
    exact h

/-! ### the same, where a condition on the world is kept -/
variable {S : World → Prop} {v : Value}
theorem ah_take (d : Option Tmp) (hi : ops[i]? = some o) (hd : o.dst = d) (hs : Region.noSelect ops = true) (hf : Region.free md ops L i = true) (hr : (Region.ready md ops L).contains i = true) (hw : Region.wanted o (yielded ops a.tmps) = true) (hx : ∀ W, S W → (execOp a.eval o).run Try.prog W = .ok (.value v) W) (hS : S w)
    (hQ : ∀ c a w, Q (.panic c) (a.put d v) w → Q (.panic c) a w) (h : wpAnyH Try.prog md ops Q S fuel (L.setIfInBounds i true) (a.put d v) w) : wpAnyH Try.prog md ops Q S (fuel + 1) L a w :=
  by subst hd; exact wpAnyH_take hi hs hf hr hQ (.inl ⟨hw, hx⟩) hS h
theorem ah_skip (d : Option Tmp) (hi : ops[i]? = some o) (hd : o.dst = d) (hs : Region.noSelect ops = true) (hf : Region.free md ops L i = true) (hr : (Region.ready md ops L).contains i = true) (hw : Region.wanted o (yielded ops a.tmps) = false) (hS : S w)
    (hQ : ∀ c a w, Q (.panic c) (a.put d undef) w → Q (.panic c) a w) (h : wpAnyH Try.prog md ops Q S fuel (L.setIfInBounds i true) (a.put d undef) w) : wpAnyH Try.prog md ops Q S (fuel + 1) L a w :=
  by subst hd; exact wpAnyH_take hi hs hf hr hQ (.inr ⟨hw, rfl⟩) hS h
theorem ah_call (d : Option Tmp) (hi : ops[i]? = some o) (hd : o.dst = d) (hr : Region.ready md ops L = [i]) (hw : Region.wanted o (yielded ops a.tmps) = true) {f : FuncId} {args : Array Value} {post : Ending → World → Prop} (hc : Calls Try.prog f args w post) (hx : (execOp a.eval o).run Try.prog w = .ok (.enter f args) w)
    (h : ∀ e w', post e w' → ∃ v, e = .returned v ∧ S w' ∧ wpAnyH Try.prog md ops Q S fuel (L.setIfInBounds i true) (a.put d v) w') : wpAnyH Try.prog md ops Q S (fuel + 1) L a w :=
  wpAnyH_all hr (by simp) fun j hj => by
    rw [List.mem_singleton.1 hj]
    subst hd
    refine wpOp_step hi fun K hK => ?_
    rw [if_pos hw]
    unfold Oper.wp
    rw [hx]
    refine Calls.mono hc fun e w' hp => ?_
    obtain ⟨v, rfl, h'⟩ := h e w' hp
    exact hK _ _ h'
theorem ah_done (hr : Region.ready md ops L = []) (h : Q .normal a w) : wpAnyH Try.prog md ops Q S fuel L a w := wpAnyH_done hr h _
end
end Go.Proofs.Ytcbadmkgbaffpaa

/- The contract of the document's Bare over this seat's translation. -/
namespace Go.Proofs.Ytcbadmkgbaffpaa
open Go.RowKit
set_option linter.unusedVariables false

theorem built_kind (K : Int) (w : World) : (Instr.build 25 #[(0, .int .i64 K)]).run Try.prog w = .ok (.agg (mc K ZF).toArray) w := run_build w 25 _ _ (by kernel_rfl)
/-- the first k fields of a kind, and zeros -/
def bareK (K : Int) (F : Nat → Fld) (k : Nat) : Nat → Fld := fun i => if i ∈ (fl K).take k then F i else ZF i
def bareF (K : Int) (F : Nat → Fld) : Nat → Fld := bareK K F (fl K).length
theorem bareK_fits {K : Int} {F : Nat → Fld} {k : Nat} (hF : Fits F) : Fits (bareK K F k) := fun i hi => by
  unfold bareK
  split
  · exact hF i hi
  · exact ZF_fits i
theorem bareK_step {K : Int} {F : Nat → Fld} {k i : Nat} (h : (fl K)[k]? = some i) : upd (bareK K F k) i (F i) = bareK K F (k + 1) := by
  funext j
  have ht : (fl K).take (k + 1) = (fl K).take k ++ [i] := by rw [List.take_add_one, h]; rfl
  unfold upd bareK
  rw [ht]
  by_cases hj : j = i
  · subst hj; simp
  · simp [hj]
theorem bareK_zero (K : Int) (F : Nat → Fld) : bareK K F 0 = ZF := by funext j; simp [bareK]
theorem MsgAt.drew {w : World} {b : Nat} {K : Int} {F : Nat → Fld} (h : MsgAt w b K F) : MsgAt w.drew b K F := h.kept rfl
theorem below_drew {B : Nat} {w w' : World} (h : Below B w w') : Below B w w'.drew := ⟨h.os, h.tape, h.output, h.size, h.block⟩
theorem FlAt.drew {w : World} {g : Nat} {l : List Nat} (h : FlAt w g l) : FlAt w.drew g l := h.kept (Nat.le_refl _) (fun _ => rfl)

theorem ex_build1 {op : Oper} {a : Act} {W : World} {t i : Nat} {x : Operand} (ho : op.op = .build t #[(i, x)]) {v u : Value} (hx : a.eval x = v) (hb : (Instr.build t #[(i, v)]).run Try.prog W = .ok u W) : (execOp a.eval op).run Try.prog W = .ok (.value u) W := by
  unfold execOp
  simp [ho, hx, hb]
theorem ld36 {W : World} {b o : Nat} {n : Int} (h : W.cell? ⟨b, o, none⟩ = some (.int .u64 n)) : (Instr.loadAt 36 (.pointer (some ⟨b, o, none⟩))).run Try.prog W = .ok (.int .u64 n) W := by go_simp
theorem ex_index44 {op : Oper} {a : Act} {W : World} {x y : Operand} (ho : op.op = .indexAddr 44 x y) {g n c k : Nat} (hx : a.eval x = .slice (some ⟨g, 0, none⟩) n c) (hy : a.eval y = .int .i64 k) (hk : k < n) : (execOp a.eval op).run Try.prog W = .ok (.value (.pointer (some ⟨g, k, none⟩))) W := by
  have h1 : (k : Int) < (n : Int) := by omega
  unfold execOp
  simp only [ho, hx, hy]
  go_simp
set_option maxHeartbeats 2000000 in
theorem rbare_any (K : Int) (F : Nat → Fld) (hF : Fits F) (w : World) :
    Calls Try.prog 16 #[.agg (mc K F).toArray] w fun e w' => e = .returned (.agg (mc K (bareF K F)).toArray) ∧ Hid (Below w.heap.size w w') := by
  have hz := fun w => zero25 w
  have HBD := hide (fun w => built_kind K w)
  obtain ⟨W, hW⟩ : ∃ W, ((w.alloc (.cells (mc K F).toArray 25)).alloc (.cells (mc 0 ZF).toArray 25)).alloc (.cells (mc 0 ZF).toArray 25) = W := ⟨_, rfl⟩
  have M1 : MsgAt W w.heap.size K F := by rw [← hW]; exact ((MsgAt.new w K hF).below (below_alloc _ _)).below (below_alloc _ _)
  have M2 : MsgAt W (w.heap.size + 1) 0 ZF := by rw [← hW]; simpa using (MsgAt.new (w.alloc (.cells (mc K F).toArray 25)) 0 ZFits).below (below_alloc _ (.cells (mc 0 ZF).toArray 25))
  have M3 : MsgAt W (w.heap.size + 2) 0 ZF := by rw [← hW]; simpa using MsgAt.new ((w.alloc (.cells (mc K F).toArray 25)).alloc (.cells (mc 0 ZF).toArray 25)) 0 ZFits
  have HB := hide (show Below w.heap.size w W by rw [← hW]; exact (((Below.refl _ _).alloc (Nat.le_refl _) _).alloc (by simp) _).alloc (by simp; omega) _)
  have k0 : ((w.alloc (.cells (mc K F).toArray 25)).alloc (.cells (mc 0 ZF).toArray 25)).cell? ⟨w.heap.size, 0, none⟩ = some (.int .i64 K) := ((MsgAt.new w K hF).below (below_alloc _ _)).kind
  obtain ⟨W1, hW1⟩ : ∃ W1, W.setCells (w.heap.size + 2) 0 (mc K ZF).toArray.toList = W1 := ⟨_, rfl⟩
  have g1 : W.grownBy W1 (some (w.heap.size + 2)) := by rw [← hW1]; exact grown_setCells _ _ _ _
  have N1 : MsgAt W1 w.heap.size K F := M1.grown g1 (by intro e; have := Option.some.inj e; omega)
  have N2 : MsgAt W1 (w.heap.size + 1) 0 ZF := M2.grown g1 (by intro e; have := Option.some.inj e; omega)
  have N3 : MsgAt W1 (w.heap.size + 2) K ZF := by
    rw [← hW1]
    refine ⟨ZFits, World.rangeAt_setCells_same _ _ _ _ (by rw [mc_len K ZFits]; exact M3.there), ?_⟩
    exact World.there_setCells M3.there _ _ _
  have HB1 := hide (HB.out.grown g1 HB.out.size (fun k hk => by cases hk; omega))
  have HT := hide (show W.there (w.heap.size + 2) 0 (mc K ZF).toArray.size by rw [sizeMsg K ZFits]; exact M3.there)
  have HS := hide (infoSize K (F := ZF) ZFits)
  have HO := hide (oneMsg K ZF)
  have HN1 := hide N1
  have HN2 := hide N2
  have HN3 := hide N3
  have k1 := N1.kind
  clear M1 M2 M3 N1 N2 N3 HB
  generalize hC1 : (mc K F).toArray = C1 at *
  have HC1 := hide hC1
  clear hC1
  generalize (mc 0 ZF).toArray = Z at *
  generalize (mc K ZF).toArray = ZK at *
  go_enter Try.func16, Try.ntmps16
  iterate 13 go_step
  refine wp_region_lit ?_
  refine st_any (wanted_none rfl) (ex_fld rfl rfl (fa0 _ _)) ?_
  refine st_any (wanted_none rfl) (ex_load rfl rfl (ld3 k0)) ?_
  refine st_any (wanted_none rfl) (ex_build1 (t := 25) (i := 0) (x := .tmp 7) (v := .int .i64 K) (u := .agg ZK) rfl rfl (HBD.out _)) ?_
  repeat (first | refine wpList_store_mid rfl 25 (.tmp 3) (.tmp 8) rfl (w.heap.size + 2) 0 _ rfl rfl HT.out HS.out HO.out ?_ | go_step)
  refine (rfields_ex K _).mono ?_
  rintro e w2 ⟨g, a, c, rfl, hv, HF2, hg, HB2⟩
  have HL := hide (fl_len K)
  have HW2 := hide (HB1.out.trans (HB2.out.mono HB1.out.size))
  have HM1 := hide (HN1.out.below HB2.out)
  have HM2 := hide (HN2.out.below HB2.out)
  have HM3 := hide (HN3.out.below HB2.out)
  have hgt : w.heap.size + 2 < g := Nat.lt_of_lt_of_le HN3.out.lt hg
  have HV := hide (show fl K ≠ [] → a = some ⟨g, 0, none⟩ ∧ c = (fl K).length from fun hne => by
    rcases hv with ⟨_, h⟩ | ⟨h, _⟩
    · simpa using h
    · exact absurd (List.eq_nil_of_length_eq_zero h.symm) hne)
  obtain ⟨n, hn⟩ : ∃ n, (fl K).length = n := ⟨_, rfl⟩
  have HNL := hide hn
  have hn6 : n ≤ 6 := by rw [← hn]; exact HL.out
  rw [hn]
  clear hv hn HB2 HB1 HN1 HN2 HN3 hg k0 k1 HL HT HS HO HBD hW hW1 g1
  go_wp2
  go_loopw [5] (fun iv wr => ∃ k : Nat, k ≤ n ∧ iv = .int .i64 k ∧ Hid (MsgAt wr (w.heap.size + 2) K (bareK K F k)) ∧ Hid (MsgAt wr w.heap.size K F) ∧ Hid (MsgAt wr (w.heap.size + 1) 0 ZF) ∧ Hid (FlAt wr g (fl K)) ∧ Hid (Below w.heap.size w wr)) (fun iv _ => n - (intOf iv).toNat)
  case atStart => exact ⟨0, by omega, rfl, by rw [bareK_zero]; exact HM3, HM1, HM2, HF2, HW2⟩
  case round =>
    obtain ⟨k, hk, rfl, H3, H1, H2, HF, HB⟩ := hrel
    by_cases hlt : k < n
    · obtain ⟨i, hi⟩ : ∃ i, (fl K)[k]? = some i := ⟨_, List.getElem?_eq_getElem (by rw [HNL.out]; exact hlt)⟩
      obtain ⟨rfl, rfl⟩ := HV.out (by intro e; rw [e] at hi; simp at hi)
      have hck : (k : Int) < (n : Int) := by omega
      go_wp2_with fail
      have hi12 : i < 12 := fl_lt K i (List.mem_of_getElem? hi)
      obtain ⟨wd, hwd⟩ : ∃ wd, wr.drew = wd := ⟨_, rfl⟩
      have D1 : MsgAt wd w.heap.size K F := by rw [← hwd]; exact H1.out.drew
      have D2 : MsgAt wd (w.heap.size + 1) 0 ZF := by rw [← hwd]; exact H2.out.drew
      have D3 : MsgAt wd (w.heap.size + 2) K (bareK K F k) := by rw [← hwd]; exact H3.out.drew
      have DF : FlAt wd g (fl K) := by rw [← hwd]; exact HF.out.drew
      have DB : Below w.heap.size w wd := by rw [← hwd]; exact below_drew HB.out
      have hcell : wd.cell? ⟨g, k, none⟩ = some (.int .u64 (2 * (i : Int) + 1)) := DF.2 k i hi
      have lA : (Instr.loadAt 25 (.pointer (some ⟨w.heap.size + 1 + 1, 0, none⟩))).run Try.prog wd = .ok (.agg (mc K (bareK K F k)).toArray) wd := run_loadAt_mid wd _ 0 25 _ _ D3.range Try.underlying25 rfl (infoLen K D3.fits)
      have lB : (Instr.loadAt 25 (.pointer (some ⟨w.heap.size, 0, none⟩))).run Try.prog wd = .ok (.agg (mc K F).toArray) wd := run_loadAt_mid wd _ 0 25 _ _ D1.range Try.underlying25 rfl (infoLen K hF)
      have lC := ld36 hcell
      have HC := copied_any i hi12 K K (bareK K F k) F D3.fits hF wd
      rw [bareK_step hi] at HC
      have fD : Fits (bareK K F (k + 1)) := bareK_fits hF
      have oD := oneMsg K (bareK K F (k + 1))
      have sD := infoSize K fD
      have nD := sizeMsg K fD
      have HG := hide (fun (w3 : World) (hb : Below wd.heap.size wd w3) => show w3.there (w.heap.size + 1 + 1) 0 (mc K (bareK K F (k + 1))).toArray.size ∧ MsgAt (w3.setCells (w.heap.size + 1 + 1) 0 (mc K (bareK K F (k + 1))).toArray.toList) (w.heap.size + 2) K (bareK K F (k + 1))
          ∧ MsgAt (w3.setCells (w.heap.size + 1 + 1) 0 (mc K (bareK K F (k + 1))).toArray.toList) w.heap.size K F ∧ MsgAt (w3.setCells (w.heap.size + 1 + 1) 0 (mc K (bareK K F (k + 1))).toArray.toList) (w.heap.size + 1) 0 ZF
          ∧ FlAt (w3.setCells (w.heap.size + 1 + 1) 0 (mc K (bareK K F (k + 1))).toArray.toList) g (fl K) ∧ Below w.heap.size w (w3.setCells (w.heap.size + 1 + 1) 0 (mc K (bareK K F (k + 1))).toArray.toList) by
        have E1 := D1.below hb
        have E2 := D2.below hb
        have E3 := D3.below hb
        have EF := DF.below hb
        have EB := DB.trans (hb.mono DB.size)
        have hgr := grown_setCells (w.heap.size + 2) (mc K (bareK K F (k + 1))).toArray.toList 0 w3
        exact ⟨by rw [nD]; exact E3.there, ⟨fD, World.rangeAt_setCells_same _ _ _ _ (by rw [mc_len K fD]; exact E3.there), World.there_setCells E3.there _ _ _⟩,
          E1.grown hgr (by intro e; have := Option.some.inj e; omega), E2.grown hgr (by intro e; have := Option.some.inj e; omega), EF.kept hgr.size (fun hlt => hgr.block g hlt (by intro e; have := Option.some.inj e; omega)), EB.grown hgr EB.size (fun k hk => by cases hk; omega)⟩)
      have HOD := hide oD
      have HSD := hide sD
      have LA := hide lA
      have LB := hide lB
      have LC := hide lC
      have HCC := hide HC
      clear lA lB lC HC oD sD nD D1 D2 D3 DF DB hcell
      generalize (mc K (bareK K F (k + 1))).toArray = D at *
      generalize (mc K (bareK K F k)).toArray = A at *
      generalize (mc K F).toArray = B at *
      refine wp_region_any (by kernel_rfl) ?_
      show wpAny _ _ _ _ _ _ _ wr.drew
      rw [hwd]
      refine an_take (i := 2) (some 20) rfl rfl (by kernel_rfl) (by kernel_rfl) (by kernel_rfl) rfl (fun W => ex_move rfl) (fun _ _ _ h => h) ?_
      simp only [Act.put, List.setIfInBounds_toArray, List.set_cons_zero, List.set_cons_succ]
      refine an_take (i := 3) (some 21) rfl rfl (by kernel_rfl) (by kernel_rfl) (by kernel_rfl) rfl (fun W => ex_move rfl) (fun _ _ _ h => h) ?_
      simp only [Act.put, List.setIfInBounds_toArray, List.set_cons_zero, List.set_cons_succ]
      refine an_take (i := 4) (some 22) rfl rfl (by kernel_rfl) (by kernel_rfl) (by kernel_rfl) rfl (fun W => ex_index44 (k := k) rfl rfl rfl hlt) (fun _ _ _ h => h) ?_
      simp only [Act.put, List.setIfInBounds_toArray, List.set_cons_zero, List.set_cons_succ]
      refine an_three (i := 0) (j := 1) (k := 5) ⟨⟨_, rfl, rfl, rfl⟩, LA.out⟩ ⟨⟨_, rfl, rfl, rfl⟩, LB.out⟩ ⟨⟨_, rfl, rfl, rfl⟩, LC.out⟩ (by kernel_rfl) (by kernel_rfl) (by kernel_rfl) (by kernel_rfl) (by kernel_rfl) (by kernel_rfl) (by kernel_rfl) rfl rfl rfl (by decide) (by decide) (by decide) (fun o ho => by cases ho; rfl) (fun o ho => by cases ho; rfl) (fun o ho => by cases ho; rfl) ?_
      simp only [Act.put, List.setIfInBounds_toArray, List.set_cons_zero, List.set_cons_succ]
      refine an_call (i := 6) (some 24) rfl rfl (by kernel_rfl) rfl HCC.out (ex_call (f := 31) (vs := [.agg A, .agg B, .int .u64 (2 * (i : Int) + 1)]) rfl (cfCopied _) rfl) ?_
      rintro e w3 ⟨rfl, hb⟩
      refine ⟨_, rfl, ?_⟩
      simp only [Act.put, List.setIfInBounds_toArray, List.set_cons_zero, List.set_cons_succ]
      obtain ⟨T3, G3, G1, G2, GF, GB⟩ := HG.out w3 hb.out
      refine an_store (i := 7) (ty := 25) (x := .tmp 3) (y := .tmp 24) (b := w.heap.size + 1 + 1) (p := 0) (cells := D) rfl rfl (by kernel_rfl) rfl rfl rfl rfl T3 HSD.out HOD.out ?_
      refine wpAny_done (by kernel_rfl) ?_ _
      clear hwd HG HOD HSD LA LB LC HCC T3
      have J1 := hide G1
      have J2 := hide G2
      have J3 := hide G3
      have JF := hide GF
      have JB := hide GB
      clear G1 G2 G3 GF GB H1 H2 H3 HF HB hb
      generalize w3.setCells (w.heap.size + 1 + 1) 0 D.toList = w4 at *
      go_wp2
      go_roundw
      case rel => exact ⟨k + 1, by omega, by go_num, J3, J1, J2, JF, JB⟩
      case measure => simp [intOf]; omega
    · have ek : k = n := by omega
      subst ek
      have eb : bareK K F k = bareF K F := by unfold bareF; rw [HNL.out]
      rw [eb] at H3
      have hfit : Fits (bareF K F) := H3.out.fits
      have HR := hide H3.out.range
      have HLU := hide (infoLen K hfit)
      have HSU := hide (infoSize K hfit)
      have HOU := hide (oneMsg K (bareF K F))
      have HT := hide (show wr.there (w.heap.size + 1) 0 (mc K (bareF K F)).toArray.size by rw [sizeMsg K hfit]; exact H2.out.there)
      have HT' := hide (show wr.there (w.heap.size + 1) 0 (mc K (bareF K F)).length by rw [mc_len K hfit]; exact H2.out.there)
      have HP := hide (fun (tm : Array Value) (W2 : World) (h1 : tm.getD 2 undef = .pointer (some ⟨w.heap.size + 1, 0, none⟩)) (h3 : W2.rangeAt (w.heap.size + 1) 0 (mc K (bareF K F))) => ret_msg Try.results16 tm W2 (w.heap.size + 1) K hfit h1 h3)
      have hkk : ¬ (k : Int) < (k : Int) := by omega
      clear H1 H2 H3 HF HF2 HW2 HM1 HM2 HM3 HV HNL eb hlt hz
      generalize hCU : mc K (bareF K F) = C at *
      have HCU := hide hCU
      clear hCU
      repeat (first | refine wpList_load_mid rfl 25 (.tmp 3) rfl (w.heap.size + 2) 0 rfl C _ HR.out Try.underlying25 rfl HLU.out ?_ | refine wpList_store_mid rfl 25 (.tmp 2) (.tmp 25) rfl (w.heap.size + 1) 0 _ rfl rfl HT.out HSU.out HOU.out ?_ | go_step)
      refine bodyPost_ret (HP.out _ _ rfl (World.rangeAt_setCells_same _ _ _ _ HT'.out)) rfl ⟨by rw [HCU.out], ?_⟩
      exact HB.out.grown (grown_setCells _ _ _ _) HB.out.size (fun k hk => by cases hk; omega)
end Go.Proofs.Ytcbadmkgbaffpaa

/- What the document's May asks, as plain numbers; and laws for its chain of comparisons. -/
namespace Go.Proofs.Ytcbadmkgbaffpaa
open Go.RowKit
set_option linter.unusedVariables false

theorem zero_same {f : Fld} {i : Nat} (h : f.fits i) : decide (f.plain = (ZF i).plain) = zeroB f := by
  rcases form_cases i with hf | hf | hf
  · obtain ⟨n, rfl⟩ := fits_num h hf
    by_cases e : n = 0 <;> simp [ZF, hf, Fld.plain, zeroB, e]
  · obtain ⟨l, rfl, _⟩ := fits_arr h hf
    by_cases e : l = Z32 <;> simp [ZF, hf, Fld.plain, zeroB, e]
  · obtain ⟨a, c, l, rfl⟩ := fits_lst h hf
    cases l <;> simp [ZF, hf, Fld.plain, zeroB] <;> omega
theorem bareF_in {K : Int} {F : Nat → Fld} {i : Nat} (h : i ∈ fl K) : bareF K F i = F i := by simp [bareF, bareK, h]
theorem bareF_out {K : Int} {F : Nat → Fld} {i : Nat} (h : i ∉ fl K) : bareF K F i = ZF i := by simp [bareF, bareK, h]
theorem same_bare {K : Int} {F : Nat → Fld} (hF : Fits F) : sameB K K F (bareF K F) = true ↔ ∀ i, i < 12 → i ∉ fl K → zeroB (F i) = true := by
  unfold sameB
  simp only [beq_self_eq_true, Bool.true_and, List.all_eq_true, List.mem_range]
  constructor
  · intro h i hi hn
    have := h i hi
    rw [bareF_out hn, zero_same (hF i hi)] at this
    exact this
  · intro h i hi
    by_cases hm : i ∈ fl K
    · rw [bareF_in hm]; simp
    · rw [bareF_out hm, zero_same (hF i hi)]; exact h i hi hm
theorem mayB_iff {K : Int} {F : Nat → Fld} : mayB K F = true ↔ fl K ≠ [] ∧ ∀ i, i < 12 → okB K F i = true := by
  unfold mayB
  rw [Bool.and_eq_true, allB_true]
  simp
theorem fl_zero {K : Int} (h : fl K ≠ []) : 0 ∈ fl K := by
  unfold fl at *
  repeat' split at h
  all_goals first | exact absurd rfl h | simp [*]
theorem fl_five {K : Int} : 5 ∈ fl K ↔ K = 1 := by
  unfold fl
  repeat' split
  all_goals simp_all
/-- is a number of a message too great or too small, or its reason too long? -/
def badB (x0 x1 x2 x3 x9 x10 n : Int) : Bool :=
  (((((((((((decide (x0 < 1) || decide (x0 > 65535)) || decide (x1 < 0)) || decide (x1 > 2147483647)) || decide (x2 < 0)) || decide (x3 < 0)) || decide (x3 > 2147483647)) || decide (x9 < 0)) || decide (x9 > 2147483647)) || decide (x10 < 0)) || decide (x10 > 2147483647)) || decide (n > 256))
theorem rmay_math {K : Int} {F : Nat → Fld} (hF : Fits F) (hf : fl K ≠ []) {x0 x1 x2 x3 x9 x10 : Int} {a5 a11 : Option Addr} {c5 c11 : Nat} {l5 l11 : List Int} (hA : x2 ≤ 9223372036854775807)
    (h0 : F 0 = .num x0) (h1 : F 1 = .num x1) (h2 : F 2 = .num x2) (h3 : F 3 = .num x3) (h9 : F 9 = .num x9) (h10 : F 10 = .num x10) (h5 : F 5 = .lst a5 c5 l5) (h11 : F 11 = .lst a11 c11 l11) :
    mayB K F = (sameB K K F (bareF K F) && (!badB x0 x1 x2 x3 x9 x10 l11.length && ((K != 1) || ((l5.length : Int) == 2112)))) := by
  rw [Bool.eq_iff_iff, mayB_iff, Bool.and_eq_true, Bool.and_eq_true, same_bare hF]
  have hb : (!badB x0 x1 x2 x3 x9 x10 l11.length) = true ↔ (1 ≤ x0 ∧ x0 ≤ 65535 ∧ 0 ≤ x1 ∧ x1 ≤ 2147483647 ∧ 0 ≤ x2 ∧ 0 ≤ x3 ∧ x3 ≤ 2147483647 ∧ 0 ≤ x9 ∧ x9 ≤ 2147483647 ∧ 0 ≤ x10 ∧ x10 ≤ 2147483647 ∧ (l11.length : Int) ≤ 256) := by
    unfold badB
    simp only [Bool.not_eq_true', Bool.or_eq_false_iff, decide_eq_false_iff_not, Int.not_lt, gt_iff_lt]
    omega
  have h5' : ((K != 1) || ((l5.length : Int) == 2112)) = true ↔ (K = 1 → (l5.length : Int) = 2112) := by
    simp only [Bool.or_eq_true, bne_iff_ne, beq_iff_eq]
    omega
  rw [hb, h5']
  have ok : ∀ i, okB K F i = if i ∈ fl K then withinB i (F i) else zeroB (F i) := fun i => rfl
  constructor
  · rintro ⟨_, h⟩
    have g : ∀ i, i < 12 → i ∈ fl K → withinB i (F i) = true := fun i hi hm => by have := h i hi; rw [ok, if_pos hm] at this; exact this
    have z : ∀ i, i < 12 → i ∉ fl K → zeroB (F i) = true := fun i hi hm => by have := h i hi; rw [ok, if_neg hm] at this; exact this
    have num : ∀ i x, i < 12 → F i = .num x → (i ∈ fl K ∧ lo i ≤ x ∧ x ≤ hi i) ∨ (i ∉ fl K ∧ x = 0) := fun i x hi hx => by
      by_cases hm : i ∈ fl K
      · have := g i hi hm; rw [hx] at this; exact .inl ⟨hm, of_decide_eq_true this⟩
      · have := z i hi hm; rw [hx] at this; exact .inr ⟨hm, by simpa [zeroB] using this⟩
    have lst : ∀ i a c l, i < 12 → F i = .lst a c l → (i ∈ fl K ∧ lo i ≤ (l.length : Int) ∧ (l.length : Int) ≤ hi i) ∨ (i ∉ fl K ∧ (l.length : Int) = 0) := fun i a c l hi hx => by
      by_cases hm : i ∈ fl K
      · have := g i hi hm; rw [hx] at this; exact .inl ⟨hm, of_decide_eq_true this⟩
      · have := z i hi hm; rw [hx] at this; exact .inr ⟨hm, by simpa [zeroB] using this⟩
    have n0 := num 0 x0 (by omega) h0
    have n1 := num 1 x1 (by omega) h1
    have n2 := num 2 x2 (by omega) h2
    have n3 := num 3 x3 (by omega) h3
    have n9 := num 9 x9 (by omega) h9
    have n10 := num 10 x10 (by omega) h10
    have m5 := lst 5 _ _ _ (by omega) h5
    have m11 := lst 11 _ _ _ (by omega) h11
    have f0 := fl_zero hf
    simp only [lo, hi] at n0 n1 n2 n3 n9 n10 m5 m11
    have n0' : 1 ≤ x0 ∧ x0 ≤ 65535 := by
      rcases n0 with ⟨_, h⟩ | ⟨h, _⟩
      · exact h
      · exact absurd f0 h
    refine ⟨z, by omega, fun e => ?_⟩
    rcases m5 with ⟨_, h⟩ | ⟨h, _⟩
    · omega
    · exact absurd (fl_five.2 e) h
  · rintro ⟨z, r, q⟩
    refine ⟨hf, fun i h12 => ?_⟩
    rw [ok]
    split
    · rename_i hm
      match i, h12 with
      | 0, _ => rw [h0]; exact decide_eq_true (by simp only [lo, hi]; omega)
      | 1, _ => rw [h1]; exact decide_eq_true (by simp only [lo, hi]; omega)
      | 2, _ => rw [h2]; exact decide_eq_true (by simp only [lo, hi]; omega)
      | 3, _ => rw [h3]; exact decide_eq_true (by simp only [lo, hi]; omega)
      | 4, _ => obtain ⟨l, e, _⟩ := fits_arr (hF 4 (by omega)) rfl; rw [e]; rfl
      | 5, _ => rw [h5]; exact decide_eq_true (by have := q (fl_five.1 hm); simp only [lo, hi]; omega)
      | 6, _ => obtain ⟨l, e, _⟩ := fits_arr (hF 6 (by omega)) rfl; rw [e]; rfl
      | 7, _ => obtain ⟨l, e, _⟩ := fits_arr (hF 7 (by omega)) rfl; rw [e]; rfl
      | 8, _ => obtain ⟨l, e, _⟩ := fits_arr (hF 8 (by omega)) rfl; rw [e]; rfl
      | 9, _ => rw [h9]; exact decide_eq_true (by simp only [lo, hi]; omega)
      | 10, _ => rw [h10]; exact decide_eq_true (by simp only [lo, hi]; omega)
      | 11, _ => rw [h11]; exact decide_eq_true (by simp only [lo, hi]; omega)
    · rename_i hm
      exact z i h12 hm

/-- what is known of the frame: the message, and what the chain has come to -/
structure Kr (a : Act) (n m b : Nat) (r : Bool) : Prop where
  size : a.tmps.size = n
  one : a.tmps[1]? = some (.pointer (some ⟨b, 0, none⟩))
  last : a.tmps[m]? = some (.bool r)
  defers : a.defers = []
theorem Kr.put {a : Act} {n m b d : Nat} {r : Bool} (h : Kr a n m b r) (v : Value) (h4 : 1 < d) (hm : m ≠ d) : Kr (a.put (some d) v) n m b r :=
  ⟨put_size.trans h.size, (put_at (by omega)).trans h.one, (put_at hm).trans h.last, h.defers⟩
theorem Kr.to {a : Act} {n m b d : Nat} {r r' : Bool} (h : Kr a n m b r) (h4 : 1 < d) (hd : d < n) : Kr (a.put (some d) (.bool r')) n d b r' :=
  ⟨put_size.trans h.size, (put_at (by omega)).trans h.one, put_same (by rw [h.size]; exact hd), h.defers⟩
section
variable {ops : Array Oper} {rest : List Oper} {op : Oper} {a : Act} {W : World} {Q : Exit → Act → World → Prop}
theorem wanted_not {gi m : Nat} {r : Bool} (hg : op.guard = some (gi, false)) (hd : (ops[gi]?).bind (·.dst) = some m) (hm : a.tmps[m]? = some (.bool r)) : Region.wanted op (yielded ops a.tmps) = !r := by
  have hy : yielded ops a.tmps gi = some r := by
    unfold yielded
    rw [hd]
    show (match a.tmps[m]? with | some (.bool b) => some b | _ => none) = some r
    rw [hm]
  unfold Region.wanted
  rw [hg]
  show (yielded ops a.tmps gi == some false) = !r
  rw [hy]
  cases r <;> rfl
theorem ex_bin {x y : Operand} {bop : BinOp} {t t2 : Nat} (ho : op.op = .binOp bop t x y t2) {u v : Value} {c : Value} (hx : a.eval x = u) (hy : a.eval y = v) (hq : (eqGuard bop t x y u v).run Try.prog W = .ok () W) (hl : (binOp bop t u v).run Try.prog W = .ok c W) : (execOp a.eval op).run Try.prog W = .ok (.value c) W := by
  unfold execOp
  simp only [ho, hx, hy, Sem.run_bind, Sem.run_pure, hq, hl, Result.andThen_ok]
theorem ex_pickOr {x y : Operand} (ho : op.op = .pick x (.const (.bool true)) y) {r : Bool} (hx : a.eval x = .bool r) : (execOp a.eval op).run Try.prog W = .ok (.value (if r = true then .bool true else a.eval y)) W := by
  unfold execOp
  simp only [ho, hx, Sem.run_bind, Sem.run_pure]
  cases r <;> rfl
theorem ex_len {k : Nat} (ho : op.op = .call { callee := .builtin .len, args := #[.tmp k], argTypes := #[23] }) {b : Option Addr} {n c : Nat} (hx : a.tmps[k]? = some (.slice b n c)) : (execOp a.eval op).run Try.prog W = .ok (.value (.int .i64 n)) W := by
  unfold execOp
  simp only [ho]
  go_simp
theorem ex_len44 {k : Nat} (ho : op.op = .call { callee := .builtin .len, args := #[.tmp k], argTypes := #[44] }) {b : Option Addr} {n c : Nat} (hx : a.tmps[k]? = some (.slice b n c)) : (execOp a.eval op).run Try.prog W = .ok (.value (.int .i64 n)) W := by
  unfold execOp
  simp only [ho]
  go_simp
theorem ex_not {x : Operand} (ho : op.op = .unOp .not 4 x) {r : Bool} (hx : a.eval x = .bool r) : (execOp a.eval op).run Try.prog W = .ok (.value (.bool (!r))) W := by
  unfold execOp
  simp only [ho, hx]
  cases r <;> rfl
end
theorem lss3 (x y : Int) (W : World) : (binOp .lss 3 (.int .i64 x) (.int .i64 y)).run Try.prog W = .ok (.bool (decide (x < y))) W := by go_simp
theorem gtr3 (x y : Int) (W : World) : (binOp .gtr 3 (.int .i64 x) (.int .i64 y)).run Try.prog W = .ok (.bool (decide (x > y))) W := by go_simp
theorem neq3 (x y : Int) (W : World) : (binOp .neq 3 (.int .i64 x) (.int .i64 y)).run Try.prog W = .ok (.bool (x != y)) W := by go_simp
theorem eg3' (bop : BinOp) (x y : Operand) (u v : Int) (W : World) : (eqGuard bop 3 x y (.int .i64 u) (.int .i64 v)).run Try.prog W = .ok () W := by cases bop <;> rfl

/-- a comparison of a field behind a guard: if it is not true already -/
theorem blockOr {ops : Array Oper} {rest : List Oper} {a : Act} {W : World} {Q : Exit → Act → World → Prop} {o1 o2 o3 o4 o5 : Oper} {n m gi s i b o : Nat} {bop : BinOp} {r c : Bool} {x k : Int} (h : Kr a n m b r) (hd : (ops[gi]?).bind (·.dst) = some m) (h4 : 1 < s) (hn : s + 4 < n) (hm : m < s)
    (p1 : o1.op = .fieldAddr 25 (.tmp 1) i ∧ o1.dst = some s ∧ o1.guard = some (gi, false)) (p2 : o2.op = .load 3 (.tmp s) ∧ o2.dst = some (s + 1) ∧ o2.guard = some (gi, false))
    (p3 : o3.op = .binOp bop 3 (.tmp (s + 1)) (.const (.int .i64 k)) 3 ∧ o3.dst = some (s + 2) ∧ o3.guard = some (gi, false)) (p4 : o4.op = .pick (.tmp m) (.const (.bool true)) (.tmp (s + 2)) ∧ o4.dst = some (s + 3) ∧ o4.guard = none) (p5 : o5.op = .move (.tmp (s + 3)) ∧ o5.dst = some (s + 4) ∧ o5.guard = none)
    (hf : (Instr.fieldAt 25 (.pointer (some ⟨b, 0, none⟩)) i).run Try.prog W = .ok (.pointer (some ⟨b, o, none⟩)) W) (l1 : (Instr.loadAt 3 (.pointer (some ⟨b, o, none⟩))).run Try.prog W = .ok (.int .i64 x) W)
    (he : (binOp bop 3 (.int .i64 x) (.int .i64 k)).run Try.prog W = .ok (.bool c) W)
    (hk : ∀ a', Kr a' n (s + 4) b (r || c) → wpList Try.prog ops Q rest a' W) : wpList Try.prog ops Q (o1 :: o2 :: o3 :: o4 :: o5 :: rest) a W := by
  have fin : ∀ {a5 : Act} (y : Value), Kr a5 n m b r → a5.tmps[s + 2]? = some y → (r = false → y = .bool c) → wpList Try.prog ops Q (o4 :: o5 :: rest) a5 W := fun {a5} y h5 hx hr => by
    have e6 := ex_pickOr (W := W) p4.1 (eval_tmp h5.last)
    have ev : (if r = true then .bool true else a5.eval (.tmp (s + 2))) = Value.bool (r || c) := by
      cases r with
      | true => rfl
      | false => show a5.eval (.tmp (s + 2)) = _; rw [eval_tmp hx, hr rfl]; rfl
    rw [ev] at e6
    refine st_any (wanted_none p4.2.2) e6 ?_
    rw [p4.2.1]
    have h6 := h5.put (d := s + 3) (.bool (r || c)) (by omega) (by omega)
    have e7 := ex_move (a := a5.put (some (s + 3)) (.bool (r || c))) (W := W) p5.1
    rw [eval_tmp (put_same (by rw [h5.size]; omega))] at e7
    refine st_any (wanted_none p5.2.2) e7 ?_
    rw [p5.2.1]
    exact hk _ (h6.to (by omega) (by omega))
  cases r with
  | false =>
    refine st_any (wanted_not p1.2.2 hd h.last) (ex_fld p1.1 (eval_tmp h.one) hf) ?_
    rw [p1.2.1]
    have h1 := h.put (d := s) (.pointer (some ⟨b, o, none⟩)) h4 (by omega)
    have q1 := put_same (a := a) (d := s) (v := .pointer (some ⟨b, o, none⟩)) (by rw [h.size]; omega)
    generalize a.put (some s) (.pointer (some ⟨b, o, none⟩)) = a1 at *
    refine st_any (wanted_not p2.2.2 hd h1.last) (ex_load p2.1 (eval_tmp q1) l1) ?_
    rw [p2.2.1]
    have h2 := h1.put (d := s + 1) (.int .i64 x) (by omega) (by omega)
    have q2 := put_same (a := a1) (d := s + 1) (v := .int .i64 x) (by rw [h1.size]; omega)
    generalize a1.put (some (s + 1)) (.int .i64 x) = a2 at *
    refine st_any (wanted_not p3.2.2 hd h2.last) (ex_bin p3.1 (eval_tmp q2) rfl (eg3' _ _ _ _ _ _) he) ?_
    rw [p3.2.1]
    exact fin (.bool c) (h2.put (d := s + 2) (.bool c) (by omega) (by omega)) (put_same (by rw [h2.size]; omega)) (fun _ => rfl)
  | true =>
    refine wpList_skip (wanted_not p1.2.2 hd h.last) ?_
    rw [p1.2.1]
    have h1 := h.put (d := s) undef h4 (by omega)
    refine wpList_skip (wanted_not p2.2.2 hd h1.last) ?_
    rw [p2.2.1]
    have h2 := h1.put (d := s + 1) undef (by omega) (by omega)
    refine wpList_skip (wanted_not p3.2.2 hd h2.last) ?_
    rw [p3.2.1]
    exact fin undef (h2.put (d := s + 2) undef (by omega) (by omega)) (put_same (by rw [h2.size]; omega)) (fun e => by cases e)
/-- a list's length against a number, behind a guard -/
theorem blockLen {ops : Array Oper} {rest : List Oper} {a : Act} {W : World} {Q : Exit → Act → World → Prop} {o1 o2 o2' o3 o4 : Oper} {n m gi s i b o : Nat} {bop : BinOp} {r c : Bool} {ao : Option Addr} {ln cp : Nat} {k : Int} (h : Kr a n m b r) (hd : (ops[gi]?).bind (·.dst) = some m) (h4 : 1 < s) (hn : s + 4 < n) (hm : m < s)
    (p1 : o1.op = .fieldAddr 25 (.tmp 1) i ∧ o1.dst = some s ∧ o1.guard = some (gi, false)) (p2 : o2.op = .load 23 (.tmp s) ∧ o2.dst = some (s + 1) ∧ o2.guard = some (gi, false)) (p2' : o2'.op = .call { callee := .builtin .len, args := #[.tmp (s + 1)], argTypes := #[23] } ∧ o2'.dst = some (s + 2) ∧ o2'.guard = some (gi, false))
    (p3 : o3.op = .binOp bop 3 (.tmp (s + 2)) (.const (.int .i64 k)) 3 ∧ o3.dst = some (s + 3) ∧ o3.guard = some (gi, false)) (p4 : o4.op = .pick (.tmp m) (.const (.bool true)) (.tmp (s + 3)) ∧ o4.dst = some (s + 4) ∧ o4.guard = none)
    (hf : (Instr.fieldAt 25 (.pointer (some ⟨b, 0, none⟩)) i).run Try.prog W = .ok (.pointer (some ⟨b, o, none⟩)) W) (l1 : (Instr.loadAt 23 (.pointer (some ⟨b, o, none⟩))).run Try.prog W = .ok (.slice ao ln cp) W)
    (he : (binOp bop 3 (.int .i64 ln) (.int .i64 k)).run Try.prog W = .ok (.bool c) W)
    (hk : ∀ a', Kr a' n (s + 4) b (r || c) → wpList Try.prog ops Q rest a' W) : wpList Try.prog ops Q (o1 :: o2 :: o2' :: o3 :: o4 :: rest) a W := by
  have fin : ∀ {a5 : Act} (y : Value), Kr a5 n m b r → a5.tmps[s + 3]? = some y → (r = false → y = .bool c) → wpList Try.prog ops Q (o4 :: rest) a5 W := fun {a5} y h5 hx hr => by
    have e6 := ex_pickOr (W := W) p4.1 (eval_tmp h5.last)
    have ev : (if r = true then .bool true else a5.eval (.tmp (s + 3))) = Value.bool (r || c) := by
      cases r with
      | true => rfl
      | false => show a5.eval (.tmp (s + 3)) = _; rw [eval_tmp hx, hr rfl]; rfl
    rw [ev] at e6
    refine st_any (wanted_none p4.2.2) e6 ?_
    rw [p4.2.1]
    exact hk _ (h5.to (by omega) (by omega))
  cases r with
  | false =>
    refine st_any (wanted_not p1.2.2 hd h.last) (ex_fld p1.1 (eval_tmp h.one) hf) ?_
    rw [p1.2.1]
    have h1 := h.put (d := s) (.pointer (some ⟨b, o, none⟩)) h4 (by omega)
    have q1 := put_same (a := a) (d := s) (v := .pointer (some ⟨b, o, none⟩)) (by rw [h.size]; omega)
    generalize a.put (some s) (.pointer (some ⟨b, o, none⟩)) = a1 at *
    refine st_any (wanted_not p2.2.2 hd h1.last) (ex_load p2.1 (eval_tmp q1) l1) ?_
    rw [p2.2.1]
    have h2 := h1.put (d := s + 1) (.slice ao ln cp) (by omega) (by omega)
    have q2 := put_same (a := a1) (d := s + 1) (v := .slice ao ln cp) (by rw [h1.size]; omega)
    generalize a1.put (some (s + 1)) (.slice ao ln cp) = a2 at *
    refine st_any (wanted_not p2'.2.2 hd h2.last) (ex_len p2'.1 q2) ?_
    rw [p2'.2.1]
    have h3 := h2.put (d := s + 2) (.int .i64 ln) (by omega) (by omega)
    have q3 := put_same (a := a2) (d := s + 2) (v := .int .i64 ln) (by rw [h2.size]; omega)
    generalize a2.put (some (s + 2)) (.int .i64 ln) = a3 at *
    refine st_any (wanted_not p3.2.2 hd h3.last) (ex_bin p3.1 (eval_tmp q3) rfl (eg3' _ _ _ _ _ _) he) ?_
    rw [p3.2.1]
    exact fin (.bool c) (h3.put (d := s + 3) (.bool c) (by omega) (by omega)) (put_same (by rw [h3.size]; omega)) (fun _ => rfl)
  | true =>
    refine wpList_skip (wanted_not p1.2.2 hd h.last) ?_
    rw [p1.2.1]
    have h1 := h.put (d := s) undef h4 (by omega)
    refine wpList_skip (wanted_not p2.2.2 hd h1.last) ?_
    rw [p2.2.1]
    have h2 := h1.put (d := s + 1) undef (by omega) (by omega)
    refine wpList_skip (wanted_not p2'.2.2 hd h2.last) ?_
    rw [p2'.2.1]
    have h3 := h2.put (d := s + 2) undef (by omega) (by omega)
    refine wpList_skip (wanted_not p3.2.2 hd h3.last) ?_
    rw [p3.2.1]
    exact fin undef (h3.put (d := s + 3) undef (by omega) (by omega)) (put_same (by rw [h3.size]; omega)) (fun e => by cases e)
theorem kr_start {ops : Array Oper} {rest : List Oper} {a : Act} {W : World} {Q : Exit → Act → World → Prop} {n m b : Nat} {r : Bool} (h : Kr a n m b r) (hk : ∀ a', Kr a' n m b r → wpList Try.prog ops Q rest a' W) : wpList Try.prog ops Q rest a W := hk _ h
end Go.Proofs.Ytcbadmkgbaffpaa

/- The contract of the document's May over this seat's translation. -/
namespace Go.Proofs.Ytcbadmkgbaffpaa
open Go.RowKit
set_option linter.unusedVariables false

theorem Good.bare {w : World} {K : Int} {F : Nat → Fld} (h : Good w F) : Good w (bareF K F) := fun i hi => by
  by_cases hm : i ∈ fl K
  · rw [bareF_in hm]; exact h i hi
  · rw [bareF_out hm]; exact GoodF.zero w i

/-- the first comparison of a chain -/
theorem blockFirst {ops : Array Oper} {rest : List Oper} {a : Act} {W : World} {Q : Exit → Act → World → Prop} {o1 o2 o3 o5 : Oper} {n m s i b o : Nat} {bop : BinOp} {r c : Bool} {x k : Int} (h : Kr a n m b r) (h4 : 1 < s) (hn : s + 3 < n) (hm : m < s)
    (p1 : o1.op = .fieldAddr 25 (.tmp 1) i ∧ o1.dst = some s ∧ o1.guard = none) (p2 : o2.op = .load 3 (.tmp s) ∧ o2.dst = some (s + 1) ∧ o2.guard = none)
    (p3 : o3.op = .binOp bop 3 (.tmp (s + 1)) (.const (.int .i64 k)) 3 ∧ o3.dst = some (s + 2) ∧ o3.guard = none) (p5 : o5.op = .move (.tmp (s + 2)) ∧ o5.dst = some (s + 3) ∧ o5.guard = none)
    (hf : (Instr.fieldAt 25 (.pointer (some ⟨b, 0, none⟩)) i).run Try.prog W = .ok (.pointer (some ⟨b, o, none⟩)) W) (l1 : (Instr.loadAt 3 (.pointer (some ⟨b, o, none⟩))).run Try.prog W = .ok (.int .i64 x) W)
    (he : (binOp bop 3 (.int .i64 x) (.int .i64 k)).run Try.prog W = .ok (.bool c) W)
    (hk : ∀ a', Kr a' n (s + 3) b c → wpList Try.prog ops Q rest a' W) : wpList Try.prog ops Q (o1 :: o2 :: o3 :: o5 :: rest) a W := by
  refine st_any (wanted_none p1.2.2) (ex_fld p1.1 (eval_tmp h.one) hf) ?_
  rw [p1.2.1]
  have h1 := h.put (d := s) (.pointer (some ⟨b, o, none⟩)) h4 (by omega)
  have q1 := put_same (a := a) (d := s) (v := .pointer (some ⟨b, o, none⟩)) (by rw [h.size]; omega)
  generalize a.put (some s) (.pointer (some ⟨b, o, none⟩)) = a1 at *
  refine st_any (wanted_none p2.2.2) (ex_load p2.1 (eval_tmp q1) l1) ?_
  rw [p2.2.1]
  have h2 := h1.put (d := s + 1) (.int .i64 x) (by omega) (by omega)
  have q2 := put_same (a := a1) (d := s + 1) (v := .int .i64 x) (by rw [h1.size]; omega)
  generalize a1.put (some (s + 1)) (.int .i64 x) = a2 at *
  refine st_any (wanted_none p3.2.2) (ex_bin p3.1 (eval_tmp q2) rfl (eg3' _ _ _ _ _ _) he) ?_
  rw [p3.2.1]
  have h3 := h2.put (d := s + 2) (.bool c) (by omega) (by omega)
  have q3 := put_same (a := a2) (d := s + 2) (v := .bool c) (by rw [h2.size]; omega)
  generalize a2.put (some (s + 2)) (.bool c) = a3 at *
  refine st_any (wanted_none p5.2.2) (ex_mv p5.1 (eval_tmp q3)) ?_
  rw [p5.2.1]
  exact hk _ (h3.to (by omega) (by omega))

set_option maxHeartbeats 4000000 in
theorem rmay_any (K : Int) (F : Nat → Fld) (hF : Fits F) (w : World) (hG : Good w F) (hA : ∀ n, F 2 = .num n → n ≤ 9223372036854775807) :
    Calls Try.prog 13 #[.agg (mc K F).toArray] w fun e w' => e = .returned (.bool (mayB K F)) ∧ Hid (Below w.heap.size w w') := by
  obtain ⟨W, hW⟩ : ∃ W, w.alloc (.cells (mc K F).toArray 25) = W := ⟨_, rfl⟩
  have M1 : MsgAt W w.heap.size K F := by rw [← hW]; exact MsgAt.new w K hF
  have HB := hide (show Below w.heap.size w W by rw [← hW]; exact (Below.refl _ _).alloc (Nat.le_refl _) _)
  have HG := hide (hG.below HB.out)
  have HM1 := hide M1
  clear M1
  obtain ⟨x0, h0⟩ := fits_num (hF 0 (by omega)) rfl
  obtain ⟨x1, h1⟩ := fits_num (hF 1 (by omega)) rfl
  obtain ⟨x2, h2⟩ := fits_num (hF 2 (by omega)) rfl
  obtain ⟨x3, h3⟩ := fits_num (hF 3 (by omega)) rfl
  obtain ⟨x9, h9⟩ := fits_num (hF 9 (by omega)) rfl
  obtain ⟨x10, h10⟩ := fits_num (hF 10 (by omega)) rfl
  obtain ⟨a5, c5, l5, h5⟩ := fits_lst (hF 5 (by omega)) rfl
  obtain ⟨a11, c11, l11, h11⟩ := fits_lst (hF 11 (by omega)) rfl
  have HMM := hide (fun (hf : fl K ≠ []) => rmay_math hF hf (hA x2 h2) h0 h1 h2 h3 h9 h10 h5 h11)
  have HFL := hide (fun (W : World) (M : MsgAt W w.heap.size K F) => show (W.cell? ⟨w.heap.size, 1, none⟩ = some (.int .i64 x0) ∧ W.cell? ⟨w.heap.size, 2, none⟩ = some (.int .i64 x1) ∧ W.cell? ⟨w.heap.size, 3, none⟩ = some (.int .i64 x2) ∧ W.cell? ⟨w.heap.size, 4, none⟩ = some (.int .i64 x3)
      ∧ W.cell? ⟨w.heap.size, 134, none⟩ = some (.int .i64 x9) ∧ W.cell? ⟨w.heap.size, 135, none⟩ = some (.int .i64 x10) ∧ W.cell? ⟨w.heap.size, 37, none⟩ = some (.slice a5 l5.length c5) ∧ W.cell? ⟨w.heap.size, 136, none⟩ = some (.slice a11 l11.length c11)) from
    ⟨M.num (i := 0) (by omega) h0, M.num (i := 1) (by omega) h1, M.num (i := 2) (by omega) h2, M.num (i := 3) (by omega) h3, M.num (i := 9) (by omega) h9, M.num (i := 10) (by omega) h10, M.lst (i := 5) (by omega) h5, M.lst (i := 11) (by omega) h11⟩)
  clear h0 h1 h2 h3 h9 h10 h5 h11 hA
  obtain ⟨C1, hC1⟩ : ∃ C1, (mc K F).toArray = C1 := ⟨_, rfl⟩
  have HC1 := hide hC1
  rw [hC1] at hW ⊢
  clear hC1
  go_enter Try.func13, Try.ntmps13
  iterate 14 go_step
  obtain ⟨wd, hwd⟩ : ∃ wd, W.drew = wd := ⟨_, rfl⟩
  have D1 : MsgAt wd w.heap.size K F := by rw [← hwd]; exact HM1.out.drew
  have DB : Below w.heap.size w wd := by rw [← hwd]; exact below_drew HB.out
  refine wp_region_held (S := fun W => Below wd.heap.size wd W) (by kernel_rfl) ?_
  show wpAnyH _ _ _ _ _ _ _ _ W.drew
  rw [hwd]
  have S0 : Below wd.heap.size wd wd := Below.refl _ _
  refine ah_take (i := 0) (some 3) rfl rfl (by kernel_rfl) (by kernel_rfl) (by kernel_rfl) rfl (fun W _ => ex_fld rfl rfl (fa0 _ W)) S0 (fun _ _ _ h => h) ?_
  simp only [Act.put, List.setIfInBounds_toArray, List.set_cons_zero, List.set_cons_succ]
  refine ah_take (i := 1) (some 4) rfl rfl (by kernel_rfl) (by kernel_rfl) (by kernel_rfl) rfl (fun W h => ex_load rfl rfl (ld3 (D1.below h).kind)) S0 (fun _ _ _ h => h) ?_
  simp only [Act.put, List.setIfInBounds_toArray, List.set_cons_zero, List.set_cons_succ]
  refine ah_call (i := 2) (some 5) rfl rfl (by kernel_rfl) rfl (rfields_ex K wd) (ex_call (f := 23) (vs := [.int .i64 K]) rfl (cfRFields _) rfl) ?_
  rintro e w2 ⟨g, a, c, rfl, hv, HF2, hg, HB2⟩
  refine ⟨_, rfl, HB2.out, ?_⟩
  simp only [Act.put, List.setIfInBounds_toArray, List.set_cons_zero, List.set_cons_succ]
  have S2 := HB2.out
  have HW2 := hide (DB.trans (HB2.out.mono DB.size))
  clear hv HF2 hg
  refine ah_take (i := 3) (some 6) rfl rfl (by kernel_rfl) (by kernel_rfl) (by kernel_rfl) rfl (fun W _ => ex_len44 rfl rfl) S2 (fun _ _ _ h => h) ?_
  simp only [Act.put, List.setIfInBounds_toArray, List.set_cons_zero, List.set_cons_succ]
  refine ah_take (i := 4) (some 7) rfl rfl (by kernel_rfl) (by kernel_rfl) (by kernel_rfl) rfl (fun W _ => ex_bin rfl rfl rfl (eg3' _ _ _ _ _ _) (eq3 _ _ _)) S2 (fun _ _ _ h => h) ?_
  simp only [Act.put, List.setIfInBounds_toArray, List.set_cons_zero, List.set_cons_succ]
  by_cases hne : fl K = []
  · have hm : mayB K F = false := by unfold mayB; simp [hne]
    refine ah_take (i := 5) (some 8) rfl rfl (by kernel_rfl) (by kernel_rfl) (by kernel_rfl) rfl (fun W _ => ex_mv (v := .bool true) rfl (by rw [hne]; rfl)) S2 (fun _ _ _ h => h) ?_
    simp only [Act.put, List.setIfInBounds_toArray, List.set_cons_zero, List.set_cons_succ]
    refine ah_skip (i := 6) (some 9) rfl rfl (by kernel_rfl) (by kernel_rfl) (by kernel_rfl) rfl S2 (fun _ _ _ h => h) ?_
    simp only [Act.put, List.setIfInBounds_toArray, List.set_cons_zero, List.set_cons_succ]
    refine ah_skip (i := 7) (some 10) rfl rfl (by kernel_rfl) (by kernel_rfl) (by kernel_rfl) rfl S2 (fun _ _ _ h => h) ?_
    simp only [Act.put, List.setIfInBounds_toArray, List.set_cons_zero, List.set_cons_succ]
    refine ah_skip (i := 8) (some 11) rfl rfl (by kernel_rfl) (by kernel_rfl) (by kernel_rfl) rfl S2 (fun _ _ _ h => h) ?_
    simp only [Act.put, List.setIfInBounds_toArray, List.set_cons_zero, List.set_cons_succ]
    refine ah_skip (i := 9) (some 12) rfl rfl (by kernel_rfl) (by kernel_rfl) (by kernel_rfl) rfl S2 (fun _ _ _ h => h) ?_
    simp only [Act.put, List.setIfInBounds_toArray, List.set_cons_zero, List.set_cons_succ]
    refine ah_skip (i := 10) (some 13) rfl rfl (by kernel_rfl) (by kernel_rfl) (by kernel_rfl) rfl S2 (fun _ _ _ h => h) ?_
    simp only [Act.put, List.setIfInBounds_toArray, List.set_cons_zero, List.set_cons_succ]
    refine ah_take (i := 11) (some 14) rfl rfl (by kernel_rfl) (by kernel_rfl) (by kernel_rfl) rfl (fun W _ => ex_pkT (v := .bool true) rfl rfl rfl) S2 (fun _ _ _ h => h) ?_
    simp only [Act.put, List.setIfInBounds_toArray, List.set_cons_zero, List.set_cons_succ]
    refine ah_done (by kernel_rfl) ?_
    go_wp2
    go_ret
    refine ⟨?_, HW2⟩
    rw [hm]
    rfl
  · have hl0 : (((fl K).length : Int) == 0) = false := by
      cases e : fl K with
      | nil => exact absurd e hne
      | cons x t => simp; omega
    have lA : ∀ W, Below wd.heap.size wd W → (Instr.loadAt 25 (.pointer (some ⟨w.heap.size, 0, none⟩))).run Try.prog W = .ok (.agg C1) W := fun W h => by rw [← HC1.out]; exact run_loadAt_mid W _ 0 25 _ _ (D1.below h).range Try.underlying25 rfl (infoLen K hF)
    have HCB := rbare_any K F hF w2
    rw [HC1.out] at HCB
    obtain ⟨C2, hC2⟩ : ∃ C2, (mc K (bareF K F)).toArray = C2 := ⟨_, rfl⟩
    have HCS := hide (fun w3 (h : Below w.heap.size w w3) => same_any K K F (bareF K F) hF (bareK_fits hF) w3 (hG.below h) (hG.below h).bare)
    rw [HC1.out, hC2] at HCS
    rw [hC2] at HCB
    refine ah_take (i := 5) (some 8) rfl rfl (by kernel_rfl) (by kernel_rfl) (by kernel_rfl) rfl (fun W _ => ex_mv (v := .bool false) rfl (by rw [← hl0]; rfl)) S2 (fun _ _ _ h => h) ?_
    simp only [Act.put, List.setIfInBounds_toArray, List.set_cons_zero, List.set_cons_succ]
    refine ah_take (i := 6) (some 9) rfl rfl (by kernel_rfl) (by kernel_rfl) (by kernel_rfl) rfl (fun W h => ex_load rfl rfl (lA W h)) S2 (fun _ _ _ h => h) ?_
    simp only [Act.put, List.setIfInBounds_toArray, List.set_cons_zero, List.set_cons_succ]
    refine ah_take (i := 7) (some 10) rfl rfl (by kernel_rfl) (by kernel_rfl) (by kernel_rfl) rfl (fun W h => ex_load rfl rfl (lA W h)) S2 (fun _ _ _ h => h) ?_
    simp only [Act.put, List.setIfInBounds_toArray, List.set_cons_zero, List.set_cons_succ]
    refine ah_call (i := 8) (some 11) rfl rfl (by kernel_rfl) rfl HCB (ex_call (f := 16) (vs := [.agg C1]) rfl (cfRBare _) rfl) ?_
    rintro e w3 ⟨rfl, HB3⟩
    have S3 := S2.trans (HB3.out.mono S2.size)
    have HW3 := HW2.out.trans (HB3.out.mono HW2.out.size)
    refine ⟨_, rfl, S3, ?_⟩
    simp only [Act.put, List.setIfInBounds_toArray, List.set_cons_zero, List.set_cons_succ]
    refine ah_call (i := 9) (some 12) rfl rfl (by kernel_rfl) rfl (HCS.out w3 HW3) (ex_call (f := 14) (vs := [.agg C1, .agg C2]) rfl (cfSame _) rfl) ?_
    rintro e w4 ⟨rfl, HB4⟩
    have S4 := S3.trans (HB4.out.mono S3.size)
    have HW4 := hide (HW3.trans (HB4.out.mono HW3.size))
    refine ⟨_, rfl, S4, ?_⟩
    simp only [Act.put, List.setIfInBounds_toArray, List.set_cons_zero, List.set_cons_succ]
    refine ah_take (i := 10) (some 13) rfl rfl (by kernel_rfl) (by kernel_rfl) (by kernel_rfl) rfl (fun W _ => ex_not rfl rfl) S4 (fun _ _ _ h => h) ?_
    simp only [Act.put, List.setIfInBounds_toArray, List.set_cons_zero, List.set_cons_succ]
    refine ah_take (i := 11) (some 14) rfl rfl (by kernel_rfl) (by kernel_rfl) (by kernel_rfl) rfl (fun W _ => ex_pkF (v := .bool (!sameB K K F (bareF K F))) rfl rfl rfl) S4 (fun _ _ _ h => h) ?_
    simp only [Act.put, List.setIfInBounds_toArray, List.set_cons_zero, List.set_cons_succ]
    refine ah_done (by kernel_rfl) ?_
    have D4 := D1.below S4
    clear HCS HCB lA HB3 HB4 S0 S2 S3 S4 D1 DB HB2 hwd hW HB HG HM1 HW2 HW3 hl0
    cases hs : sameB K K F (bareF K F) with
    | false =>
      go_wp2
      go_ret
      refine ⟨?_, HW4⟩
      have hm : mayB K F = false := by rw [HMM.out hne, hs]; rfl
      rw [hm]
      rfl
    | true =>
      have hm := HMM.out hne
      rw [hs, Bool.true_and] at hm
      have HM := hide hm
      obtain ⟨q0, q1, q2, q3, q9, q10, q5, q11⟩ := HFL.out w4 D4
      have qk := D4.kind
      clear hm hs HFL HMM
      iterate 8 go_step
      refine wp_region_lit ?_
      refine st_any (wanted_none rfl) (ex_fld rfl rfl (fa1 _ _)) ?_
      refine st_any (wanted_none rfl) (ex_load rfl rfl (ld3 q0)) ?_
      refine st_any (wanted_none rfl) (ex_bin rfl rfl rfl (eg3' _ _ _ _ _ _) (lss3 _ _ _)) ?_
      refine st_any (wanted_none rfl) (ex_move rfl) ?_
      refine kr_start (n := 83) (m := 18) (b := w.heap.size) (r := decide (x0 < 1)) ⟨rfl, rfl, rfl, rfl⟩ ?_
      intro a0 k0
      refine blockOr (s := 19) (gi := 3) (bop := .gtr) (k := 65535) k0 rfl (by omega) (by omega) (by omega) ⟨rfl, rfl, rfl⟩ ⟨rfl, rfl, rfl⟩ ⟨rfl, rfl, rfl⟩ ⟨rfl, rfl, rfl⟩ ⟨rfl, rfl, rfl⟩ (fa1 _ _) (ld3 q0) (gtr3 _ _ _) ?_
      intro a1 k1
      refine blockOr (s := 24) (gi := 8) (bop := .lss) (k := 0) k1 rfl (by omega) (by omega) (by omega) ⟨rfl, rfl, rfl⟩ ⟨rfl, rfl, rfl⟩ ⟨rfl, rfl, rfl⟩ ⟨rfl, rfl, rfl⟩ ⟨rfl, rfl, rfl⟩ (fa2 _ _) (ld3 q1) (lss3 _ _ _) ?_
      intro a2 k2
      refine blockOr (s := 29) (gi := 13) (bop := .gtr) (k := 2147483647) k2 rfl (by omega) (by omega) (by omega) ⟨rfl, rfl, rfl⟩ ⟨rfl, rfl, rfl⟩ ⟨rfl, rfl, rfl⟩ ⟨rfl, rfl, rfl⟩ ⟨rfl, rfl, rfl⟩ (fa2 _ _) (ld3 q1) (gtr3 _ _ _) ?_
      intro a3 k3
      refine blockOr (s := 34) (gi := 18) (bop := .lss) (k := 0) k3 rfl (by omega) (by omega) (by omega) ⟨rfl, rfl, rfl⟩ ⟨rfl, rfl, rfl⟩ ⟨rfl, rfl, rfl⟩ ⟨rfl, rfl, rfl⟩ ⟨rfl, rfl, rfl⟩ (fa3 _ _) (ld3 q2) (lss3 _ _ _) ?_
      intro a4 k4
      refine blockOr (s := 39) (gi := 23) (bop := .lss) (k := 0) k4 rfl (by omega) (by omega) (by omega) ⟨rfl, rfl, rfl⟩ ⟨rfl, rfl, rfl⟩ ⟨rfl, rfl, rfl⟩ ⟨rfl, rfl, rfl⟩ ⟨rfl, rfl, rfl⟩ (fa4 _ _) (ld3 q3) (lss3 _ _ _) ?_
      intro a5 k5
      refine blockOr (s := 44) (gi := 28) (bop := .gtr) (k := 2147483647) k5 rfl (by omega) (by omega) (by omega) ⟨rfl, rfl, rfl⟩ ⟨rfl, rfl, rfl⟩ ⟨rfl, rfl, rfl⟩ ⟨rfl, rfl, rfl⟩ ⟨rfl, rfl, rfl⟩ (fa4 _ _) (ld3 q3) (gtr3 _ _ _) ?_
      intro a6 k6
      refine blockOr (s := 49) (gi := 33) (bop := .lss) (k := 0) k6 rfl (by omega) (by omega) (by omega) ⟨rfl, rfl, rfl⟩ ⟨rfl, rfl, rfl⟩ ⟨rfl, rfl, rfl⟩ ⟨rfl, rfl, rfl⟩ ⟨rfl, rfl, rfl⟩ (fa10 _ _) (ld3 q9) (lss3 _ _ _) ?_
      intro a7 k7
      refine blockOr (s := 54) (gi := 38) (bop := .gtr) (k := 2147483647) k7 rfl (by omega) (by omega) (by omega) ⟨rfl, rfl, rfl⟩ ⟨rfl, rfl, rfl⟩ ⟨rfl, rfl, rfl⟩ ⟨rfl, rfl, rfl⟩ ⟨rfl, rfl, rfl⟩ (fa10 _ _) (ld3 q9) (gtr3 _ _ _) ?_
      intro a8 k8
      refine blockOr (s := 59) (gi := 43) (bop := .lss) (k := 0) k8 rfl (by omega) (by omega) (by omega) ⟨rfl, rfl, rfl⟩ ⟨rfl, rfl, rfl⟩ ⟨rfl, rfl, rfl⟩ ⟨rfl, rfl, rfl⟩ ⟨rfl, rfl, rfl⟩ (fa11 _ _) (ld3 q10) (lss3 _ _ _) ?_
      intro a9 k9
      refine blockOr (s := 64) (gi := 48) (bop := .gtr) (k := 2147483647) k9 rfl (by omega) (by omega) (by omega) ⟨rfl, rfl, rfl⟩ ⟨rfl, rfl, rfl⟩ ⟨rfl, rfl, rfl⟩ ⟨rfl, rfl, rfl⟩ ⟨rfl, rfl, rfl⟩ (fa11 _ _) (ld3 q10) (gtr3 _ _ _) ?_
      intro a10 k10
      refine blockLen (s := 69) (gi := 53) (bop := .gtr) (k := 256) k10 rfl (by omega) (by omega) (by omega) ⟨rfl, rfl, rfl⟩ ⟨rfl, rfl, rfl⟩ ⟨rfl, rfl, rfl⟩ ⟨rfl, rfl, rfl⟩ ⟨rfl, rfl, rfl⟩ (fa12 _ _) (ld23 q11) (gtr3 _ _ _) ?_
      intro aa kk
      have kf : Kr aa 83 73 w.heap.size (badB x0 x1 x2 x3 x9 x10 l11.length) := kk
      clear kk k0 k1 k2 k3 k4 k5 k6 k7 k8 k9 k10
      cases hb : badB x0 x1 x2 x3 x9 x10 l11.length with
      | true =>
        rw [hb] at kf HM
        repeat go_step
        refine wp_cond_true (eval_tmp kf.last) ?_
        iterate 1 go_step
        refine wp_region_lit ?_
        refine st_any (wanted_none rfl) (ex_asg (v := .bool false) rfl rfl) ?_
        have HA := hide (show (aa.put (some 2) (.bool false)).tmps[2]? = some (.bool (mayB K F)) by rw [HM.out]; exact put_same (by rw [kf.size]; omega))
        have HDF := hide (show (aa.put (some 2) (.bool false)).defers = [] from kf.defers)
        repeat go_step
        refine bodyPost_ret (v := .bool (mayB K F)) ?_ HDF.out ⟨rfl, HW4⟩
        rw [results_tmp Try.results13]
        exact congrArg (fun v => Result.ok v w4) (eval_tmp HA.out)
      | false =>
        rw [hb] at kf HM
        repeat go_step
        refine wp_cond_false (eval_tmp kf.last) ?_
        iterate 4 go_step
        refine wp_region_lit ?_
        refine blockFirst (s := 74) (bop := .neq) (k := 1) kf (by omega) (by omega) (by omega) ⟨rfl, rfl, rfl⟩ ⟨rfl, rfl, rfl⟩ ⟨rfl, rfl, rfl⟩ ⟨rfl, rfl, rfl⟩ (fa0 _ _) (ld3 qk) (neq3 _ _ _) ?_
        intro ab kb
        refine blockLen (s := 78) (gi := 3) (bop := .eql) (k := 2112) kb rfl (by omega) (by omega) (by omega) ⟨rfl, rfl, rfl⟩ ⟨rfl, rfl, rfl⟩ ⟨rfl, rfl, rfl⟩ ⟨rfl, rfl, rfl⟩ ⟨rfl, rfl, rfl⟩ (fa6 _ _) (ld23 q5) (eq3 _ _ _) ?_
        intro ac kc
        have hv : ((K != 1) || ((l5.length : Int) == 2112)) = mayB K F := by rw [HM.out]; rfl
        rw [hv] at kc
        refine st_any (wanted_none rfl) (ex_asg (v := .bool (mayB K F)) rfl (eval_tmp kc.last)) ?_
        have HA := hide (show (ac.put (some 2) (.bool (mayB K F))).tmps[2]? = some (.bool (mayB K F)) from put_same (by rw [kc.size]; omega))
        have HDF := hide (show (ac.put (some 2) (.bool (mayB K F))).defers = [] from kc.defers)
        repeat go_step
        refine bodyPost_ret (v := .bool (mayB K F)) ?_ HDF.out ⟨rfl, HW4⟩
        rw [results_tmp Try.results13]
        exact congrArg (fun v => Result.ok v w4) (eval_tmp HA.out)
end Go.Proofs.Ytcbadmkgbaffpaa

/- There and back, as plain numbers: what is read of a message's bytes; one record more; a cut. -/
namespace Go.Proofs.Ytcbadmkgbaffpaa
open Go.RowKit
set_option linter.unusedVariables false

theorem val_digs (n : Nat) : val (fun k => (digs n).getD k 0) (digs n).length = n := by
  induction n using Nat.strongRecOn with
  | _ n ih =>
    by_cases h : n = 0
    · subst h; rw [digs_zero]; rfl
    · rw [digs_pos n h, List.length_append, List.length_singleton]
      show val _ (digs (n / 256)).length * 256 + _ = _
      rw [val_congr _ (fun k => (digs (n / 256)).getD k 0) _ (fun j hj => by
        show (digs (n / 256) ++ _).getD j 0 = _
        rw [List.getD_eq_getElem?_getD, List.getD_eq_getElem?_getD, List.getElem?_append_left hj]), ih (n / 256) (by omega)]
      have : (digs (n / 256) ++ [((n % 256 : Nat) : Int)]).getD (digs (n / 256)).length 0 = ((n % 256 : Nat) : Int) := by
        rw [List.getD_eq_getElem?_getD, List.getElem?_append_right (Nat.le_refl _)]
        simp
      show ((n / 256 : Nat) : Int) * 256 + (digs (n / 256) ++ [((n % 256 : Nat) : Int)]).getD (digs (n / 256)).length 0 = n
      rw [this]
      omega
theorem digs_head (n : Nat) (h : n ≠ 0) : (digs n).getD 0 0 ≠ 0 ∧ digs n ≠ [] := by
  induction n using Nat.strongRecOn with
  | _ n ih =>
    rw [digs_pos n h]
    by_cases hq : n / 256 = 0
    · rw [hq, digs_zero]
      refine ⟨?_, by simp⟩
      show (((n % 256 : Nat) : Int)) ≠ 0
      omega
    · obtain ⟨h1, h2⟩ := ih (n / 256) (by omega) hq
      refine ⟨?_, by simp⟩
      cases e : digs (n / 256) with
      | nil => exact absurd e h2
      | cons x t => rw [e] at h1; exact h1
theorem rdNum_digs (n : Int) (h0 : 0 ≤ n) (h1 : n ≤ 9223372036854775807) : rdNum (digs n.toNat) = some n := by
  have hv := val_digs n.toNat
  rw [rdNum_some (digs_len 8 n.toNat (by omega)) ?_ (by rw [hv]; omega), hv]
  · congr 1; omega
  · by_cases h : n.toNat = 0
    · left; rw [h, digs_zero]
    · right; exact (digs_head _ h).1
theorem rdF_bytes {f : Fld} {i : Nat} (hf : f.fits i) (hn : ∀ n, f = .num n → 0 ≤ n ∧ n ≤ 9223372036854775807) : rdF i (bytesF f) = some f.plain := by
  unfold rdF
  rcases form_cases i with h | h | h
  · obtain ⟨n, rfl⟩ := fits_num hf h
    rw [if_pos h]
    show (rdNum (digs n.toNat)).map _ = _
    rw [rdNum_digs n (hn n rfl).1 (hn n rfl).2]
    rfl
  · obtain ⟨l, rfl, hl⟩ := fits_arr hf h
    rw [if_neg (by omega), if_pos h]
    show (if l.length = 32 then _ else _) = _
    rw [if_pos hl]
    rfl
  · obtain ⟨a, c, l, rfl⟩ := fits_lst hf h
    rw [if_neg (by omega), if_neg (by omega)]
    rfl
theorem look_map (g : Nat → List Int) (i : Nat) : ∀ (l : List Nat), i ∈ l → look (l.map fun (j : Nat) => (2 * (j : Int) + 1, g j)) i = some (g i)
  | [], h => by cases h
  | j :: t, h => by
    unfold look
    by_cases e : j = i
    · subst e; simp
    · have hi : i ∈ t := by
        rcases List.mem_cons.1 h with h | h
        · exact absurd h.symm e
        · exact h
      have := look_map g i t hi
      unfold look at this
      rw [List.map_cons, List.find?_cons_of_neg (by show ¬ ((2 * (j : Int) + 1 == 2 * (i : Int) + 1) = true); rw [beq_iff_eq]; omega)]
      exact this
theorem look_recs {K : Int} {F : Nat → Fld} {i : Nat} (hi : i ∈ fl K) : look (recs K F) i = some (bytesF (F i)) := look_map (fun j => bytesF (F j)) i (fl K) hi
theorem plain_out {K : Int} {F : Nat → Fld} (hF : Fits F) (hm : mayB K F = true) {i : Nat} (hi : i < 12) (hn : i ∉ fl K) : (F i).plain = (ZF i).plain := by
  have h := (may_ok hm).2 i hi
  unfold okB at h
  rw [if_neg hn, ← zero_same (hF i hi)] at h
  exact of_decide_eq_true h

/-- bytes whose kind is K and whose records are A: what Decode says of them where A has the fields of a message that may be -/
theorem dec_recs {zs : List Int} {K : Int} {F : Nat → Fld} {A : List (Int × List Int)} (hF : Fits F) (hm : mayB K F = true) (h2 : 2 ≤ zs.length) (hk : kindOf zs = K) (hr : recsOf zs = (0, A)) (hl : ∀ i ∈ fl K, look A i = some (bytesF (F i))) :
    decGood zs ∧ ∀ i, i < 12 → decF zs i = (F i).plain := by
  have hf : ∀ i ∈ fl K, fldA A i = some (F i).plain := fun i hi => by
    unfold fldA
    rw [hl i hi]
    exact rdF_bytes (hF i (fl_lt K i hi)) (may_num hm (fl_lt K i hi))
  have hd : ∀ i, i < 12 → decF zs i = (F i).plain := fun i hi => by
    unfold decF
    rw [hk, hr]
    by_cases h : i ∈ fl K
    · rw [if_pos h, hf i h]; rfl
    · rw [if_neg h, plain_out hF hm hi h]
  refine ⟨⟨h2, by rw [hr], fun i hi => ?_, ?_⟩, hd⟩
  · rw [hk] at hi
    rw [hr, hf i hi]
    rfl
  · rw [hk, mayP_congr (Q := fun i => (F i).plain) hd, ← mayB_plain]
    exact hm
theorem says_recs {zs : List Int} {K K' : Int} {F G : Nat → Fld} {E : Int} (h : decGood zs ∧ ∀ i, i < 12 → decF zs i = (F i).plain) (hk : kindOf zs = K) (hs : Says zs K' G E) : E = 0 ∧ K' = K ∧ ∀ i, i < 12 → (G i).plain = (F i).plain := by
  rcases hs with ⟨_, _, _, hn⟩ | ⟨h1, _, h2, h3⟩
  · exact absurd h.1 hn
  · exact ⟨h1, h2.trans hk, fun i hi => (h3 i hi).trans (h.2 i hi)⟩
theorem says_none {zs : List Int} {K' : Int} {G : Nat → Fld} {E : Int} (h : ¬ decGood zs) (hs : Says zs K' G E) : E = 10 ∧ K' = 0 ∧ G = ZF := by
  rcases hs with ⟨h1, h2, h3, _⟩ | ⟨_, h1, _⟩
  · exact ⟨h1, h2, h3⟩
  · exact absurd h1 h
theorem enc_kind (K : Int) (F : Nat → Fld) (B : List Int) : kindOf (encB K F ++ B) = K := by
  show 0 * 256 + K = K
  omega
theorem enc_drop (K : Int) (F : Nat → Fld) (B : List Int) : (encB K F ++ B).drop 2 = recsB (recs K F) ++ B := rfl
theorem recs_odd {K : Int} {F : Nat → Fld} {r : Int × List Int} (h : r ∈ recs K F) : r.1 % 2 = 1 ∧ 1 ≤ r.1 ∧ r.1 ≤ 23 := by
  obtain ⟨i, hi, rfl⟩ := List.mem_map.1 h
  have := fl_lt K i hi
  show (2 * (i : Int) + 1) % 2 = 1 ∧ _
  refine ⟨by omega, ?_, ?_⟩
  · show 1 ≤ 2 * (i : Int) + 1; omega
  · show 2 * (i : Int) + 1 ≤ 23; omega
theorem dec_enc {w : World} {K : Int} {F : Nat → Fld} (hF : Fits F) (hG : Good w F) (hm : mayB K F = true) : decGood (encB K F) ∧ ∀ i, i < 12 → decF (encB K F) i = (F i).plain := by
  have hr : recsOf (encB K F) = (0, recs K F) := by
    have ha := recs_all hF hG hm
    exact decT_of kn (recs K F) (recs_ris K F) (by rw [recs_len]; have := fl_len K; omega) ha.1 (fun r hr he => by have := (recs_odd hr).1; omega) (by have := ha.2; omega)
  have hk := enc_kind K F []
  rw [List.append_nil] at hk
  exact dec_recs hF hm (by simp [encB]) hk hr (fun i hi => look_recs hi)

theorem lastT_recs (K : Int) (F : Nat → Fld) : lastT (recs K F) ≤ 23 := by
  unfold lastT
  cases e : (recs K F).getLast? with
  | none => show (-1 : Int) ≤ 23; omega
  | some r => exact (recs_odd (List.mem_of_getLast? e)).2.2
theorem look_more {A : List (Int × List Int)} {i : Nat} {r : Int × List Int} {L : List Int} (h : look A i = some L) : look (A ++ [r]) i = some L := by
  unfold look at *
  obtain ⟨x, hx, rfl⟩ := Option.map_eq_some_iff.1 h
  rw [List.find?_append, hx]
  rfl
/-- one record more, of an odd type that no field has -/
theorem dec_more {w : World} {K : Int} {F : Nat → Fld} (hF : Fits F) (hG : Good w F) (hm : mayB K F = true) {t : Int} {L : List Int} (ht : 23 < t) (ht' : t ≤ 18446744073709551615) (ho : t % 2 = 1) (hL : L.length ≤ 1000) (hB : Bytes L) :
    decGood (encB K F ++ recsB [(t, L)]) ∧ ∀ i, i < 12 → decF (encB K F ++ recsB [(t, L)]) i = (F i).plain := by
  have ha := recs_all hF hG hm
  have hlast := lastT_recs K F
  have hlen : (recsB (recs K F ++ [(t, L)])).length ≤ 65536 := by
    rw [recsB_append, List.length_append]
    have h1 := numB_le t
    have h2 := numB_le (L.length : Int)
    show (recsB (recs K F)).length + (numB t ++ (numB L.length ++ (L ++ []))).length ≤ 65536
    simp only [List.length_append, List.length_nil]
    have := ha.2
    omega
  have hr : recsOf (encB K F ++ recsB [(t, L)]) = (0, recs K F ++ [(t, L)]) := by
    unfold recsOf
    rw [enc_drop, ← recsB_append]
    refine decT_of kn _ (ris_snoc _ _ _ (recs_ris K F) (by show (-1 : Int) < t; omega) (by show _ < t; omega)) (by rw [List.length_append, recs_len]; have := fl_len K; simp; omega) (fun r hr => ?_) (fun r hr he => ?_) hlen
    · rcases List.mem_append.1 hr with hr | hr
      · exact ha.1 r hr
      · rw [List.mem_singleton.1 hr]; exact ⟨by show 0 ≤ t; omega, ht', by show L.length ≤ _; omega, hB⟩
    · rcases List.mem_append.1 hr with hr | hr
      · have := (recs_odd hr).1; omega
      · rw [List.mem_singleton.1 hr] at he
        have : t % 2 = 0 := he
        omega
  exact dec_recs hF hm (by simp [encB]) (enc_kind K F _) hr (fun i hi => look_more (look_recs hi))
/-- a record of an even type that nobody knows, behind good ones -/
theorem dec_bad (K : Int → Bool) (r : Int × List Int) (a0 : 0 ≤ r.1) (a1 : r.1 ≤ 18446744073709551615) (a2 : r.2.length ≤ 140737488355328) (a3 : r.1 % 2 = 0) (a4 : K r.1 = false) : ∀ (A : List (Int × List Int)) (f : Nat) (acc : List (Int × List Int)), (recsB (A ++ [r])).length < f → Ris (lastT acc) (A ++ [r]) → acc.length + (A ++ [r]).length ≤ 64 →
    (∀ r ∈ A, 0 ≤ r.1 ∧ r.1 ≤ 18446744073709551615 ∧ r.2.length ≤ 140737488355328 ∧ (r.1 % 2 = 0 → K r.1 = true)) → (dec K f (recsB (A ++ [r])) acc).1 ≠ 0 := by
  intro A
  induction A with
  | nil =>
    intro f acc hf hris hlen hall
    obtain ⟨f, rfl⟩ : ∃ g, f = g + 1 := ⟨f - 1, by omega⟩
    obtain ⟨hr1, _⟩ := hris
    simp only [List.nil_append, List.length_singleton] at hlen
    have np := numB_pos r.1
    have e : recsB ([] ++ [r]) = numB r.1 ++ (numB r.2.length ++ (r.2 ++ [])) := rfl
    obtain ⟨p1, p2, p3⟩ := rd_num r.1 (numB r.2.length ++ (r.2 ++ [])) a0 a1
    obtain ⟨q1, q2, q3⟩ := rd_num (r.2.length : Int) (r.2 ++ []) (by omega) (by omega)
    have d1 : (numB r.1 ++ (numB r.2.length ++ (r.2 ++ []))).drop (numB r.1).length = numB r.2.length ++ (r.2 ++ []) := List.drop_left
    have hdl : (numB r.2.length ++ (r.2 ++ [])).length = (numB r.2.length).length + r.2.length := by simp
    have hfl : (numB r.1 ++ (numB r.2.length ++ (r.2 ++ []))).length = (numB r.1).length + ((numB r.2.length).length + r.2.length) := by simp
    rw [e, dec_12 (n := (numB r.1).length) (m := (numB r.2.length).length) (by omega) (by omega) p3 (by rw [p1]; omega) p2 (by rw [d1]; exact q3) (by rw [d1]; exact q2) (by rw [d1, q1]; omega) (by rw [p1]; exact ⟨a3, a4⟩)]
    decide
  | cons r' A ih =>
    intro f acc hf hris hlen hall
    obtain ⟨f, rfl⟩ : ∃ g, f = g + 1 := ⟨f - 1, by omega⟩
    obtain ⟨a0, a1, a2, a3⟩ := hall r' (List.mem_cons_self ..)
    obtain ⟨hr1, hr2⟩ := hris
    simp only [List.cons_append, List.length_cons, List.length_append, List.length_nil] at hlen
    have np := numB_pos r'.1
    have e : recsB (r' :: A ++ [r]) = numB r'.1 ++ (numB r'.2.length ++ (r'.2 ++ recsB (A ++ [r]))) := rfl
    obtain ⟨p1, p2, p3⟩ := rd_num r'.1 (numB r'.2.length ++ (r'.2 ++ recsB (A ++ [r]))) a0 a1
    obtain ⟨q1, q2, q3⟩ := rd_num (r'.2.length : Int) (r'.2 ++ recsB (A ++ [r])) (by omega) (by omega)
    have d1 : (numB r'.1 ++ (numB r'.2.length ++ (r'.2 ++ recsB (A ++ [r])))).drop (numB r'.1).length = numB r'.2.length ++ (r'.2 ++ recsB (A ++ [r])) := List.drop_left
    have hdl : (numB r'.2.length ++ (r'.2 ++ recsB (A ++ [r]))).length = (numB r'.2.length).length + (r'.2.length + (recsB (A ++ [r])).length) := by simp
    rw [e] at hf ⊢
    have hfl : (numB r'.1 ++ (numB r'.2.length ++ (r'.2 ++ recsB (A ++ [r])))).length = (numB r'.1).length + ((numB r'.2.length).length + (r'.2.length + (recsB (A ++ [r])).length)) := by simp
    rw [dec_go (n := (numB r'.1).length) (m := (numB r'.2.length).length) (k := r'.2.length) (by omega) (by omega) p3 (by rw [p1]; omega) p2 (by rw [d1]; exact q3) (by rw [d1]; exact q2) (by rw [d1]; exact q1) (by rw [d1]; omega)
      (by rw [p1]; intro ⟨h1, h2⟩; rw [a3 h1] at h2; cases h2)]
    have d2 : (numB r'.1 ++ (numB r'.2.length ++ (r'.2 ++ recsB (A ++ [r])))).drop ((numB r'.1).length + (numB r'.2.length).length) = r'.2 ++ recsB (A ++ [r]) := by
      rw [← List.drop_drop (i := (numB r'.2.length).length) (j := (numB r'.1).length), d1, List.drop_left]
    have d3 : (numB r'.1 ++ (numB r'.2.length ++ (r'.2 ++ recsB (A ++ [r])))).drop ((numB r'.1).length + ((numB r'.2.length).length + r'.2.length)) = recsB (A ++ [r]) := by
      rw [show (numB r'.1).length + ((numB r'.2.length).length + r'.2.length) = (numB r'.1).length + (numB r'.2.length).length + r'.2.length by omega, ← List.drop_drop (i := r'.2.length) (j := (numB r'.1).length + (numB r'.2.length).length), d2, List.drop_left]
    rw [d2, d3, p1, List.take_left]
    exact ih f _ (by omega) (by rw [lastT_snoc]; exact hr2) (by simp; omega) (fun x hx => hall x (List.mem_cons_of_mem _ hx))
theorem dec_even {w : World} {K : Int} {F : Nat → Fld} (hF : Fits F) (hG : Good w F) (hm : mayB K F = true) {t : Int} (ht : 23 < t) (ht' : t ≤ 18446744073709551615) (ho : t % 2 = 0) : ¬ decGood (encB K F ++ recsB [(t, [])]) := fun hg => by
  have ha := recs_all hF hG hm
  have hlast := lastT_recs K F
  refine absurd hg.2.1 ?_
  unfold recsOf
  rw [enc_drop, ← recsB_append]
  have hlen : (recsB (recs K F ++ [(t, [])])).length ≤ 65536 := by
    rw [recsB_append, List.length_append]
    have h1 := numB_le t
    have h2 := numB_le ((([] : List Int).length : Nat) : Int)
    show (recsB (recs K F)).length + (numB t ++ (numB (([] : List Int).length : Nat) ++ ([] ++ []))).length ≤ 65536
    simp only [List.length_append, List.length_nil] at h2 ⊢
    have := ha.2
    omega
  unfold decT
  rw [if_neg (by omega)]
  refine dec_bad kn (t, []) (by show 0 ≤ t; omega) ht' (by simp) ho rfl (recs K F) _ [] (Nat.lt_succ_self _) (ris_snoc _ _ _ (recs_ris K F) (by show (-1 : Int) < t; omega) (by show _ < t; omega)) ?_ (fun r hr => ?_)
  · have := fl_len K
    simp [recs_len]
    omega
  · obtain ⟨h1, h2, h3, _⟩ := ha.1 r hr
    exact ⟨h1, h2, by omega, fun he => by have := (recs_odd hr).1; omega⟩
end Go.Proofs.Ytcbadmkgbaffpaa

/- The contract of the statements' lives over this seat's translation; laws for a plain region, operation by operation. -/
namespace Go.Proofs.Ytcbadmkgbaffpaa
open Go.RowKit
set_option linter.unusedVariables false

section
variable {ops : Array Oper} {rest : List Oper} {o : Oper} {a : Act} {W W' : World} {Q : Exit → Act → World → Prop} {v : Value}
theorem st_to (d : Option Tmp) (hd : o.dst = d) (hw : Region.wanted o (yielded ops a.tmps) = true) (hr : (execOp a.eval o).run Try.prog W = .ok (.value v) W') (h : wpList Try.prog ops Q rest (a.put d v) W') : wpList Try.prog ops Q (o :: rest) a W :=
  wpList_step fun K hK => by subst hd; rw [if_pos hw]; unfold Oper.wp; rw [hr]; exact hK _ _ h
theorem st_no (d : Option Tmp) (hd : o.dst = d) (hw : Region.wanted o (yielded ops a.tmps) = false) (h : wpList Try.prog ops Q rest (a.put d undef) W) : wpList Try.prog ops Q (o :: rest) a W := by
  subst hd; exact wpList_skip hw h
theorem st_call (d : Option Tmp) (hd : o.dst = d) (hw : Region.wanted o (yielded ops a.tmps) = true) {f : FuncId} {args : Array Value} {post : Ending → World → Prop} (hc : Calls Try.prog f args W post) (hx : (execOp a.eval o).run Try.prog W = .ok (.enter f args) W)
    (h : ∀ e w', post e w' → ∃ v, e = .returned v ∧ wpList Try.prog ops Q rest (a.put d v) w') : wpList Try.prog ops Q (o :: rest) a W :=
  wpList_step fun K hK => by
    subst hd
    rw [if_pos hw]
    unfold Oper.wp
    rw [hx]
    refine Calls.mono hc fun e w' hp => ?_
    obtain ⟨v, rfl, h'⟩ := h e w' hp
    exact hK _ _ h'
theorem st_store (hd : o.dst = none) (hg : o.guard = none) {ty : TypeId} {x y : Operand} (ho : o.op = .store ty x y) {b p : Nat} {cells : Array Value} (hx : a.eval x = .pointer (some ⟨b, p, none⟩)) (hy : a.eval y = .agg cells)
    (ht : W.there b p cells.size) (hs : (Try.prog.info? ty).map (·.size) = some cells.size) (h1 : cells.all (·.oneCell') = true) (h : wpList Try.prog ops Q rest a (W.setCells b p cells.toList)) : wpList Try.prog ops Q (o :: rest) a W :=
  wpList_store_mid hg ty x y ho b p cells hx hy ht hs h1 (by rw [hd]; exact h)
theorem st_end (h : Q .normal a W) : wpList Try.prog ops Q [] a W := h
theorem ex_alloc25 (ho : o.op = .alloc 25) : (execOp a.eval o).run Try.prog W = .ok (.value (.pointer (some ⟨W.heap.size, 0, none⟩))) (W.alloc (.cells (mc 0 ZF).toArray 25)) := by
  have hz := fun w => zero25 w
  generalize (mc 0 ZF).toArray = Z at *
  unfold execOp
  simp only [ho]
  go_simp
theorem ex_box25 {x : Operand} {C : Array Value} (ho : o.op = .box 25 x) (hx : a.eval x = .agg C) : (execOp a.eval o).run Try.prog W = .ok (.value (.pointer (some ⟨W.heap.size, 0, none⟩))) (W.alloc (.cells C 25)) := by
  unfold execOp
  simp only [ho, hx]
  go_simp
theorem ex_build0 (ho : o.op = .build 25 #[]) : (execOp a.eval o).run Try.prog W = .ok (.value (.agg (mc 0 ZF).toArray)) W := by
  have hb : (Instr.build 25 #[]).run Try.prog W = .ok (.agg (mc 0 ZF).toArray) W := run_build W 25 _ _ (by kernel_rfl)
  unfold execOp
  simp [ho, hb]
end

theorem eq4 (x : Bool) (W : World) : (binOp .eql 4 (.bool x) (.bool x)).run Try.prog W = .ok (.bool true) W := by cases x <;> go_simp
theorem eg4 (bop : BinOp) (x y : Operand) (u v : Bool) (W : World) : (eqGuard bop 4 x y (.bool u) (.bool v)).run Try.prog W = .ok () W := by cases bop <;> rfl
/-- the message of lives -/
def S9 : List Int := 9 :: List.replicate 31 0
def FL : Nat → Fld := fun i => if i = 0 then .num 1 else if i = 6 then .arr S9 else ZF i
theorem FLfits : Fits FL := fun i hi => by
  unfold FL
  split
  · rename_i h; subst h; exact ⟨rfl, fun l h => by cases h⟩
  · split
    · rename_i h; subst h; exact ⟨rfl, fun l h => by cases h; rfl⟩
    · exact ZF_fits i
theorem FLgood (w : World) : Good w FL := fun i hi => by
  unfold FL
  split
  · trivial
  · split
    · intro c hc
      rcases List.mem_cons.1 hc with rfl | hc
      · omega
      · rw [List.eq_of_mem_replicate hc]; omega
    · exact GoodF.zero w i
theorem FLmay : mayB 2 FL = true := by decide
theorem digs1 : digs 1 = [1] := by rw [digs_pos 1 (by decide), show 1 / 256 = 0 from rfl, digs_zero]; rfl
theorem encFL : encB 2 FL = [0, 2, 1, 1, 1, 3, 0, 13, 32] ++ S9 := by
  show [0, 2] ++ recsB [(1, digs 1), (3, digs 0), (13, S9)] = _
  rw [digs1, digs_zero]
  rfl
theorem nomay0 : mayB 0 ZF = false := by decide
theorem build22 (W : World) : (Instr.build 22 #[(0, .int .u8 9)]).run Try.prog W = .ok (.agg (U8 S9).toArray) W := run_build W 22 _ _ (by kernel_rfl)
theorem build25 (W : World) : (Instr.build 25 #[(0, .int .i64 2), (1, .int .i64 1), (7, .agg (U8 S9).toArray)]).run Try.prog W = .ok (.agg (mc 2 FL).toArray) W := run_build W 25 _ _ (by kernel_rfl)
theorem ex_build3 {op : Oper} {a : Act} {W : World} {t i j k : Nat} {x y z : Operand} (ho : op.op = .build t #[(i, x), (j, y), (k, z)]) {v1 v2 v3 u : Value} (h1 : a.eval x = v1) (h2 : a.eval y = v2) (h3 : a.eval z = v3) (hb : (Instr.build t #[(i, v1), (j, v2), (k, v3)]).run Try.prog W = .ok u W) : (execOp a.eval op).run Try.prog W = .ok (.value u) W := by
  unfold execOp
  simp [ho, h1, h2, h3, hb]
theorem sameB_of {K : Int} {F G : Nat → Fld} (h : ∀ i, i < 12 → (F i).plain = (G i).plain) : sameB K K F G = true := by
  unfold sameB
  simp only [beq_self_eq_true, Bool.true_and, List.all_eq_true, List.mem_range]
  exact fun i hi => decide_eq_true (h i hi)
end Go.Proofs.Ytcbadmkgbaffpaa

/- The contract of the statements' lives over this seat's translation. -/
namespace Go.Proofs.Ytcbadmkgbaffpaa
open Go.RowKit
set_option linter.unusedVariables false
set_option linter.unusedSimpArgs false

theorem eq26 (x y : Int) (W : World) : (binOp .eql 26 (.int .i64 x) (.int .i64 y)).run Try.prog W = .ok (.bool (x == y)) W := by go_simp
theorem eg26 (bop : BinOp) (x y : Operand) (u v : Int) (W : World) : (eqGuard bop 26 x y (.int .i64 u) (.int .i64 v)).run Try.prog W = .ok () W := by cases bop <;> rfl
theorem eq5 (x y : Int) (W : World) : (binOp .eql 5 (.int .u8 x) (.int .u8 y)).run Try.prog W = .ok (.bool (x == y)) W := by go_simp
theorem eg5 (bop : BinOp) (x y : Operand) (u v : Int) (W : World) : (eqGuard bop 5 x y (.int .u8 u) (.int .u8 v)).run Try.prog W = .ok () W := by cases bop <;> rfl
theorem ld5 {W : World} {b o : Nat} {n : Int} (h : W.cell? ⟨b, o, none⟩ = some (.int .u8 n)) : (Instr.loadAt 5 (.pointer (some ⟨b, o, none⟩))).run Try.prog W = .ok (.int .u8 n) W := by go_simp
theorem ex_index23 {op : Oper} {a : Act} {W : World} {x y : Operand} (ho : op.op = .indexAddr 23 x y) {g p n c k : Nat} (hx : a.eval x = .slice (some ⟨g, p, none⟩) n c) (hy : a.eval y = .int .i64 k) (hk : k < n) : (execOp a.eval op).run Try.prog W = .ok (.value (.pointer (some ⟨g, p + k, none⟩))) W := by
  have h1 : (k : Int) < (n : Int) := by omega
  unfold execOp
  simp only [ho, hx, hy]
  go_simp
theorem lives_msg {w : World} {b : Nat} {K : Int} {F : Nat → Fld} (hb : b = w.heap.size) (hF : Fits F) : (w.alloc (.cells (mc 0 ZF).toArray 25)).there b 0 (mc K F).toArray.size ∧ MsgAt ((w.alloc (.cells (mc 0 ZF).toArray 25)).setCells b 0 (mc K F).toArray.toList) b K F ∧ Below w.heap.size w ((w.alloc (.cells (mc 0 ZF).toArray 25)).setCells b 0 (mc K F).toArray.toList) := by
  subst hb
  have M := MsgAt.new w 0 ZFits
  refine ⟨by rw [sizeMsg K hF]; exact M.there, ⟨hF, World.rangeAt_setCells_same _ _ _ _ (by rw [mc_len K hF]; exact M.there), World.there_setCells M.there _ _ _⟩, ?_⟩
  exact ((Below.refl w.heap.size w).alloc (Nat.le_refl _) _).grown (grown_setCells _ _ _ _) (by simp) (fun k hk => by cases hk; exact Nat.le_refl _)

set_option maxHeartbeats 4000000 in
theorem lives_any (w : World) : Calls Try.prog 11 #[] w fun e w' => e = .returned (.bool true) ∧ Hid (Below w.heap.size w w') := by
  obtain ⟨T1, M1, B1⟩ := lives_msg (w := w) (K := 2) rfl FLfits
  have HE1 := hide (fun W => encode_ok 2 FL FLfits W (FLgood W) FLmay)
  have HE2 := hide (fun W => encode_no 0 ZF ZFits W (fun i hi => GoodF.zero W i) nomay0)
  have HMY := hide (fun W => may_any 2 FL FLfits (FLgood W).small W)
  rw [FLmay] at HMY
  have HS1 := hide (infoSize 2 FLfits)
  have HO1 := hide (oneMsg 2 FL)
  have HA := hide (fun (a : Act) (W : World) (o : Oper) (ho : o.op = .alloc 25) => ex_alloc25 (a := a) (W := W) ho)
  have HB0 := hide (fun (a : Act) (W : World) (o : Oper) (ho : o.op = .build 25 #[]) => ex_build0 (a := a) (W := W) ho)
  have HB3 := hide (fun W => build25 W)
  have HB2 := hide (fun W => build22 W)
  obtain ⟨CL, hCL⟩ : ∃ CL, (mc 2 FL).toArray = CL := ⟨_, rfl⟩
  have HCL := hide hCL
  obtain ⟨Z, hZ⟩ : ∃ Z, (mc 0 ZF).toArray = Z := ⟨_, rfl⟩
  have HZ := hide hZ
  obtain ⟨V, hV⟩ : ∃ V, (U8 S9).toArray = V := ⟨_, rfl⟩
  obtain ⟨W1, hW1⟩ : ∃ W1, (w.alloc (.cells Z 25)).setCells w.heap.size 0 CL.toList = W1 := ⟨_, rfl⟩
  rw [hCL, hZ] at M1 B1 T1
  rw [hCL] at HE1 HMY HS1 HO1 HB3
  rw [hZ] at HE2 HA HB0
  rw [hV] at HB2 HB3
  rw [hW1] at M1 B1
  have HM1 := hide M1
  clear hCL hZ hV M1
  go_enter Try.func11, Try.ntmps11
  refine wp_seq (wp_region_lit ?_)
  refine st_to (some 0) rfl rfl (ex_asg (v := .bool false) rfl rfl) ?_
  simp only [Act.put, List.setIfInBounds_toArray, List.set_cons_zero, List.set_cons_succ]
  refine st_end ?_
  refine wp_seq (wp_region_lit ?_)
  refine st_to (some 8) rfl rfl (ex_build1 (t := 22) (i := 0) (x := .const (.int .u8 9)) (v := .int .u8 9) (u := .agg V) rfl rfl (HB2.out _)) ?_
  simp only [Act.put, List.setIfInBounds_toArray, List.set_cons_zero, List.set_cons_succ]
  refine st_to (some 9) rfl rfl (ex_build3 (t := 25) (i := 0) (j := 1) (k := 7) (x := .const (.int .i64 2)) (y := .const (.int .i64 1)) (z := .tmp 8) (v1 := .int .i64 2) (v2 := .int .i64 1) (v3 := .agg V) (u := .agg CL) rfl rfl rfl rfl (HB3.out _)) ?_
  simp only [Act.put, List.setIfInBounds_toArray, List.set_cons_zero, List.set_cons_succ]
  refine st_to (some 1) rfl rfl (HA.out _ _ _ rfl) ?_
  simp only [Act.put, List.setIfInBounds_toArray, List.set_cons_zero, List.set_cons_succ]
  refine st_store (ty := 25) (x := .tmp 1) (y := .tmp 9) (b := w.heap.size) (p := 0) (cells := CL) rfl rfl rfl rfl rfl T1 HS1.out HO1.out ?_
  rw [hW1]
  refine st_end ?_
  refine wp_seq (wp_region_lit ?_)
  have lA : ∀ W, Below W1.heap.size W1 W → (Instr.loadAt 25 (.pointer (some ⟨w.heap.size, 0, none⟩))).run Try.prog W = .ok (.agg CL) W := fun W h => by rw [← HCL.out]; exact run_loadAt_mid W _ 0 25 _ _ (HM1.out.below h).range Try.underlying25 rfl (infoLen 2 FLfits)
  refine st_to (some 11) rfl rfl (ex_load rfl rfl (lA _ (Below.refl _ _))) ?_
  simp only [Act.put, List.setIfInBounds_toArray, List.set_cons_zero, List.set_cons_succ]
  refine st_call (some 12) rfl rfl (HE1.out _) (ex_call (f := 9) (vs := [.agg CL]) rfl (cfEncode _) rfl) ?_
  rintro e w2 ⟨ba, bc, rfl, HI2, hbc, hbm, HB2w⟩
  obtain ⟨ln, hln⟩ : ∃ ln, (encB 2 FL).length = ln := ⟨_, rfl⟩
  have hl41 : ln = 41 := by rw [← hln, encFL]; rfl
  rw [hln] at hbc ⊢
  refine ⟨_, rfl, ?_⟩
  simp only [Act.put, List.setIfInBounds_toArray, List.set_cons_zero, List.set_cons_succ]
  refine st_to (some 10) rfl rfl (ex_mv (v := .tuple #[.slice ba ln bc, .int .i64 0]) rfl rfl) ?_
  simp only [Act.put, List.setIfInBounds_toArray, List.set_cons_zero, List.set_cons_succ]
  refine st_to (some 13) rfl rfl (ex_ext (vs := #[.slice ba ln bc, .int .i64 0]) (v := .slice ba ln bc) rfl rfl rfl) ?_
  simp only [Act.put, List.setIfInBounds_toArray, List.set_cons_zero, List.set_cons_succ]
  refine st_to (some 14) rfl rfl (ex_ext (vs := #[.slice ba ln bc, .int .i64 0]) (v := .int .i64 0) rfl rfl rfl) ?_
  simp only [Act.put, List.setIfInBounds_toArray, List.set_cons_zero, List.set_cons_succ]
  refine st_to (some 2) rfl rfl (ex_asg (v := .slice ba ln bc) rfl rfl) ?_
  simp only [Act.put, List.setIfInBounds_toArray, List.set_cons_zero, List.set_cons_succ]
  refine st_to (some 3) rfl rfl (ex_asg (v := .int .i64 0) rfl rfl) ?_
  simp only [Act.put, List.setIfInBounds_toArray, List.set_cons_zero, List.set_cons_succ]
  refine st_end ?_
  refine wp_seq (wp_region_lit ?_)
  have HD := hide (wdecode_any ba bc (encB 2 FL) w2 HI2.out (by rw [hln]; exact hbc) hbm (fun c hc => by rw [encFL] at hc; revert c; decide))
  rw [hln] at HD
  refine st_to (some 16) rfl rfl (ex_mv (v := .slice ba ln bc) rfl rfl) ?_
  simp only [Act.put, List.setIfInBounds_toArray, List.set_cons_zero, List.set_cons_succ]
  refine st_call (some 17) rfl rfl HD.out (ex_call (f := 17) (vs := [.slice ba ln bc]) rfl (cfDecode _) rfl) ?_
  rintro e w3 ⟨K3, G, E, rfl, fG, hG3, hsay, HB3w⟩
  obtain ⟨rfl, rfl, hpl⟩ := says_recs (K := 2) (F := FL) (dec_enc (w := w2) FLfits (FLgood w2) FLmay) (by have := enc_kind 2 FL []; rw [List.append_nil] at this; exact this) hsay
  refine ⟨_, rfl, ?_⟩
  simp only [Act.put, List.setIfInBounds_toArray, List.set_cons_zero, List.set_cons_succ]
  obtain ⟨T4, M4, B4⟩ := lives_msg (w := w3) (K := 2) rfl fG
  have HS4 := hide (infoSize 2 fG)
  have HO4 := hide (oneMsg 2 G)
  have HSM := hide (fun (W : World) (h : Good W G) => same_any 2 2 G FL fG FLfits W h (FLgood W))
  rw [HCL.out, sameB_of hpl] at HSM
  obtain ⟨CG, hCG⟩ : ∃ CG, (mc 2 G).toArray = CG := ⟨_, rfl⟩
  have HCG := hide hCG
  rw [hCG] at T4 M4 B4 HS4 HO4 HSM ⊢
  rw [HZ.out] at T4 M4 B4
  obtain ⟨W4, hW4⟩ : ∃ W4, (w3.alloc (.cells Z 25)).setCells w3.heap.size 0 CG.toList = W4 := ⟨_, rfl⟩
  rw [hW4] at M4 B4
  clear hCG hsay
  refine st_to (some 15) rfl rfl (ex_mv (v := .tuple #[.agg CG, .int .i64 0]) rfl rfl) ?_
  simp only [Act.put, List.setIfInBounds_toArray, List.set_cons_zero, List.set_cons_succ]
  refine st_to (some 18) rfl rfl (ex_ext (vs := #[.agg CG, .int .i64 0]) (v := .agg CG) rfl rfl rfl) ?_
  simp only [Act.put, List.setIfInBounds_toArray, List.set_cons_zero, List.set_cons_succ]
  refine st_to (some 19) rfl rfl (ex_ext (vs := #[.agg CG, .int .i64 0]) (v := .int .i64 0) rfl rfl rfl) ?_
  simp only [Act.put, List.setIfInBounds_toArray, List.set_cons_zero, List.set_cons_succ]
  refine st_to (some 4) rfl rfl (HA.out _ _ _ rfl) ?_
  simp only [Act.put, List.setIfInBounds_toArray, List.set_cons_zero, List.set_cons_succ]
  refine st_store (ty := 25) (x := .tmp 4) (y := .tmp 18) (b := w3.heap.size) (p := 0) (cells := CG) rfl rfl rfl rfl rfl T4 HS4.out HO4.out ?_
  rw [hW4]
  refine st_to (some 5) rfl rfl (ex_asg (v := .int .i64 0) rfl rfl) ?_
  simp only [Act.put, List.setIfInBounds_toArray, List.set_cons_zero, List.set_cons_succ]
  refine st_end ?_
  refine wp_seq (wp_region_lit ?_)
  refine st_to (some 21) rfl rfl (HB0.out _ _ _ rfl) ?_
  simp only [Act.put, List.setIfInBounds_toArray, List.set_cons_zero, List.set_cons_succ]
  refine st_call (some 22) rfl rfl (HE2.out _) (ex_call (f := 9) (vs := [.agg Z]) rfl (cfEncode _) rfl) ?_
  rintro e w5 ⟨rfl, HB5⟩
  refine ⟨_, rfl, ?_⟩
  simp only [Act.put, List.setIfInBounds_toArray, List.set_cons_zero, List.set_cons_succ]
  refine st_to (some 20) rfl rfl (ex_mv (v := .tuple #[.slice none 0 0, .int .i64 1]) rfl rfl) ?_
  simp only [Act.put, List.setIfInBounds_toArray, List.set_cons_zero, List.set_cons_succ]
  refine st_to (some 23) rfl rfl (ex_ext (vs := #[.slice none 0 0, .int .i64 1]) (v := .slice none 0 0) rfl rfl rfl) ?_
  simp only [Act.put, List.setIfInBounds_toArray, List.set_cons_zero, List.set_cons_succ]
  refine st_to (some 24) rfl rfl (ex_ext (vs := #[.slice none 0 0, .int .i64 1]) (v := .int .i64 1) rfl rfl rfl) ?_
  simp only [Act.put, List.setIfInBounds_toArray, List.set_cons_zero, List.set_cons_succ]
  refine st_to (some 6) rfl rfl (ex_asg (v := .slice none 0 0) rfl rfl) ?_
  simp only [Act.put, List.setIfInBounds_toArray, List.set_cons_zero, List.set_cons_succ]
  refine st_to (some 7) rfl rfl (ex_asg (v := .int .i64 1) rfl rfl) ?_
  simp only [Act.put, List.setIfInBounds_toArray, List.set_cons_zero, List.set_cons_succ]
  refine st_end ?_
  refine wp_seq (wp_region_lit ?_)
  have X2 : Below W1.heap.size W1 w2 := HB2w.out
  have X3 : Below W1.heap.size W1 w3 := X2.trans (HB3w.out.mono X2.size)
  have X4 : Below W1.heap.size W1 W4 := X3.trans (B4.mono X3.size)
  have X5 : Below W1.heap.size W1 w5 := X4.trans (HB5.out.mono X4.size)
  have lG : ∀ W, Below W4.heap.size W4 W → (Instr.loadAt 25 (.pointer (some ⟨w3.heap.size, 0, none⟩))).run Try.prog W = .ok (.agg CG) W := fun W h => by rw [← HCG.out]; exact run_loadAt_mid W _ 0 25 _ _ (M4.below h).range Try.underlying25 rfl (infoLen 2 fG)
  have hG5 := (hG3.out.below B4).below HB5.out
  refine st_to (some 25) rfl rfl (ex_mv (v := .int .i64 0) rfl rfl) ?_
  simp only [Act.put, List.setIfInBounds_toArray, List.set_cons_zero, List.set_cons_succ]
  refine st_to (some 26) rfl rfl (ex_bin (c := .bool true) rfl rfl rfl (eg26 _ _ _ _ _ _) (eq26 0 0 _)) ?_
  simp only [Act.put, List.setIfInBounds_toArray, List.set_cons_zero, List.set_cons_succ]
  refine st_to (some 27) rfl rfl (ex_mv (v := .bool true) rfl rfl) ?_
  simp only [Act.put, List.setIfInBounds_toArray, List.set_cons_zero, List.set_cons_succ]
  refine st_to (some 28) rfl rfl (ex_mv (v := .int .i64 0) rfl rfl) ?_
  simp only [Act.put, List.setIfInBounds_toArray, List.set_cons_zero, List.set_cons_succ]
  refine st_to (some 29) rfl rfl (ex_bin (c := .bool true) rfl rfl rfl (eg26 _ _ _ _ _ _) (eq26 0 0 _)) ?_
  simp only [Act.put, List.setIfInBounds_toArray, List.set_cons_zero, List.set_cons_succ]
  refine st_to (some 30) rfl rfl (ex_pkT (v := .bool true) rfl rfl rfl) ?_
  simp only [Act.put, List.setIfInBounds_toArray, List.set_cons_zero, List.set_cons_succ]
  refine st_to (some 31) rfl rfl (ex_mv (v := .bool true) rfl rfl) ?_
  simp only [Act.put, List.setIfInBounds_toArray, List.set_cons_zero, List.set_cons_succ]
  refine st_to (some 32) rfl rfl (ex_mv (v := .int .i64 1) rfl rfl) ?_
  simp only [Act.put, List.setIfInBounds_toArray, List.set_cons_zero, List.set_cons_succ]
  refine st_to (some 33) rfl rfl (ex_bin (c := .bool true) rfl rfl rfl (eg26 _ _ _ _ _ _) (eq26 1 1 _)) ?_
  simp only [Act.put, List.setIfInBounds_toArray, List.set_cons_zero, List.set_cons_succ]
  refine st_to (some 34) rfl rfl (ex_pkT (v := .bool true) rfl rfl rfl) ?_
  simp only [Act.put, List.setIfInBounds_toArray, List.set_cons_zero, List.set_cons_succ]
  refine st_to (some 35) rfl rfl (ex_mv (v := .bool true) rfl rfl) ?_
  simp only [Act.put, List.setIfInBounds_toArray, List.set_cons_zero, List.set_cons_succ]
  refine st_to (some 36) rfl rfl (ex_load rfl rfl (lG _ HB5.out)) ?_
  simp only [Act.put, List.setIfInBounds_toArray, List.set_cons_zero, List.set_cons_succ]
  refine st_to (some 37) rfl rfl (ex_load rfl rfl (lA _ X5)) ?_
  simp only [Act.put, List.setIfInBounds_toArray, List.set_cons_zero, List.set_cons_succ]
  refine st_call (some 38) rfl rfl (HSM.out w5 hG5) (ex_call (f := 14) (vs := [.agg CG, .agg CL]) rfl (cfSame _) rfl) ?_
  rintro e w6 ⟨rfl, HB6⟩
  have X6 : Below W1.heap.size W1 w6 := X5.trans (HB6.out.mono X5.size)
  refine ⟨_, rfl, ?_⟩
  simp only [Act.put, List.setIfInBounds_toArray, List.set_cons_zero, List.set_cons_succ]
  obtain ⟨gb, go, hba⟩ : ∃ gb go, ba = some ⟨gb, go, none⟩ ∧ w6.cell? ⟨gb, go + 1, none⟩ = some (.int .u8 2) := by
    have hI6 : IsB w6 ba bc (encB 2 FL) := HI2.out.below ((HB3w.out.trans ((B4.trans ((HB5.out.trans (HB6.out.mono HB5.out.size)).mono B4.size)).mono HB3w.out.size)))
    obtain ⟨b, off, hx, _, hcell⟩ := hI6.at (by rw [encFL]; decide)
    exact ⟨b, off, hx, by have := hcell 1 (by rw [encFL]; decide); rw [this, encFL]; rfl⟩
  obtain ⟨rfl, hc1⟩ := hba
  subst hl41
  refine st_to (some 39) rfl rfl (ex_pkT (v := .bool true) rfl rfl rfl) ?_
  simp only [Act.put, List.setIfInBounds_toArray, List.set_cons_zero, List.set_cons_succ]
  refine st_to (some 40) rfl rfl (ex_mv (v := .bool true) rfl rfl) ?_
  simp only [Act.put, List.setIfInBounds_toArray, List.set_cons_zero, List.set_cons_succ]
  refine st_to (some 41) rfl rfl (ex_mv (v := .slice (some ⟨gb, go, none⟩) 41 bc) rfl rfl) ?_
  simp only [Act.put, List.setIfInBounds_toArray, List.set_cons_zero, List.set_cons_succ]
  refine st_to (some 42) rfl rfl (ex_len rfl rfl) ?_
  simp only [Act.put, List.setIfInBounds_toArray, List.set_cons_zero, List.set_cons_succ]
  refine st_to (some 43) rfl rfl (ex_bin (c := .bool true) rfl rfl rfl (eg3' _ _ _ _ _ _) (eq3 41 41 _)) ?_
  simp only [Act.put, List.setIfInBounds_toArray, List.set_cons_zero, List.set_cons_succ]
  refine st_to (some 44) rfl rfl (ex_pkT (v := .bool true) rfl rfl rfl) ?_
  simp only [Act.put, List.setIfInBounds_toArray, List.set_cons_zero, List.set_cons_succ]
  refine st_to (some 45) rfl rfl (ex_mv (v := .bool true) rfl rfl) ?_
  simp only [Act.put, List.setIfInBounds_toArray, List.set_cons_zero, List.set_cons_succ]
  refine st_to (some 46) rfl rfl (ex_mv (v := .slice (some ⟨gb, go, none⟩) 41 bc) rfl rfl) ?_
  simp only [Act.put, List.setIfInBounds_toArray, List.set_cons_zero, List.set_cons_succ]
  refine st_to (some 47) rfl rfl (ex_index23 (k := 1) rfl rfl rfl (by omega)) ?_
  simp only [Act.put, List.setIfInBounds_toArray, List.set_cons_zero, List.set_cons_succ]
  refine st_to (some 48) rfl rfl (ex_load rfl rfl (ld5 hc1)) ?_
  simp only [Act.put, List.setIfInBounds_toArray, List.set_cons_zero, List.set_cons_succ]
  refine st_to (some 49) rfl rfl (ex_bin (c := .bool true) rfl rfl rfl (eg5 _ _ _ _ _ _) (eq5 2 2 _)) ?_
  simp only [Act.put, List.setIfInBounds_toArray, List.set_cons_zero, List.set_cons_succ]
  refine st_to (some 50) rfl rfl (ex_pkT (v := .bool true) rfl rfl rfl) ?_
  simp only [Act.put, List.setIfInBounds_toArray, List.set_cons_zero, List.set_cons_succ]
  refine st_to (some 51) rfl rfl (ex_mv (v := .bool true) rfl rfl) ?_
  simp only [Act.put, List.setIfInBounds_toArray, List.set_cons_zero, List.set_cons_succ]
  refine st_to (some 52) rfl rfl (ex_load rfl rfl (lA _ X6)) ?_
  simp only [Act.put, List.setIfInBounds_toArray, List.set_cons_zero, List.set_cons_succ]
  refine st_call (some 53) rfl rfl (HMY.out _) (ex_call (f := 12) (vs := [.agg CL]) rfl (cfMay _) rfl) ?_
  rintro e w7 ⟨rfl, HB7⟩
  have X7 : Below W1.heap.size W1 w7 := X6.trans (HB7.out.mono X6.size)
  refine ⟨_, rfl, ?_⟩
  simp only [Act.put, List.setIfInBounds_toArray, List.set_cons_zero, List.set_cons_succ]
  refine st_to (some 54) rfl rfl (ex_pkT (v := .bool true) rfl rfl rfl) ?_
  simp only [Act.put, List.setIfInBounds_toArray, List.set_cons_zero, List.set_cons_succ]
  refine st_to (some 0) rfl rfl (ex_asg (v := .bool true) rfl rfl) ?_
  simp only [Act.put, List.setIfInBounds_toArray, List.set_cons_zero, List.set_cons_succ]
  refine st_end ?_
  refine wp_ret ?_
  refine bodyPost_ret (v := .bool true) ?_ rfl ⟨rfl, B1.trans (X7.mono B1.size)⟩
  rw [results_tmp Try.results11]
  rfl
end Go.Proofs.Ytcbadmkgbaffpaa

/- A message that came in: its cells are those of a message whose numbers and lists are there. -/
namespace Go.Proofs.Ytcbadmkgbaffpaa
open Go.RowKit Go.ChangeShapes Go.WideShapes Go.ChangeAt
set_option linter.unusedVariables false

theorem bytesOf5 : Try.prog.bytesOf 5 = 1 := by kernel_rfl
theorem cellsOf5 : Try.prog.cellsOf 5 = 1 := by kernel_rfl
theorem cellsOf3 : Try.prog.cellsOf 3 = 1 := by kernel_rfl
theorem cellsOf23 : Try.prog.cellsOf 23 = 1 := by kernel_rfl
theorem cellsOf22 : Try.prog.cellsOf 22 = 32 := by kernel_rfl
theorem cellsOf25 : Try.prog.cellsOf 25 = 137 := by kernel_rfl
section
variable {H : Type} {enc : TypeId × Value → H} {w : World} {fuel : Nat} {cs : List Value} {x : DataW H × List MemPlace}
theorem open_lst (h : DataW.trod enc Try.prog w 0 (fun _ => true) true fuel 23 cs = some x) (hs : ∀ m ∈ x.1.weights Try.prog 23, m ≤ reachBytes) : ∃ a c l, cs = (Fld.lst a c l).cells ∧ GoodF w (.lst a c l) := by
  rcases open_ints Try.underlying23 Try.underlying5 cellsOf5 h with ⟨rfl, _⟩ | ⟨y, l, c, zs, rfl, _, hl, hm, hz, hx, hcell, hwz⟩
  · exact ⟨none, 0, [], rfl, .inl ⟨rfl, rfl, rfl⟩, by simp, fun c hc => by cases hc⟩
  · have hz' : zs.length = c := by simpa using hz
    have hr := hs ((zs.take l).length + (zs.drop l).length) (by
      rw [hx]
      simp only [DataW.weights, Try.underlying23, bytesOf5, lits, List.length_map, Nat.mul_one]
      exact List.mem_cons_self ..)
    simp only [List.length_take, List.length_drop, reachBytes] at hr
    obtain ⟨L, hL, hB, h1, h2, h3⟩ := row_isB (w := w) (a := some y) (len := l) (cap := c) (zs := zs) (.inr ⟨y, rfl, hl, hm, hz', by omega, hcell, hwz⟩)
    refine ⟨some y, c, L, by show _ = [Value.slice (some y) L.length c]; rw [hL], hB, by omega, fun b hb => ?_⟩
    obtain ⟨k, hk, rfl⟩ := List.getElem_of_mem hb
    have := h3 k hk
    rw [List.getD_eq_getElem?_getD, List.getElem?_eq_getElem hk] at this
    exact this
theorem open_arr (h : DataW.trod enc Try.prog w 0 (fun _ => true) true fuel 22 cs = some x) : ∃ l, cs = (Fld.arr l).cells ∧ l.length = 32 ∧ GoodF w (.arr l) := by
  obtain ⟨xs, m, _, _, hlen, hxl, hall⟩ := DataW.trod_array Try.underlying22 h
  rw [cellsOf22] at hlen
  have each : ∀ i, i < 32 → ∃ z : Int, cs[i]? = some (.int .u8 z) ∧ 0 ≤ z ∧ z ≤ 255 := fun i hi => by
    have h1 := hall i hi
    rw [cellsOf5, Nat.mul_one, List.getElem?_eq_getElem (by omega)] at h1
    obtain ⟨z, h2, _, h3⟩ := DataW.trod_int Try.underlying5 h1
    have h4 : cs[i]? = some cs[i] := List.getElem?_eq_getElem (by omega)
    rw [List.drop_eq_getElem_cons (by omega), List.take_succ_cons, List.take_zero] at h2
    rw [h4, (List.cons.inj h2).1]
    exact ⟨z, rfl, bounds_u8 h3⟩
  obtain ⟨f, hf⟩ := Go.Deep.choose_lt each
  refine ⟨(List.range 32).map f, ?_, by simp, fun b hb => ?_⟩
  · show cs = U8 ((List.range 32).map f)
    apply List.ext_getElem?
    intro i
    unfold U8
    by_cases hi : i < 32
    · rw [(hf i hi).1, List.getElem?_map, List.getElem?_map, List.getElem?_range hi]; rfl
    · rw [List.getElem?_eq_none (by omega), List.getElem?_eq_none (by simp; omega)]
  · obtain ⟨i, hi, rfl⟩ := List.mem_map.1 hb
    exact (hf i (List.mem_range.1 hi)).2
theorem open_num (h : DataW.trod enc Try.prog w 0 (fun _ => true) true fuel 3 cs = some x) : ∃ n, cs = (Fld.num n).cells ∧ n ≤ 9223372036854775807 := by
  obtain ⟨n, h1, _, h2⟩ := DataW.trod_int Try.underlying3 h
  exact ⟨n, h1, (bounds_i64 h2).2⟩
theorem cut_at (cs : List Value) (o n : Nat) (A : List Value) (h : (cs.drop o).take n = A) : cs.drop o = A ++ cs.drop (o + n) := by
  rw [← h, ← List.drop_drop, List.take_append_drop]
/-- the fields of a message, put together -/
def FM (x0 x1 x2 x3 : Fld) (x4 x5 x6 x7 : Fld) (x8 x9 x10 x11 : Fld) : Nat → Fld
  | 0 => x0 | 1 => x1 | 2 => x2 | 3 => x3 | 4 => x4 | 5 => x5 | 6 => x6 | 7 => x7 | 8 => x8 | 9 => x9 | 10 => x10 | _ => x11
theorem open_msg (h : DataW.trod enc Try.prog w 0 (fun _ => true) true fuel 25 cs = some x) (hs : ∀ m ∈ x.1.weights Try.prog 25, m ≤ reachBytes) :
    ∃ K F, cs = mc K F ∧ Fits F ∧ Good w F ∧ ∀ n, F 2 = .num n → n ≤ 9223372036854775807 := by
  obtain ⟨xs, m, _, rfl, hlen, hxl, hall⟩ := DataW.trod_struct Try.underlying25 h
  rw [cellsOf25] at hlen
  have hxl' : xs.length = 13 := hxl
  have at_ : ∀ i, i < 13 → xs[i]? = some (xs.getD i (.nil, [])) := fun i hi => by rw [List.getD_eq_getElem?_getD, List.getElem?_eq_getElem (by omega)]; rfl
  have wt : ∀ i, i < 13 → (#[(3 : TypeId), 3, 3, 3, 3, 22, 23, 22, 22, 22, 3, 3, 23] : Array TypeId).toList[i]? = some 23 → ∀ k ∈ (xs.getD i (.nil, [])).1.weights Try.prog 23, k ≤ reachBytes := fun i hi ht k hk => by
    refine hs k ?_
    simp only [DataW.weights, Try.underlying25]
    exact DataW.weights_mem_each (j := i) (t := 23) (d := (xs.getD i (.nil, [])).1) ht (by rw [List.getElem?_map, at_ i hi]; rfl) k hk
  obtain ⟨K, e, _⟩ := open_num ((hall 0 _ rfl).trans (at_ 0 (by omega)))
  obtain ⟨x0, e0, _⟩ := open_num ((hall 1 _ rfl).trans (at_ 1 (by omega)))
  obtain ⟨x1, e1, _⟩ := open_num ((hall 2 _ rfl).trans (at_ 2 (by omega)))
  obtain ⟨x2, e2, r2⟩ := open_num ((hall 3 _ rfl).trans (at_ 3 (by omega)))
  obtain ⟨x3, e3, _⟩ := open_num ((hall 4 _ rfl).trans (at_ 4 (by omega)))
  obtain ⟨x4, e4, l4, g4⟩ := open_arr ((hall 5 _ rfl).trans (at_ 5 (by omega)))
  obtain ⟨a5, c5, x5, e5, g5⟩ := open_lst ((hall 6 _ rfl).trans (at_ 6 (by omega))) (wt 6 (by omega) rfl)
  obtain ⟨x6, e6, l6, g6⟩ := open_arr ((hall 7 _ rfl).trans (at_ 7 (by omega)))
  obtain ⟨x7, e7, l7, g7⟩ := open_arr ((hall 8 _ rfl).trans (at_ 8 (by omega)))
  obtain ⟨x8, e8, l8, g8⟩ := open_arr ((hall 9 _ rfl).trans (at_ 9 (by omega)))
  obtain ⟨x9, e9, _⟩ := open_num ((hall 10 _ rfl).trans (at_ 10 (by omega)))
  obtain ⟨x10, e10, _⟩ := open_num ((hall 11 _ rfl).trans (at_ 11 (by omega)))
  obtain ⟨a11, c11, x11, e11, g11⟩ := open_lst ((hall 12 _ rfl).trans (at_ 12 (by omega))) (wt 12 (by omega) rfl)
  replace e := (show (cs.drop 0).take (Try.prog.cellsOf 3) = (Fld.num K).cells from e)
  rw [cellsOf3] at e
  replace e0 := (show (cs.drop 1).take (Try.prog.cellsOf 3) = (Fld.num x0).cells from e0)
  rw [cellsOf3] at e0
  replace e1 := (show (cs.drop 2).take (Try.prog.cellsOf 3) = (Fld.num x1).cells from e1)
  rw [cellsOf3] at e1
  replace e2 := (show (cs.drop 3).take (Try.prog.cellsOf 3) = (Fld.num x2).cells from e2)
  rw [cellsOf3] at e2
  replace e3 := (show (cs.drop 4).take (Try.prog.cellsOf 3) = (Fld.num x3).cells from e3)
  rw [cellsOf3] at e3
  replace e4 := (show (cs.drop 5).take (Try.prog.cellsOf 22) = (Fld.arr x4).cells from e4)
  rw [cellsOf22] at e4
  replace e5 := (show (cs.drop 37).take (Try.prog.cellsOf 23) = (Fld.lst a5 c5 x5).cells from e5)
  rw [cellsOf23] at e5
  replace e6 := (show (cs.drop 38).take (Try.prog.cellsOf 22) = (Fld.arr x6).cells from e6)
  rw [cellsOf22] at e6
  replace e7 := (show (cs.drop 70).take (Try.prog.cellsOf 22) = (Fld.arr x7).cells from e7)
  rw [cellsOf22] at e7
  replace e8 := (show (cs.drop 102).take (Try.prog.cellsOf 22) = (Fld.arr x8).cells from e8)
  rw [cellsOf22] at e8
  replace e9 := (show (cs.drop 134).take (Try.prog.cellsOf 3) = (Fld.num x9).cells from e9)
  rw [cellsOf3] at e9
  replace e10 := (show (cs.drop 135).take (Try.prog.cellsOf 3) = (Fld.num x10).cells from e10)
  rw [cellsOf3] at e10
  replace e11 := (show (cs.drop 136).take (Try.prog.cellsOf 23) = (Fld.lst a11 c11 x11).cells from e11)
  rw [cellsOf23] at e11
  have hcs : cs = mc K (FM (.num x0) (.num x1) (.num x2) (.num x3) (.arr x4) (.lst a5 c5 x5) (.arr x6) (.arr x7) (.arr x8) (.num x9) (.num x10) (.lst a11 c11 x11)) := by
    have d0 := cut_at cs 0 1 _ e
    rw [cut_at cs 1 1 _ e0, cut_at cs 2 1 _ e1, cut_at cs 3 1 _ e2, cut_at cs 4 1 _ e3, cut_at cs 5 32 _ e4, cut_at cs 37 1 _ e5, cut_at cs 38 32 _ e6, cut_at cs 70 32 _ e7, cut_at cs 102 32 _ e8, cut_at cs 134 1 _ e9, cut_at cs 135 1 _ e10, cut_at cs 136 1 _ e11, (show cs.drop (136 + 1) = [] from List.drop_eq_nil_of_le (by omega)), List.drop_zero] at d0
    rw [d0]
    rfl
  refine ⟨K, _, hcs, fun i hi => ?_, fun i hi => ?_, fun n hn => ?_⟩
  · match i, hi with
    | 0, _ => exact ⟨rfl, fun l h => by cases h⟩
    | 1, _ => exact ⟨rfl, fun l h => by cases h⟩
    | 2, _ => exact ⟨rfl, fun l h => by cases h⟩
    | 3, _ => exact ⟨rfl, fun l h => by cases h⟩
    | 4, _ => exact ⟨rfl, fun l h => by cases h; exact l4⟩
    | 5, _ => exact ⟨rfl, fun l h => by cases h⟩
    | 6, _ => exact ⟨rfl, fun l h => by cases h; exact l6⟩
    | 7, _ => exact ⟨rfl, fun l h => by cases h; exact l7⟩
    | 8, _ => exact ⟨rfl, fun l h => by cases h; exact l8⟩
    | 9, _ => exact ⟨rfl, fun l h => by cases h⟩
    | 10, _ => exact ⟨rfl, fun l h => by cases h⟩
    | 11, _ => exact ⟨rfl, fun l h => by cases h⟩
  · match i, hi with
    | 0, _ => trivial
    | 1, _ => trivial
    | 2, _ => trivial
    | 3, _ => trivial
    | 4, _ => exact g4
    | 5, _ => exact g5
    | 6, _ => exact g6
    | 7, _ => exact g7
    | 8, _ => exact g8
    | 9, _ => trivial
    | 10, _ => trivial
    | 11, _ => exact g11
  · have : Fld.num x2 = .num n := hn
    cases this
    exact r2
end
end Go.Proofs.Ytcbadmkgbaffpaa

/- The contract of the document's value over this seat's translation. -/
namespace Go.Proofs.Ytcbadmkgbaffpaa
open Go.RowKit
set_option linter.unusedVariables false
set_option linter.unusedSimpArgs false

theorem eq36 (x y : Int) (W : World) : (binOp .eql 36 (.int .u64 x) (.int .u64 y)).run Try.prog W = .ok (.bool (x == y)) W := by go_simp
theorem eg36 (bop : BinOp) (x y : Operand) (u v : Int) (W : World) : (eqGuard bop 36 x y (.int .u64 u) (.int .u64 v)).run Try.prog W = .ok () W := by cases bop <;> rfl
theorem ex_slice22 {op : Oper} {a : Act} {W : World} {x : Operand} {b o : Nat} (ho : op.op = .slice 22 x none none none) (hx : a.eval x = .pointer (some ⟨b, o, none⟩)) : (execOp a.eval op).run Try.prog W = .ok (.value (.slice (some ⟨b, o, none⟩) 32 32)) W := by
  unfold execOp
  simp only [ho, hx]
  go_simp
/-- what value answers -/
def ValP (f : Fld) (w : World) (e : Ending) (w' : World) : Prop := ∃ a c, e = .returned (.slice a (bytesF f).length c) ∧ IsB w' a c (bytesF f) ∧ Below w.heap.size w w' ∧ ∀ x, a = some x → bytesF f ≠ [] → w.heap.size ≤ x.block ∨ ∃ c l, f = .lst (some x) c l

set_option maxHeartbeats 2000000 in
theorem val0 (K : Int) (F : Nat → Fld) (hF : Fits F) (w : World) (hG : Good w F) (hn : ∀ n, F 0 = .num n → 0 ≤ n ∧ n ≤ 9223372036854775807) :
    Calls Try.prog 24 #[.agg (mc K F).toArray, .int .u64 1] w (ValP (F 0) w) := by
  obtain ⟨W, hW⟩ : ∃ W, w.alloc (.cells (mc K F).toArray 25) = W := ⟨_, rfl⟩
  have M1 : MsgAt W w.heap.size K F := by rw [← hW]; exact MsgAt.new w K hF
  have HB : Below w.heap.size w W := by rw [← hW]; exact (Below.refl _ _).alloc (Nat.le_refl _) _
  obtain ⟨C, hC⟩ : ∃ C, (mc K F).toArray = C := ⟨_, rfl⟩
  rw [hC] at hW ⊢
  clear hC
  obtain ⟨x, hx⟩ := fits_num (hF 0 (by omega)) rfl
  obtain ⟨y, rfl⟩ : ∃ y : Nat, x = (y : Int) := ⟨x.toNat, by have := (hn x hx).1; omega⟩
  have hy : y ≤ 9223372036854775807 := by have := (hn _ hx).2; omega
  have q : W.cell? ⟨w.heap.size, 1, none⟩ = some (.int .i64 (y : Int)) := M1.num (i := 0) (by omega) hx
  rw [hx]
  go_enter Try.func24, Try.ntmps24
  refine wp_seq (wp_region_lit ?_)
  refine st_to (some 2) rfl rfl (ex_box25 (C := C) rfl rfl) ?_
  simp only [Act.put, List.setIfInBounds_toArray, List.set_cons_zero, List.set_cons_succ]
  rw [hW]
  refine st_to (some 4) rfl rfl (ex_asg (v := .slice none 0 0) rfl rfl) ?_
  simp only [Act.put, List.setIfInBounds_toArray, List.set_cons_zero, List.set_cons_succ]
  refine st_end ?_
  refine wp_seq ?_
  refine wp_seq (wp_region_lit ?_)
  refine st_to (some 5) rfl rfl (ex_mv (v := .int .u64 1) rfl rfl) ?_
  simp only [Act.put, List.setIfInBounds_toArray, List.set_cons_zero, List.set_cons_succ]
  refine st_end ?_
  refine wp_block ?_
  refine wp_seq (wp_region_lit ?_)
  refine st_to (some 7) rfl rfl (ex_bin (c := .bool true) rfl rfl rfl (eg36 _ _ _ _ _ _) (eq36 1 1 _)) ?_
  simp only [Act.put, List.setIfInBounds_toArray, List.set_cons_zero, List.set_cons_succ]
  refine st_to (some 6) rfl rfl (ex_asg (v := .bool true) rfl rfl) ?_
  simp only [Act.put, List.setIfInBounds_toArray, List.set_cons_zero, List.set_cons_succ]
  refine st_end ?_
  refine wp_cond_true rfl ?_
  refine wp_seq (wp_region_lit ?_)
  refine st_to (some 8) rfl rfl (ex_fld rfl rfl (fa1 _ _)) ?_
  simp only [Act.put, List.setIfInBounds_toArray, List.set_cons_zero, List.set_cons_succ]
  refine st_to (some 9) rfl rfl (ex_load rfl rfl (ld3 q)) ?_
  simp only [Act.put, List.setIfInBounds_toArray, List.set_cons_zero, List.set_cons_succ]
  refine st_call (some 10) rfl rfl (rnumber_any y W hy) (ex_call (f := 44) (vs := [.int .i64 (y : Int)]) rfl (cfNumber _) rfl) ?_
  rintro e w2 ⟨v, rfl, HO, HB2⟩
  refine ⟨_, rfl, ?_⟩
  simp only [Act.put, List.setIfInBounds_toArray, List.set_cons_zero, List.set_cons_succ]
  have HOO := HO.out
  obtain ⟨ao, cap, rfl, hI, _, _⟩ := own_isB HO.out
  have hfr : ∀ x, ao = some x → digs y ≠ [] → w.heap.size ≤ x.block := fun x hx _ => by
    subst hx
    rcases HOO.2 with ⟨e, _⟩ | ⟨g, cap', cur, e, hBg, _⟩
    · cases e
    · cases e
      exact Nat.le_trans HB.size hBg
  refine st_to (some 4) rfl rfl (ex_asg (v := .slice ao (digs y).length cap) rfl rfl) ?_
  simp only [Act.put, List.setIfInBounds_toArray, List.set_cons_zero, List.set_cons_succ]
  refine st_end ?_
  refine wp_ret ?_
  refine bodyPost_ret (v := .slice ao (digs y).length cap) ?_ rfl ⟨ao, cap, rfl, hI, HB.trans (HB2.out.mono HB.size), fun x hx hne => .inl (hfr x hx hne)⟩
  rw [results_tmp Try.results24]
  rfl
set_option maxHeartbeats 2000000 in
theorem val1 (K : Int) (F : Nat → Fld) (hF : Fits F) (w : World) (hG : Good w F) (hn : ∀ n, F 1 = .num n → 0 ≤ n ∧ n ≤ 9223372036854775807) :
    Calls Try.prog 24 #[.agg (mc K F).toArray, .int .u64 3] w (ValP (F 1) w) := by
  obtain ⟨W, hW⟩ : ∃ W, w.alloc (.cells (mc K F).toArray 25) = W := ⟨_, rfl⟩
  have M1 : MsgAt W w.heap.size K F := by rw [← hW]; exact MsgAt.new w K hF
  have HB : Below w.heap.size w W := by rw [← hW]; exact (Below.refl _ _).alloc (Nat.le_refl _) _
  obtain ⟨C, hC⟩ : ∃ C, (mc K F).toArray = C := ⟨_, rfl⟩
  rw [hC] at hW ⊢
  clear hC
  obtain ⟨x, hx⟩ := fits_num (hF 1 (by omega)) rfl
  obtain ⟨y, rfl⟩ : ∃ y : Nat, x = (y : Int) := ⟨x.toNat, by have := (hn x hx).1; omega⟩
  have hy : y ≤ 9223372036854775807 := by have := (hn _ hx).2; omega
  have q : W.cell? ⟨w.heap.size, 2, none⟩ = some (.int .i64 (y : Int)) := M1.num (i := 1) (by omega) hx
  rw [hx]
  go_enter Try.func24, Try.ntmps24
  refine wp_seq (wp_region_lit ?_)
  refine st_to (some 2) rfl rfl (ex_box25 (C := C) rfl rfl) ?_
  simp only [Act.put, List.setIfInBounds_toArray, List.set_cons_zero, List.set_cons_succ]
  rw [hW]
  refine st_to (some 4) rfl rfl (ex_asg (v := .slice none 0 0) rfl rfl) ?_
  simp only [Act.put, List.setIfInBounds_toArray, List.set_cons_zero, List.set_cons_succ]
  refine st_end ?_
  refine wp_seq ?_
  refine wp_seq (wp_region_lit ?_)
  refine st_to (some 5) rfl rfl (ex_mv (v := .int .u64 3) rfl rfl) ?_
  simp only [Act.put, List.setIfInBounds_toArray, List.set_cons_zero, List.set_cons_succ]
  refine st_end ?_
  refine wp_block ?_
  refine wp_seq (wp_region_lit ?_)
  refine st_to (some 7) rfl rfl (ex_bin (c := .bool false) rfl rfl rfl (eg36 _ _ _ _ _ _) (eq36 3 1 _)) ?_
  simp only [Act.put, List.setIfInBounds_toArray, List.set_cons_zero, List.set_cons_succ]
  refine st_to (some 6) rfl rfl (ex_asg (v := .bool false) rfl rfl) ?_
  simp only [Act.put, List.setIfInBounds_toArray, List.set_cons_zero, List.set_cons_succ]
  refine st_end ?_
  refine wp_cond_false rfl ?_
  refine wp_seq (wp_region_lit ?_)
  refine st_to (some 12) rfl rfl (ex_bin (c := .bool true) rfl rfl rfl (eg36 _ _ _ _ _ _) (eq36 3 3 _)) ?_
  simp only [Act.put, List.setIfInBounds_toArray, List.set_cons_zero, List.set_cons_succ]
  refine st_to (some 11) rfl rfl (ex_asg (v := .bool true) rfl rfl) ?_
  simp only [Act.put, List.setIfInBounds_toArray, List.set_cons_zero, List.set_cons_succ]
  refine st_end ?_
  refine wp_cond_true rfl ?_
  refine wp_seq (wp_region_lit ?_)
  refine st_to (some 13) rfl rfl (ex_fld rfl rfl (fa2 _ _)) ?_
  simp only [Act.put, List.setIfInBounds_toArray, List.set_cons_zero, List.set_cons_succ]
  refine st_to (some 14) rfl rfl (ex_load rfl rfl (ld3 q)) ?_
  simp only [Act.put, List.setIfInBounds_toArray, List.set_cons_zero, List.set_cons_succ]
  refine st_call (some 15) rfl rfl (rnumber_any y W hy) (ex_call (f := 44) (vs := [.int .i64 (y : Int)]) rfl (cfNumber _) rfl) ?_
  rintro e w2 ⟨v, rfl, HO, HB2⟩
  refine ⟨_, rfl, ?_⟩
  simp only [Act.put, List.setIfInBounds_toArray, List.set_cons_zero, List.set_cons_succ]
  have HOO := HO.out
  obtain ⟨ao, cap, rfl, hI, _, _⟩ := own_isB HO.out
  have hfr : ∀ x, ao = some x → digs y ≠ [] → w.heap.size ≤ x.block := fun x hx _ => by
    subst hx
    rcases HOO.2 with ⟨e, _⟩ | ⟨g, cap', cur, e, hBg, _⟩
    · cases e
    · cases e
      exact Nat.le_trans HB.size hBg
  refine st_to (some 4) rfl rfl (ex_asg (v := .slice ao (digs y).length cap) rfl rfl) ?_
  simp only [Act.put, List.setIfInBounds_toArray, List.set_cons_zero, List.set_cons_succ]
  refine st_end ?_
  refine wp_ret ?_
  refine bodyPost_ret (v := .slice ao (digs y).length cap) ?_ rfl ⟨ao, cap, rfl, hI, HB.trans (HB2.out.mono HB.size), fun x hx hne => .inl (hfr x hx hne)⟩
  rw [results_tmp Try.results24]
  rfl
set_option maxHeartbeats 2000000 in
theorem val2 (K : Int) (F : Nat → Fld) (hF : Fits F) (w : World) (hG : Good w F) (hn : ∀ n, F 2 = .num n → 0 ≤ n ∧ n ≤ 9223372036854775807) :
    Calls Try.prog 24 #[.agg (mc K F).toArray, .int .u64 5] w (ValP (F 2) w) := by
  obtain ⟨W, hW⟩ : ∃ W, w.alloc (.cells (mc K F).toArray 25) = W := ⟨_, rfl⟩
  have M1 : MsgAt W w.heap.size K F := by rw [← hW]; exact MsgAt.new w K hF
  have HB : Below w.heap.size w W := by rw [← hW]; exact (Below.refl _ _).alloc (Nat.le_refl _) _
  obtain ⟨C, hC⟩ : ∃ C, (mc K F).toArray = C := ⟨_, rfl⟩
  rw [hC] at hW ⊢
  clear hC
  obtain ⟨x, hx⟩ := fits_num (hF 2 (by omega)) rfl
  obtain ⟨y, rfl⟩ : ∃ y : Nat, x = (y : Int) := ⟨x.toNat, by have := (hn x hx).1; omega⟩
  have hy : y ≤ 9223372036854775807 := by have := (hn _ hx).2; omega
  have q : W.cell? ⟨w.heap.size, 3, none⟩ = some (.int .i64 (y : Int)) := M1.num (i := 2) (by omega) hx
  rw [hx]
  go_enter Try.func24, Try.ntmps24
  refine wp_seq (wp_region_lit ?_)
  refine st_to (some 2) rfl rfl (ex_box25 (C := C) rfl rfl) ?_
  simp only [Act.put, List.setIfInBounds_toArray, List.set_cons_zero, List.set_cons_succ]
  rw [hW]
  refine st_to (some 4) rfl rfl (ex_asg (v := .slice none 0 0) rfl rfl) ?_
  simp only [Act.put, List.setIfInBounds_toArray, List.set_cons_zero, List.set_cons_succ]
  refine st_end ?_
  refine wp_seq ?_
  refine wp_seq (wp_region_lit ?_)
  refine st_to (some 5) rfl rfl (ex_mv (v := .int .u64 5) rfl rfl) ?_
  simp only [Act.put, List.setIfInBounds_toArray, List.set_cons_zero, List.set_cons_succ]
  refine st_end ?_
  refine wp_block ?_
  refine wp_seq (wp_region_lit ?_)
  refine st_to (some 7) rfl rfl (ex_bin (c := .bool false) rfl rfl rfl (eg36 _ _ _ _ _ _) (eq36 5 1 _)) ?_
  simp only [Act.put, List.setIfInBounds_toArray, List.set_cons_zero, List.set_cons_succ]
  refine st_to (some 6) rfl rfl (ex_asg (v := .bool false) rfl rfl) ?_
  simp only [Act.put, List.setIfInBounds_toArray, List.set_cons_zero, List.set_cons_succ]
  refine st_end ?_
  refine wp_cond_false rfl ?_
  refine wp_seq (wp_region_lit ?_)
  refine st_to (some 12) rfl rfl (ex_bin (c := .bool false) rfl rfl rfl (eg36 _ _ _ _ _ _) (eq36 5 3 _)) ?_
  simp only [Act.put, List.setIfInBounds_toArray, List.set_cons_zero, List.set_cons_succ]
  refine st_to (some 11) rfl rfl (ex_asg (v := .bool false) rfl rfl) ?_
  simp only [Act.put, List.setIfInBounds_toArray, List.set_cons_zero, List.set_cons_succ]
  refine st_end ?_
  refine wp_cond_false rfl ?_
  refine wp_seq (wp_region_lit ?_)
  refine st_to (some 17) rfl rfl (ex_bin (c := .bool true) rfl rfl rfl (eg36 _ _ _ _ _ _) (eq36 5 5 _)) ?_
  simp only [Act.put, List.setIfInBounds_toArray, List.set_cons_zero, List.set_cons_succ]
  refine st_to (some 16) rfl rfl (ex_asg (v := .bool true) rfl rfl) ?_
  simp only [Act.put, List.setIfInBounds_toArray, List.set_cons_zero, List.set_cons_succ]
  refine st_end ?_
  refine wp_cond_true rfl ?_
  refine wp_seq (wp_region_lit ?_)
  refine st_to (some 18) rfl rfl (ex_fld rfl rfl (fa3 _ _)) ?_
  simp only [Act.put, List.setIfInBounds_toArray, List.set_cons_zero, List.set_cons_succ]
  refine st_to (some 19) rfl rfl (ex_load rfl rfl (ld3 q)) ?_
  simp only [Act.put, List.setIfInBounds_toArray, List.set_cons_zero, List.set_cons_succ]
  refine st_call (some 20) rfl rfl (rnumber_any y W hy) (ex_call (f := 44) (vs := [.int .i64 (y : Int)]) rfl (cfNumber _) rfl) ?_
  rintro e w2 ⟨v, rfl, HO, HB2⟩
  refine ⟨_, rfl, ?_⟩
  simp only [Act.put, List.setIfInBounds_toArray, List.set_cons_zero, List.set_cons_succ]
  have HOO := HO.out
  obtain ⟨ao, cap, rfl, hI, _, _⟩ := own_isB HO.out
  have hfr : ∀ x, ao = some x → digs y ≠ [] → w.heap.size ≤ x.block := fun x hx _ => by
    subst hx
    rcases HOO.2 with ⟨e, _⟩ | ⟨g, cap', cur, e, hBg, _⟩
    · cases e
    · cases e
      exact Nat.le_trans HB.size hBg
  refine st_to (some 4) rfl rfl (ex_asg (v := .slice ao (digs y).length cap) rfl rfl) ?_
  simp only [Act.put, List.setIfInBounds_toArray, List.set_cons_zero, List.set_cons_succ]
  refine st_end ?_
  refine wp_ret ?_
  refine bodyPost_ret (v := .slice ao (digs y).length cap) ?_ rfl ⟨ao, cap, rfl, hI, HB.trans (HB2.out.mono HB.size), fun x hx hne => .inl (hfr x hx hne)⟩
  rw [results_tmp Try.results24]
  rfl
set_option maxHeartbeats 2000000 in
theorem val3 (K : Int) (F : Nat → Fld) (hF : Fits F) (w : World) (hG : Good w F) (hn : ∀ n, F 3 = .num n → 0 ≤ n ∧ n ≤ 9223372036854775807) :
    Calls Try.prog 24 #[.agg (mc K F).toArray, .int .u64 7] w (ValP (F 3) w) := by
  obtain ⟨W, hW⟩ : ∃ W, w.alloc (.cells (mc K F).toArray 25) = W := ⟨_, rfl⟩
  have M1 : MsgAt W w.heap.size K F := by rw [← hW]; exact MsgAt.new w K hF
  have HB : Below w.heap.size w W := by rw [← hW]; exact (Below.refl _ _).alloc (Nat.le_refl _) _
  obtain ⟨C, hC⟩ : ∃ C, (mc K F).toArray = C := ⟨_, rfl⟩
  rw [hC] at hW ⊢
  clear hC
  obtain ⟨x, hx⟩ := fits_num (hF 3 (by omega)) rfl
  obtain ⟨y, rfl⟩ : ∃ y : Nat, x = (y : Int) := ⟨x.toNat, by have := (hn x hx).1; omega⟩
  have hy : y ≤ 9223372036854775807 := by have := (hn _ hx).2; omega
  have q : W.cell? ⟨w.heap.size, 4, none⟩ = some (.int .i64 (y : Int)) := M1.num (i := 3) (by omega) hx
  rw [hx]
  go_enter Try.func24, Try.ntmps24
  refine wp_seq (wp_region_lit ?_)
  refine st_to (some 2) rfl rfl (ex_box25 (C := C) rfl rfl) ?_
  simp only [Act.put, List.setIfInBounds_toArray, List.set_cons_zero, List.set_cons_succ]
  rw [hW]
  refine st_to (some 4) rfl rfl (ex_asg (v := .slice none 0 0) rfl rfl) ?_
  simp only [Act.put, List.setIfInBounds_toArray, List.set_cons_zero, List.set_cons_succ]
  refine st_end ?_
  refine wp_seq ?_
  refine wp_seq (wp_region_lit ?_)
  refine st_to (some 5) rfl rfl (ex_mv (v := .int .u64 7) rfl rfl) ?_
  simp only [Act.put, List.setIfInBounds_toArray, List.set_cons_zero, List.set_cons_succ]
  refine st_end ?_
  refine wp_block ?_
  refine wp_seq (wp_region_lit ?_)
  refine st_to (some 7) rfl rfl (ex_bin (c := .bool false) rfl rfl rfl (eg36 _ _ _ _ _ _) (eq36 7 1 _)) ?_
  simp only [Act.put, List.setIfInBounds_toArray, List.set_cons_zero, List.set_cons_succ]
  refine st_to (some 6) rfl rfl (ex_asg (v := .bool false) rfl rfl) ?_
  simp only [Act.put, List.setIfInBounds_toArray, List.set_cons_zero, List.set_cons_succ]
  refine st_end ?_
  refine wp_cond_false rfl ?_
  refine wp_seq (wp_region_lit ?_)
  refine st_to (some 12) rfl rfl (ex_bin (c := .bool false) rfl rfl rfl (eg36 _ _ _ _ _ _) (eq36 7 3 _)) ?_
  simp only [Act.put, List.setIfInBounds_toArray, List.set_cons_zero, List.set_cons_succ]
  refine st_to (some 11) rfl rfl (ex_asg (v := .bool false) rfl rfl) ?_
  simp only [Act.put, List.setIfInBounds_toArray, List.set_cons_zero, List.set_cons_succ]
  refine st_end ?_
  refine wp_cond_false rfl ?_
  refine wp_seq (wp_region_lit ?_)
  refine st_to (some 17) rfl rfl (ex_bin (c := .bool false) rfl rfl rfl (eg36 _ _ _ _ _ _) (eq36 7 5 _)) ?_
  simp only [Act.put, List.setIfInBounds_toArray, List.set_cons_zero, List.set_cons_succ]
  refine st_to (some 16) rfl rfl (ex_asg (v := .bool false) rfl rfl) ?_
  simp only [Act.put, List.setIfInBounds_toArray, List.set_cons_zero, List.set_cons_succ]
  refine st_end ?_
  refine wp_cond_false rfl ?_
  refine wp_seq (wp_region_lit ?_)
  refine st_to (some 22) rfl rfl (ex_bin (c := .bool true) rfl rfl rfl (eg36 _ _ _ _ _ _) (eq36 7 7 _)) ?_
  simp only [Act.put, List.setIfInBounds_toArray, List.set_cons_zero, List.set_cons_succ]
  refine st_to (some 21) rfl rfl (ex_asg (v := .bool true) rfl rfl) ?_
  simp only [Act.put, List.setIfInBounds_toArray, List.set_cons_zero, List.set_cons_succ]
  refine st_end ?_
  refine wp_cond_true rfl ?_
  refine wp_seq (wp_region_lit ?_)
  refine st_to (some 23) rfl rfl (ex_fld rfl rfl (fa4 _ _)) ?_
  simp only [Act.put, List.setIfInBounds_toArray, List.set_cons_zero, List.set_cons_succ]
  refine st_to (some 24) rfl rfl (ex_load rfl rfl (ld3 q)) ?_
  simp only [Act.put, List.setIfInBounds_toArray, List.set_cons_zero, List.set_cons_succ]
  refine st_call (some 25) rfl rfl (rnumber_any y W hy) (ex_call (f := 44) (vs := [.int .i64 (y : Int)]) rfl (cfNumber _) rfl) ?_
  rintro e w2 ⟨v, rfl, HO, HB2⟩
  refine ⟨_, rfl, ?_⟩
  simp only [Act.put, List.setIfInBounds_toArray, List.set_cons_zero, List.set_cons_succ]
  have HOO := HO.out
  obtain ⟨ao, cap, rfl, hI, _, _⟩ := own_isB HO.out
  have hfr : ∀ x, ao = some x → digs y ≠ [] → w.heap.size ≤ x.block := fun x hx _ => by
    subst hx
    rcases HOO.2 with ⟨e, _⟩ | ⟨g, cap', cur, e, hBg, _⟩
    · cases e
    · cases e
      exact Nat.le_trans HB.size hBg
  refine st_to (some 4) rfl rfl (ex_asg (v := .slice ao (digs y).length cap) rfl rfl) ?_
  simp only [Act.put, List.setIfInBounds_toArray, List.set_cons_zero, List.set_cons_succ]
  refine st_end ?_
  refine wp_ret ?_
  refine bodyPost_ret (v := .slice ao (digs y).length cap) ?_ rfl ⟨ao, cap, rfl, hI, HB.trans (HB2.out.mono HB.size), fun x hx hne => .inl (hfr x hx hne)⟩
  rw [results_tmp Try.results24]
  rfl
set_option maxHeartbeats 2000000 in
theorem val4 (K : Int) (F : Nat → Fld) (hF : Fits F) (w : World) (hG : Good w F) (hn : ∀ n, F 4 = .num n → 0 ≤ n ∧ n ≤ 9223372036854775807) :
    Calls Try.prog 24 #[.agg (mc K F).toArray, .int .u64 9] w (ValP (F 4) w) := by
  obtain ⟨W, hW⟩ : ∃ W, w.alloc (.cells (mc K F).toArray 25) = W := ⟨_, rfl⟩
  have M1 : MsgAt W w.heap.size K F := by rw [← hW]; exact MsgAt.new w K hF
  have HB : Below w.heap.size w W := by rw [← hW]; exact (Below.refl _ _).alloc (Nat.le_refl _) _
  obtain ⟨C, hC⟩ : ∃ C, (mc K F).toArray = C := ⟨_, rfl⟩
  rw [hC] at hW ⊢
  clear hC
  obtain ⟨l, hx, ll⟩ := fits_arr (hF 4 (by omega)) rfl
  have q : IsB W (some ⟨w.heap.size, 5, none⟩) 32 l := isB_arr M1 (i := 4) (by omega) hx 32
  rw [hx]
  go_enter Try.func24, Try.ntmps24
  refine wp_seq (wp_region_lit ?_)
  refine st_to (some 2) rfl rfl (ex_box25 (C := C) rfl rfl) ?_
  simp only [Act.put, List.setIfInBounds_toArray, List.set_cons_zero, List.set_cons_succ]
  rw [hW]
  refine st_to (some 4) rfl rfl (ex_asg (v := .slice none 0 0) rfl rfl) ?_
  simp only [Act.put, List.setIfInBounds_toArray, List.set_cons_zero, List.set_cons_succ]
  refine st_end ?_
  refine wp_seq ?_
  refine wp_seq (wp_region_lit ?_)
  refine st_to (some 5) rfl rfl (ex_mv (v := .int .u64 9) rfl rfl) ?_
  simp only [Act.put, List.setIfInBounds_toArray, List.set_cons_zero, List.set_cons_succ]
  refine st_end ?_
  refine wp_block ?_
  refine wp_seq (wp_region_lit ?_)
  refine st_to (some 7) rfl rfl (ex_bin (c := .bool false) rfl rfl rfl (eg36 _ _ _ _ _ _) (eq36 9 1 _)) ?_
  simp only [Act.put, List.setIfInBounds_toArray, List.set_cons_zero, List.set_cons_succ]
  refine st_to (some 6) rfl rfl (ex_asg (v := .bool false) rfl rfl) ?_
  simp only [Act.put, List.setIfInBounds_toArray, List.set_cons_zero, List.set_cons_succ]
  refine st_end ?_
  refine wp_cond_false rfl ?_
  refine wp_seq (wp_region_lit ?_)
  refine st_to (some 12) rfl rfl (ex_bin (c := .bool false) rfl rfl rfl (eg36 _ _ _ _ _ _) (eq36 9 3 _)) ?_
  simp only [Act.put, List.setIfInBounds_toArray, List.set_cons_zero, List.set_cons_succ]
  refine st_to (some 11) rfl rfl (ex_asg (v := .bool false) rfl rfl) ?_
  simp only [Act.put, List.setIfInBounds_toArray, List.set_cons_zero, List.set_cons_succ]
  refine st_end ?_
  refine wp_cond_false rfl ?_
  refine wp_seq (wp_region_lit ?_)
  refine st_to (some 17) rfl rfl (ex_bin (c := .bool false) rfl rfl rfl (eg36 _ _ _ _ _ _) (eq36 9 5 _)) ?_
  simp only [Act.put, List.setIfInBounds_toArray, List.set_cons_zero, List.set_cons_succ]
  refine st_to (some 16) rfl rfl (ex_asg (v := .bool false) rfl rfl) ?_
  simp only [Act.put, List.setIfInBounds_toArray, List.set_cons_zero, List.set_cons_succ]
  refine st_end ?_
  refine wp_cond_false rfl ?_
  refine wp_seq (wp_region_lit ?_)
  refine st_to (some 22) rfl rfl (ex_bin (c := .bool false) rfl rfl rfl (eg36 _ _ _ _ _ _) (eq36 9 7 _)) ?_
  simp only [Act.put, List.setIfInBounds_toArray, List.set_cons_zero, List.set_cons_succ]
  refine st_to (some 21) rfl rfl (ex_asg (v := .bool false) rfl rfl) ?_
  simp only [Act.put, List.setIfInBounds_toArray, List.set_cons_zero, List.set_cons_succ]
  refine st_end ?_
  refine wp_cond_false rfl ?_
  refine wp_seq (wp_region_lit ?_)
  refine st_to (some 27) rfl rfl (ex_bin (c := .bool true) rfl rfl rfl (eg36 _ _ _ _ _ _) (eq36 9 9 _)) ?_
  simp only [Act.put, List.setIfInBounds_toArray, List.set_cons_zero, List.set_cons_succ]
  refine st_to (some 26) rfl rfl (ex_asg (v := .bool true) rfl rfl) ?_
  simp only [Act.put, List.setIfInBounds_toArray, List.set_cons_zero, List.set_cons_succ]
  refine st_end ?_
  refine wp_cond_true rfl ?_
  refine wp_seq (wp_region_lit ?_)
  refine st_to (some 28) rfl rfl (ex_fld rfl rfl (fa5 _ _)) ?_
  simp only [Act.put, List.setIfInBounds_toArray, List.set_cons_zero, List.set_cons_succ]
  refine st_to (some 29) rfl rfl (ex_slice22 rfl rfl) ?_
  simp only [Act.put, List.setIfInBounds_toArray, List.set_cons_zero, List.set_cons_succ]
  refine st_to (some 4) rfl rfl (ex_asg (v := .slice (some ⟨w.heap.size, 5, none⟩) 32 32) rfl rfl) ?_
  simp only [Act.put, List.setIfInBounds_toArray, List.set_cons_zero, List.set_cons_succ]
  refine st_end ?_
  refine wp_ret ?_
  refine bodyPost_ret (v := .slice (some ⟨w.heap.size, 5, none⟩) 32 32) ?_ rfl ⟨_, 32, by show _ = Ending.returned (.slice _ l.length 32); rw [ll], q, HB, fun x hx _ => .inl (by cases hx; exact Nat.le_refl _)⟩
  rw [results_tmp Try.results24]
  rfl
set_option maxHeartbeats 2000000 in
theorem val5 (K : Int) (F : Nat → Fld) (hF : Fits F) (w : World) (hG : Good w F) (hn : ∀ n, F 5 = .num n → 0 ≤ n ∧ n ≤ 9223372036854775807) :
    Calls Try.prog 24 #[.agg (mc K F).toArray, .int .u64 11] w (ValP (F 5) w) := by
  obtain ⟨W, hW⟩ : ∃ W, w.alloc (.cells (mc K F).toArray 25) = W := ⟨_, rfl⟩
  have M1 : MsgAt W w.heap.size K F := by rw [← hW]; exact MsgAt.new w K hF
  have HB : Below w.heap.size w W := by rw [← hW]; exact (Below.refl _ _).alloc (Nat.le_refl _) _
  obtain ⟨C, hC⟩ : ∃ C, (mc K F).toArray = C := ⟨_, rfl⟩
  rw [hC] at hW ⊢
  clear hC
  obtain ⟨xa, xc, l, hx⟩ := fits_lst (hF 5 (by omega)) rfl
  have q : W.cell? ⟨w.heap.size, 37, none⟩ = some (.slice xa l.length xc) := M1.lst (i := 5) (by omega) hx
  have hg := (hG 5 (by omega)).below HB
  rw [hx] at hg ⊢
  go_enter Try.func24, Try.ntmps24
  refine wp_seq (wp_region_lit ?_)
  refine st_to (some 2) rfl rfl (ex_box25 (C := C) rfl rfl) ?_
  simp only [Act.put, List.setIfInBounds_toArray, List.set_cons_zero, List.set_cons_succ]
  rw [hW]
  refine st_to (some 4) rfl rfl (ex_asg (v := .slice none 0 0) rfl rfl) ?_
  simp only [Act.put, List.setIfInBounds_toArray, List.set_cons_zero, List.set_cons_succ]
  refine st_end ?_
  refine wp_seq ?_
  refine wp_seq (wp_region_lit ?_)
  refine st_to (some 5) rfl rfl (ex_mv (v := .int .u64 11) rfl rfl) ?_
  simp only [Act.put, List.setIfInBounds_toArray, List.set_cons_zero, List.set_cons_succ]
  refine st_end ?_
  refine wp_block ?_
  refine wp_seq (wp_region_lit ?_)
  refine st_to (some 7) rfl rfl (ex_bin (c := .bool false) rfl rfl rfl (eg36 _ _ _ _ _ _) (eq36 11 1 _)) ?_
  simp only [Act.put, List.setIfInBounds_toArray, List.set_cons_zero, List.set_cons_succ]
  refine st_to (some 6) rfl rfl (ex_asg (v := .bool false) rfl rfl) ?_
  simp only [Act.put, List.setIfInBounds_toArray, List.set_cons_zero, List.set_cons_succ]
  refine st_end ?_
  refine wp_cond_false rfl ?_
  refine wp_seq (wp_region_lit ?_)
  refine st_to (some 12) rfl rfl (ex_bin (c := .bool false) rfl rfl rfl (eg36 _ _ _ _ _ _) (eq36 11 3 _)) ?_
  simp only [Act.put, List.setIfInBounds_toArray, List.set_cons_zero, List.set_cons_succ]
  refine st_to (some 11) rfl rfl (ex_asg (v := .bool false) rfl rfl) ?_
  simp only [Act.put, List.setIfInBounds_toArray, List.set_cons_zero, List.set_cons_succ]
  refine st_end ?_
  refine wp_cond_false rfl ?_
  refine wp_seq (wp_region_lit ?_)
  refine st_to (some 17) rfl rfl (ex_bin (c := .bool false) rfl rfl rfl (eg36 _ _ _ _ _ _) (eq36 11 5 _)) ?_
  simp only [Act.put, List.setIfInBounds_toArray, List.set_cons_zero, List.set_cons_succ]
  refine st_to (some 16) rfl rfl (ex_asg (v := .bool false) rfl rfl) ?_
  simp only [Act.put, List.setIfInBounds_toArray, List.set_cons_zero, List.set_cons_succ]
  refine st_end ?_
  refine wp_cond_false rfl ?_
  refine wp_seq (wp_region_lit ?_)
  refine st_to (some 22) rfl rfl (ex_bin (c := .bool false) rfl rfl rfl (eg36 _ _ _ _ _ _) (eq36 11 7 _)) ?_
  simp only [Act.put, List.setIfInBounds_toArray, List.set_cons_zero, List.set_cons_succ]
  refine st_to (some 21) rfl rfl (ex_asg (v := .bool false) rfl rfl) ?_
  simp only [Act.put, List.setIfInBounds_toArray, List.set_cons_zero, List.set_cons_succ]
  refine st_end ?_
  refine wp_cond_false rfl ?_
  refine wp_seq (wp_region_lit ?_)
  refine st_to (some 27) rfl rfl (ex_bin (c := .bool false) rfl rfl rfl (eg36 _ _ _ _ _ _) (eq36 11 9 _)) ?_
  simp only [Act.put, List.setIfInBounds_toArray, List.set_cons_zero, List.set_cons_succ]
  refine st_to (some 26) rfl rfl (ex_asg (v := .bool false) rfl rfl) ?_
  simp only [Act.put, List.setIfInBounds_toArray, List.set_cons_zero, List.set_cons_succ]
  refine st_end ?_
  refine wp_cond_false rfl ?_
  refine wp_seq (wp_region_lit ?_)
  refine st_to (some 31) rfl rfl (ex_bin (c := .bool true) rfl rfl rfl (eg36 _ _ _ _ _ _) (eq36 11 11 _)) ?_
  simp only [Act.put, List.setIfInBounds_toArray, List.set_cons_zero, List.set_cons_succ]
  refine st_to (some 30) rfl rfl (ex_asg (v := .bool true) rfl rfl) ?_
  simp only [Act.put, List.setIfInBounds_toArray, List.set_cons_zero, List.set_cons_succ]
  refine st_end ?_
  refine wp_cond_true rfl ?_
  refine wp_seq (wp_region_lit ?_)
  refine st_to (some 32) rfl rfl (ex_fld rfl rfl (fa6 _ _)) ?_
  simp only [Act.put, List.setIfInBounds_toArray, List.set_cons_zero, List.set_cons_succ]
  refine st_to (some 33) rfl rfl (ex_load rfl rfl (ld23 q)) ?_
  simp only [Act.put, List.setIfInBounds_toArray, List.set_cons_zero, List.set_cons_succ]
  refine st_to (some 4) rfl rfl (ex_asg (v := .slice xa l.length xc) rfl rfl) ?_
  simp only [Act.put, List.setIfInBounds_toArray, List.set_cons_zero, List.set_cons_succ]
  refine st_end ?_
  refine wp_ret ?_
  refine bodyPost_ret (v := .slice xa l.length xc) ?_ rfl ⟨xa, xc, rfl, hg.1, HB, fun x hx _ => .inr ⟨xc, l, by rw [hx]⟩⟩
  rw [results_tmp Try.results24]
  rfl
set_option maxHeartbeats 2000000 in
theorem val6 (K : Int) (F : Nat → Fld) (hF : Fits F) (w : World) (hG : Good w F) (hn : ∀ n, F 6 = .num n → 0 ≤ n ∧ n ≤ 9223372036854775807) :
    Calls Try.prog 24 #[.agg (mc K F).toArray, .int .u64 13] w (ValP (F 6) w) := by
  obtain ⟨W, hW⟩ : ∃ W, w.alloc (.cells (mc K F).toArray 25) = W := ⟨_, rfl⟩
  have M1 : MsgAt W w.heap.size K F := by rw [← hW]; exact MsgAt.new w K hF
  have HB : Below w.heap.size w W := by rw [← hW]; exact (Below.refl _ _).alloc (Nat.le_refl _) _
  obtain ⟨C, hC⟩ : ∃ C, (mc K F).toArray = C := ⟨_, rfl⟩
  rw [hC] at hW ⊢
  clear hC
  obtain ⟨l, hx, ll⟩ := fits_arr (hF 6 (by omega)) rfl
  have q : IsB W (some ⟨w.heap.size, 38, none⟩) 32 l := isB_arr M1 (i := 6) (by omega) hx 32
  rw [hx]
  go_enter Try.func24, Try.ntmps24
  refine wp_seq (wp_region_lit ?_)
  refine st_to (some 2) rfl rfl (ex_box25 (C := C) rfl rfl) ?_
  simp only [Act.put, List.setIfInBounds_toArray, List.set_cons_zero, List.set_cons_succ]
  rw [hW]
  refine st_to (some 4) rfl rfl (ex_asg (v := .slice none 0 0) rfl rfl) ?_
  simp only [Act.put, List.setIfInBounds_toArray, List.set_cons_zero, List.set_cons_succ]
  refine st_end ?_
  refine wp_seq ?_
  refine wp_seq (wp_region_lit ?_)
  refine st_to (some 5) rfl rfl (ex_mv (v := .int .u64 13) rfl rfl) ?_
  simp only [Act.put, List.setIfInBounds_toArray, List.set_cons_zero, List.set_cons_succ]
  refine st_end ?_
  refine wp_block ?_
  refine wp_seq (wp_region_lit ?_)
  refine st_to (some 7) rfl rfl (ex_bin (c := .bool false) rfl rfl rfl (eg36 _ _ _ _ _ _) (eq36 13 1 _)) ?_
  simp only [Act.put, List.setIfInBounds_toArray, List.set_cons_zero, List.set_cons_succ]
  refine st_to (some 6) rfl rfl (ex_asg (v := .bool false) rfl rfl) ?_
  simp only [Act.put, List.setIfInBounds_toArray, List.set_cons_zero, List.set_cons_succ]
  refine st_end ?_
  refine wp_cond_false rfl ?_
  refine wp_seq (wp_region_lit ?_)
  refine st_to (some 12) rfl rfl (ex_bin (c := .bool false) rfl rfl rfl (eg36 _ _ _ _ _ _) (eq36 13 3 _)) ?_
  simp only [Act.put, List.setIfInBounds_toArray, List.set_cons_zero, List.set_cons_succ]
  refine st_to (some 11) rfl rfl (ex_asg (v := .bool false) rfl rfl) ?_
  simp only [Act.put, List.setIfInBounds_toArray, List.set_cons_zero, List.set_cons_succ]
  refine st_end ?_
  refine wp_cond_false rfl ?_
  refine wp_seq (wp_region_lit ?_)
  refine st_to (some 17) rfl rfl (ex_bin (c := .bool false) rfl rfl rfl (eg36 _ _ _ _ _ _) (eq36 13 5 _)) ?_
  simp only [Act.put, List.setIfInBounds_toArray, List.set_cons_zero, List.set_cons_succ]
  refine st_to (some 16) rfl rfl (ex_asg (v := .bool false) rfl rfl) ?_
  simp only [Act.put, List.setIfInBounds_toArray, List.set_cons_zero, List.set_cons_succ]
  refine st_end ?_
  refine wp_cond_false rfl ?_
  refine wp_seq (wp_region_lit ?_)
  refine st_to (some 22) rfl rfl (ex_bin (c := .bool false) rfl rfl rfl (eg36 _ _ _ _ _ _) (eq36 13 7 _)) ?_
  simp only [Act.put, List.setIfInBounds_toArray, List.set_cons_zero, List.set_cons_succ]
  refine st_to (some 21) rfl rfl (ex_asg (v := .bool false) rfl rfl) ?_
  simp only [Act.put, List.setIfInBounds_toArray, List.set_cons_zero, List.set_cons_succ]
  refine st_end ?_
  refine wp_cond_false rfl ?_
  refine wp_seq (wp_region_lit ?_)
  refine st_to (some 27) rfl rfl (ex_bin (c := .bool false) rfl rfl rfl (eg36 _ _ _ _ _ _) (eq36 13 9 _)) ?_
  simp only [Act.put, List.setIfInBounds_toArray, List.set_cons_zero, List.set_cons_succ]
  refine st_to (some 26) rfl rfl (ex_asg (v := .bool false) rfl rfl) ?_
  simp only [Act.put, List.setIfInBounds_toArray, List.set_cons_zero, List.set_cons_succ]
  refine st_end ?_
  refine wp_cond_false rfl ?_
  refine wp_seq (wp_region_lit ?_)
  refine st_to (some 31) rfl rfl (ex_bin (c := .bool false) rfl rfl rfl (eg36 _ _ _ _ _ _) (eq36 13 11 _)) ?_
  simp only [Act.put, List.setIfInBounds_toArray, List.set_cons_zero, List.set_cons_succ]
  refine st_to (some 30) rfl rfl (ex_asg (v := .bool false) rfl rfl) ?_
  simp only [Act.put, List.setIfInBounds_toArray, List.set_cons_zero, List.set_cons_succ]
  refine st_end ?_
  refine wp_cond_false rfl ?_
  refine wp_seq (wp_region_lit ?_)
  refine st_to (some 35) rfl rfl (ex_bin (c := .bool true) rfl rfl rfl (eg36 _ _ _ _ _ _) (eq36 13 13 _)) ?_
  simp only [Act.put, List.setIfInBounds_toArray, List.set_cons_zero, List.set_cons_succ]
  refine st_to (some 34) rfl rfl (ex_asg (v := .bool true) rfl rfl) ?_
  simp only [Act.put, List.setIfInBounds_toArray, List.set_cons_zero, List.set_cons_succ]
  refine st_end ?_
  refine wp_cond_true rfl ?_
  refine wp_seq (wp_region_lit ?_)
  refine st_to (some 36) rfl rfl (ex_fld rfl rfl (fa7 _ _)) ?_
  simp only [Act.put, List.setIfInBounds_toArray, List.set_cons_zero, List.set_cons_succ]
  refine st_to (some 37) rfl rfl (ex_slice22 rfl rfl) ?_
  simp only [Act.put, List.setIfInBounds_toArray, List.set_cons_zero, List.set_cons_succ]
  refine st_to (some 4) rfl rfl (ex_asg (v := .slice (some ⟨w.heap.size, 38, none⟩) 32 32) rfl rfl) ?_
  simp only [Act.put, List.setIfInBounds_toArray, List.set_cons_zero, List.set_cons_succ]
  refine st_end ?_
  refine wp_ret ?_
  refine bodyPost_ret (v := .slice (some ⟨w.heap.size, 38, none⟩) 32 32) ?_ rfl ⟨_, 32, by show _ = Ending.returned (.slice _ l.length 32); rw [ll], q, HB, fun x hx _ => .inl (by cases hx; exact Nat.le_refl _)⟩
  rw [results_tmp Try.results24]
  rfl
set_option maxHeartbeats 2000000 in
theorem val7 (K : Int) (F : Nat → Fld) (hF : Fits F) (w : World) (hG : Good w F) (hn : ∀ n, F 7 = .num n → 0 ≤ n ∧ n ≤ 9223372036854775807) :
    Calls Try.prog 24 #[.agg (mc K F).toArray, .int .u64 15] w (ValP (F 7) w) := by
  obtain ⟨W, hW⟩ : ∃ W, w.alloc (.cells (mc K F).toArray 25) = W := ⟨_, rfl⟩
  have M1 : MsgAt W w.heap.size K F := by rw [← hW]; exact MsgAt.new w K hF
  have HB : Below w.heap.size w W := by rw [← hW]; exact (Below.refl _ _).alloc (Nat.le_refl _) _
  obtain ⟨C, hC⟩ : ∃ C, (mc K F).toArray = C := ⟨_, rfl⟩
  rw [hC] at hW ⊢
  clear hC
  obtain ⟨l, hx, ll⟩ := fits_arr (hF 7 (by omega)) rfl
  have q : IsB W (some ⟨w.heap.size, 70, none⟩) 32 l := isB_arr M1 (i := 7) (by omega) hx 32
  rw [hx]
  go_enter Try.func24, Try.ntmps24
  refine wp_seq (wp_region_lit ?_)
  refine st_to (some 2) rfl rfl (ex_box25 (C := C) rfl rfl) ?_
  simp only [Act.put, List.setIfInBounds_toArray, List.set_cons_zero, List.set_cons_succ]
  rw [hW]
  refine st_to (some 4) rfl rfl (ex_asg (v := .slice none 0 0) rfl rfl) ?_
  simp only [Act.put, List.setIfInBounds_toArray, List.set_cons_zero, List.set_cons_succ]
  refine st_end ?_
  refine wp_seq ?_
  refine wp_seq (wp_region_lit ?_)
  refine st_to (some 5) rfl rfl (ex_mv (v := .int .u64 15) rfl rfl) ?_
  simp only [Act.put, List.setIfInBounds_toArray, List.set_cons_zero, List.set_cons_succ]
  refine st_end ?_
  refine wp_block ?_
  refine wp_seq (wp_region_lit ?_)
  refine st_to (some 7) rfl rfl (ex_bin (c := .bool false) rfl rfl rfl (eg36 _ _ _ _ _ _) (eq36 15 1 _)) ?_
  simp only [Act.put, List.setIfInBounds_toArray, List.set_cons_zero, List.set_cons_succ]
  refine st_to (some 6) rfl rfl (ex_asg (v := .bool false) rfl rfl) ?_
  simp only [Act.put, List.setIfInBounds_toArray, List.set_cons_zero, List.set_cons_succ]
  refine st_end ?_
  refine wp_cond_false rfl ?_
  refine wp_seq (wp_region_lit ?_)
  refine st_to (some 12) rfl rfl (ex_bin (c := .bool false) rfl rfl rfl (eg36 _ _ _ _ _ _) (eq36 15 3 _)) ?_
  simp only [Act.put, List.setIfInBounds_toArray, List.set_cons_zero, List.set_cons_succ]
  refine st_to (some 11) rfl rfl (ex_asg (v := .bool false) rfl rfl) ?_
  simp only [Act.put, List.setIfInBounds_toArray, List.set_cons_zero, List.set_cons_succ]
  refine st_end ?_
  refine wp_cond_false rfl ?_
  refine wp_seq (wp_region_lit ?_)
  refine st_to (some 17) rfl rfl (ex_bin (c := .bool false) rfl rfl rfl (eg36 _ _ _ _ _ _) (eq36 15 5 _)) ?_
  simp only [Act.put, List.setIfInBounds_toArray, List.set_cons_zero, List.set_cons_succ]
  refine st_to (some 16) rfl rfl (ex_asg (v := .bool false) rfl rfl) ?_
  simp only [Act.put, List.setIfInBounds_toArray, List.set_cons_zero, List.set_cons_succ]
  refine st_end ?_
  refine wp_cond_false rfl ?_
  refine wp_seq (wp_region_lit ?_)
  refine st_to (some 22) rfl rfl (ex_bin (c := .bool false) rfl rfl rfl (eg36 _ _ _ _ _ _) (eq36 15 7 _)) ?_
  simp only [Act.put, List.setIfInBounds_toArray, List.set_cons_zero, List.set_cons_succ]
  refine st_to (some 21) rfl rfl (ex_asg (v := .bool false) rfl rfl) ?_
  simp only [Act.put, List.setIfInBounds_toArray, List.set_cons_zero, List.set_cons_succ]
  refine st_end ?_
  refine wp_cond_false rfl ?_
  refine wp_seq (wp_region_lit ?_)
  refine st_to (some 27) rfl rfl (ex_bin (c := .bool false) rfl rfl rfl (eg36 _ _ _ _ _ _) (eq36 15 9 _)) ?_
  simp only [Act.put, List.setIfInBounds_toArray, List.set_cons_zero, List.set_cons_succ]
  refine st_to (some 26) rfl rfl (ex_asg (v := .bool false) rfl rfl) ?_
  simp only [Act.put, List.setIfInBounds_toArray, List.set_cons_zero, List.set_cons_succ]
  refine st_end ?_
  refine wp_cond_false rfl ?_
  refine wp_seq (wp_region_lit ?_)
  refine st_to (some 31) rfl rfl (ex_bin (c := .bool false) rfl rfl rfl (eg36 _ _ _ _ _ _) (eq36 15 11 _)) ?_
  simp only [Act.put, List.setIfInBounds_toArray, List.set_cons_zero, List.set_cons_succ]
  refine st_to (some 30) rfl rfl (ex_asg (v := .bool false) rfl rfl) ?_
  simp only [Act.put, List.setIfInBounds_toArray, List.set_cons_zero, List.set_cons_succ]
  refine st_end ?_
  refine wp_cond_false rfl ?_
  refine wp_seq (wp_region_lit ?_)
  refine st_to (some 35) rfl rfl (ex_bin (c := .bool false) rfl rfl rfl (eg36 _ _ _ _ _ _) (eq36 15 13 _)) ?_
  simp only [Act.put, List.setIfInBounds_toArray, List.set_cons_zero, List.set_cons_succ]
  refine st_to (some 34) rfl rfl (ex_asg (v := .bool false) rfl rfl) ?_
  simp only [Act.put, List.setIfInBounds_toArray, List.set_cons_zero, List.set_cons_succ]
  refine st_end ?_
  refine wp_cond_false rfl ?_
  refine wp_seq (wp_region_lit ?_)
  refine st_to (some 39) rfl rfl (ex_bin (c := .bool true) rfl rfl rfl (eg36 _ _ _ _ _ _) (eq36 15 15 _)) ?_
  simp only [Act.put, List.setIfInBounds_toArray, List.set_cons_zero, List.set_cons_succ]
  refine st_to (some 38) rfl rfl (ex_asg (v := .bool true) rfl rfl) ?_
  simp only [Act.put, List.setIfInBounds_toArray, List.set_cons_zero, List.set_cons_succ]
  refine st_end ?_
  refine wp_cond_true rfl ?_
  refine wp_seq (wp_region_lit ?_)
  refine st_to (some 40) rfl rfl (ex_fld rfl rfl (fa8 _ _)) ?_
  simp only [Act.put, List.setIfInBounds_toArray, List.set_cons_zero, List.set_cons_succ]
  refine st_to (some 41) rfl rfl (ex_slice22 rfl rfl) ?_
  simp only [Act.put, List.setIfInBounds_toArray, List.set_cons_zero, List.set_cons_succ]
  refine st_to (some 4) rfl rfl (ex_asg (v := .slice (some ⟨w.heap.size, 70, none⟩) 32 32) rfl rfl) ?_
  simp only [Act.put, List.setIfInBounds_toArray, List.set_cons_zero, List.set_cons_succ]
  refine st_end ?_
  refine wp_ret ?_
  refine bodyPost_ret (v := .slice (some ⟨w.heap.size, 70, none⟩) 32 32) ?_ rfl ⟨_, 32, by show _ = Ending.returned (.slice _ l.length 32); rw [ll], q, HB, fun x hx _ => .inl (by cases hx; exact Nat.le_refl _)⟩
  rw [results_tmp Try.results24]
  rfl
set_option maxHeartbeats 2000000 in
theorem val8 (K : Int) (F : Nat → Fld) (hF : Fits F) (w : World) (hG : Good w F) (hn : ∀ n, F 8 = .num n → 0 ≤ n ∧ n ≤ 9223372036854775807) :
    Calls Try.prog 24 #[.agg (mc K F).toArray, .int .u64 17] w (ValP (F 8) w) := by
  obtain ⟨W, hW⟩ : ∃ W, w.alloc (.cells (mc K F).toArray 25) = W := ⟨_, rfl⟩
  have M1 : MsgAt W w.heap.size K F := by rw [← hW]; exact MsgAt.new w K hF
  have HB : Below w.heap.size w W := by rw [← hW]; exact (Below.refl _ _).alloc (Nat.le_refl _) _
  obtain ⟨C, hC⟩ : ∃ C, (mc K F).toArray = C := ⟨_, rfl⟩
  rw [hC] at hW ⊢
  clear hC
  obtain ⟨l, hx, ll⟩ := fits_arr (hF 8 (by omega)) rfl
  have q : IsB W (some ⟨w.heap.size, 102, none⟩) 32 l := isB_arr M1 (i := 8) (by omega) hx 32
  rw [hx]
  go_enter Try.func24, Try.ntmps24
  refine wp_seq (wp_region_lit ?_)
  refine st_to (some 2) rfl rfl (ex_box25 (C := C) rfl rfl) ?_
  simp only [Act.put, List.setIfInBounds_toArray, List.set_cons_zero, List.set_cons_succ]
  rw [hW]
  refine st_to (some 4) rfl rfl (ex_asg (v := .slice none 0 0) rfl rfl) ?_
  simp only [Act.put, List.setIfInBounds_toArray, List.set_cons_zero, List.set_cons_succ]
  refine st_end ?_
  refine wp_seq ?_
  refine wp_seq (wp_region_lit ?_)
  refine st_to (some 5) rfl rfl (ex_mv (v := .int .u64 17) rfl rfl) ?_
  simp only [Act.put, List.setIfInBounds_toArray, List.set_cons_zero, List.set_cons_succ]
  refine st_end ?_
  refine wp_block ?_
  refine wp_seq (wp_region_lit ?_)
  refine st_to (some 7) rfl rfl (ex_bin (c := .bool false) rfl rfl rfl (eg36 _ _ _ _ _ _) (eq36 17 1 _)) ?_
  simp only [Act.put, List.setIfInBounds_toArray, List.set_cons_zero, List.set_cons_succ]
  refine st_to (some 6) rfl rfl (ex_asg (v := .bool false) rfl rfl) ?_
  simp only [Act.put, List.setIfInBounds_toArray, List.set_cons_zero, List.set_cons_succ]
  refine st_end ?_
  refine wp_cond_false rfl ?_
  refine wp_seq (wp_region_lit ?_)
  refine st_to (some 12) rfl rfl (ex_bin (c := .bool false) rfl rfl rfl (eg36 _ _ _ _ _ _) (eq36 17 3 _)) ?_
  simp only [Act.put, List.setIfInBounds_toArray, List.set_cons_zero, List.set_cons_succ]
  refine st_to (some 11) rfl rfl (ex_asg (v := .bool false) rfl rfl) ?_
  simp only [Act.put, List.setIfInBounds_toArray, List.set_cons_zero, List.set_cons_succ]
  refine st_end ?_
  refine wp_cond_false rfl ?_
  refine wp_seq (wp_region_lit ?_)
  refine st_to (some 17) rfl rfl (ex_bin (c := .bool false) rfl rfl rfl (eg36 _ _ _ _ _ _) (eq36 17 5 _)) ?_
  simp only [Act.put, List.setIfInBounds_toArray, List.set_cons_zero, List.set_cons_succ]
  refine st_to (some 16) rfl rfl (ex_asg (v := .bool false) rfl rfl) ?_
  simp only [Act.put, List.setIfInBounds_toArray, List.set_cons_zero, List.set_cons_succ]
  refine st_end ?_
  refine wp_cond_false rfl ?_
  refine wp_seq (wp_region_lit ?_)
  refine st_to (some 22) rfl rfl (ex_bin (c := .bool false) rfl rfl rfl (eg36 _ _ _ _ _ _) (eq36 17 7 _)) ?_
  simp only [Act.put, List.setIfInBounds_toArray, List.set_cons_zero, List.set_cons_succ]
  refine st_to (some 21) rfl rfl (ex_asg (v := .bool false) rfl rfl) ?_
  simp only [Act.put, List.setIfInBounds_toArray, List.set_cons_zero, List.set_cons_succ]
  refine st_end ?_
  refine wp_cond_false rfl ?_
  refine wp_seq (wp_region_lit ?_)
  refine st_to (some 27) rfl rfl (ex_bin (c := .bool false) rfl rfl rfl (eg36 _ _ _ _ _ _) (eq36 17 9 _)) ?_
  simp only [Act.put, List.setIfInBounds_toArray, List.set_cons_zero, List.set_cons_succ]
  refine st_to (some 26) rfl rfl (ex_asg (v := .bool false) rfl rfl) ?_
  simp only [Act.put, List.setIfInBounds_toArray, List.set_cons_zero, List.set_cons_succ]
  refine st_end ?_
  refine wp_cond_false rfl ?_
  refine wp_seq (wp_region_lit ?_)
  refine st_to (some 31) rfl rfl (ex_bin (c := .bool false) rfl rfl rfl (eg36 _ _ _ _ _ _) (eq36 17 11 _)) ?_
  simp only [Act.put, List.setIfInBounds_toArray, List.set_cons_zero, List.set_cons_succ]
  refine st_to (some 30) rfl rfl (ex_asg (v := .bool false) rfl rfl) ?_
  simp only [Act.put, List.setIfInBounds_toArray, List.set_cons_zero, List.set_cons_succ]
  refine st_end ?_
  refine wp_cond_false rfl ?_
  refine wp_seq (wp_region_lit ?_)
  refine st_to (some 35) rfl rfl (ex_bin (c := .bool false) rfl rfl rfl (eg36 _ _ _ _ _ _) (eq36 17 13 _)) ?_
  simp only [Act.put, List.setIfInBounds_toArray, List.set_cons_zero, List.set_cons_succ]
  refine st_to (some 34) rfl rfl (ex_asg (v := .bool false) rfl rfl) ?_
  simp only [Act.put, List.setIfInBounds_toArray, List.set_cons_zero, List.set_cons_succ]
  refine st_end ?_
  refine wp_cond_false rfl ?_
  refine wp_seq (wp_region_lit ?_)
  refine st_to (some 39) rfl rfl (ex_bin (c := .bool false) rfl rfl rfl (eg36 _ _ _ _ _ _) (eq36 17 15 _)) ?_
  simp only [Act.put, List.setIfInBounds_toArray, List.set_cons_zero, List.set_cons_succ]
  refine st_to (some 38) rfl rfl (ex_asg (v := .bool false) rfl rfl) ?_
  simp only [Act.put, List.setIfInBounds_toArray, List.set_cons_zero, List.set_cons_succ]
  refine st_end ?_
  refine wp_cond_false rfl ?_
  refine wp_seq (wp_region_lit ?_)
  refine st_to (some 43) rfl rfl (ex_bin (c := .bool true) rfl rfl rfl (eg36 _ _ _ _ _ _) (eq36 17 17 _)) ?_
  simp only [Act.put, List.setIfInBounds_toArray, List.set_cons_zero, List.set_cons_succ]
  refine st_to (some 42) rfl rfl (ex_asg (v := .bool true) rfl rfl) ?_
  simp only [Act.put, List.setIfInBounds_toArray, List.set_cons_zero, List.set_cons_succ]
  refine st_end ?_
  refine wp_cond_true rfl ?_
  refine wp_seq (wp_region_lit ?_)
  refine st_to (some 44) rfl rfl (ex_fld rfl rfl (fa9 _ _)) ?_
  simp only [Act.put, List.setIfInBounds_toArray, List.set_cons_zero, List.set_cons_succ]
  refine st_to (some 45) rfl rfl (ex_slice22 rfl rfl) ?_
  simp only [Act.put, List.setIfInBounds_toArray, List.set_cons_zero, List.set_cons_succ]
  refine st_to (some 4) rfl rfl (ex_asg (v := .slice (some ⟨w.heap.size, 102, none⟩) 32 32) rfl rfl) ?_
  simp only [Act.put, List.setIfInBounds_toArray, List.set_cons_zero, List.set_cons_succ]
  refine st_end ?_
  refine wp_ret ?_
  refine bodyPost_ret (v := .slice (some ⟨w.heap.size, 102, none⟩) 32 32) ?_ rfl ⟨_, 32, by show _ = Ending.returned (.slice _ l.length 32); rw [ll], q, HB, fun x hx _ => .inl (by cases hx; exact Nat.le_refl _)⟩
  rw [results_tmp Try.results24]
  rfl
set_option maxHeartbeats 2000000 in
theorem val9 (K : Int) (F : Nat → Fld) (hF : Fits F) (w : World) (hG : Good w F) (hn : ∀ n, F 9 = .num n → 0 ≤ n ∧ n ≤ 9223372036854775807) :
    Calls Try.prog 24 #[.agg (mc K F).toArray, .int .u64 19] w (ValP (F 9) w) := by
  obtain ⟨W, hW⟩ : ∃ W, w.alloc (.cells (mc K F).toArray 25) = W := ⟨_, rfl⟩
  have M1 : MsgAt W w.heap.size K F := by rw [← hW]; exact MsgAt.new w K hF
  have HB : Below w.heap.size w W := by rw [← hW]; exact (Below.refl _ _).alloc (Nat.le_refl _) _
  obtain ⟨C, hC⟩ : ∃ C, (mc K F).toArray = C := ⟨_, rfl⟩
  rw [hC] at hW ⊢
  clear hC
  obtain ⟨x, hx⟩ := fits_num (hF 9 (by omega)) rfl
  obtain ⟨y, rfl⟩ : ∃ y : Nat, x = (y : Int) := ⟨x.toNat, by have := (hn x hx).1; omega⟩
  have hy : y ≤ 9223372036854775807 := by have := (hn _ hx).2; omega
  have q : W.cell? ⟨w.heap.size, 134, none⟩ = some (.int .i64 (y : Int)) := M1.num (i := 9) (by omega) hx
  rw [hx]
  go_enter Try.func24, Try.ntmps24
  refine wp_seq (wp_region_lit ?_)
  refine st_to (some 2) rfl rfl (ex_box25 (C := C) rfl rfl) ?_
  simp only [Act.put, List.setIfInBounds_toArray, List.set_cons_zero, List.set_cons_succ]
  rw [hW]
  refine st_to (some 4) rfl rfl (ex_asg (v := .slice none 0 0) rfl rfl) ?_
  simp only [Act.put, List.setIfInBounds_toArray, List.set_cons_zero, List.set_cons_succ]
  refine st_end ?_
  refine wp_seq ?_
  refine wp_seq (wp_region_lit ?_)
  refine st_to (some 5) rfl rfl (ex_mv (v := .int .u64 19) rfl rfl) ?_
  simp only [Act.put, List.setIfInBounds_toArray, List.set_cons_zero, List.set_cons_succ]
  refine st_end ?_
  refine wp_block ?_
  refine wp_seq (wp_region_lit ?_)
  refine st_to (some 7) rfl rfl (ex_bin (c := .bool false) rfl rfl rfl (eg36 _ _ _ _ _ _) (eq36 19 1 _)) ?_
  simp only [Act.put, List.setIfInBounds_toArray, List.set_cons_zero, List.set_cons_succ]
  refine st_to (some 6) rfl rfl (ex_asg (v := .bool false) rfl rfl) ?_
  simp only [Act.put, List.setIfInBounds_toArray, List.set_cons_zero, List.set_cons_succ]
  refine st_end ?_
  refine wp_cond_false rfl ?_
  refine wp_seq (wp_region_lit ?_)
  refine st_to (some 12) rfl rfl (ex_bin (c := .bool false) rfl rfl rfl (eg36 _ _ _ _ _ _) (eq36 19 3 _)) ?_
  simp only [Act.put, List.setIfInBounds_toArray, List.set_cons_zero, List.set_cons_succ]
  refine st_to (some 11) rfl rfl (ex_asg (v := .bool false) rfl rfl) ?_
  simp only [Act.put, List.setIfInBounds_toArray, List.set_cons_zero, List.set_cons_succ]
  refine st_end ?_
  refine wp_cond_false rfl ?_
  refine wp_seq (wp_region_lit ?_)
  refine st_to (some 17) rfl rfl (ex_bin (c := .bool false) rfl rfl rfl (eg36 _ _ _ _ _ _) (eq36 19 5 _)) ?_
  simp only [Act.put, List.setIfInBounds_toArray, List.set_cons_zero, List.set_cons_succ]
  refine st_to (some 16) rfl rfl (ex_asg (v := .bool false) rfl rfl) ?_
  simp only [Act.put, List.setIfInBounds_toArray, List.set_cons_zero, List.set_cons_succ]
  refine st_end ?_
  refine wp_cond_false rfl ?_
  refine wp_seq (wp_region_lit ?_)
  refine st_to (some 22) rfl rfl (ex_bin (c := .bool false) rfl rfl rfl (eg36 _ _ _ _ _ _) (eq36 19 7 _)) ?_
  simp only [Act.put, List.setIfInBounds_toArray, List.set_cons_zero, List.set_cons_succ]
  refine st_to (some 21) rfl rfl (ex_asg (v := .bool false) rfl rfl) ?_
  simp only [Act.put, List.setIfInBounds_toArray, List.set_cons_zero, List.set_cons_succ]
  refine st_end ?_
  refine wp_cond_false rfl ?_
  refine wp_seq (wp_region_lit ?_)
  refine st_to (some 27) rfl rfl (ex_bin (c := .bool false) rfl rfl rfl (eg36 _ _ _ _ _ _) (eq36 19 9 _)) ?_
  simp only [Act.put, List.setIfInBounds_toArray, List.set_cons_zero, List.set_cons_succ]
  refine st_to (some 26) rfl rfl (ex_asg (v := .bool false) rfl rfl) ?_
  simp only [Act.put, List.setIfInBounds_toArray, List.set_cons_zero, List.set_cons_succ]
  refine st_end ?_
  refine wp_cond_false rfl ?_
  refine wp_seq (wp_region_lit ?_)
  refine st_to (some 31) rfl rfl (ex_bin (c := .bool false) rfl rfl rfl (eg36 _ _ _ _ _ _) (eq36 19 11 _)) ?_
  simp only [Act.put, List.setIfInBounds_toArray, List.set_cons_zero, List.set_cons_succ]
  refine st_to (some 30) rfl rfl (ex_asg (v := .bool false) rfl rfl) ?_
  simp only [Act.put, List.setIfInBounds_toArray, List.set_cons_zero, List.set_cons_succ]
  refine st_end ?_
  refine wp_cond_false rfl ?_
  refine wp_seq (wp_region_lit ?_)
  refine st_to (some 35) rfl rfl (ex_bin (c := .bool false) rfl rfl rfl (eg36 _ _ _ _ _ _) (eq36 19 13 _)) ?_
  simp only [Act.put, List.setIfInBounds_toArray, List.set_cons_zero, List.set_cons_succ]
  refine st_to (some 34) rfl rfl (ex_asg (v := .bool false) rfl rfl) ?_
  simp only [Act.put, List.setIfInBounds_toArray, List.set_cons_zero, List.set_cons_succ]
  refine st_end ?_
  refine wp_cond_false rfl ?_
  refine wp_seq (wp_region_lit ?_)
  refine st_to (some 39) rfl rfl (ex_bin (c := .bool false) rfl rfl rfl (eg36 _ _ _ _ _ _) (eq36 19 15 _)) ?_
  simp only [Act.put, List.setIfInBounds_toArray, List.set_cons_zero, List.set_cons_succ]
  refine st_to (some 38) rfl rfl (ex_asg (v := .bool false) rfl rfl) ?_
  simp only [Act.put, List.setIfInBounds_toArray, List.set_cons_zero, List.set_cons_succ]
  refine st_end ?_
  refine wp_cond_false rfl ?_
  refine wp_seq (wp_region_lit ?_)
  refine st_to (some 43) rfl rfl (ex_bin (c := .bool false) rfl rfl rfl (eg36 _ _ _ _ _ _) (eq36 19 17 _)) ?_
  simp only [Act.put, List.setIfInBounds_toArray, List.set_cons_zero, List.set_cons_succ]
  refine st_to (some 42) rfl rfl (ex_asg (v := .bool false) rfl rfl) ?_
  simp only [Act.put, List.setIfInBounds_toArray, List.set_cons_zero, List.set_cons_succ]
  refine st_end ?_
  refine wp_cond_false rfl ?_
  refine wp_seq (wp_region_lit ?_)
  refine st_to (some 47) rfl rfl (ex_bin (c := .bool true) rfl rfl rfl (eg36 _ _ _ _ _ _) (eq36 19 19 _)) ?_
  simp only [Act.put, List.setIfInBounds_toArray, List.set_cons_zero, List.set_cons_succ]
  refine st_to (some 46) rfl rfl (ex_asg (v := .bool true) rfl rfl) ?_
  simp only [Act.put, List.setIfInBounds_toArray, List.set_cons_zero, List.set_cons_succ]
  refine st_end ?_
  refine wp_cond_true rfl ?_
  refine wp_seq (wp_region_lit ?_)
  refine st_to (some 48) rfl rfl (ex_fld rfl rfl (fa10 _ _)) ?_
  simp only [Act.put, List.setIfInBounds_toArray, List.set_cons_zero, List.set_cons_succ]
  refine st_to (some 49) rfl rfl (ex_load rfl rfl (ld3 q)) ?_
  simp only [Act.put, List.setIfInBounds_toArray, List.set_cons_zero, List.set_cons_succ]
  refine st_call (some 50) rfl rfl (rnumber_any y W hy) (ex_call (f := 44) (vs := [.int .i64 (y : Int)]) rfl (cfNumber _) rfl) ?_
  rintro e w2 ⟨v, rfl, HO, HB2⟩
  refine ⟨_, rfl, ?_⟩
  simp only [Act.put, List.setIfInBounds_toArray, List.set_cons_zero, List.set_cons_succ]
  have HOO := HO.out
  obtain ⟨ao, cap, rfl, hI, _, _⟩ := own_isB HO.out
  have hfr : ∀ x, ao = some x → digs y ≠ [] → w.heap.size ≤ x.block := fun x hx _ => by
    subst hx
    rcases HOO.2 with ⟨e, _⟩ | ⟨g, cap', cur, e, hBg, _⟩
    · cases e
    · cases e
      exact Nat.le_trans HB.size hBg
  refine st_to (some 4) rfl rfl (ex_asg (v := .slice ao (digs y).length cap) rfl rfl) ?_
  simp only [Act.put, List.setIfInBounds_toArray, List.set_cons_zero, List.set_cons_succ]
  refine st_end ?_
  refine wp_ret ?_
  refine bodyPost_ret (v := .slice ao (digs y).length cap) ?_ rfl ⟨ao, cap, rfl, hI, HB.trans (HB2.out.mono HB.size), fun x hx hne => .inl (hfr x hx hne)⟩
  rw [results_tmp Try.results24]
  rfl
set_option maxHeartbeats 2000000 in
theorem val10 (K : Int) (F : Nat → Fld) (hF : Fits F) (w : World) (hG : Good w F) (hn : ∀ n, F 10 = .num n → 0 ≤ n ∧ n ≤ 9223372036854775807) :
    Calls Try.prog 24 #[.agg (mc K F).toArray, .int .u64 21] w (ValP (F 10) w) := by
  obtain ⟨W, hW⟩ : ∃ W, w.alloc (.cells (mc K F).toArray 25) = W := ⟨_, rfl⟩
  have M1 : MsgAt W w.heap.size K F := by rw [← hW]; exact MsgAt.new w K hF
  have HB : Below w.heap.size w W := by rw [← hW]; exact (Below.refl _ _).alloc (Nat.le_refl _) _
  obtain ⟨C, hC⟩ : ∃ C, (mc K F).toArray = C := ⟨_, rfl⟩
  rw [hC] at hW ⊢
  clear hC
  obtain ⟨x, hx⟩ := fits_num (hF 10 (by omega)) rfl
  obtain ⟨y, rfl⟩ : ∃ y : Nat, x = (y : Int) := ⟨x.toNat, by have := (hn x hx).1; omega⟩
  have hy : y ≤ 9223372036854775807 := by have := (hn _ hx).2; omega
  have q : W.cell? ⟨w.heap.size, 135, none⟩ = some (.int .i64 (y : Int)) := M1.num (i := 10) (by omega) hx
  rw [hx]
  go_enter Try.func24, Try.ntmps24
  refine wp_seq (wp_region_lit ?_)
  refine st_to (some 2) rfl rfl (ex_box25 (C := C) rfl rfl) ?_
  simp only [Act.put, List.setIfInBounds_toArray, List.set_cons_zero, List.set_cons_succ]
  rw [hW]
  refine st_to (some 4) rfl rfl (ex_asg (v := .slice none 0 0) rfl rfl) ?_
  simp only [Act.put, List.setIfInBounds_toArray, List.set_cons_zero, List.set_cons_succ]
  refine st_end ?_
  refine wp_seq ?_
  refine wp_seq (wp_region_lit ?_)
  refine st_to (some 5) rfl rfl (ex_mv (v := .int .u64 21) rfl rfl) ?_
  simp only [Act.put, List.setIfInBounds_toArray, List.set_cons_zero, List.set_cons_succ]
  refine st_end ?_
  refine wp_block ?_
  refine wp_seq (wp_region_lit ?_)
  refine st_to (some 7) rfl rfl (ex_bin (c := .bool false) rfl rfl rfl (eg36 _ _ _ _ _ _) (eq36 21 1 _)) ?_
  simp only [Act.put, List.setIfInBounds_toArray, List.set_cons_zero, List.set_cons_succ]
  refine st_to (some 6) rfl rfl (ex_asg (v := .bool false) rfl rfl) ?_
  simp only [Act.put, List.setIfInBounds_toArray, List.set_cons_zero, List.set_cons_succ]
  refine st_end ?_
  refine wp_cond_false rfl ?_
  refine wp_seq (wp_region_lit ?_)
  refine st_to (some 12) rfl rfl (ex_bin (c := .bool false) rfl rfl rfl (eg36 _ _ _ _ _ _) (eq36 21 3 _)) ?_
  simp only [Act.put, List.setIfInBounds_toArray, List.set_cons_zero, List.set_cons_succ]
  refine st_to (some 11) rfl rfl (ex_asg (v := .bool false) rfl rfl) ?_
  simp only [Act.put, List.setIfInBounds_toArray, List.set_cons_zero, List.set_cons_succ]
  refine st_end ?_
  refine wp_cond_false rfl ?_
  refine wp_seq (wp_region_lit ?_)
  refine st_to (some 17) rfl rfl (ex_bin (c := .bool false) rfl rfl rfl (eg36 _ _ _ _ _ _) (eq36 21 5 _)) ?_
  simp only [Act.put, List.setIfInBounds_toArray, List.set_cons_zero, List.set_cons_succ]
  refine st_to (some 16) rfl rfl (ex_asg (v := .bool false) rfl rfl) ?_
  simp only [Act.put, List.setIfInBounds_toArray, List.set_cons_zero, List.set_cons_succ]
  refine st_end ?_
  refine wp_cond_false rfl ?_
  refine wp_seq (wp_region_lit ?_)
  refine st_to (some 22) rfl rfl (ex_bin (c := .bool false) rfl rfl rfl (eg36 _ _ _ _ _ _) (eq36 21 7 _)) ?_
  simp only [Act.put, List.setIfInBounds_toArray, List.set_cons_zero, List.set_cons_succ]
  refine st_to (some 21) rfl rfl (ex_asg (v := .bool false) rfl rfl) ?_
  simp only [Act.put, List.setIfInBounds_toArray, List.set_cons_zero, List.set_cons_succ]
  refine st_end ?_
  refine wp_cond_false rfl ?_
  refine wp_seq (wp_region_lit ?_)
  refine st_to (some 27) rfl rfl (ex_bin (c := .bool false) rfl rfl rfl (eg36 _ _ _ _ _ _) (eq36 21 9 _)) ?_
  simp only [Act.put, List.setIfInBounds_toArray, List.set_cons_zero, List.set_cons_succ]
  refine st_to (some 26) rfl rfl (ex_asg (v := .bool false) rfl rfl) ?_
  simp only [Act.put, List.setIfInBounds_toArray, List.set_cons_zero, List.set_cons_succ]
  refine st_end ?_
  refine wp_cond_false rfl ?_
  refine wp_seq (wp_region_lit ?_)
  refine st_to (some 31) rfl rfl (ex_bin (c := .bool false) rfl rfl rfl (eg36 _ _ _ _ _ _) (eq36 21 11 _)) ?_
  simp only [Act.put, List.setIfInBounds_toArray, List.set_cons_zero, List.set_cons_succ]
  refine st_to (some 30) rfl rfl (ex_asg (v := .bool false) rfl rfl) ?_
  simp only [Act.put, List.setIfInBounds_toArray, List.set_cons_zero, List.set_cons_succ]
  refine st_end ?_
  refine wp_cond_false rfl ?_
  refine wp_seq (wp_region_lit ?_)
  refine st_to (some 35) rfl rfl (ex_bin (c := .bool false) rfl rfl rfl (eg36 _ _ _ _ _ _) (eq36 21 13 _)) ?_
  simp only [Act.put, List.setIfInBounds_toArray, List.set_cons_zero, List.set_cons_succ]
  refine st_to (some 34) rfl rfl (ex_asg (v := .bool false) rfl rfl) ?_
  simp only [Act.put, List.setIfInBounds_toArray, List.set_cons_zero, List.set_cons_succ]
  refine st_end ?_
  refine wp_cond_false rfl ?_
  refine wp_seq (wp_region_lit ?_)
  refine st_to (some 39) rfl rfl (ex_bin (c := .bool false) rfl rfl rfl (eg36 _ _ _ _ _ _) (eq36 21 15 _)) ?_
  simp only [Act.put, List.setIfInBounds_toArray, List.set_cons_zero, List.set_cons_succ]
  refine st_to (some 38) rfl rfl (ex_asg (v := .bool false) rfl rfl) ?_
  simp only [Act.put, List.setIfInBounds_toArray, List.set_cons_zero, List.set_cons_succ]
  refine st_end ?_
  refine wp_cond_false rfl ?_
  refine wp_seq (wp_region_lit ?_)
  refine st_to (some 43) rfl rfl (ex_bin (c := .bool false) rfl rfl rfl (eg36 _ _ _ _ _ _) (eq36 21 17 _)) ?_
  simp only [Act.put, List.setIfInBounds_toArray, List.set_cons_zero, List.set_cons_succ]
  refine st_to (some 42) rfl rfl (ex_asg (v := .bool false) rfl rfl) ?_
  simp only [Act.put, List.setIfInBounds_toArray, List.set_cons_zero, List.set_cons_succ]
  refine st_end ?_
  refine wp_cond_false rfl ?_
  refine wp_seq (wp_region_lit ?_)
  refine st_to (some 47) rfl rfl (ex_bin (c := .bool false) rfl rfl rfl (eg36 _ _ _ _ _ _) (eq36 21 19 _)) ?_
  simp only [Act.put, List.setIfInBounds_toArray, List.set_cons_zero, List.set_cons_succ]
  refine st_to (some 46) rfl rfl (ex_asg (v := .bool false) rfl rfl) ?_
  simp only [Act.put, List.setIfInBounds_toArray, List.set_cons_zero, List.set_cons_succ]
  refine st_end ?_
  refine wp_cond_false rfl ?_
  refine wp_seq (wp_region_lit ?_)
  refine st_to (some 52) rfl rfl (ex_bin (c := .bool true) rfl rfl rfl (eg36 _ _ _ _ _ _) (eq36 21 21 _)) ?_
  simp only [Act.put, List.setIfInBounds_toArray, List.set_cons_zero, List.set_cons_succ]
  refine st_to (some 51) rfl rfl (ex_asg (v := .bool true) rfl rfl) ?_
  simp only [Act.put, List.setIfInBounds_toArray, List.set_cons_zero, List.set_cons_succ]
  refine st_end ?_
  refine wp_cond_true rfl ?_
  refine wp_seq (wp_region_lit ?_)
  refine st_to (some 53) rfl rfl (ex_fld rfl rfl (fa11 _ _)) ?_
  simp only [Act.put, List.setIfInBounds_toArray, List.set_cons_zero, List.set_cons_succ]
  refine st_to (some 54) rfl rfl (ex_load rfl rfl (ld3 q)) ?_
  simp only [Act.put, List.setIfInBounds_toArray, List.set_cons_zero, List.set_cons_succ]
  refine st_call (some 55) rfl rfl (rnumber_any y W hy) (ex_call (f := 44) (vs := [.int .i64 (y : Int)]) rfl (cfNumber _) rfl) ?_
  rintro e w2 ⟨v, rfl, HO, HB2⟩
  refine ⟨_, rfl, ?_⟩
  simp only [Act.put, List.setIfInBounds_toArray, List.set_cons_zero, List.set_cons_succ]
  have HOO := HO.out
  obtain ⟨ao, cap, rfl, hI, _, _⟩ := own_isB HO.out
  have hfr : ∀ x, ao = some x → digs y ≠ [] → w.heap.size ≤ x.block := fun x hx _ => by
    subst hx
    rcases HOO.2 with ⟨e, _⟩ | ⟨g, cap', cur, e, hBg, _⟩
    · cases e
    · cases e
      exact Nat.le_trans HB.size hBg
  refine st_to (some 4) rfl rfl (ex_asg (v := .slice ao (digs y).length cap) rfl rfl) ?_
  simp only [Act.put, List.setIfInBounds_toArray, List.set_cons_zero, List.set_cons_succ]
  refine st_end ?_
  refine wp_ret ?_
  refine bodyPost_ret (v := .slice ao (digs y).length cap) ?_ rfl ⟨ao, cap, rfl, hI, HB.trans (HB2.out.mono HB.size), fun x hx hne => .inl (hfr x hx hne)⟩
  rw [results_tmp Try.results24]
  rfl
set_option maxHeartbeats 2000000 in
theorem val11 (K : Int) (F : Nat → Fld) (hF : Fits F) (w : World) (hG : Good w F) (hn : ∀ n, F 11 = .num n → 0 ≤ n ∧ n ≤ 9223372036854775807) :
    Calls Try.prog 24 #[.agg (mc K F).toArray, .int .u64 23] w (ValP (F 11) w) := by
  obtain ⟨W, hW⟩ : ∃ W, w.alloc (.cells (mc K F).toArray 25) = W := ⟨_, rfl⟩
  have M1 : MsgAt W w.heap.size K F := by rw [← hW]; exact MsgAt.new w K hF
  have HB : Below w.heap.size w W := by rw [← hW]; exact (Below.refl _ _).alloc (Nat.le_refl _) _
  obtain ⟨C, hC⟩ : ∃ C, (mc K F).toArray = C := ⟨_, rfl⟩
  rw [hC] at hW ⊢
  clear hC
  obtain ⟨xa, xc, l, hx⟩ := fits_lst (hF 11 (by omega)) rfl
  have q : W.cell? ⟨w.heap.size, 136, none⟩ = some (.slice xa l.length xc) := M1.lst (i := 11) (by omega) hx
  have hg := (hG 11 (by omega)).below HB
  rw [hx] at hg ⊢
  go_enter Try.func24, Try.ntmps24
  refine wp_seq (wp_region_lit ?_)
  refine st_to (some 2) rfl rfl (ex_box25 (C := C) rfl rfl) ?_
  simp only [Act.put, List.setIfInBounds_toArray, List.set_cons_zero, List.set_cons_succ]
  rw [hW]
  refine st_to (some 4) rfl rfl (ex_asg (v := .slice none 0 0) rfl rfl) ?_
  simp only [Act.put, List.setIfInBounds_toArray, List.set_cons_zero, List.set_cons_succ]
  refine st_end ?_
  refine wp_seq ?_
  refine wp_seq (wp_region_lit ?_)
  refine st_to (some 5) rfl rfl (ex_mv (v := .int .u64 23) rfl rfl) ?_
  simp only [Act.put, List.setIfInBounds_toArray, List.set_cons_zero, List.set_cons_succ]
  refine st_end ?_
  refine wp_block ?_
  refine wp_seq (wp_region_lit ?_)
  refine st_to (some 7) rfl rfl (ex_bin (c := .bool false) rfl rfl rfl (eg36 _ _ _ _ _ _) (eq36 23 1 _)) ?_
  simp only [Act.put, List.setIfInBounds_toArray, List.set_cons_zero, List.set_cons_succ]
  refine st_to (some 6) rfl rfl (ex_asg (v := .bool false) rfl rfl) ?_
  simp only [Act.put, List.setIfInBounds_toArray, List.set_cons_zero, List.set_cons_succ]
  refine st_end ?_
  refine wp_cond_false rfl ?_
  refine wp_seq (wp_region_lit ?_)
  refine st_to (some 12) rfl rfl (ex_bin (c := .bool false) rfl rfl rfl (eg36 _ _ _ _ _ _) (eq36 23 3 _)) ?_
  simp only [Act.put, List.setIfInBounds_toArray, List.set_cons_zero, List.set_cons_succ]
  refine st_to (some 11) rfl rfl (ex_asg (v := .bool false) rfl rfl) ?_
  simp only [Act.put, List.setIfInBounds_toArray, List.set_cons_zero, List.set_cons_succ]
  refine st_end ?_
  refine wp_cond_false rfl ?_
  refine wp_seq (wp_region_lit ?_)
  refine st_to (some 17) rfl rfl (ex_bin (c := .bool false) rfl rfl rfl (eg36 _ _ _ _ _ _) (eq36 23 5 _)) ?_
  simp only [Act.put, List.setIfInBounds_toArray, List.set_cons_zero, List.set_cons_succ]
  refine st_to (some 16) rfl rfl (ex_asg (v := .bool false) rfl rfl) ?_
  simp only [Act.put, List.setIfInBounds_toArray, List.set_cons_zero, List.set_cons_succ]
  refine st_end ?_
  refine wp_cond_false rfl ?_
  refine wp_seq (wp_region_lit ?_)
  refine st_to (some 22) rfl rfl (ex_bin (c := .bool false) rfl rfl rfl (eg36 _ _ _ _ _ _) (eq36 23 7 _)) ?_
  simp only [Act.put, List.setIfInBounds_toArray, List.set_cons_zero, List.set_cons_succ]
  refine st_to (some 21) rfl rfl (ex_asg (v := .bool false) rfl rfl) ?_
  simp only [Act.put, List.setIfInBounds_toArray, List.set_cons_zero, List.set_cons_succ]
  refine st_end ?_
  refine wp_cond_false rfl ?_
  refine wp_seq (wp_region_lit ?_)
  refine st_to (some 27) rfl rfl (ex_bin (c := .bool false) rfl rfl rfl (eg36 _ _ _ _ _ _) (eq36 23 9 _)) ?_
  simp only [Act.put, List.setIfInBounds_toArray, List.set_cons_zero, List.set_cons_succ]
  refine st_to (some 26) rfl rfl (ex_asg (v := .bool false) rfl rfl) ?_
  simp only [Act.put, List.setIfInBounds_toArray, List.set_cons_zero, List.set_cons_succ]
  refine st_end ?_
  refine wp_cond_false rfl ?_
  refine wp_seq (wp_region_lit ?_)
  refine st_to (some 31) rfl rfl (ex_bin (c := .bool false) rfl rfl rfl (eg36 _ _ _ _ _ _) (eq36 23 11 _)) ?_
  simp only [Act.put, List.setIfInBounds_toArray, List.set_cons_zero, List.set_cons_succ]
  refine st_to (some 30) rfl rfl (ex_asg (v := .bool false) rfl rfl) ?_
  simp only [Act.put, List.setIfInBounds_toArray, List.set_cons_zero, List.set_cons_succ]
  refine st_end ?_
  refine wp_cond_false rfl ?_
  refine wp_seq (wp_region_lit ?_)
  refine st_to (some 35) rfl rfl (ex_bin (c := .bool false) rfl rfl rfl (eg36 _ _ _ _ _ _) (eq36 23 13 _)) ?_
  simp only [Act.put, List.setIfInBounds_toArray, List.set_cons_zero, List.set_cons_succ]
  refine st_to (some 34) rfl rfl (ex_asg (v := .bool false) rfl rfl) ?_
  simp only [Act.put, List.setIfInBounds_toArray, List.set_cons_zero, List.set_cons_succ]
  refine st_end ?_
  refine wp_cond_false rfl ?_
  refine wp_seq (wp_region_lit ?_)
  refine st_to (some 39) rfl rfl (ex_bin (c := .bool false) rfl rfl rfl (eg36 _ _ _ _ _ _) (eq36 23 15 _)) ?_
  simp only [Act.put, List.setIfInBounds_toArray, List.set_cons_zero, List.set_cons_succ]
  refine st_to (some 38) rfl rfl (ex_asg (v := .bool false) rfl rfl) ?_
  simp only [Act.put, List.setIfInBounds_toArray, List.set_cons_zero, List.set_cons_succ]
  refine st_end ?_
  refine wp_cond_false rfl ?_
  refine wp_seq (wp_region_lit ?_)
  refine st_to (some 43) rfl rfl (ex_bin (c := .bool false) rfl rfl rfl (eg36 _ _ _ _ _ _) (eq36 23 17 _)) ?_
  simp only [Act.put, List.setIfInBounds_toArray, List.set_cons_zero, List.set_cons_succ]
  refine st_to (some 42) rfl rfl (ex_asg (v := .bool false) rfl rfl) ?_
  simp only [Act.put, List.setIfInBounds_toArray, List.set_cons_zero, List.set_cons_succ]
  refine st_end ?_
  refine wp_cond_false rfl ?_
  refine wp_seq (wp_region_lit ?_)
  refine st_to (some 47) rfl rfl (ex_bin (c := .bool false) rfl rfl rfl (eg36 _ _ _ _ _ _) (eq36 23 19 _)) ?_
  simp only [Act.put, List.setIfInBounds_toArray, List.set_cons_zero, List.set_cons_succ]
  refine st_to (some 46) rfl rfl (ex_asg (v := .bool false) rfl rfl) ?_
  simp only [Act.put, List.setIfInBounds_toArray, List.set_cons_zero, List.set_cons_succ]
  refine st_end ?_
  refine wp_cond_false rfl ?_
  refine wp_seq (wp_region_lit ?_)
  refine st_to (some 52) rfl rfl (ex_bin (c := .bool false) rfl rfl rfl (eg36 _ _ _ _ _ _) (eq36 23 21 _)) ?_
  simp only [Act.put, List.setIfInBounds_toArray, List.set_cons_zero, List.set_cons_succ]
  refine st_to (some 51) rfl rfl (ex_asg (v := .bool false) rfl rfl) ?_
  simp only [Act.put, List.setIfInBounds_toArray, List.set_cons_zero, List.set_cons_succ]
  refine st_end ?_
  refine wp_cond_false rfl ?_
  refine wp_skip ?_
  refine wp_seq (wp_region_lit ?_)
  refine st_to (some 56) rfl rfl (ex_fld rfl rfl (fa12 _ _)) ?_
  simp only [Act.put, List.setIfInBounds_toArray, List.set_cons_zero, List.set_cons_succ]
  refine st_to (some 57) rfl rfl (ex_load rfl rfl (ld23 q)) ?_
  simp only [Act.put, List.setIfInBounds_toArray, List.set_cons_zero, List.set_cons_succ]
  refine st_to (some 4) rfl rfl (ex_asg (v := .slice xa l.length xc) rfl rfl) ?_
  simp only [Act.put, List.setIfInBounds_toArray, List.set_cons_zero, List.set_cons_succ]
  refine st_end ?_
  refine wp_ret ?_
  refine bodyPost_ret (v := .slice xa l.length xc) ?_ rfl ⟨xa, xc, rfl, hg.1, HB, fun x hx _ => .inr ⟨xc, l, by rw [hx]⟩⟩
  rw [results_tmp Try.results24]
  rfl
theorem value_any (i : Nat) (hi : i < 12) (K : Int) (F : Nat → Fld) (hF : Fits F) (w : World) (hG : Good w F) (hn : ∀ n, F i = .num n → 0 ≤ n ∧ n ≤ 9223372036854775807) :
    Calls Try.prog 24 #[.agg (mc K F).toArray, .int .u64 (2 * (i : Int) + 1)] w (ValP (F i) w) := by
  match i, hi with
  | 0, _ => exact val0 K F hF w hG hn
  | 1, _ => exact val1 K F hF w hG hn
  | 2, _ => exact val2 K F hF w hG hn
  | 3, _ => exact val3 K F hF w hG hn
  | 4, _ => exact val4 K F hF w hG hn
  | 5, _ => exact val5 K F hF w hG hn
  | 6, _ => exact val6 K F hF w hG hn
  | 7, _ => exact val7 K F hF w hG hn
  | 8, _ => exact val8 K F hF w hG hn
  | 9, _ => exact val9 K F hF w hG hn
  | 10, _ => exact val10 K F hF w hG hn
  | 11, _ => exact val11 K F hF w hG hn
end Go.Proofs.Ytcbadmkgbaffpaa

/- The contract of the document's Encode over this seat's translation. -/
namespace Go.Proofs.Ytcbadmkgbaffpaa
open Go.RowKit
set_option linter.unusedVariables false
set_option linter.unusedSimpArgs false

section
variable {ops : Array Oper} {o : Oper} {a : Act} {w w' : World} {Q : Exit → Act → World → Prop} {md : Region.Mode} {fuel : Nat} {L : Array Bool} {i : Nat} {S : World → Prop} {v : Value}
theorem ah_wp (hi : ops[i]? = some o) (hr : Region.ready md ops L = [i]) (hw : Region.wanted o (yielded ops a.tmps) = true)
    (h : ∀ K : Act → World → Prop, (∀ a' w', S w' → wpAnyH Try.prog md ops Q S fuel (L.setIfInBounds i true) a' w' → K a' w') → o.wp Try.prog a w K Q) : wpAnyH Try.prog md ops Q S (fuel + 1) L a w :=
  wpAnyH_all hr (by simp) fun j hj => by
    rw [List.mem_singleton.1 hj]
    exact wpOp_step hi fun K hK => by rw [if_pos hw]; exact h K (fun a' w' h1 h2 => hK a' w' ⟨h1, h2⟩)
theorem ah_to (d : Option Tmp) (hi : ops[i]? = some o) (hd : o.dst = d) (hr : Region.ready md ops L = [i]) (hw : Region.wanted o (yielded ops a.tmps) = true) (hx : (execOp a.eval o).run Try.prog w = .ok (.value v) w') (hS : S w')
    (h : wpAnyH Try.prog md ops Q S fuel (L.setIfInBounds i true) (a.put d v) w') : wpAnyH Try.prog md ops Q S (fuel + 1) L a w :=
  ah_wp hi hr hw fun K hK => by subst hd; unfold Oper.wp; rw [hx]; exact hK _ _ hS h
theorem ex_build2 {t k1 k2 : Nat} {x y : Operand} (ho : o.op = .build t #[(k1, x), (k2, y)]) {v1 v2 u : Value} (h1 : a.eval x = v1) (h2 : a.eval y = v2) (hb : (Instr.build t #[(k1, v1), (k2, v2)]).run Try.prog w = .ok u w) : (execOp a.eval o).run Try.prog w = .ok (.value u) w := by
  unfold execOp
  simp [ho, h1, h2, hb]
theorem ex_bslice {x : Operand} (ho : o.op = .buildSlice 40 1 #[(0, x)]) {u1 u2 : Value} (h1 : a.eval x = .agg #[u1, u2]) (hb : (Instr.buildSlice 40 1 #[(0, .agg #[u1, u2])]).run Try.prog w = .ok v w') : (execOp a.eval o).run Try.prog w = .ok (.value v) w' := by
  unfold execOp
  simp [ho, h1, hb]
end
theorem build39 (x : Int) (a : Option Addr) (n c : Nat) (w : World) : (Instr.build 39 #[(0, .int .u64 x), (1, .slice a n c)]).run Try.prog w = .ok (.agg #[.int .u64 x, .slice a n c]) w := run_build w 39 _ _ (by kernel_rfl)
theorem bslice40 (x : Int) (a : Option Addr) (n c : Nat) (w : World) : (Instr.buildSlice 40 1 #[(0, .agg #[.int .u64 x, .slice a n c])]).run Try.prog w = .ok (.slice (some ⟨w.heap.size, 0, none⟩) 1 1) (w.alloc (.cells #[.int .u64 x, .slice a n c] 39)) := by go_simp

/-- bytes that do not lie in the row of records -/
def SrcJ (w : World) (v : Value) (a : Option Addr) (c : Nat) (L : List Int) : Prop := IsB w a c L ∧ ∀ x, a = some x → L ≠ [] → some x.block ≠ v.ownBlock
theorem isB_grown {w w' : World} {a : Option Addr} {c : Nat} {L : List Int} {row : Option Nat} (h : IsB w a c L) (hn : ∀ x, a = some x → L ≠ [] → some x.block ≠ row) (hg : w.grownBy w' row) : IsB w' a c L :=
  isB_kept h (fun x hx hl => hg.block x.block (by subst hx; exact isB_lt h hl) (hn x hx hl))
theorem srcj_push {w2 wr w4 w5 : World} {l : Value} {g cp : Nat} {q : List Rq} {X : Int} {va : Option Addr} {vc k : Nat} {L : List Int} {o : Obj} (hO : wr.ownsRow w2.heap.size 39 2 l q.length (rqCells q)) (hq : ∀ r ∈ q, SrcJ wr l r.2.1 r.2.2.1 r.2.2.2) (hB : Below w2.heap.size w2 wr) (hB4 : Below wr.heap.size wr w4)
    (hV : SrcJ w4 l va vc L) (hk : L.length = k) (ho : w5.ownsRow w2.heap.size 39 2 (.slice (some ⟨g, 0, none⟩) (q.length + 1) cp) (q.length + 1) (rqCells q ++ [.int .u64 X, .slice va k vc])) (hg : (w4.alloc o).grownBy w5 l.ownBlock) (hgb : l.ownBlock = some g ∨ g = (w4.alloc o).heap.size) :
    w5.ownsRow w2.heap.size 39 2 (.slice (some ⟨g, 0, none⟩) (q.length + 1) cp) (q ++ [(X, va, vc, L)]).length (rqCells (q ++ [(X, va, vc, L)])) ∧ (∀ r ∈ q ++ [(X, va, vc, L)], SrcJ w5 (.slice (some ⟨g, 0, none⟩) (q.length + 1) cp) r.2.1 r.2.2.1 r.2.2.2) ∧ Below w2.heap.size w2 w5 := by
  have z := hB.size
  have z4 := hB4.size
  have one : ∀ (a : Option Addr) (c : Nat) (L : List Int), SrcJ w4 l a c L → SrcJ w5 (.slice (some ⟨g, 0, none⟩) (q.length + 1) cp) a c L := fun a c L h => by
    have h1 := h.1.below (below_alloc w4 o)
    refine ⟨isB_grown h1 h.2 hg, fun x hx hl e => ?_⟩
    have e' : x.block = g := Option.some.inj e
    rcases hgb with hgb | hgb
    · exact h.2 x hx hl (by rw [hgb, e'])
    · subst hx
      have := isB_lt h.1 hl
      have hs : (w4.alloc o).heap.size = w4.heap.size + 1 := by simp
      omega
  refine ⟨by rw [rqCells_append, List.length_append]; show w5.ownsRow _ _ _ _ _ (_ ++ [_, .slice va L.length vc]); rw [hk]; exact ho, fun r hr => ?_, ?_⟩
  · rcases List.mem_append.1 hr with hr | hr
    · exact one _ _ _ ⟨(hq r hr).1.below hB4, (hq r hr).2⟩
    · rw [List.mem_singleton.1 hr]
      exact one _ _ _ hV
  · exact ((hB.trans (hB4.mono z)).alloc (by omega) o).grown hg (by simp; omega) (fun i hi => (hO.lt i hi).1)
theorem renc_fit {W : World} {B : Nat} {v : Value} {q : List Rq} {A : List (Int × List Int)} (h : W.ownsRow B 39 2 v q.length (rqCells q)) (hI : ∀ r ∈ q, IsB W r.2.1 r.2.2.1 r.2.2.2) (hp : plain q = A) (h0 : A ≠ []) (hl : A.length ≤ 64) (hr : Ris (-1) A)
    (ha : ∀ r ∈ A, 0 ≤ r.1 ∧ r.1 ≤ 18446744073709551615 ∧ r.2.length ≤ 140737488351232 ∧ Bytes r.2) (hs : (recsB A).length ≤ 65536) :
    Calls Try.prog 25 #[v] W fun e w' => ∃ ao cp, e = .returned (.tuple #[.slice ao (recsB A).length cp, .int .i64 0]) ∧ Hid (IsB w' ao cp (recsB A)) ∧ Hid (Below W.heap.size W w') := by
  subst hp
  have hq0 : 0 < q.length := by rw [← plain_length]; exact List.length_pos_iff.2 h0
  rw [plain_length] at hl
  obtain ⟨g, c, rfl, R⟩ := row_open h hI hq0
  have hm : ∀ k, k < q.length → ((rqAt q k).1, (rqAt q k).2.2.2) ∈ plain q := fun k hk => List.mem_of_getElem? (plain_at q k hk)
  have key := renc_rises g 0 q.length c _ _ _ _ W R hq0 hl (fun k hk => (ha _ (hm k hk)).2.2.1) (fun k hk => ⟨(ha _ (hm k hk)).1, (ha _ (hm k hk)).2.1⟩) (ris_plain q _ hr)
  rw [encL_all] at key
  refine key.mono fun e w' hh => ?_
  obtain ⟨⟨_, v, rfl, ho⟩ | ⟨h1, _⟩, hb⟩ := hh
  · obtain ⟨ao, cap, rfl, hI, _⟩ := own_isB ho.out
    exact ⟨_, _, rfl, hI, hb⟩
  · omega

set_option maxHeartbeats 4000000 in
theorem rencode_no (K : Int) (F : Nat → Fld) (hF : Fits F) (w : World) (hG : Good w F) (hA : ∀ n, F 2 = .num n → n ≤ 9223372036854775807) (hm : mayB K F = false) :
    Calls Try.prog 10 #[.agg (mc K F).toArray] w fun e w' => e = .returned (.tuple #[.slice none 0 0, .int .i64 1]) ∧ Hid (Below w.heap.size w w') := by
  obtain ⟨W, hW⟩ : ∃ W, w.alloc (.cells (mc K F).toArray 25) = W := ⟨_, rfl⟩
  have M1 : MsgAt W w.heap.size K F := by rw [← hW]; exact MsgAt.new w K hF
  have B1 : Below w.heap.size w W := by rw [← hW]; exact (Below.refl _ _).alloc (Nat.le_refl _) _
  have HRM := rmay_any K F hF W (hG.below B1) hA
  rw [hm] at HRM
  have HVA := hide (fun (i : Nat) (hi : i < 12) (W : World) (h : Good W F) (hn : ∀ n, F i = .num n → 0 ≤ n ∧ n ≤ 9223372036854775807) => value_any i hi K F hF W h hn)
  obtain ⟨C, hC⟩ : ∃ C, (mc K F).toArray = C := ⟨_, rfl⟩
  have HC := hide hC
  rw [hC] at hW HRM HVA ⊢
  clear hC
  have lC : ∀ W', Below W.heap.size W W' → (Instr.loadAt 25 (.pointer (some ⟨w.heap.size, 0, none⟩))).run Try.prog W' = .ok (.agg C) W' := fun W' h => by rw [← HC.out]; exact run_loadAt_mid W' _ 0 25 _ _ (M1.below h).range Try.underlying25 rfl (infoLen K hF)
  go_enter Try.func10, Try.ntmps10
  refine wp_seq (wp_region_lit ?_)
  refine st_to (some 1) rfl rfl (ex_box25 (C := C) rfl rfl) ?_
  simp only [Act.put, List.setIfInBounds_toArray, List.set_cons_zero, List.set_cons_succ]
  rw [hW]
  refine st_to (some 2) rfl rfl (ex_asg (v := .slice none 0 0) rfl rfl) ?_
  simp only [Act.put, List.setIfInBounds_toArray, List.set_cons_zero, List.set_cons_succ]
  refine st_to (some 3) rfl rfl (ex_asg (v := .int .i64 0) rfl rfl) ?_
  simp only [Act.put, List.setIfInBounds_toArray, List.set_cons_zero, List.set_cons_succ]
  refine st_end ?_
  refine wp_seq ?_
  refine wp_seq (wp_region_lit ?_)
  refine st_to (some 9) rfl rfl (ex_load rfl rfl (lC _ (Below.refl _ _))) ?_
  simp only [Act.put, List.setIfInBounds_toArray, List.set_cons_zero, List.set_cons_succ]
  refine st_call (some 10) rfl rfl HRM (ex_call (f := 13) (vs := [.agg C]) rfl (cfRMay _) rfl) ?_
  rintro e w1 ⟨rfl, HB1⟩
  refine ⟨_, rfl, ?_⟩
  simp only [Act.put, List.setIfInBounds_toArray, List.set_cons_zero, List.set_cons_succ]
  have B2 := B1.trans (HB1.out.mono B1.size)
  refine st_to (some 11) rfl rfl (ex_not (r := false) rfl rfl) ?_
  simp only [Act.put, List.setIfInBounds_toArray, List.set_cons_zero, List.set_cons_succ]
  refine st_end ?_
  refine wp_cond_true rfl ?_
  go_wp2
  go_ret2
  exact ⟨rfl, B2⟩
set_option maxHeartbeats 4000000 in
theorem rencode_ok (K : Int) (F : Nat → Fld) (hF : Fits F) (w : World) (hG : Good w F) (hA : ∀ n, F 2 = .num n → n ≤ 9223372036854775807) (hm : mayB K F = true) :
    Calls Try.prog 10 #[.agg (mc K F).toArray] w fun e w' => ∃ a c, e = .returned (.tuple #[.slice a (encB K F).length c, .int .i64 0]) ∧ Hid (IsB w' a c (encB K F)) ∧ (encB K F).length ≤ c ∧ c ≤ 9223372036854775807 ∧ Hid (Below w.heap.size w w') := by
  obtain ⟨W, hW⟩ : ∃ W, w.alloc (.cells (mc K F).toArray 25) = W := ⟨_, rfl⟩
  have M1 : MsgAt W w.heap.size K F := by rw [← hW]; exact MsgAt.new w K hF
  have B1 : Below w.heap.size w W := by rw [← hW]; exact (Below.refl _ _).alloc (Nat.le_refl _) _
  have HRM := rmay_any K F hF W (hG.below B1) hA
  rw [hm] at HRM
  have HVA := hide (fun (i : Nat) (hi : i < 12) (W : World) (h : Good W F) (hn : ∀ n, F i = .num n → 0 ≤ n ∧ n ≤ 9223372036854775807) => value_any i hi K F hF W h hn)
  obtain ⟨C, hC⟩ : ∃ C, (mc K F).toArray = C := ⟨_, rfl⟩
  have HC := hide hC
  rw [hC] at hW HRM HVA ⊢
  clear hC
  have lC : ∀ W', Below W.heap.size W W' → (Instr.loadAt 25 (.pointer (some ⟨w.heap.size, 0, none⟩))).run Try.prog W' = .ok (.agg C) W' := fun W' h => by rw [← HC.out]; exact run_loadAt_mid W' _ 0 25 _ _ (M1.below h).range Try.underlying25 rfl (infoLen K hF)
  go_enter Try.func10, Try.ntmps10
  refine wp_seq (wp_region_lit ?_)
  refine st_to (some 1) rfl rfl (ex_box25 (C := C) rfl rfl) ?_
  simp only [Act.put, List.setIfInBounds_toArray, List.set_cons_zero, List.set_cons_succ]
  rw [hW]
  refine st_to (some 2) rfl rfl (ex_asg (v := .slice none 0 0) rfl rfl) ?_
  simp only [Act.put, List.setIfInBounds_toArray, List.set_cons_zero, List.set_cons_succ]
  refine st_to (some 3) rfl rfl (ex_asg (v := .int .i64 0) rfl rfl) ?_
  simp only [Act.put, List.setIfInBounds_toArray, List.set_cons_zero, List.set_cons_succ]
  refine st_end ?_
  refine wp_seq ?_
  refine wp_seq (wp_region_lit ?_)
  refine st_to (some 9) rfl rfl (ex_load rfl rfl (lC _ (Below.refl _ _))) ?_
  simp only [Act.put, List.setIfInBounds_toArray, List.set_cons_zero, List.set_cons_succ]
  refine st_call (some 10) rfl rfl HRM (ex_call (f := 13) (vs := [.agg C]) rfl (cfRMay _) rfl) ?_
  rintro e w1 ⟨rfl, HB1⟩
  refine ⟨_, rfl, ?_⟩
  simp only [Act.put, List.setIfInBounds_toArray, List.set_cons_zero, List.set_cons_succ]
  have B2 := B1.trans (HB1.out.mono B1.size)
  refine st_to (some 11) rfl rfl (ex_not (r := true) rfl rfl) ?_
  simp only [Act.put, List.setIfInBounds_toArray, List.set_cons_zero, List.set_cons_succ]
  refine st_end ?_
  obtain ⟨i0, hi, hz0, hz1, hz2⟩ := info_parts Try.info5
  obtain ⟨j0, hj, hy0, hy1, hy2⟩ := info_parts Try.infoRec
  have HN := hide (fun (i : Nat) (hi : i < 12) => may_num hm hi)
  have HRA := hide (recs_all hF hG hm)
  have hf0 := (may_ok hm).1
  have hK : 1 ≤ K ∧ K ≤ 6 := by
    unfold fl at hf0
    repeat' split at hf0
    all_goals first | omega | exact absurd rfl hf0
  have HFL := hide (fl_len K)
  have HF0 := hide hf0
  have HEB := hide (show encB K F = [0, K] ++ recsB (recs K F) from rfl)
  refine wp_cond_false rfl ?_
  refine wp_skip ?_
  refine wp_seq (wp_region_lit ?_)
  refine st_to (some 12) rfl rfl (ex_fld rfl rfl (fa0 _ _)) ?_
  simp only [Act.put, List.setIfInBounds_toArray, List.set_cons_zero, List.set_cons_succ]
  refine st_to (some 13) rfl rfl (ex_load rfl rfl (ld3 (M1.below HB1.out).kind)) ?_
  simp only [Act.put, List.setIfInBounds_toArray, List.set_cons_zero, List.set_cons_succ]
  refine st_call (some 14) rfl rfl (rfields_ex K w1) (ex_call (f := 23) (vs := [.int .i64 K]) rfl (cfRFields _) rfl) ?_
  rintro e w2 ⟨g, a, c, rfl, hv, HF2, hg, HB2⟩
  refine ⟨_, rfl, ?_⟩
  simp only [Act.put, List.setIfInBounds_toArray, List.set_cons_zero, List.set_cons_succ]
  have B3 := B2.trans (HB2.out.mono B2.size)
  have HX2 : Below W.heap.size W w2 := HB1.out.trans (HB2.out.mono HB1.out.size)
  have HW2 := hide B3
  have HL2 := hide (fun W' (h : Below w2.heap.size w2 W') => lC W' (HX2.trans (h.mono HX2.size)))
  have HG2 := hide (fun W' (h : Below w2.heap.size w2 W') => hG.below (B3.trans (h.mono B3.size)))
  have HK2 := hide (fun W' (h : Below w2.heap.size w2 W') => (M1.below (HX2.trans (h.mono HX2.size))).kind)
  have HGL := hide (fun (i : Nat) (hi : i < 12) (x : Addr) (c : Nat) (l : List Int) (e : F i = .lst (some x) c l) (hl : l ≠ []) => show x.block < w2.heap.size by
    have := hG i hi
    rw [e] at this
    exact Nat.lt_of_lt_of_le (isB_lt this.1 hl) B3.size)
  obtain ⟨rfl, rfl⟩ : a = some ⟨g, 0, none⟩ ∧ c = (fl K).length := by
    rcases hv with ⟨_, h⟩ | ⟨h, _⟩
    · simpa using h
    · exact absurd (List.eq_nil_of_length_eq_zero h.symm) HF0.out
  obtain ⟨n, hn⟩ : ∃ n, (fl K).length = n := ⟨_, rfl⟩
  have HNL := hide hn
  have hn6 : n ≤ 6 := by rw [← hn]; exact HFL.out
  rw [hn]
  clear hv hn hg HFL hm hf0 hG hA lC M1 B1 B2 B3 HB1 HB2 HX2 HRM hW
  refine st_to (some 4) rfl rfl (ex_asg (v := .slice (some ⟨g, 0, none⟩) n n) rfl rfl) ?_
  simp only [Act.put, List.setIfInBounds_toArray, List.set_cons_zero, List.set_cons_succ]
  refine st_end ?_
  refine wp_seq (wp_region_lit ?_)
  refine st_to (some 5) rfl rfl (ex_asg (v := .slice none 0 0) rfl rfl) ?_
  simp only [Act.put, List.setIfInBounds_toArray, List.set_cons_zero, List.set_cons_succ]
  refine st_end ?_
  refine wp_seq ?_
  refine wp_seq (wp_region_lit ?_)
  refine st_to (some 6) rfl rfl (ex_asg (v := .int .i64 0) rfl rfl) ?_
  simp only [Act.put, List.setIfInBounds_toArray, List.set_cons_zero, List.set_cons_succ]
  refine st_end ?_
  refine wp_block ?_
  go_loopw [5, 6] (fun lv iv wr => ∃ (k : Nat) (q : List Rq), k ≤ n ∧ q.length = k ∧ iv = .int .i64 k ∧ Hid (plain q = (recs K F).take k) ∧ Hid (wr.ownsRow w2.heap.size 39 2 lv q.length (rqCells q)) ∧ Hid (∀ r ∈ q, SrcJ wr lv r.2.1 r.2.2.1 r.2.2.2) ∧ Hid (Below w2.heap.size w2 wr)) (fun _ iv _ => n - (intOf iv).toNat)
  case atStart => exact ⟨0, [], by omega, rfl, rfl, hide (by simp [plain]), World.ownsRow_nil _ _ _ _, hide (fun r hr => by cases hr), Below.refl _ _⟩
  case round =>
    obtain ⟨k, q, hk, hqk, rfl, HP, HO, HQ, HB⟩ := hrel
    obtain ⟨la, lc, rfl⟩ := row_shape HO.out
    rw [hqk] at HO
    have HQK := hide hqk
    clear hqk
    rw [HQK.out]
    have zr := HB.out.size
    by_cases hlt : k < n
    · obtain ⟨i, hi'⟩ : ∃ i, (fl K)[k]? = some i := ⟨_, List.getElem?_eq_getElem (by rw [HNL.out]; exact hlt)⟩
      have HI := hide hi'
      have hi12 : i < 12 := fl_lt K i (List.mem_of_getElem? hi')
      have hck : (k : Int) < (n : Int) := by omega
      clear hi'
      go_wp2_with fail
      obtain ⟨wd, hwd⟩ : ∃ wd, wr.drew = wd := ⟨_, rfl⟩
      have S0 : Below w2.heap.size w2 wd := by rw [← hwd]; exact below_drew HB.out
      have Od : wd.ownsRow w2.heap.size 39 2 (.slice la k lc) k (rqCells q) := by rw [← hwd]; exact HO.out
      have Qd : ∀ r ∈ q, SrcJ wd (.slice la k lc) r.2.1 r.2.2.1 r.2.2.2 := fun r hr => by
        have h := HQ.out r hr
        rw [HQK.out] at h
        rw [← hwd]
        exact ⟨isB_kept h.1 (fun _ _ _ => rfl), h.2⟩
      have cl : ∀ W', Below w2.heap.size w2 W' → (Instr.loadAt 36 (.pointer (some ⟨g, k, none⟩))).run Try.prog W' = .ok (.int .u64 (2 * (i : Int) + 1)) W' := fun W' h => ld36 ((HF2.out.below h).2 k i HI.out)
      refine wp_region_held (S := fun W' => Below w2.heap.size w2 W') (by kernel_rfl) ?_
      show wpAnyH _ _ _ _ _ _ _ _ wr.drew
      rw [hwd]
      refine ah_take (i := 0) (some 21) rfl rfl (by kernel_rfl) (by kernel_rfl) (by kernel_rfl) rfl (fun W _ => ex_mv (v := .slice la k lc) rfl rfl) S0 (fun _ _ _ h => h) ?_
      simp only [Act.put, List.setIfInBounds_toArray, List.set_cons_zero, List.set_cons_succ]
      refine ah_take (i := 1) (some 22) rfl rfl (by kernel_rfl) (by kernel_rfl) (by kernel_rfl) rfl (fun W _ => ex_mv (v := .slice (some ⟨g, 0, none⟩) n n) rfl rfl) S0 (fun _ _ _ h => h) ?_
      simp only [Act.put, List.setIfInBounds_toArray, List.set_cons_zero, List.set_cons_succ]
      refine ah_take (i := 2) (some 23) rfl rfl (by kernel_rfl) (by kernel_rfl) (by kernel_rfl) rfl (fun W _ => ex_mv (v := .int .i64 k) rfl rfl) S0 (fun _ _ _ h => h) ?_
      simp only [Act.put, List.setIfInBounds_toArray, List.set_cons_zero, List.set_cons_succ]
      refine ah_take (i := 3) (some 24) rfl rfl (by kernel_rfl) (by kernel_rfl) (by kernel_rfl) rfl (fun W _ => ex_index44 (k := k) rfl rfl rfl hlt) S0 (fun _ _ _ h => h) ?_
      simp only [Act.put, List.setIfInBounds_toArray, List.set_cons_zero, List.set_cons_succ]
      refine ah_take (i := 4) (some 25) rfl rfl (by kernel_rfl) (by kernel_rfl) (by kernel_rfl) rfl (fun W h => ex_load rfl rfl (cl W h)) S0 (fun _ _ _ h => h) ?_
      simp only [Act.put, List.setIfInBounds_toArray, List.set_cons_zero, List.set_cons_succ]
      refine ah_take (i := 5) (some 26) rfl rfl (by kernel_rfl) (by kernel_rfl) (by kernel_rfl) rfl (fun W h => ex_load rfl rfl (HL2.out W h)) S0 (fun _ _ _ h => h) ?_
      simp only [Act.put, List.setIfInBounds_toArray, List.set_cons_zero, List.set_cons_succ]
      refine ah_take (i := 6) (some 27) rfl rfl (by kernel_rfl) (by kernel_rfl) (by kernel_rfl) rfl (fun W _ => ex_mv (v := .slice (some ⟨g, 0, none⟩) n n) rfl rfl) S0 (fun _ _ _ h => h) ?_
      simp only [Act.put, List.setIfInBounds_toArray, List.set_cons_zero, List.set_cons_succ]
      refine ah_take (i := 7) (some 28) rfl rfl (by kernel_rfl) (by kernel_rfl) (by kernel_rfl) rfl (fun W _ => ex_mv (v := .int .i64 k) rfl rfl) S0 (fun _ _ _ h => h) ?_
      simp only [Act.put, List.setIfInBounds_toArray, List.set_cons_zero, List.set_cons_succ]
      refine ah_take (i := 8) (some 29) rfl rfl (by kernel_rfl) (by kernel_rfl) (by kernel_rfl) rfl (fun W _ => ex_index44 (k := k) rfl rfl rfl hlt) S0 (fun _ _ _ h => h) ?_
      simp only [Act.put, List.setIfInBounds_toArray, List.set_cons_zero, List.set_cons_succ]
      refine ah_take (i := 9) (some 30) rfl rfl (by kernel_rfl) (by kernel_rfl) (by kernel_rfl) rfl (fun W h => ex_load rfl rfl (cl W h)) S0 (fun _ _ _ h => h) ?_
      simp only [Act.put, List.setIfInBounds_toArray, List.set_cons_zero, List.set_cons_succ]
      refine ah_call (i := 10) (some 31) rfl rfl (by kernel_rfl) rfl (HVA.out i hi12 wd (HG2.out wd S0) (HN.out i hi12)) (ex_call (f := 24) (vs := [.agg C, .int .u64 (2 * (i : Int) + 1)]) rfl (cfValue _) rfl) ?_
      rintro e w4 ⟨va, vc, rfl, hIv, HBv, hwh⟩
      have S4 := S0.trans (HBv.mono S0.size)
      refine ⟨_, rfl, S4, ?_⟩
      simp only [Act.put, List.setIfInBounds_toArray, List.set_cons_zero, List.set_cons_succ]
      obtain ⟨k4, hk4⟩ : ∃ k4, (bytesF (F i)).length = k4 := ⟨_, rfl⟩
      have HK4 := hide hk4
      rw [hk4]
      have hV : SrcJ w4 (.slice la k lc) va vc (bytesF (F i)) := ⟨hIv, fun x hx hl e => by
        cases la with
        | none => cases e
        | some y =>
          have e' : x.block = y.block := Option.some.inj e
          have hlo := (Od.lt y.block rfl)
          rcases hwh x hx hl with h1 | ⟨c1, l1, h1⟩
          · omega
          · have hl1 : l1 ≠ [] := by rw [h1] at hl; exact hl
            have := HGL.out i hi12 x c1 l1 h1 hl1
            omega⟩
      clear hk4
      refine ah_take (i := 11) (some 32) rfl rfl (by kernel_rfl) (by kernel_rfl) (by kernel_rfl) rfl (fun W _ => ex_build2 (v1 := .int .u64 (2 * (i : Int) + 1)) (v2 := .slice va k4 vc) rfl rfl rfl (build39 _ _ _ _ _)) S4 (fun _ _ _ h => h) ?_
      simp only [Act.put, List.setIfInBounds_toArray, List.set_cons_zero, List.set_cons_succ]
      have S5 : Below w2.heap.size w2 (w4.alloc (.cells #[.int .u64 (2 * (i : Int) + 1), .slice va k4 vc] 39)) := S4.alloc (Nat.le_trans zr (by rw [← hwd] at HBv; exact HBv.size)) _
      refine ah_to (i := 12) (some 33) rfl rfl (by kernel_rfl) rfl (ex_bslice (u1 := .int .u64 (2 * (i : Int) + 1)) (u2 := .slice va k4 vc) rfl rfl (bslice40 _ _ _ _ _)) S5 ?_
      simp only [Act.put, List.setIfInBounds_toArray, List.set_cons_zero, List.set_cons_succ]
      have O4 := owns_below Od HBv
      refine ah_wp (i := 13) rfl (by kernel_rfl) rfl fun K' hK' => wp_append_lies _ (.tmp 21) (.tmp 33) 40 rfl w2.heap.size 39 j0 (.agg #[.int .u64 0, .slice none 0 0]) 2 32 Try.underlying40 hj hy0 hy1 hy2 rfl (by decide) (.slice la k lc) k (rqCells q) rfl (O4.alloc _) ⟨w4.heap.size, 0, none⟩ 1 1 [.int .u64 (2 * (i : Int) + 1), .slice va k4 vc] rfl rfl (cell_two_new _ _ _ _) (one_rec _ _ rfl rfl) (by omega) (by unfold maxLen; omega) (by omega) S5.size _ rfl fun g5 cap5 w5 ho hg5 hgb hlt5 => ?_
      have R5 := srcj_push (w2 := w2) (X := 2 * (i : Int) + 1) (k := k4) (L := bytesF (F i)) (q := q) (l := .slice la k lc) (by rw [HQK.out]; exact Od) Qd S0 HBv hV HK4.out (by rw [HQK.out]; exact ho) hg5 hgb
      rw [HQK.out] at R5
      refine hK' _ _ R5.2.2 ?_
      show wpAnyH _ _ _ _ _ _ _ (Act.put _ (some 34) _) _
      simp only [Act.put, List.setIfInBounds_toArray, List.set_cons_zero, List.set_cons_succ]
      refine ah_take (i := 14) (some 5) rfl rfl (by kernel_rfl) (by kernel_rfl) (by kernel_rfl) rfl (fun W _ => ex_asg (v := .slice (some ⟨g5, 0, none⟩) (k + 1) cap5) rfl rfl) R5.2.2 (fun _ _ _ h => h) ?_
      simp only [Act.put, List.setIfInBounds_toArray, List.set_cons_zero, List.set_cons_succ]
      refine ah_done (by kernel_rfl) ?_
      have J1 := hide R5.1
      have J2 := hide R5.2.1
      have J3 := hide R5.2.2
      clear R5 ho hg5 hgb hlt5 O4 S5 hV HBv hIv hwh S4 cl Qd Od S0 hwd
      go_wp2
      go_roundw
      case rel => exact ⟨k + 1, q ++ [(2 * (i : Int) + 1, va, vc, bytesF (F i))], by omega, by rw [List.length_append, HQK.out]; rfl, by go_num, hide (by rw [plain_append, HP.out, recs_take HI.out]; rfl), J1, J2, J3⟩
      case measure => simp [intOf]; omega
    · have ek : k = n := by omega
      subst ek
      have HPA := hide (show plain q = recs K F by rw [HP.out]; exact List.take_of_length_le (by rw [recs_len, HNL.out]; exact Nat.le_refl _))
      have HEN := hide (renc_fit (A := recs K F) (q := q) (by rw [HQK.out]; exact HO.out) (fun r hr => (HQ.out r hr).1) HPA.out (by intro h; have := congrArg List.length h; rw [recs_len] at this; exact HF0.out (List.eq_nil_of_length_eq_zero this)) (by rw [recs_len, HNL.out]; omega) (recs_ris K F) HRA.out.1 (by have := HRA.out.2; omega))
      have hRl := HRA.out.2
      obtain ⟨N, hN⟩ : ∃ N, (recsB (recs K F)).length = N := ⟨_, rfl⟩
      have HNN := hide hN
      rw [hN] at HEN hRl
      clear hN HPA HO HQ HP HRA
      go_wp2_with fail
      refine HEN.out.mono ?_
      rintro e w6 ⟨sa, sc, rfl, HI6, HB6⟩
      have S6 : Below w2.heap.size w2 w6 := HB.out.trans (HB6.out.mono zr)
      have HW6 := hide (HW2.out.trans (S6.mono HW2.out.size))
      have k6 := HK2.out w6 S6
      have HOW := hide (show (w6.alloc (.cells #[.int .u8 0, .int .u8 K] 5)).ownsRow w6.heap.size 5 1 (.slice (some ⟨w6.heap.size, 0, none⟩) 2 2) 2 (U8 [0, K]) from ⟨rfl, .inr ⟨w6.heap.size, 2, _, rfl, Nat.le_refl _, heap_alloc_new w6 _, Nat.le_refl _, by unfold maxLen; omega, rfl, rfl⟩⟩)
      have HI7 := hide (HI6.out.below (below_alloc w6 (.cells #[.int .u8 0, .int .u8 K] 5)))
      have hk0 : K / 256 = 0 := by omega
      have hk1 : K % 256 = K := by omega
      clear HI6 HEN HB6 HK2 HL2 HG2 HVA HGL
      go_wp2_with (at_builtin; refine wpList_append_ownw rfl (.tmp 47) (.tmp 48) rfl w6.heap.size _ 2 [0, K] rfl HOW.out sa N sc (recsB (recs K F)) rfl HNN.out HI7.out ?d1 ?d2 ?_)
      case d1 => omega
      case d2 => simp
      intro v8 w8 ho8 hg8
      have HW8 := hide ((HW6.out.alloc HW6.out.size (.cells #[.int .u8 0, .int .u8 K] 5)).grown hg8 (by simp; have := HW6.out.size; omega) (fun x hx => by cases hx; exact HW6.out.size))
      have HLE := hide (show (encB K F).length = 2 + N by rw [HEB.out, List.length_append, HNN.out]; rfl)
      have HO8 := hide (show w8.ownsRow w6.heap.size 5 1 v8 (encB K F).length (U8 (encB K F)) by rw [HLE.out, HEB.out]; exact ho8)
      obtain ⟨a9, c9, he9, hI9, l9, m9⟩ := own_isB HO8.out
      have HI9 := hide hI9
      rw [HLE.out] at he9
      subst he9
      clear ho8 hg8 HI7 HOW hI9 HO8
      go_wp2
      go_ret2
      exact ⟨a9, c9, by rw [HLE.out]; rfl, HI9, l9, m9, HW8⟩
end Go.Proofs.Ytcbadmkgbaffpaa

/- A message's bytes without their end are none of a message, as plain numbers. -/
namespace Go.Proofs.Ytcbadmkgbaffpaa
open Go.RowKit
set_option linter.unusedVariables false

theorem num_inj {x y : Int} {A B : List Int} (h0 : 0 ≤ x) (h1 : x ≤ 18446744073709551615) (g0 : 0 ≤ y) (g1 : y ≤ 18446744073709551615) (h : numB x ++ A = numB y ++ B) : x = y ∧ A = B := by
  have hx := (rd_num x A h0 h1).1
  have hy := (rd_num y B g0 g1).1
  rw [h, hy] at hx
  subst hx
  exact ⟨rfl, List.append_cancel_left h⟩
theorem recs_prefix : ∀ (A' A : List (Int × List Int)) (S : List Int), (∀ r ∈ A', 0 ≤ r.1 ∧ r.1 ≤ 18446744073709551615 ∧ r.2.length ≤ 140737488355328) → (∀ r ∈ A, 0 ≤ r.1 ∧ r.1 ≤ 18446744073709551615 ∧ r.2.length ≤ 140737488355328) → recsB A' ++ S = recsB A → ∃ B, A = A' ++ B ∧ S = recsB B
  | [], A, S, _, _, h => ⟨A, rfl, h⟩
  | r' :: t', [], S, _, _, h => by
    have := congrArg List.length h
    have np := numB_pos r'.1
    simp only [recsB, List.length_append, List.length_nil] at this
    omega
  | r' :: t', r :: t, S, h', h, e => by
    obtain ⟨a0, a1, a2⟩ := h' r' (List.mem_cons_self ..)
    obtain ⟨b0, b1, b2⟩ := h r (List.mem_cons_self ..)
    have e1 : numB r'.1 ++ (numB r'.2.length ++ (r'.2 ++ (recsB t' ++ S))) = numB r.1 ++ (numB r.2.length ++ (r.2 ++ recsB t)) := by
      rw [show numB r.1 ++ (numB r.2.length ++ (r.2 ++ recsB t)) = recsB (r :: t) from rfl, ← e]
      simp [recsB]
    obtain ⟨q1, e2⟩ := num_inj a0 a1 b0 b1 e1
    obtain ⟨q2, e3⟩ := num_inj (by omega) (by omega) (by omega) (by omega) e2
    have ql : r'.2.length = r.2.length := by omega
    obtain ⟨q3, e4⟩ := List.append_inj e3 ql
    obtain ⟨B, hB, hS⟩ := recs_prefix t' t S (fun x hx => h' x (List.mem_cons_of_mem _ hx)) (fun x hx => h x (List.mem_cons_of_mem _ hx)) e4
    refine ⟨B, ?_, hS⟩
    rw [hB, show r = r' from Prod.ext q1.symm q3.symm]
    rfl
theorem dec_cut {w : World} {K : Int} {F : Nat → Fld} (hF : Fits F) (hG : Good w F) (hm : mayB K F = true) (k : Nat) (hk : k < (encB K F).length) : ¬ decGood ((encB K F).take k) := fun hg => by
  have ha := recs_all hF hG hm
  have h2 := hg.1
  rw [List.length_take] at h2
  have hk2 : 2 ≤ k := by omega
  obtain ⟨j, rfl⟩ : ∃ j, k = j + 2 := ⟨k - 2, by omega⟩
  have hz : (encB K F).take (j + 2) = [0, K] ++ (recsB (recs K F)).take j := rfl
  have hj : j < (recsB (recs K F)).length := by
    have : (encB K F).length = 2 + (recsB (recs K F)).length := by simp [encB]; omega
    omega
  have hkind : kindOf ((encB K F).take (j + 2)) = K := by
    rw [hz]
    show 0 * 256 + K = K
    omega
  have hdrop : ((encB K F).take (j + 2)).drop 2 = (recsB (recs K F)).take j := rfl
  have hR := hg.2.1
  have hI := hg.2.2.1
  unfold recsOf at hR hI
  rw [hdrop] at hR hI
  rw [hkind] at hI
  have hbytes : Bytes ((recsB (recs K F)).take j) := Bytes.take (recsB_bytes _ (fun r hr => ⟨(ha.1 r hr).1, (ha.1 r hr).2.2.2⟩)) j
  have hlen : ((recsB (recs K F)).take j).length ≤ 65536 := by rw [List.length_take]; have := ha.2; omega
  unfold decT at hR hI
  rw [if_neg (by omega)] at hR
  rw [if_neg (by omega)] at hI
  obtain ⟨A', hA'⟩ : ∃ A', dec kn (((recsB (recs K F)).take j).length + 1) ((recsB (recs K F)).take j) [] = (0, A') := ⟨_, Prod.ext hR rfl⟩
  rw [hA'] at hI
  obtain ⟨A2, e1, e2, _, _, e5⟩ := dec_ok kn _ _ _ _ hbytes (Nat.lt_succ_self _) hA'
  rw [List.nil_append] at e1
  subst e1
  have hall : ∀ r ∈ recs K F, 0 ≤ r.1 ∧ r.1 ≤ 18446744073709551615 ∧ r.2.length ≤ 140737488355328 := fun r hr => ⟨(ha.1 r hr).1, (ha.1 r hr).2.1, by have := (ha.1 r hr).2.2.1; omega⟩
  obtain ⟨B, hB, hS⟩ := recs_prefix A' (recs K F) ((recsB (recs K F)).drop j) (fun r hr => ⟨(e5 r hr).1, (e5 r hr).2.1, by have := (e5 r hr).2.2.1; omega⟩) hall (by rw [e2, List.take_append_drop])
  cases B with
  | nil =>
    have := congrArg List.length hS
    rw [List.length_drop] at this
    simp [recsB] at this
    omega
  | cons b B =>
    have hb : b ∈ recs K F := by rw [hB]; simp
    obtain ⟨i, hi, hbi⟩ := List.mem_map.1 hb
    have hs := hI i hi
    unfold fldA at hs
    cases hl : look A' i with
    | none => rw [hl] at hs; cases hs
    | some L =>
      have hmem := look_mem hl
      obtain ⟨n, hn⟩ := List.getElem?_of_mem hmem
      have hn' : n < A'.length := (List.getElem?_eq_some_iff.1 hn).1
      have g1 : (recs K F)[n]? = some (2 * (i : Int) + 1, L) := by rw [hB, List.getElem?_append_left hn', hn]
      have g2 : (recs K F)[n + (A'.length - n - 1) + 1]? = some b := by
        rw [show n + (A'.length - n - 1) + 1 = A'.length by omega, hB, List.getElem?_append_right (Nat.le_refl _)]
        simp
      have := ris_lt (recs_ris K F) (A'.length - n - 1) n _ _ g1 g2
      rw [← hbi] at this
      exact absurd this (by show ¬ (2 * (i : Int) + 1 < 2 * (i : Int) + 1); omega)
end Go.Proofs.Ytcbadmkgbaffpaa

/- What the statements of wire have in common: numbers, rows of one record, what is put together. -/
namespace Go.Proofs.Ytcbadmkgbaffpaa
open Go.RowKit
set_option linter.unusedVariables false

theorem lss36T {x y : Int} (h : x < y) (W : World) : (binOp .lss 36 (.int .u64 x) (.int .u64 y)).run Try.prog W = .ok (.bool true) W := by have := decide_eq_true h; go_simp
theorem lss36F {x y : Int} (h : ¬ x < y) (W : World) : (binOp .lss 36 (.int .u64 x) (.int .u64 y)).run Try.prog W = .ok (.bool false) W := by have := decide_eq_false h; go_simp
theorem gtr36T {x y : Int} (h : x > y) (W : World) : (binOp .gtr 36 (.int .u64 x) (.int .u64 y)).run Try.prog W = .ok (.bool true) W := by have := decide_eq_true h; go_simp
theorem gtr36F {x y : Int} (h : ¬ x > y) (W : World) : (binOp .gtr 36 (.int .u64 x) (.int .u64 y)).run Try.prog W = .ok (.bool false) W := by have := decide_eq_false h; go_simp
theorem gtr3T {x y : Int} (h : x > y) (W : World) : (binOp .gtr 3 (.int .i64 x) (.int .i64 y)).run Try.prog W = .ok (.bool true) W := by rw [gtr3, decide_eq_true h]
theorem gtr3F {x y : Int} (h : ¬ x > y) (W : World) : (binOp .gtr 3 (.int .i64 x) (.int .i64 y)).run Try.prog W = .ok (.bool false) W := by rw [gtr3, decide_eq_false h]
theorem lss3T {x y : Int} (h : x < y) (W : World) : (binOp .lss 3 (.int .i64 x) (.int .i64 y)).run Try.prog W = .ok (.bool true) W := by rw [lss3, decide_eq_true h]
theorem lss3F {x y : Int} (h : ¬ x < y) (W : World) : (binOp .lss 3 (.int .i64 x) (.int .i64 y)).run Try.prog W = .ok (.bool false) W := by rw [lss3, decide_eq_false h]
theorem neq26 (x y : Int) (W : World) : (binOp .neq 26 (.int .i64 x) (.int .i64 y)).run Try.prog W = .ok (.bool (x != y)) W := by go_simp
theorem mul36 {x : Int} (h0 : 0 ≤ x) (h : x ≤ 4611686018427387904) (W : World) : (binOp .mul 36 (.int .u64 2) (.int .u64 x)).run Try.prog W = .ok (.int .u64 (2 * x)) W := by
  go_simp
  simp [IntKind.wrap, IntKind.bits, IntKind.signed]
  omega
theorem add36 {x : Int} (h0 : 0 ≤ x) (h : x ≤ 4611686018427387904) (W : World) : (binOp .add 36 (.int .u64 (2 * x)) (.int .u64 1)).run Try.prog W = .ok (.int .u64 (2 * x + 1)) W := by
  go_simp
  simp [IntKind.wrap, IntKind.bits, IntKind.signed]
  omega
theorem build39z (x : Int) (w : World) : (Instr.build 39 #[(0, .int .u64 x)]).run Try.prog w = .ok (.agg #[.int .u64 x, .slice none 0 0]) w := run_build w 39 _ _ (by kernel_rfl)
theorem ex_bytes0 {o : Oper} {a : Act} {w : World} (ho : o.op = .buildSlice 23 0 #[]) : (execOp a.eval o).run Try.prog w = .ok (.value (.slice (some ⟨w.heap.size, 0, none⟩) 0 0)) (w.alloc (.cells #[] 5)) := by
  unfold execOp
  simp only [ho]
  go_simp
/-- the stream of one record -/
theorem one_fit {W : World} {X : Int} {va : Option Addr} {vc : Nat} {L : List Int} (hI : IsB W va vc L) (h0 : 0 ≤ X) (h1 : X ≤ 18446744073709551615) (hl : L.length ≤ 1000) (hb : Bytes L) :
    Calls Try.prog 19 #[.slice (some ⟨W.heap.size, 0, none⟩) 1 1] (W.alloc (.cells #[.int .u64 X, .slice va L.length vc] 39)) fun e w' => ∃ ao cp, e = .returned (.tuple #[.slice ao (recsB [(X, L)]).length cp, .int .i64 0]) ∧ Hid (IsB w' ao cp (recsB [(X, L)])) ∧ Hid (Below (W.alloc (.cells #[.int .u64 X, .slice va L.length vc] 39)).heap.size (W.alloc (.cells #[.int .u64 X, .slice va L.length vc] 39)) w') := by
  refine enc_fit (B := W.heap.size) (q := [(X, va, vc, L)]) (A := [(X, L)]) ⟨rfl, .inr ⟨W.heap.size, 1, _, rfl, Nat.le_refl _, heap_alloc_new W _, Nat.le_refl _, by unfold maxLen; omega, rfl, rfl⟩⟩ (fun r hr => ?_) rfl (by simp) (by simp) ⟨by show (-1 : Int) < X; omega, trivial⟩ (fun r hr => ?_) ?_
  · rw [List.mem_singleton.1 hr]; exact hI.below (below_alloc W _)
  · rw [List.mem_singleton.1 hr]; exact ⟨h0, h1, by show L.length ≤ _; omega, hb⟩
  · have a := numB_le X
    have b := numB_le (L.length : Int)
    show (numB X ++ (numB L.length ++ (L ++ []))).length ≤ 65536
    simp only [List.length_append, List.length_nil]
    omega
theorem enc_bytes {w : World} {K : Int} {F : Nat → Fld} (hF : Fits F) (hG : Good w F) (hm : mayB K F = true) : Bytes (encB K F) ∧ (encB K F).length ≤ 12782 := by
  have ha := recs_all hF hG hm
  have hK : 1 ≤ K ∧ K ≤ 6 := by
    have hf0 := (may_ok hm).1
    unfold fl at hf0
    repeat' split at hf0
    all_goals first | omega | exact absurd rfl hf0
  refine ⟨fun c hc => ?_, by have := ha.2; simp [encB]; omega⟩
  rcases List.mem_append.1 hc with hc | hc
  · simp at hc
    omega
  · exact recsB_bytes _ (fun r hr => ⟨(ha.1 r hr).1, (ha.1 r hr).2.2.2⟩) c hc
theorem cfBEncode (W : World) (vs : Array Value) : (callFunc 19 vs).run Try.prog W = .ok (.enter 19 vs) W := by go_simp
theorem ret_out {next : Act → World → Prop} {Q : Exit → Act → World → Prop} {a : Act} {w : World} (h : Q .ret a w) : Exit.then next Q .ret a w := h
theorem sameZ : sameB 0 0 ZF ZF = true := sameB_of fun i _ => rfl
/-- what the document's Encode answers, whatever the message -/
theorem rencode_any (K : Int) (F : Nat → Fld) (hF : Fits F) (w : World) (hG : Good w F) (hA : ∀ n, F 2 = .num n → n ≤ 9223372036854775807) :
    Calls Try.prog 10 #[.agg (mc K F).toArray] w fun e w' => (∃ a c l E, e = .returned (.tuple #[.slice a l c, .int .i64 E]) ∧ ((mayB K F = false ∧ E = 1 ∧ a = none ∧ l = 0 ∧ c = 0) ∨ (mayB K F = true ∧ E = 0 ∧ l = (encB K F).length ∧ IsB w' a c (encB K F) ∧ l ≤ c ∧ c ≤ 9223372036854775807))) ∧ Hid (Below w.heap.size w w') := by
  cases hm : mayB K F with
  | false => exact (rencode_no K F hF w hG hA hm).mono fun e w' hh => ⟨⟨none, 0, 0, 1, hh.1, .inl ⟨rfl, rfl, rfl, rfl, rfl⟩⟩, hh.2⟩
  | true => exact (rencode_ok K F hF w hG hA hm).mono fun e w' ⟨a, c, h1, h2, h3, h4, h5⟩ => ⟨⟨a, c, _, 0, h1, .inr ⟨rfl, rfl, rfl, h2.out, h3, h4⟩⟩, h5⟩
end Go.Proofs.Ytcbadmkgbaffpaa

/- What WireEncodes wants besides: operations of which either may come first, bytes that are appended to nothing, one cell stored. -/
namespace Go.Proofs.Ytcbadmkgbaffpaa
open Go.RowKit
set_option linter.unusedVariables false

section
variable {ops : Array Oper} {o : Oper} {a : Act} {w w' : World} {Q : Exit → Act → World → Prop} {md : Region.Mode} {fuel : Nat} {L : Array Bool} {i j : Nat} {S : World → Prop} {v : Value}
/-- it comes up next -/
def Nx (md : Region.Mode) (ops : Array Oper) (Q : Exit → Act → World → Prop) (S : World → Prop) (fuel : Nat) (L : Array Bool) (i : Nat) (a : Act) (w : World) : Prop := wpOp Try.prog ops Q i (fun a' w' => S w' ∧ wpAnyH Try.prog md ops Q S fuel (L.setIfInBounds i true) a' w') a w
theorem ah_or2 (hr : Region.ready md ops L = [i, j]) (h1 : Nx md ops Q S fuel L i a w) (h2 : Nx md ops Q S fuel L j a w) : wpAnyH Try.prog md ops Q S (fuel + 1) L a w :=
  wpAnyH_all hr (by simp) fun m hm => by
    rcases List.mem_cons.1 hm with rfl | hm
    · exact h1
    · rw [List.mem_singleton.1 hm]; exact h2
theorem ah_or1 (hr : Region.ready md ops L = [i]) (h1 : Nx md ops Q S fuel L i a w) : wpAnyH Try.prog md ops Q S (fuel + 1) L a w :=
  wpAnyH_all hr (by simp) fun m hm => by rw [List.mem_singleton.1 hm]; exact h1
theorem nx_wp (hi : ops[i]? = some o) (hw : Region.wanted o (yielded ops a.tmps) = true)
    (h : ∀ K : Act → World → Prop, (∀ a' w', S w' → wpAnyH Try.prog md ops Q S fuel (L.setIfInBounds i true) a' w' → K a' w') → o.wp Try.prog a w K Q) : Nx md ops Q S fuel L i a w :=
  wpOp_step hi fun K hK => by rw [if_pos hw]; exact h K (fun a' w' h1 h2 => hK a' w' ⟨h1, h2⟩)
theorem nx_to (d : Option Tmp) (hi : ops[i]? = some o) (hd : o.dst = d) (hw : Region.wanted o (yielded ops a.tmps) = true) (hx : (execOp a.eval o).run Try.prog w = .ok (.value v) w') (hS : S w')
    (h : wpAnyH Try.prog md ops Q S fuel (L.setIfInBounds i true) (a.put d v) w') : Nx md ops Q S fuel L i a w :=
  nx_wp hi hw fun K hK => by subst hd; unfold Oper.wp; rw [hx]; exact hK _ _ hS h
/-- a store -/
theorem nx_skip (hi : ops[i]? = some o) (hd : o.dst = none) (hw : Region.wanted o (yielded ops a.tmps) = true) (hx : (execOp a.eval o).run Try.prog w = .ok .skip w') (hS : S w')
    (h : wpAnyH Try.prog md ops Q S fuel (L.setIfInBounds i true) a w') : Nx md ops Q S fuel L i a w :=
  nx_wp hi hw fun K hK => by unfold Oper.wp; rw [hx]; exact hK _ _ hS (by rw [hd]; exact h)
theorem ex_store23 {x y : Operand} {b p n c n2 c2 : Nat} {ao ao2 : Option Addr} (ho : o.op = .store 23 x y) (hx : a.eval x = .pointer (some ⟨b, p, none⟩)) (hy : a.eval y = .slice ao n c) (hc : w.cell? ⟨b, p, none⟩ = some (.slice ao2 n2 c2)) (hf : w.frozen? ⟨b, p, none⟩ = false) : (execOp a.eval o).run Try.prog w = .ok .skip (w.setCell ⟨b, p, none⟩ (.slice ao n c)) := by
  unfold execOp
  simp only [ho, hx, hy]
  go_simp
/-- bytes behind an empty row of the call's own -/
theorem nx_app (d : Option Tmp) (hi : ops[i]? = some o) (hd : o.dst = d) (hw : Region.wanted o (yielded ops a.tmps) = true) {s x : Operand} (ho : o.op = .call { callee := .builtin .append, args := #[s, x], argTypes := #[23, 23] }) {B g : Nat} (hs : a.eval s = .slice (some ⟨g, 0, none⟩) 0 0) (hown : w.ownsRow B 5 1 (.slice (some ⟨g, 0, none⟩) 0 0) 0 (U8 []))
    {ao : Option Addr} {c m : Nat} {zs : List Int} (hx : a.eval x = .slice ao m c) (hm : zs.length = m) (hB : IsB w ao c zs) (hl : m ≤ 140737488351232) (hbase : B ≤ w.heap.size)
    (h : ∀ a1 c1 w', w'.ownsRow B 5 1 (.slice a1 m c1) m (U8 zs) → w.grownBy w' (some g) → S w' ∧ wpAnyH Try.prog md ops Q S fuel (L.setIfInBounds i true) (a.put d (.slice a1 m c1)) w') : Nx md ops Q S fuel L i a w := by
  obtain ⟨i0, hi0, hz0, hz1, hz2⟩ := info_parts Try.info5
  subst hd
  have sh : ∀ (v' : Value) (w' : World), w'.ownsRow B 5 1 v' m (U8 zs) → ∃ a1 c1, v' = .slice a1 m c1 := fun v' w' h1 => by
    rw [← hm] at h1
    obtain ⟨ao, cap, e, _⟩ := own_isB h1
    exact ⟨ao, cap, by rw [e, hm]⟩
  rcases hB with ⟨rfl, rfl, rfl⟩ | ⟨ad, rfl, hc⟩
  · have hm0 : m = 0 := hm.symm
    subst hm0
    refine nx_wp hi hw fun K hK => ?_
    have hrun := run_append_owned_none (P := Try.prog) (w := w) B 23 o.type 5 i0 1 Try.underlying23 hi0 (.slice (some ⟨g, 0, none⟩) 0 0) 0 (U8 []) hown
    have h2 := h (some ⟨g, 0, none⟩) 0 w hown (World.grownBy.refl _ _)
    unfold Oper.wp
    simp only [execOp, ho, resolve, invoke, builtin, Sem.run_bind]
    simp [hs, hx, hrun, Result.andThen]
    exact hK _ _ h2.1 h2.2
  · refine nx_wp hi hw fun K hK => wp_append_own (P := Try.prog) w s x 23 ho B 5 i0 (.int .u8 0) 1 1 Try.underlying23 hi0 hz0 hz1 hz2 rfl (by decide) _ 0 (U8 []) hs hown ad m c (U8 zs) hx (by simp [U8, hm]) hc (one_u8 zs) (by unfold maxLen; omega) (by omega) hbase fun v' w' h1 h2 _ => ?_
    rw [Nat.zero_add, show U8 [] ++ U8 zs = U8 zs from rfl] at h1
    obtain ⟨a1, c1, rfl⟩ := sh v' w' h1
    have h3 := h a1 c1 w' h1 h2
    exact hK _ _ h3.1 h3.2
end
section
variable {ops : Array Oper} {a : Act} {w : World} {Q : Exit → Act → World → Prop} {md : Region.Mode} {fuel : Nat} {L L' : Array Bool} {S : World → Prop}
theorem ah_L (e : L = L') (h : wpAnyH Try.prog md ops Q S fuel L' a w) : wpAnyH Try.prog md ops Q S fuel L a w := e ▸ h
theorem cap (h : ∀ (ops' : Array Oper) (Q' : Exit → Act → World → Prop) (S' : World → Prop), ops' = ops → Q' = Q → S' = S → wpAnyH Try.prog md ops' Q' S' fuel L a w) : wpAnyH Try.prog md ops Q S fuel L a w := h ops Q S rfl rfl rfl
end
/-- an empty row -/
theorem own_new {w : World} {B : Nat} (h : B ≤ w.heap.size) : (w.alloc (.cells #[] 5)).ownsRow B 5 1 (.slice (some ⟨w.heap.size, 0, none⟩) 0 0) 0 (U8 []) :=
  ⟨rfl, .inr ⟨w.heap.size, 0, #[], rfl, h, heap_alloc_new w _, Nat.le_refl _, by unfold maxLen; omega, rfl, rfl⟩⟩
theorem own_kept {w w' : World} {B g n c : Nat} {L : List Int} (h : w.ownsRow B 5 1 (.slice (some ⟨g, 0, none⟩) n c) n (U8 L)) (hk : w'.heap[g]? = w.heap[g]?) : w'.ownsRow B 5 1 (.slice (some ⟨g, 0, none⟩) n c) n (U8 L) := by
  refine ⟨h.1, ?_⟩
  rcases h.2 with ⟨e, _⟩ | ⟨g', cap, cur, e, hb, hh, r⟩
  · cases e
  · cases e
    exact .inr ⟨g, c, cur, rfl, hb, by rw [hk]; exact hh, r⟩
/-- bytes of a row lie from its base on -/
theorem own_ge {w : World} {B n c : Nat} {a : Option Addr} {L : List Int} (h : w.ownsRow B 5 1 (.slice a n c) n (U8 L)) : ∀ x, a = some x → B ≤ x.block := fun x hx => by
  subst hx
  rcases h.2 with ⟨e, _⟩ | ⟨g', cap, cur, e, hb, hh, r⟩
  · cases e
  · cases e; exact hb
/-- and not in an empty one -/
theorem own_ne {w : World} {B n c g : Nat} {a : Option Addr} {L : List Int} (h : w.ownsRow B 5 1 (.slice a n c) n (U8 L)) (hn : L.length = n) (hL : L ≠ []) {sp : Nat × Nat} (h2 : w.heap[g]? = some (.cells #[] 5 sp)) : ∀ x, a = some x → x.block ≠ g := fun x hx e' => by
  subst hx
  rcases h.2 with ⟨e, _⟩ | ⟨g', cap, cur, e, hb, hh, hc, _, hcs, _⟩
  · cases e
  · cases e
    have e'' : g' = g := e'
    rw [e'', h2] at hh
    cases hh
    have := List.length_pos_iff.2 hL
    simp at hcs
    omega
theorem row_after {w w' : World} {B c g : Nat} {a : Option Addr} {L : List Int} (h : w.ownsRow B 5 1 (.slice a L.length c) L.length (U8 L)) (hg : w.grownBy w' (some g)) (hne : ∀ x, a = some x → L ≠ [] → x.block ≠ g) : IsB w' a c L := by
  obtain ⟨ao, cap, e, hI, _⟩ := own_isB h
  cases e
  exact isB_grown hI (fun x hx hl e => hne x hx hl (Option.some.inj e)) hg
theorem upd_plain {F : Nat → Fld} {i : Nat} {f : Fld} (h : f.plain = (F i).plain) (j : Nat) : (upd F i f j).plain = (F j).plain := by
  unfold upd
  split
  · rename_i e; rw [e]; exact h
  · rfl
theorem may_plain {K : Int} {F G : Nat → Fld} (h : ∀ i, i < 12 → (G i).plain = (F i).plain) : mayB K G = mayB K F := by
  rw [mayB_plain, mayB_plain]
  exact mayP_congr h
theorem bytes_plain {f g : Fld} (h : f.plain = g.plain) : bytesF f = bytesF g := by
  rcases f with n | l | ⟨a, c, l⟩ <;> rcases g with n' | l' | ⟨a', c', l'⟩ <;> simp [Fld.plain] at h <;> simp [bytesF, h]
theorem enc_plain {K : Int} {F G : Nat → Fld} (h : ∀ i, i < 12 → (G i).plain = (F i).plain) : encB K G = encB K F := by
  unfold encB recs
  congr 2
  refine List.map_congr_left fun i hi => ?_
  rw [bytes_plain (h i (fl_lt K i hi))]
theorem bareP_plain {K : Int} {F G : Nat → Fld} (h : ∀ i, i < 12 → (G i).plain = (F i).plain) (i : Nat) (hi : i < 12) : bareP K G i = bareP K F i := by
  unfold bareP
  rw [h i hi]
theorem neq9 (x : ByteArray) (W : World) : (binOp .neq 9 (.string x) (.string x)).run Try.prog W = .ok (.bool false) W := by go_simp
theorem eg9' (bop : BinOp) (x y : Operand) (u v : ByteArray) (W : World) : (eqGuard bop 9 x y (.string u) (.string v)).run Try.prog W = .ok () W := by cases bop <;> rfl
theorem neq4 (x : Bool) (W : World) : (binOp .neq 4 (.bool x) (.bool x)).run Try.prog W = .ok (.bool false) W := by cases x <;> go_simp
theorem neq26s (x : Int) (W : World) : (binOp .neq 26 (.int .i64 x) (.int .i64 x)).run Try.prog W = .ok (.bool false) W := by rw [neq26]; simp
end Go.Proofs.Ytcbadmkgbaffpaa
