/- Operations one by one: in a plain region, and in one that draws its order. -/
import Derived.Test.YtdmhcgneafacmaaFAct
namespace Go.Proofs.Ytdmhcgneafacmaa
open Go.RowKit
set_option linter.unusedVariables false
set_option linter.unusedSimpArgs false
set_option maxRecDepth 100000

section
variable {ops : Array Oper} {o : Oper} {a : Act} {w w' : World} {Q : Exit → Act → World → Prop} {md : Region.Mode} {fuel : Nat} {L : Array Bool} {i j : Nat} {v : Value}
/-- it comes up next -/
def Ny (md : Region.Mode) (ops : Array Oper) (Q : Exit → Act → World → Prop) (fuel : Nat) (L : Array Bool) (i : Nat) (a : Act) (w : World) : Prop := wpOp Try.prog ops Q i (fun a' w' => wpAny Try.prog md ops Q fuel (L.setIfInBounds i true) a' w') a w
theorem an_or2 (hr : Region.ready md ops L = [i, j]) (h1 : Ny md ops Q fuel L i a w) (h2 : Ny md ops Q fuel L j a w) : wpAny Try.prog md ops Q (fuel + 1) L a w :=
  wpAny_all hr (by simp) fun m hm => by
    rcases List.mem_cons.1 hm with rfl | hm
    · exact h1
    · rw [List.mem_singleton.1 hm]; exact h2
theorem an_or1 (hr : Region.ready md ops L = [i]) (h1 : Ny md ops Q fuel L i a w) : wpAny Try.prog md ops Q (fuel + 1) L a w :=
  wpAny_all hr (by simp) fun m hm => by rw [List.mem_singleton.1 hm]; exact h1
theorem ny_wp (hi : ops[i]? = some o) (hw : Region.wanted o (yielded ops a.tmps) = true)
    (h : ∀ K : Act → World → Prop, (∀ a' w', wpAny Try.prog md ops Q fuel (L.setIfInBounds i true) a' w' → K a' w') → o.wp Try.prog a w K Q) : Ny md ops Q fuel L i a w :=
  wpOp_step hi fun K hK => by rw [if_pos hw]; exact h K (fun a' w' h2 => hK a' w' h2)
theorem ny_to (d : Option Tmp) (hi : ops[i]? = some o) (hd : o.dst = d) (hw : Region.wanted o (yielded ops a.tmps) = true) (hx : (execOp a.eval o).run Try.prog w = .ok (.value v) w')
    (h : wpAny Try.prog md ops Q fuel (L.setIfInBounds i true) (a.put d v) w') : Ny md ops Q fuel L i a w :=
  ny_wp hi hw fun K hK => by subst hd; unfold Oper.wp; rw [hx]; exact hK _ _ h
theorem ny_skip (hi : ops[i]? = some o) (hd : o.dst = none) (hw : Region.wanted o (yielded ops a.tmps) = true) (hx : (execOp a.eval o).run Try.prog w = .ok .skip w')
    (h : wpAny Try.prog md ops Q fuel (L.setIfInBounds i true) a w') : Ny md ops Q fuel L i a w :=
  ny_wp hi hw fun K hK => by unfold Oper.wp; rw [hx]; exact hK _ _ (by rw [hd]; exact h)
theorem ny_call (d : Option Tmp) (hi : ops[i]? = some o) (hd : o.dst = d) (hw : Region.wanted o (yielded ops a.tmps) = true) {f : FuncId} {args : Array Value} {post : Ending → World → Prop} (hc : Calls Try.prog f args w post) (hx : (execOp a.eval o).run Try.prog w = .ok (.enter f args) w)
    (h : ∀ e w', post e w' → ∃ v, e = .returned v ∧ wpAny Try.prog md ops Q fuel (L.setIfInBounds i true) (a.put d v) w') : Ny md ops Q fuel L i a w :=
  ny_wp hi hw fun K hK => by
    subst hd
    unfold Oper.wp
    rw [hx]
    refine Calls.mono hc fun e w' hp => ?_
    obtain ⟨v, rfl, h'⟩ := h e w' hp
    exact hK _ _ h'
theorem an_done (hr : Region.ready md ops L = []) (h : Q .normal a w) : wpAny Try.prog md ops Q fuel L a w := wpAny_done hr h _
theorem an_take {v : Value} (d : Option Tmp) (hi : ops[i]? = some o) (hd : o.dst = d) (hs : Region.noSelect ops = true) (hf : Region.free md ops L i = true) (hr : (Region.ready md ops L).contains i = true) (hw : Region.wanted o (yielded ops a.tmps) = true) (hx : ∀ W, (execOp a.eval o).run Try.prog W = .ok (.value v) W)
    (hQ : ∀ c a w, Q (.panic c) (a.put d v) w → Q (.panic c) a w) (h : wpAny Try.prog md ops Q fuel (L.setIfInBounds i true) (a.put d v) w) : wpAny Try.prog md ops Q (fuel + 1) L a w := by
  subst hd
  exact wpAny_take hi hs hf hr hQ (.inl ⟨hw, hx⟩) h
theorem ex_call {f : Nat} {xs : Array Operand} {ts : Array TypeId} (ho : o.op = .call { callee := .value (.func f), args := xs, argTypes := ts }) (hf : ∀ vs, (callFunc f vs).run Try.prog w = .ok (.enter f vs) w) {vs : List Value} (hv : xs.toList.map a.eval = vs) : (execOp a.eval o).run Try.prog w = .ok (.enter f vs.toArray) w := by
  have hm : xs.map a.eval = vs.toArray := by rw [← hv, ← Array.toList_map]
  have := hf (xs.map a.eval)
  rw [← hm]
  unfold execOp
  simp only [ho, resolve, Sem.run_bind]
  have he : a.eval (.func f) = .func (.func f) #[] #[] := rfl
  rw [he]
  simp [Deferred.ofValue, invoke, this]
theorem ex_mv {x : Operand} {v : Value} (ho : o.op = .move x) (hx : a.eval x = v) : (execOp a.eval o).run Try.prog w = .ok (.value v) w := by
  unfold execOp
  simp only [ho, hx, Sem.run_pure]
theorem ex_nck {x : Operand} {p : Addr} (ho : o.op = .nilCheck x) (hx : a.eval x = .pointer (some p)) : (execOp a.eval o).run Try.prog w = .ok (.value (.pointer (some p))) w := by
  unfold execOp
  simp only [ho, hx]
  go_simp
theorem ex_fa {x : Operand} {t k : Nat} {p q : Value} (ho : o.op = .fieldAddr t x k) (hx : a.eval x = p) (hf : (Instr.fieldAt t p k).run Try.prog w = .ok q w) : (execOp a.eval o).run Try.prog w = .ok (.value q) w := by
  unfold execOp
  simp only [ho, hx, Sem.run_bind, Sem.run_pure, hf, Result.andThen_ok]
theorem ex_load {x : Operand} {t : Nat} (ho : o.op = .load t x) {p v : Value} (hx : a.eval x = p) (hl : (Instr.loadAt t p).run Try.prog w = .ok v w) : (execOp a.eval o).run Try.prog w = .ok (.value v) w := by
  unfold execOp
  simp only [ho, hx, Sem.run_bind, Sem.run_pure, hl, Result.andThen_ok]
theorem ex_bsl {x : Operand} {t : Nat} (ho : o.op = .buildSlice t 1 #[(0, x)]) {u : Value} (h1 : a.eval x = u) (hb : (Instr.buildSlice t 1 #[(0, u)]).run Try.prog w = .ok v w') : (execOp a.eval o).run Try.prog w = .ok (.value v) w' := by
  unfold execOp
  simp [ho, h1, hb]
theorem ex_store {x y : Operand} {t : Nat} {p u : Value} (ho : o.op = .store t x y) (hx : a.eval x = p) (hy : a.eval y = u) (hr : (Instr.storeAt t p u).run Try.prog w = .ok () w') : (execOp a.eval o).run Try.prog w = .ok .skip w' := by
  unfold execOp
  simp [ho, hx, hy, hr]
theorem ex_app {s x : Operand} {t : Nat} {u n : Value} (ho : o.op = .call { callee := .builtin .append, args := #[s, x], argTypes := #[t, t] }) (hs : a.eval s = u) (hx : a.eval x = n) (hr : (Builtin.append_ #[t, t] o.type #[u, n]).run Try.prog w = .ok v w') : (execOp a.eval o).run Try.prog w = .ok (.value v) w' := by
  unfold execOp
  simp [ho, resolve, invoke, builtin, hs, hx, hr, Result.andThen]
end
section
variable {ops : Array Oper} {o : Oper} {a : Act} {w w' : World} {Q : Exit → Act → World → Prop} {md : Region.Mode} {fuel : Nat} {L : Array Bool} {i j : Nat} {v : Value} {S : World → Prop}
theorem ah_take (d : Option Tmp) (hi : ops[i]? = some o) (hd : o.dst = d) (hs : Region.noSelect ops = true) (hf : Region.free md ops L i = true) (hr : (Region.ready md ops L).contains i = true) (hw : Region.wanted o (yielded ops a.tmps) = true) (hx : ∀ W, S W → (execOp a.eval o).run Try.prog W = .ok (.value v) W) (hS : S w)
    (hQ : ∀ c a w, Q (.panic c) (a.put d v) w → Q (.panic c) a w) (h : wpAnyH Try.prog md ops Q S fuel (L.setIfInBounds i true) (a.put d v) w) : wpAnyH Try.prog md ops Q S (fuel + 1) L a w := by
  subst hd
  exact wpAnyH_take hi hs hf hr hQ (.inl ⟨hw, hx⟩) hS h
theorem ah_skip (d : Option Tmp) (hi : ops[i]? = some o) (hd : o.dst = d) (hs : Region.noSelect ops = true) (hf : Region.free md ops L i = true) (hr : (Region.ready md ops L).contains i = true) (hw : Region.wanted o (yielded ops a.tmps) = false) (hS : S w)
    (hQ : ∀ c a w, Q (.panic c) (a.put d undef) w → Q (.panic c) a w) (h : wpAnyH Try.prog md ops Q S fuel (L.setIfInBounds i true) (a.put d undef) w) : wpAnyH Try.prog md ops Q S (fuel + 1) L a w := by
  subst hd
  exact wpAnyH_take hi hs hf hr hQ (.inr ⟨hw, rfl⟩) hS h
theorem ah_call (d : Option Tmp) (hi : ops[i]? = some o) (hd : o.dst = d) (hr : Region.ready md ops L = [i]) (hw : Region.wanted o (yielded ops a.tmps) = true) {f : FuncId} {args : Array Value} {post : Ending → World → Prop} (hc : Calls Try.prog f args w post) (hx : (execOp a.eval o).run Try.prog w = .ok (.enter f args) w)
    (h : ∀ e w', post e w' → ∃ v, e = .returned v ∧ S w' ∧ wpAnyH Try.prog md ops Q S fuel (L.setIfInBounds i true) (a.put d v) w') : wpAnyH Try.prog md ops Q S (fuel + 1) L a w :=
  wpAnyH_all hr (by simp) fun j hj => by
    rw [List.mem_singleton.1 hj]
    subst hd
    refine wpOp_step hi fun K hK => ?_
    rw [if_pos hw]
    unfold Oper.wp
    rw [hx]
    refine Calls.mono hc fun e w' hp => ?_
    obtain ⟨v, rfl, h'⟩ := h e w' hp
    exact hK _ _ h'
theorem ah_done (hr : Region.ready md ops L = []) (h : Q .normal a w) : wpAnyH Try.prog md ops Q S fuel L a w := wpAnyH_done hr h _
theorem ex_not {x : Operand} {b : Bool} (ho : o.op = .unOp .not 4 x) (hx : a.eval x = .bool b) : (execOp a.eval o).run Try.prog w = .ok (.value (.bool (!b))) w := by
  unfold execOp
  simp only [ho, hx]
  go_simp
theorem ex_len {x : Operand} {t : Nat} {u : Value} (ho : o.op = .call { callee := .builtin .len, args := #[x], argTypes := #[t] }) (hx : a.eval x = u) (hr : (Builtin.len_ #[t] o.type #[u]).run Try.prog w = .ok v w) : (execOp a.eval o).run Try.prog w = .ok (.value v) w := by
  unfold execOp
  simp [ho, resolve, invoke, builtin, hx, hr, Result.andThen]
theorem ex_bin {x y : Operand} {b : BinOp} {t t2 : Nat} (ho : o.op = .binOp b t x y t2) {u v r : Value} (hx : a.eval x = u) (hy : a.eval y = v) (hq : (eqGuard b t x y u v).run Try.prog w = .ok () w) (hl : (binOp b t u v).run Try.prog w = .ok r w) : (execOp a.eval o).run Try.prog w = .ok (.value r) w := by
  unfold execOp
  simp only [ho, hx, hy, Sem.run_bind, Sem.run_pure, hq, hl, Result.andThen_ok]
theorem ex_pkT {c x y : Operand} {v : Value} (ho : o.op = .pick c x y) (hc : a.eval c = .bool true) (hx : a.eval x = v) : (execOp a.eval o).run Try.prog w = .ok (.value v) w := by
  unfold execOp
  simp only [ho, hc, hx, Sem.run_bind, Sem.run_pure]
  rfl
theorem ex_pkF {c x y : Operand} {v : Value} (ho : o.op = .pick c x y) (hc : a.eval c = .bool false) (hx : a.eval y = v) : (execOp a.eval o).run Try.prog w = .ok (.value v) w := by
  unfold execOp
  simp only [ho, hc, hx, Sem.run_bind, Sem.run_pure]
  rfl
end
theorem geqI (x y : Int) (w : World) : (binOp .geq 3 (.int .i64 x) (.int .i64 y)).run Try.prog w = .ok (.bool (decide (y ≤ x))) w := by go_simp
theorem gtrI (x y : Int) (w : World) : (binOp .gtr 3 (.int .i64 x) (.int .i64 y)).run Try.prog w = .ok (.bool (decide (y < x))) w := by go_simp
theorem len31 (ao : Option Addr) (n c : Nat) (ty : TypeId) (w : World) : (Builtin.len_ #[31] ty #[.slice ao n c]).run Try.prog w = .ok (.int .i64 n) w := by go_simp
theorem fa59 (f k : Nat) (hk : k < 5) (w : World) : (Instr.fieldAt 59 (.pointer (some ⟨f, 0, none⟩)) k).run Try.prog w = .ok (.pointer (some ⟨f, k, none⟩)) w := by
  rcases k with _ | _ | _ | _ | _ | k
  · go_simp
  · go_simp
  · go_simp
  · go_simp
  · go_simp
  · omega
end Go.Proofs.Ytdmhcgneafacmaa
