/- Regions that draw their order; stores into blocks of one's own; what loads answer. -/
import Derived.Test.YtkhpbjafdamhaaaDOps
namespace Go.Proofs.Ytkhpbjafdamhaaa
open Go.RowKit
set_option linter.unusedVariables false
set_option linter.unusedSimpArgs false
set_option maxRecDepth 100000

section
variable {ops : Array Oper} {rest : List Oper} {o : Oper} {a : Act} {w w' : World} {Q : Exit → Act → World → Prop} {md : Region.Mode} {fuel : Nat} {L : Array Bool} {i j k l : Nat} {v : Value} {S : World → Prop}
theorem ah_take (d : Option Tmp) (hi : ops[i]? = some o) (hd : o.dst = d) (hs : Region.noSelect ops = true) (hf : Region.free md ops L i = true) (hr : (Region.ready md ops L).contains i = true) (hw : Region.wanted o (yielded ops a.tmps) = true) (hx : ∀ W, S W → (execOp a.eval o).run Try.prog W = .ok (.value v) W) (hS : S w)
    (hQ : ∀ c a w, Q (.panic c) (a.put d v) w → Q (.panic c) a w) (h : wpAnyH Try.prog md ops Q S fuel (L.setIfInBounds i true) (a.put d v) w) : wpAnyH Try.prog md ops Q S (fuel + 1) L a w := by
  subst hd; exact wpAnyH_take hi hs hf hr hQ (.inl ⟨hw, hx⟩) hS h
theorem ah_done (hr : Region.ready md ops L = []) (h : Q .normal a w) : wpAnyH Try.prog md ops Q S fuel L a w := wpAnyH_done hr h _
/-- it comes up next -/
def Nx (md : Region.Mode) (ops : Array Oper) (Q : Exit → Act → World → Prop) (S : World → Prop) (fuel : Nat) (L : Array Bool) (i : Nat) (a : Act) (w : World) : Prop := wpOp Try.prog ops Q i (fun a' w' => S w' ∧ wpAnyH Try.prog md ops Q S fuel (L.setIfInBounds i true) a' w') a w
theorem ah_or1 (hr : Region.ready md ops L = [i]) (h1 : Nx md ops Q S fuel L i a w) : wpAnyH Try.prog md ops Q S (fuel + 1) L a w :=
  wpAnyH_all hr (by simp) fun m hm => by rw [List.mem_singleton.1 hm]; exact h1
theorem ah_or2 (hr : Region.ready md ops L = [i, j]) (h1 : Nx md ops Q S fuel L i a w) (h2 : Nx md ops Q S fuel L j a w) : wpAnyH Try.prog md ops Q S (fuel + 1) L a w :=
  wpAnyH_all hr (by simp) fun m hm => by
    rcases List.mem_cons.1 hm with rfl | hm
    · exact h1
    · rw [List.mem_singleton.1 hm]; exact h2
theorem ah_or3 (hr : Region.ready md ops L = [i, j, k]) (h1 : Nx md ops Q S fuel L i a w) (h2 : Nx md ops Q S fuel L j a w) (h3 : Nx md ops Q S fuel L k a w) : wpAnyH Try.prog md ops Q S (fuel + 1) L a w :=
  wpAnyH_all hr (by simp) fun m hm => by
    rcases List.mem_cons.1 hm with rfl | hm
    · exact h1
    rcases List.mem_cons.1 hm with rfl | hm
    · exact h2
    · rw [List.mem_singleton.1 hm]; exact h3
theorem nx_wp (hi : ops[i]? = some o) (hw : Region.wanted o (yielded ops a.tmps) = true)
    (h : ∀ K : Act → World → Prop, (∀ a' w', S w' → wpAnyH Try.prog md ops Q S fuel (L.setIfInBounds i true) a' w' → K a' w') → o.wp Try.prog a w K Q) : Nx md ops Q S fuel L i a w :=
  wpOp_step hi fun K hK => by rw [if_pos hw]; exact h K (fun a' w' h1 h2 => hK a' w' ⟨h1, h2⟩)
theorem nx_to (d : Option Tmp) (hi : ops[i]? = some o) (hd : o.dst = d) (hw : Region.wanted o (yielded ops a.tmps) = true) (hx : (execOp a.eval o).run Try.prog w = .ok (.value v) w') (hS : S w')
    (h : wpAnyH Try.prog md ops Q S fuel (L.setIfInBounds i true) (a.put d v) w') : Nx md ops Q S fuel L i a w :=
  nx_wp hi hw fun K hK => by subst hd; unfold Oper.wp; rw [hx]; exact hK _ _ hS h
theorem nx_sk (hi : ops[i]? = some o) (hd : o.dst = none) (hw : Region.wanted o (yielded ops a.tmps) = true) (hx : (execOp a.eval o).run Try.prog w = .ok .skip w') (hS : S w')
    (h : wpAnyH Try.prog md ops Q S fuel (L.setIfInBounds i true) a w') : Nx md ops Q S fuel L i a w :=
  nx_wp hi hw fun K hK => by unfold Oper.wp; rw [hx]; exact hK _ _ hS (by rw [hd]; exact h)
theorem nx_call (d : Option Tmp) (hi : ops[i]? = some o) (hd : o.dst = d) (hw : Region.wanted o (yielded ops a.tmps) = true) {f : FuncId} {args : Array Value} {post : Ending → World → Prop} (hc : Calls Try.prog f args w post) (hx : (execOp a.eval o).run Try.prog w = .ok (.enter f args) w)
    (h : ∀ e w', post e w' → ∃ v, e = .returned v ∧ S w' ∧ wpAnyH Try.prog md ops Q S fuel (L.setIfInBounds i true) (a.put d v) w') : Nx md ops Q S fuel L i a w :=
  nx_wp hi hw fun K hK => by
    subst hd
    unfold Oper.wp
    rw [hx]; refine Calls.mono hc fun e w' hp => ?_; obtain ⟨v, rfl, hS, h'⟩ := h e w' hp; exact hK _ _ hS h'
theorem nx_new (V : Nat → Value) (d : Option Tmp) (hi : ops[i]? = some o) (hd : o.dst = d) (hw : Region.wanted o (yielded ops a.tmps) = true) {ob : Obj} (hx : (execOp a.eval o).run Try.prog w = .ok (.value (V w.heap.size)) (w.alloc ob))
    (h : ∀ b w', w'.heap[b]? = some ob → w.heap.size ≤ b → Below w.heap.size w w' → S w' ∧ wpAnyH Try.prog md ops Q S fuel (L.setIfInBounds i true) (a.put d (V b)) w') : Nx md ops Q S fuel L i a w :=
  have hh := h _ _ (heap_alloc_last w ob) (Nat.le_refl _) ((Below.refl _ _).alloc (Nat.le_refl _) ob)
  nx_to d hi hd hw hx hh.1 hh.2
end
/-- a store of all of a block -/
theorem put_all {W : World} {b T : Nat} {C D : Array Value} (k : W.heap[b]? = some (.cells C T)) (hs : C.size = D.size) (hi : (Try.prog.info? T).map (·.size) = some D.size) (h1 : D.all (·.oneCell') = true) :
    ∃ W', (Instr.storeAt T (.pointer (some ⟨b, 0, none⟩)) (.agg D)).run Try.prog W = .ok () W' ∧ W'.heap[b]? = some (.cells D T) ∧ Kept (· = b) W W' := by
  refine ⟨W.setRow b D, ?_, setRow_heap W b C D T _ k, ⟨rfl, rfl, rfl, by simp, fun j hj hn => setRow_other W b j D hn⟩⟩; simp only [Instr.storeAt, Instr.sureAddr, Sem.run_bind, Sem.run_pure, Result.andThen]; exact run_storeVar_row _ _ T T C D k hi hs h1
/-- a store of one cell -/
theorem put_cell {W : World} {b T i : Nat} {C : Array Value} (v : Value) (k : W.heap[b]? = some (.cells C T)) : (W.setCell ⟨b, i, none⟩ v).heap[b]? = some (.cells (C.setIfInBounds i v) T) ∧ Kept (· = b) W (W.setCell ⟨b, i, none⟩ v) :=
  ⟨Go.heap_setCell_same W b i C T v k, ⟨rfl, rfl, rfl, by simp [World.setCell], fun j hj hn => Below.heap_setCell W _ _ j hn⟩⟩
theorem unfrozen {W : World} {b T i : Nat} {C : Array Value} (k : W.heap[b]? = some (.cells C T)) : W.frozen? ⟨b, i, none⟩ = false := by
  simp [World.frozen?, k]
theorem ld_all {W : World} {b T : Nat} {C : Array Value} {d : TypeDesc} (hb : W.heap[b]? = some (.cells C T)) (hu : Try.prog.underlying T = some d) (hd : d.isRow = true) (hi : (Try.prog.info? T).map (·.size) = some C.size) :
    (Instr.loadAt T (.pointer (some ⟨b, 0, none⟩))).run Try.prog W = .ok (.agg C) W := by
  have := run_loadAt_mid (P := Try.prog) W b 0 T (C.toList) d (fun j v hv => by
    rw [Nat.zero_add]
    exact at_cell hb (by simpa using hv)) hu hd (by simpa using hi)
  simpa using this
/-- a part of a block -/
theorem ld_part {W : World} {b o n T t : Nat} {C : Array Value} {d : TypeDesc} (hb : W.heap[b]? = some (.cells C T)) (hn : o + n ≤ C.size) (hu : Try.prog.underlying t = some d) (hd : d.isRow = true) (hi : (Try.prog.info? t).map (·.size) = some n) :
    (Instr.loadAt t (.pointer (some ⟨b, o, none⟩))).run Try.prog W = .ok (.agg (C.extract o (o + n))) W := by
  have := run_loadAt_mid (P := Try.prog) W b o t ((C.extract o (o + n)).toList) d (at_range hb hn) hu hd (by rw [hi]; simp; omega)
  rw [Array.toArray_toList] at this; exact this
/-- cells, wherever they are -/
theorem ld_range {W : World} {b o t : Nat} {C : Array Value} {d : TypeDesc} (hb : W.rangeAt b o C.toList) (hu : Try.prog.underlying t = some d) (hd : d.isRow = true) (hi : (Try.prog.info? t).map (·.size) = some C.size) :
    (Instr.loadAt t (.pointer (some ⟨b, o, none⟩))).run Try.prog W = .ok (.agg C) W := by
  have := run_loadAt_mid (P := Try.prog) W b o t (C.toList) d hb hu hd (by simpa using hi)
  simpa using this
theorem inf22 : (Try.prog.info? 22).map (·.size) = some 32 := by kernel_rfl
theorem inf24 : (Try.prog.info? 24).map (·.size) = some 33 := by kernel_rfl
theorem inf26 : (Try.prog.info? 26).map (·.size) = some 43 := by kernel_rfl
theorem inf29 : (Try.prog.info? 29).map (·.size) = some 3 := by kernel_rfl
theorem inf34 : (Try.prog.info? 34).map (·.size) = some 2 := by kernel_rfl
theorem inf46 : (Try.prog.info? 46).map (·.size) = some 2 := by kernel_rfl
theorem inf49 : (Try.prog.info? 49).map (·.size) = some 36 := by kernel_rfl
theorem inf59 : (Try.prog.info? 59).map (·.size) = some 35 := by kernel_rfl
theorem inf61 : (Try.prog.info? 61).map (·.size) = some 130 := by kernel_rfl
theorem inf66 : (Try.prog.info? 66).map (·.size) = some 37 := by kernel_rfl
theorem ld3 {W : World} {b o : Nat} {n : Int} (h : W.cell? ⟨b, o, none⟩ = some (.int .i64 n)) : (Instr.loadAt 3 (.pointer (some ⟨b, o, none⟩))).run Try.prog W = .ok (.int .i64 n) W := by go_simp
theorem ld27 {W : World} {b o : Nat} {x : Option Addr} {n c : Nat} (h : W.cell? ⟨b, o, none⟩ = some (.slice x n c)) : (Instr.loadAt 27 (.pointer (some ⟨b, o, none⟩))).run Try.prog W = .ok (.slice x n c) W := by go_simp
theorem len27 (x : Option Addr) (n c : Nat) (ty : TypeId) (W : World) : (Builtin.len_ #[27] ty #[.slice x n c]).run Try.prog W = .ok (.int .i64 n) W := by go_simp
theorem ld31 {W : World} {b o : Nat} {x : Option Addr} {n c : Nat} (h : W.cell? ⟨b, o, none⟩ = some (.slice x n c)) : (Instr.loadAt 31 (.pointer (some ⟨b, o, none⟩))).run Try.prog W = .ok (.slice x n c) W := by go_simp
theorem len31 (x : Option Addr) (n c : Nat) (ty : TypeId) (W : World) : (Builtin.len_ #[31] ty #[.slice x n c]).run Try.prog W = .ok (.int .i64 n) W := by go_simp
theorem ld32 {W : World} {b o : Nat} {x : Option Addr} {n c : Nat} (h : W.cell? ⟨b, o, none⟩ = some (.slice x n c)) : (Instr.loadAt 32 (.pointer (some ⟨b, o, none⟩))).run Try.prog W = .ok (.slice x n c) W := by go_simp
theorem len32 (x : Option Addr) (n c : Nat) (ty : TypeId) (W : World) : (Builtin.len_ #[32] ty #[.slice x n c]).run Try.prog W = .ok (.int .i64 n) W := by go_simp
theorem ld44 {W : World} {b o : Nat} {x : Option Addr} {n c : Nat} (h : W.cell? ⟨b, o, none⟩ = some (.slice x n c)) : (Instr.loadAt 44 (.pointer (some ⟨b, o, none⟩))).run Try.prog W = .ok (.slice x n c) W := by go_simp
theorem len44 (x : Option Addr) (n c : Nat) (ty : TypeId) (W : World) : (Builtin.len_ #[44] ty #[.slice x n c]).run Try.prog W = .ok (.int .i64 n) W := by go_simp
theorem len82 (x : Option Addr) (n c : Nat) (ty : TypeId) (W : World) : (Builtin.len_ #[82] ty #[.slice x n c]).run Try.prog W = .ok (.int .i64 n) W := by go_simp
theorem fa26_0 (b : Nat) (W : World) : (Instr.fieldAt 26 (.pointer (some ⟨b, 0, none⟩)) 0).run Try.prog W = .ok (.pointer (some ⟨b, 0, none⟩)) W := by go_simp
theorem fa26_1 (b : Nat) (W : World) : (Instr.fieldAt 26 (.pointer (some ⟨b, 0, none⟩)) 1).run Try.prog W = .ok (.pointer (some ⟨b, 1, none⟩)) W := by go_simp
theorem fa26_2 (b : Nat) (W : World) : (Instr.fieldAt 26 (.pointer (some ⟨b, 0, none⟩)) 2).run Try.prog W = .ok (.pointer (some ⟨b, 2, none⟩)) W := by go_simp
theorem fa26_3 (b : Nat) (W : World) : (Instr.fieldAt 26 (.pointer (some ⟨b, 0, none⟩)) 3).run Try.prog W = .ok (.pointer (some ⟨b, 3, none⟩)) W := by go_simp
theorem fa26_4 (b : Nat) (W : World) : (Instr.fieldAt 26 (.pointer (some ⟨b, 0, none⟩)) 4).run Try.prog W = .ok (.pointer (some ⟨b, 36, none⟩)) W := by go_simp
theorem fa26_5 (b : Nat) (W : World) : (Instr.fieldAt 26 (.pointer (some ⟨b, 0, none⟩)) 5).run Try.prog W = .ok (.pointer (some ⟨b, 37, none⟩)) W := by go_simp
theorem fa26_6 (b : Nat) (W : World) : (Instr.fieldAt 26 (.pointer (some ⟨b, 0, none⟩)) 6).run Try.prog W = .ok (.pointer (some ⟨b, 38, none⟩)) W := by go_simp
theorem fa26_7 (b : Nat) (W : World) : (Instr.fieldAt 26 (.pointer (some ⟨b, 0, none⟩)) 7).run Try.prog W = .ok (.pointer (some ⟨b, 39, none⟩)) W := by go_simp
theorem fa26_8 (b : Nat) (W : World) : (Instr.fieldAt 26 (.pointer (some ⟨b, 0, none⟩)) 8).run Try.prog W = .ok (.pointer (some ⟨b, 40, none⟩)) W := by go_simp
theorem fa26_9 (b : Nat) (W : World) : (Instr.fieldAt 26 (.pointer (some ⟨b, 0, none⟩)) 9).run Try.prog W = .ok (.pointer (some ⟨b, 41, none⟩)) W := by go_simp
theorem fa26_10 (b : Nat) (W : World) : (Instr.fieldAt 26 (.pointer (some ⟨b, 0, none⟩)) 10).run Try.prog W = .ok (.pointer (some ⟨b, 42, none⟩)) W := by go_simp
theorem fa29_0 (b : Nat) (W : World) : (Instr.fieldAt 29 (.pointer (some ⟨b, 0, none⟩)) 0).run Try.prog W = .ok (.pointer (some ⟨b, 0, none⟩)) W := by go_simp
theorem fa29_1 (b : Nat) (W : World) : (Instr.fieldAt 29 (.pointer (some ⟨b, 0, none⟩)) 1).run Try.prog W = .ok (.pointer (some ⟨b, 1, none⟩)) W := by go_simp
theorem fa29_2 (b : Nat) (W : World) : (Instr.fieldAt 29 (.pointer (some ⟨b, 0, none⟩)) 2).run Try.prog W = .ok (.pointer (some ⟨b, 2, none⟩)) W := by go_simp
theorem fa34_0 (b : Nat) (W : World) : (Instr.fieldAt 34 (.pointer (some ⟨b, 0, none⟩)) 0).run Try.prog W = .ok (.pointer (some ⟨b, 0, none⟩)) W := by go_simp
theorem fa34_1 (b : Nat) (W : World) : (Instr.fieldAt 34 (.pointer (some ⟨b, 0, none⟩)) 1).run Try.prog W = .ok (.pointer (some ⟨b, 1, none⟩)) W := by go_simp
theorem fa46_0 (b : Nat) (W : World) : (Instr.fieldAt 46 (.pointer (some ⟨b, 0, none⟩)) 0).run Try.prog W = .ok (.pointer (some ⟨b, 0, none⟩)) W := by go_simp
theorem fa46_1 (b : Nat) (W : World) : (Instr.fieldAt 46 (.pointer (some ⟨b, 0, none⟩)) 1).run Try.prog W = .ok (.pointer (some ⟨b, 1, none⟩)) W := by go_simp
theorem fa49_0 (b : Nat) (W : World) : (Instr.fieldAt 49 (.pointer (some ⟨b, 0, none⟩)) 0).run Try.prog W = .ok (.pointer (some ⟨b, 0, none⟩)) W := by go_simp
theorem fa49_1 (b : Nat) (W : World) : (Instr.fieldAt 49 (.pointer (some ⟨b, 0, none⟩)) 1).run Try.prog W = .ok (.pointer (some ⟨b, 1, none⟩)) W := by go_simp
theorem fa49_2 (b : Nat) (W : World) : (Instr.fieldAt 49 (.pointer (some ⟨b, 0, none⟩)) 2).run Try.prog W = .ok (.pointer (some ⟨b, 2, none⟩)) W := by go_simp
theorem fa49_3 (b : Nat) (W : World) : (Instr.fieldAt 49 (.pointer (some ⟨b, 0, none⟩)) 3).run Try.prog W = .ok (.pointer (some ⟨b, 3, none⟩)) W := by go_simp
theorem fa49_4 (b : Nat) (W : World) : (Instr.fieldAt 49 (.pointer (some ⟨b, 0, none⟩)) 4).run Try.prog W = .ok (.pointer (some ⟨b, 35, none⟩)) W := by go_simp
theorem fa59_0 (b : Nat) (W : World) : (Instr.fieldAt 59 (.pointer (some ⟨b, 0, none⟩)) 0).run Try.prog W = .ok (.pointer (some ⟨b, 0, none⟩)) W := by go_simp
theorem fa59_1 (b : Nat) (W : World) : (Instr.fieldAt 59 (.pointer (some ⟨b, 0, none⟩)) 1).run Try.prog W = .ok (.pointer (some ⟨b, 1, none⟩)) W := by go_simp
theorem fa59_2 (b : Nat) (W : World) : (Instr.fieldAt 59 (.pointer (some ⟨b, 0, none⟩)) 2).run Try.prog W = .ok (.pointer (some ⟨b, 2, none⟩)) W := by go_simp
theorem fa59_3 (b : Nat) (W : World) : (Instr.fieldAt 59 (.pointer (some ⟨b, 0, none⟩)) 3).run Try.prog W = .ok (.pointer (some ⟨b, 3, none⟩)) W := by go_simp
theorem faR (b p : Nat) (W : World) : (Instr.fieldAt 24 (.pointer (some ⟨b, 3, none⟩)) 1).run Try.prog W = .ok (.pointer (some ⟨b, 35, none⟩)) W := by go_simp
theorem eql3 {x y : Int} {c : Bool} (W : World) (hc : decide (x = y) = c) : (binOp .eql 3 (.int .i64 x) (.int .i64 y)).run Try.prog W = .ok (.bool c) W := by
  subst hc
  go_simp; by_cases h : x = y <;> simp [h]
theorem eql35 {x y : Int} {c : Bool} (W : World) (hc : decide (x = y) = c) : (binOp .eql 35 (.int .i64 x) (.int .i64 y)).run Try.prog W = .ok (.bool c) W := by
  subst hc
  go_simp; by_cases h : x = y <;> simp [h]
theorem neq3 {x y : Int} {c : Bool} (W : World) (hc : decide (x ≠ y) = c) : (binOp .neq 3 (.int .i64 x) (.int .i64 y)).run Try.prog W = .ok (.bool c) W := by
  subst hc
  go_simp; by_cases h : x = y <;> simp [h]
theorem neq35 {x y : Int} {c : Bool} (W : World) (hc : decide (x ≠ y) = c) : (binOp .neq 35 (.int .i64 x) (.int .i64 y)).run Try.prog W = .ok (.bool c) W := by
  subst hc
  go_simp; by_cases h : x = y <;> simp [h]
theorem lss3 {x y : Int} {c : Bool} (W : World) (hc : decide (x < y) = c) : (binOp .lss 3 (.int .i64 x) (.int .i64 y)).run Try.prog W = .ok (.bool c) W := by
  subst hc
  go_simp
theorem leq3 {x y : Int} {c : Bool} (W : World) (hc : decide (x ≤ y) = c) : (binOp .leq 3 (.int .i64 x) (.int .i64 y)).run Try.prog W = .ok (.bool c) W := by
  subst hc
  go_simp
theorem gtr3 {x y : Int} {c : Bool} (W : World) (hc : decide (y < x) = c) : (binOp .gtr 3 (.int .i64 x) (.int .i64 y)).run Try.prog W = .ok (.bool c) W := by
  subst hc
  go_simp
theorem geq3 {x y : Int} {c : Bool} (W : World) (hc : decide (y ≤ x) = c) : (binOp .geq 3 (.int .i64 x) (.int .i64 y)).run Try.prog W = .ok (.bool c) W := by
  subst hc
  go_simp
theorem eg3 (bop : BinOp) (x y : Operand) (u v : Int) (W : World) : (eqGuard bop 3 x y (.int .i64 u) (.int .i64 v)).run Try.prog W = .ok () W := by cases bop <;> rfl
theorem eg35 (bop : BinOp) (x y : Operand) (u v : Int) (W : World) : (eqGuard bop 35 x y (.int .i64 u) (.int .i64 v)).run Try.prog W = .ok () W := by cases bop <;> rfl
end Go.Proofs.Ytkhpbjafdamhaaa
