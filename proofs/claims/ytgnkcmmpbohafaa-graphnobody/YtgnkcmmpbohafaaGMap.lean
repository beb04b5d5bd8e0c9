/- A set of numbers, as a map; numbers that lie in a row. -/
import Derived.Test.YtgnkcmmpbohafaaGFrm
namespace Go.Proofs.Ytgnkcmmpbohafaa
open Go.RowKit
set_option linter.unusedVariables false
set_option linter.unusedSimpArgs false
set_option maxRecDepth 100000
def kv (m : MapEntry) : Value × Value := (m.key, m.val)
def kS (x : Int) : Value × Value := (.int .i64 x, .agg #[])
/-- a map whose keys are these numbers -/
def Mp (W : World) (r : Nat) (S : List Int) : Prop := ∃ es c, W.heap[r]? = some (.map es c) ∧ es.toList.map kv = S.map kS
theorem Mp.keep {W W' : World} {r : Nat} {S : List Int} (h : Mp W r S) (hB : Below W.heap.size W W') : Mp W' r S := by
  obtain ⟨es, c, h1, h2⟩ := h
  exact ⟨es, c, Proofs.Ytgnkcmmpbohafaa.keep hB h1, h2⟩
theorem Mp.keepT {W W' : World} {r k T : Nat} {C : Array Value} {S : List Int} (h : Mp W r S) (hK : Kept (· = k) W W') (hk : W.heap[k]? = some (.cells C T)) : Mp W' r S := by
  obtain ⟨es, c, h1, h2⟩ := h
  refine ⟨es, c, keepK hK h1 (fun e => ?_), h2⟩
  rw [e, hk] at h1
  cases h1
theorem Mp.keepF {F : Nat → Prop} {W W' : World} {r : Nat} {S : List Int} (h : Mp W r S) (hK : Kept F W W') (hF : ∀ es c, W.heap[r]? = some (.map es c) → ¬ F r) : Mp W' r S := by
  obtain ⟨es, c, h1, h2⟩ := h
  exact ⟨es, c, keepK hK h1 (hF es c h1), h2⟩
theorem fnd (x : Int) : ∀ (es : List MapEntry) (S : List Int) (i : Nat), es.map kv = S.map kS →
    (x ∈ S → ∃ j m, es[j]? = some m ∧ m.key = .int .i64 x ∧ Instr.findNow (.int .i64) (.int .i64 x) es i = some (some (i + j, .agg #[]))) ∧ (¬ x ∈ S → Instr.findNow (.int .i64) (.int .i64 x) es i = some none)
  | [], [], i, _ => ⟨fun h => absurd h (by simp), fun _ => rfl⟩
  | [], _ :: _, _, h => by simp at h
  | _ :: _, [], _, h => by simp at h
  | m :: es, y :: S, i, h => by
    simp only [List.map_cons, List.cons.injEq] at h
    have hk : m.key = .int .i64 y := congrArg Prod.fst h.1
    have hv : m.val = .agg #[] := congrArg Prod.snd h.1
    have ih := fnd x es S (i + 1) h.2
    have hs : Instr.sameNow (.int .i64) (.int .i64 x) m.key = some (x == y) := by rw [hk]; simp [Instr.sameNow]
    by_cases e : x = y
    · subst e
      refine ⟨fun _ => ⟨0, m, rfl, hk, ?_⟩, fun q => absurd (by simp) q⟩
      unfold Instr.findNow
      rw [hs]
      simp [hv]
    · have hf : Instr.findNow (.int .i64) (.int .i64 x) (m :: es) i = Instr.findNow (.int .i64) (.int .i64 x) es (i + 1) := by
        have hb : (x == y) = false := by simpa using e
        rw [Instr.findNow, hs, hb]
      rw [hf]
      refine ⟨fun q => ?_, fun q => ih.2 (fun q2 => q (by simp [q2]))⟩
      have q2 : x ∈ S := by
        rcases List.mem_cons.1 q with q | q
        · exact absurd q e
        · exact q
      obtain ⟨j, m', h1, h2, h3⟩ := ih.1 q2
      exact ⟨j + 1, m', by simpa using h1, h2, by rw [h3]; congr 3; omega⟩
theorem chk3 (d : Nat) (v : Value) (em : Bool) (W : World) : (Instr.checkKey em (d + 1) 3 v).run Try.prog W = .ok () W := by
  unfold Instr.checkKey
  simp only [Sem.run_bind, run_underlying Try.underlying3, Result.andThen_ok]
  cases v <;> rfl
theorem zeroV0 (W : World) : (zeroValue 119).run Try.prog W = .ok (.agg #[]) W := by kernel_rfl
theorem look_set {W : World} {r : Nat} {S : List Int} {x : Int} {c : Bool} (h : Mp W r S) (hc : decide (x ∈ S) = c) : (Instr.lookup 115 (.map (some r)) (.int .i64 x) true).run Try.prog W = .ok (.tuple #[.agg #[], .bool c]) W := by
  obtain ⟨es, cl, h1, h2⟩ := h
  have hf := fnd x es.toList S 0 h2
  have hk := fun em => chk3 9999 (.int .i64 x) em W
  by_cases hx : x ∈ S
  · obtain ⟨j, m, _, _, h3⟩ := hf.1 hx
    have : c = true := by rw [← hc]; simpa using hx
    subst this
    simp [Instr.lookup, run_underlying Try.underlying115, run_underlying Try.underlying3, MapKept.run_getObj_map h1, hk, Instr.findKey, h3]
  · have h3 := hf.2 hx
    have : c = false := by rw [← hc]; simpa using hx
    subst this
    simp [Instr.lookup, run_underlying Try.underlying115, run_underlying Try.underlying3, MapKept.run_getObj_map h1, hk, Instr.findKey, h3, zeroV0]
theorem map_put {W : World} {r : Nat} {es es' : Array MapEntry} {c c' : Nat} (h : W.heap[r]? = some (.map es c)) : ({ W with heap := W.heap.setIfInBounds r (.map es' c') } : World).heap[r]? = some (.map es' c') ∧ Kept (· = r) W { W with heap := W.heap.setIfInBounds r (.map es' c') } := by
  have hr : r < W.heap.size := (Array.getElem?_eq_some_iff.1 h).1
  refine ⟨by simp [hr], ⟨rfl, rfl, rfl, by simp, fun j hj hn => ?_⟩⟩
  show (W.heap.setIfInBounds r _)[j]? = _
  rw [Array.getElem?_setIfInBounds, if_neg (fun e => hn e.symm)]
theorem put_set {W : World} {r : Nat} {S : List Int} {x : Int} (h : Mp W r S) : ∃ W', (Instr.mapUpdate 115 (.map (some r)) (.int .i64 x) (.agg #[])).run Try.prog W = .ok () W' ∧ Mp W' r (if x ∈ S then S else S ++ [x]) ∧ Kept (· = r) W W' := by
  obtain ⟨es, cl, h1, h2⟩ := h
  have hf := fnd x es.toList S 0 h2
  have hk := fun em => chk3 9999 (.int .i64 x) em W
  by_cases hx : x ∈ S
  · obtain ⟨j, m, hj, hm, h3⟩ := hf.1 hx
    rw [if_pos hx]
    have hj' : es[j]? = some m := by simpa using hj
    refine ⟨_, ?_, ⟨es.modify j fun e => { e with key := .int .i64 x, val := .agg #[] }, cl, (map_put h1).1, ?_⟩, (map_put h1).2⟩
    · simp [Instr.mapUpdate, run_underlying Try.underlying115, run_underlying Try.underlying3, MapKept.run_getObj_map h1, hk, Instr.findKey, h3, hj', hm, Instr.keyThatStays, Instr.sameBits, MapKept.run_setObj_map _ h1]
    · rw [← h2]
      apply List.ext_getElem?
      intro i
      rw [List.getElem?_map, List.getElem?_map, Array.toList_modify, List.getElem?_modify]
      by_cases e : j = i
      · subst e
        rw [hj]
        have hv : m.val = .agg #[] := by
          have := congrArg (fun l => l[j]?) h2
          simp only [List.getElem?_map, hj, Option.map_some] at this
          cases hS : S[j]? with
          | none => rw [hS] at this; cases this
          | some y =>
            rw [hS] at this
            exact congrArg Prod.snd (Option.some.inj this)
        simp [kv, hm, hv]
      · simp [e]
  · have h3 := hf.2 hx
    rw [if_neg hx]
    refine ⟨_, ?_, ⟨es.push { key := .int .i64 x, val := .agg #[], born := cl }, cl + 1, (map_put h1).1, ?_⟩, (map_put h1).2⟩
    · simp [Instr.mapUpdate, run_underlying Try.underlying115, run_underlying Try.underlying3, MapKept.run_getObj_map h1, hk, Instr.findKey, h3, MapKept.run_setObj_map _ h1]
    · simp [h2, kv, kS]
/-- these numbers lie there -/
def Is (W : World) (ao : Option Addr) (l : List Int) : Prop := l = [] ∨ ∃ b o, ao = some ⟨b, o, none⟩ ∧ W.rangeAt b o (l.map fun x => .int .i64 x)
theorem Is.keep {W W' : World} {ao : Option Addr} {l : List Int} (h : Is W ao l) (hB : Below W.heap.size W W') : Is W' ao l := by
  rcases h with h | ⟨b, o, e, h⟩
  · exact .inl h
  · by_cases hl : l = []
    · exact .inl hl
    · exact .inr ⟨b, o, e, range_cell h (cell_blk (hB.block b (range_lt h (by simpa using hl))))⟩
section
variable {o : Oper} {a : Act} {W W' : World}
theorem ex_mm (ho : o.op = .makeMap 115 none) : (execOp a.eval o).run Try.prog W = .ok (.value (.map (some W.heap.size))) (W.alloc (.map #[] 0)) := by
  unfold execOp
  have hr : (Instr.makeMap 115 none).run Try.prog W = .ok (.map (some W.heap.size)) (W.alloc (.map #[] 0)) := rfl
  simp [ho, hr]
theorem ex_mu {m k v : Operand} {u x z : Value} (ho : o.op = .mapUpdate 115 m k v) (hm : a.eval m = u) (hk : a.eval k = x) (hv : a.eval v = z) (hr : (Instr.mapUpdate 115 u x z).run Try.prog W = .ok () W') : (execOp a.eval o).run Try.prog W = .ok .skip W' := by
  unfold execOp
  simp [ho, hm, hk, hv, hr]
theorem ex_lk {m k : Operand} {u x z : Value} (ho : o.op = .lookup 115 m k true) (hm : a.eval m = u) (hk : a.eval k = x) (hr : (Instr.lookup 115 u x true).run Try.prog W = .ok z W) : (execOp a.eval o).run Try.prog W = .ok (.value z) W := by
  unfold execOp
  simp [ho, hm, hk, hr]
end
theorem b119 (W : World) : (Instr.build 119 #[]).run Try.prog W = .ok (.agg #[]) W := run_build W 119 _ _ (by kernel_rfl)
end Go.Proofs.Ytgnkcmmpbohafaa
