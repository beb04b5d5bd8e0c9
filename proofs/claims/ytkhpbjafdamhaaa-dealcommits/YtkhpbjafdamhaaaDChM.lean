/- A map that counts one key. -/
import Derived.Test.YtkhpbjafdamhaaaDChS
namespace Go.Proofs.Ytkhpbjafdamhaaa
open Go.RowKit
set_option linter.unusedVariables false
set_option linter.unusedSimpArgs false
set_option maxRecDepth 100000
/-- a value that may be a key -/
def Chk (t : TypeId) (d : Nat) (v : Value) : Prop := ∀ em W, (Instr.checkKey em d t v).run Try.prog W = .ok () W
theorem chk5 (d : Nat) (v : Value) : Chk 5 (d + 1) v := fun em W => by
  unfold Instr.checkKey
  simp only [Sem.run_bind, run_underlying Try.underlying5, Result.andThen_ok]
  cases v <;> rfl
theorem chk3 (d : Nat) (v : Value) : Chk 3 (d + 1) v := fun em W => by
  unfold Instr.checkKey
  simp only [Sem.run_bind, run_underlying Try.underlying3, Result.andThen_ok]
  cases v <;> rfl
theorem size5 (W : World) : (sizeOf 5).run Try.prog W = .ok 1 W := by
  obtain ⟨i0, hi, _, hz1, _⟩ := info_parts Try.info5
  simp [sizeOf, typeInfo, hi, hz1]
theorem chk22 (d : Nat) {xs : Array Value} (hs : xs.size = 32) : Chk 22 (d + 2) (.agg xs) := fun em W => by
  rw [show d + 2 = (d + 1) + 1 from rfl, Instr.checkKey]; simp only [Sem.run_bind, run_underlying Try.underlying22, Result.andThen_ok]; simp only [Std.Legacy.Range.forIn_eq_forIn_range', Std.Legacy.Range.size, Nat.sub_zero, Nat.add_one_sub_one, Nat.div_one]
  have each : ∀ j ∈ List.range' 0 32, j < 32 := fun j hj => by
    have := List.mem_range'.1 hj
    omega
  generalize List.range' 0 32 = is at each
  induction is with
  | nil => simp
  | cons j is ih =>
    have hj := each j (by simp)
    have p1 : (part 5 xs (j * 1)).run Try.prog W = .ok xs[j] W := part1 Try.underlying5 rfl (by rw [Nat.mul_one]; exact Array.getElem?_eq_getElem (by omega)) W
    simp only [List.forIn_cons, Sem.run_bind, size5 W, Result.andThen_ok, p1, chk5 d xs[j] em W, Sem.run_pure]; exact ih (fun y hy => each y (by simp [hy]))
theorem chk24 {xs : Array Value} (hs : xs.size = 33) : Chk 24 10000 (.agg xs) := fun em W => by
  rw [show 10000 = 9999 + 1 from rfl, Instr.checkKey]; have p1 := partN (t := 22) (xs := xs) (o := 0) Try.underlying22 rfl inf22 rfl W; have p2 := part1 (t := 3) (xs := xs) (o := 32) Try.underlying3 rfl (Array.getElem?_eq_getElem (by omega)) W; have c1 := chk22 9997 (xs := xs.extract 0 (0 + 32)) (by simp; omega) em W; have c2 := chk3 9998 xs[32] em W; simp only [Sem.run_bind, run_underlying Try.underlying24, Result.andThen_ok]; rw [← Array.forIn_toList]; simp only [List.forIn_cons, List.forIn_nil, Sem.run_bind, ne_eq, Result.andThen_ok, p1, p2, Sem.run_pure]
  simp [p1, p2, c1, c2]
theorem zeroV3 (W : World) : (zeroValue 3).run Try.prog W = .ok (.int .i64 0) W := by kernel_rfl
theorem find_none (K : Array Value) (W : World) : (Instr.findKey 24 (.agg K) []).run Try.prog W = .ok none W := by
  simp [Instr.findKey, run_underlying Try.underlying24, Instr.findNow]
theorem find_it {K : Array Value} (hK : Refl 24 10000 (.agg K)) (v : Value) (n : Nat) (W : World) : (Instr.findKey 24 (.agg K) [{ key := .agg K, val := v, born := n }]).run Try.prog W = .ok (some (0, v)) W := by
  have := hK W
  simp [Instr.findKey, run_underlying Try.underlying24, Instr.findNow, Instr.sameNow, Instr.findAsking, Op.equal, Op.maxDepth, this]
/-- a map of counts -/
abbrev Cnt (W : World) (r : Nat) (es : Array MapEntry) (c : Nat) : Prop := W.heap[r]? = some (.map es c)
theorem look_none {W : World} {r c : Nat} {K : Array Value} (h : Cnt W r #[] c) (hs : K.size = 33) : (Instr.lookup 86 (.map (some r)) (.agg K) false).run Try.prog W = .ok (.int .i64 0) W := by
  simp [Instr.lookup, run_underlying Try.underlying86, MapKept.run_getObj_map h, chk24 hs _ W, find_none, zeroV3]
theorem look_it {W : World} {r c n : Nat} {K : Array Value} {v : Value} (h : Cnt W r #[{ key := .agg K, val := v, born := n }] c) (hs : K.size = 33) (hK : Refl 24 10000 (.agg K)) : (Instr.lookup 86 (.map (some r)) (.agg K) false).run Try.prog W = .ok v W := by
  simp [Instr.lookup, run_underlying Try.underlying86, MapKept.run_getObj_map h, chk24 hs _ W, find_it hK]
theorem cnt_put {W : World} {r : Nat} {es es' : Array MapEntry} {c c' : Nat} (h : Cnt W r es c) : Cnt { W with heap := W.heap.setIfInBounds r (.map es' c') } r es' c' ∧ Kept (· = r) W { W with heap := W.heap.setIfInBounds r (.map es' c') } := by
  have hr : r < W.heap.size := by
    have := (Array.getElem?_eq_some_iff.1 h).1
    exact this
  refine ⟨by simp [Cnt, hr], ⟨rfl, rfl, rfl, by simp, fun j hj hn => ?_⟩⟩
  show (W.heap.setIfInBounds r _)[j]? = _
  rw [Array.getElem?_setIfInBounds, if_neg (fun e => hn e.symm)]
theorem entry_new {W : World} {r c : Nat} {K : Array Value} (h : Cnt W r #[] c) (hs : K.size = 33) : ∃ W', (Instr.mapEntry 86 (.map (some r)) (.agg K)).run Try.prog W = .ok (.tuple #[.int .i64 0, goInt c]) W' ∧ Cnt W' r #[{ key := .agg K, val := .int .i64 0, born := c }] (c + 1) ∧ Kept (· = r) W W' := by
  refine ⟨_, ?_, cnt_put h⟩
  simp [Instr.mapEntry, run_underlying Try.underlying86, MapKept.run_getObj_map h, chk24 hs _ W, find_none, zeroV3, MapKept.run_setObj_map _ h]
theorem entry_put {W : World} {r c n : Nat} {K v u : Value} (h : Cnt W r #[{ key := K, val := v, born := n }] c) (hn : n ≤ 1000000) : ∃ W', (Instr.entryStore 86 (.map (some r)) (goInt n) u).run Try.prog W = .ok () W' ∧ Cnt W' r #[{ key := K, val := u, born := n }] c ∧ Kept (· = r) W W' := by
  refine ⟨_, ?_, cnt_put h⟩
  simp [Instr.entryStore, MapKept.run_getObj_map h, MapKept.run_setObj_map _ h, asInt, asIntOf, goInt]
end Go.Proofs.Ytkhpbjafdamhaaa
