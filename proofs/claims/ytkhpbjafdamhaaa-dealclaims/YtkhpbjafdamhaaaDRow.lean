/- A row of the call's own that grows; arrays of bytes held against one another. -/
import Derived.Test.YtkhpbjafdamhaaaDMay
import Derived.Maps.AppendAt
namespace Go.Proofs.Ytkhpbjafdamhaaa
open Go.RowKit
set_option linter.unusedVariables false
set_option linter.unusedSimpArgs false
set_option maxRecDepth 100000

/-- n elements of sz cells of type T in a row at g, which nobody else has -/
def Rw (W : World) (base T sz g n cap : Nat) (xs : List Value) : Prop := W.ownsRow base T sz (.slice (some ⟨g, 0, none⟩) n cap) n xs
section
variable {W W' : World} {base T sz g n cap : Nat} {xs : List Value}
theorem Rw.block (h : Rw W base T sz g n cap xs) : ∃ cur : Array Value, W.heap[g]? = some (.cells cur T) ∧ base ≤ g ∧ cur.toList.take (n * sz) = xs ∧ cur.size = cap * sz ∧ n ≤ cap ∧ cap ≤ maxLen := by
  rcases h.2 with ⟨e, _⟩ | ⟨g', cap', cur, e, hb, hh, h1, h2, h3, h4⟩
  · cases e
  · cases e
    exact ⟨cur, hh, hb, h4, h3, h1, h2⟩
theorem Rw.lt (h : Rw W base T sz g n cap xs) : g < W.heap.size := by obtain ⟨cur, hh, _⟩ := h.block; exact lt_of hh
theorem Rw.ge (h : Rw W base T sz g n cap xs) : base ≤ g := by obtain ⟨cur, hh, hb, _⟩ := h.block; exact hb
/-- blocks of another type are others -/
theorem Rw.ne (h : Rw W base T sz g n cap xs) {b U : Nat} {C : Array Value} (k : W.heap[b]? = some (.cells C U)) (hU : T ≠ U) : g ≠ b := fun e => by
  obtain ⟨cur, hh, _⟩ := h.block; rw [e, k] at hh
  cases hh
  exact hU rfl
theorem Rw.keep (h : Rw W base T sz g n cap xs) (hB : Below W.heap.size W W') : Rw W' base T sz g n cap xs := by
  refine ⟨h.1, ?_⟩
  rcases h.2 with e | ⟨g', cap', cur, e, hb, hh, r⟩
  · exact .inl e
  · exact .inr ⟨g', cap', cur, e, hb, Proofs.Ytkhpbjafdamhaaa.keep hB hh, r⟩
theorem Rw.keepK {F : Nat → Prop} (h : Rw W base T sz g n cap xs) (hB : Kept F W W') (hn : ¬ F g) : Rw W' base T sz g n cap xs := by
  refine ⟨h.1, ?_⟩
  rcases h.2 with e | ⟨g', cap', cur, e, hb, hh, r⟩
  · exact .inl e
  · cases e
    exact .inr ⟨g, cap, cur, rfl, hb, Proofs.Ytkhpbjafdamhaaa.keepK hB hh hn, r⟩
theorem Rw.cell (h : Rw W base T sz g n cap xs) {j : Nat} {u : Value} (hu : xs[j]? = some u) : W.cell? ⟨g, j, none⟩ = some u := by
  have := World.ownsRow.cells h (g := g) rfl j u hu
  rw [Addr.add_mid, Nat.zero_add] at this; exact this
theorem Rw.length (h : Rw W base T sz g n cap xs) : xs.length = n * sz := h.1
theorem Rw.ofBlock {b : Nat} {C : Array Value} (k : W.heap[b]? = some (.cells C T)) (hs : C.size = n * sz) (hb : base ≤ b) (hm : n ≤ maxLen) : Rw W base T sz b n n C.toList :=
  ⟨by simpa using hs, .inr ⟨b, n, C, rfl, hb, k, Nat.le_refl _, hm, hs, by rw [List.take_of_length_le (by rw [Array.length_toList, hs]; exact Nat.le_refl _)]⟩⟩
/-- one more -/
theorem Rw.add {t bytes b : Nat} {z : Value} {D : Array Value} (h : Rw W base T sz g n cap xs) (k : W.heap[b]? = some (.cells D T)) (hD : D.size = sz) (h1 : D.all (·.oneCell') = true) (ht : Try.prog.underlying t = some (.slice T)) (hi : (Try.prog.info? T).map (fun i => (i.zero, i.size, i.bytes)) = some (some z, sz, bytes)) (hz : z.cells.size = sz) (hsz : 0 < sz) (hn : (n + 1) * bytes ≤ 140737488355328) (hn2 : n + 1 ≤ maxLen) (hbase : base ≤ W.heap.size) :
    ∃ g' cap' W', (Builtin.append_ #[t, t] t #[.slice (some ⟨g, 0, none⟩) n cap, .slice (some ⟨b, 0, none⟩) 1 1]).run Try.prog W = .ok (.slice (some ⟨g', 0, none⟩) (n + 1) cap') W' ∧ Rw W' base T sz g' (n + 1) cap' (xs ++ D.toList) ∧ Kept (· = g) W W' := by
  cases hq : Try.prog.info? T with
  | none => rw [hq] at hi; cases hi
  | some ie =>
    rw [hq] at hi; simp only [Option.map_some, Option.some.injEq, Prod.mk.injEq] at hi; obtain ⟨hz0, hz1, hz2⟩ := hi
    obtain ⟨v', w', hrun, hown, hg, hnil, hloc⟩ := run_append_own_at (P := Try.prog) W base t t T ie z sz bytes ht hq hz0 hz1 hz2 hz hsz (.slice (some ⟨g, 0, none⟩) n cap) n xs h ⟨b, 0, none⟩ 1 1 D.toList (by simpa using hD)
      (fun j u hu => by rw [Addr.add_mid, Nat.zero_add]; exact at_cell k (by simpa using hu)) (fun u hu => by
        obtain ⟨i, hi, rfl⟩ := List.getElem_of_mem hu
        have := Array.all_eq_true.1 h1 i (by simpa using hi)
        simpa using this) hn2 hn hbase
    rcases hown.2 with ⟨_, e⟩ | ⟨g', cap', cur, rfl, hb, hh, r⟩
    · omega
    · refine ⟨g', cap', w', hrun, hown, ⟨hg.os, hg.tape, hg.output, hg.size, fun k hk hn => hg.block k hk (fun e => hn ?_)⟩⟩
      have e : some k = some g := e
      exact Option.some.inj e
end
/-- zeros -/
def ZL : List Int := List.replicate 32 0
theorem Z32_u8 : Z32 = (U8 ZL).toArray := by kernel_rfl
theorem all_at : ∀ (xs ys : List Int), xs.length = ys.length → ((List.range xs.length).all fun i => xs.getD i 0 == ys.getD i 0) = decide (xs = ys)
  | [], [], _ => rfl
  | x :: xs, y :: ys, h => by
    have ih := all_at xs ys (by simpa using h); rw [List.length_cons, List.range_succ_eq_map, List.all_cons, List.all_map]; simp only [List.getD_cons_zero, Function.comp_def, List.getD_cons_succ, ih]
    by_cases hx : x = y <;> by_cases hy : xs = ys <;> simp [hx, hy]
  | [], _ :: _, h => by simp at h
  | _ :: _, [], h => by simp at h
theorem Try.info5 : (Try.prog.info? 5).map (fun i => (i.zero, i.size, i.bytes)) = some (some (.int .u8 0), 1, 1) := by kernel_rfl
/-- two arrays of bytes are held against each other -/
theorem eq_arrays (d : Nat) (w : World) (xs ys : List Int) (hx : xs.length = 32) (hy : ys.length = 32) :
    (Op.equalIn (d + 2) 22 (.agg (U8 xs).toArray) (.agg (U8 ys).toArray)).run Try.prog w = .ok (decide (xs = ys)) w := by
  have he : Try.prog.underlying 5 = some (.int .u8) := Try.underlying5
  have ht : Try.prog.underlying 22 = some (.array 32 5) := Try.underlying22
  have hsz : ∀ w, (sizeOf 5).run Try.prog w = .ok 1 w := fun w => by
    obtain ⟨i0, hi, _, hz1, _⟩ := info_parts Try.info5
    simp [sizeOf, typeInfo, hi, hz1]
  rw [← all_at xs ys (hx.trans hy.symm), hx, List.range_eq_range', Op.equalIn]; simp only [Sem.run_bind, run_underlying ht, Result.andThen_ok, hsz, Std.Legacy.Range.forIn_eq_forIn_range', Std.Legacy.Range.size, Nat.sub_zero, Nat.add_sub_cancel, Nat.div_one]
  have hl : ∀ i ∈ List.range' 0 32 1, i < 32 := fun i hi => by simpa using (List.mem_range'_1.1 hi).2
  generalize List.range' 0 32 1 = l at hl ⊢
  induction l with
  | nil => simp
  | cons i l ih =>
    have hi : i < 32 := hl i (by simp)
    have px : (part 5 (U8 xs).toArray (i * 1)).run Try.prog w = .ok (.int .u8 (xs.getD i 0)) w := by
      simp [part, isAgg, run_underlying he, U8_at xs i (by omega)]
    have py : (part 5 (U8 ys).toArray (i * 1)).run Try.prog w = .ok (.int .u8 (ys.getD i 0)) w := by
      simp [part, isAgg, run_underlying he, U8_at ys i (by omega)]
    have pe : (Op.equalIn (d + 1) 5 (.int .u8 (xs.getD i 0)) (.int .u8 (ys.getD i 0))).run Try.prog w = .ok (xs.getD i 0 == ys.getD i 0) w := run_equalIn_int w d 5 .u8 .u8 _ _ he
    simp only [List.forIn_cons, Sem.run_bind, px, py, pe, Result.andThen_ok, List.all_cons]
    cases hb : (xs.getD i 0 == ys.getD i 0)
    · simp
    · simp only [Bool.not_true, Bool.false_eq_true, if_false, Sem.run_pure, Result.andThen_ok, Bool.true_and]
      exact ih fun j hj => hl j (by simp [hj])
theorem eg22 (x y : Operand) (u v : Array Value) (W : World) : (eqGuard .eql 22 x y (.agg u) (.agg v)).run Try.prog W = .ok () W := run_eqGuard_agg W .eql 22 x y u v (by kernel_rfl)
/-- is it zeros? -/
theorem eqZ {l : List Int} {c : Bool} (W : World) (hl : l.length = 32) (hc : decide (l = ZL) = c) : (binOp .eql 22 (.agg (U8 l).toArray) (.agg Z32)).run Try.prog W = .ok (.bool c) W := by
  subst hc; rw [Z32_u8, run_eql_struct, eq_arrays 9998 W l ZL hl rfl]
  rfl
end Go.Proofs.Ytkhpbjafdamhaaa
