/- Rules and hops that came in, as cells. -/
import Derived.Test.YtfbaidmnnkcaeaaPLaw
import Derived.Test.YtfbaidmnnkcaeaaFeeRow
import Derived.ProofKit
import Derived.OpenShut
import Derived.SizedLaws
import Derived.WideShapes
namespace Go.Proofs.Ytfbaidmnnkcaeaa
open Go.RowKit Go.ChangeShapes Go.WideShapes Go.ChangeAt
set_option linter.unusedVariables false
set_option linter.unusedSimpArgs false
set_option maxRecDepth 100000

theorem cellsOf5 : Try.prog.cellsOf 5 = 1 := by kernel_rfl
theorem cellsOf3 : Try.prog.cellsOf 3 = 1 := by kernel_rfl
theorem cellsOf23 : Try.prog.cellsOf 23 = 2 := by kernel_rfl
theorem cellsOf25 : Try.prog.cellsOf 25 = 5 := by kernel_rfl
theorem cellsOf26 : Try.prog.cellsOf 26 = 32 := by kernel_rfl
theorem cellsOf28 : Try.prog.cellsOf 28 = 101 := by kernel_rfl
theorem bytesOf25 : Try.prog.bytesOf 25 = 40 := by kernel_rfl
/-- bytes as values -/
def U8 (zs : List Int) : List Value := zs.map (Value.int .u8)
section
variable {H : Type} {enc : TypeId × Value → H} {w : World} {fuel : Nat} {cs : List Value} {x : DataW H × List MemPlace}
theorem open_arr (h : DataW.trod enc Try.prog w 0 (fun _ => true) true fuel 26 cs = some x) : ∃ l : List Int, cs = U8 l ∧ l.length = 32 := by
  obtain ⟨xs, m, _, _, hlen, hxl, hall⟩ := DataW.trod_array Try.underlying26 h
  rw [cellsOf26] at hlen
  have each : ∀ i, i < 32 → ∃ z : Int, cs[i]? = some (.int .u8 z) := fun i hi => by
    have h1 := hall i hi
    rw [cellsOf5, Nat.mul_one, List.getElem?_eq_getElem (by omega)] at h1
    obtain ⟨z, h2, _, h3⟩ := DataW.trod_int Try.underlying5 h1
    have h4 : cs[i]? = some cs[i] := List.getElem?_eq_getElem (by omega)
    rw [List.drop_eq_getElem_cons (by omega), List.take_succ_cons, List.take_zero] at h2
    rw [h4, (List.cons.inj h2).1]
    exact ⟨z, rfl⟩
  obtain ⟨f, hf⟩ := Go.Deep.choose_lt each
  refine ⟨(List.range 32).map f, ?_, by simp⟩
  apply List.ext_getElem?
  intro i
  unfold U8
  by_cases hi : i < 32
  · rw [hf i hi, List.getElem?_map, List.getElem?_map, List.getElem?_range hi]; rfl
  · rw [List.getElem?_eq_none (by omega), List.getElem?_eq_none (by simp; omega)]
theorem open_num (h : DataW.trod enc Try.prog w 0 (fun _ => true) true fuel 3 cs = some x) : ∃ n, cs = [.int .i64 n] ∧ -9223372036854775808 ≤ n ∧ n ≤ 9223372036854775807 := by
  obtain ⟨n, h1, _, h2⟩ := DataW.trod_int Try.underlying3 h
  exact ⟨n, h1, bounds_i64 h2⟩
theorem cut_at (cs : List Value) (o n : Nat) (A : List Value) (h : (cs.drop o).take n = A) : cs.drop o = A ++ cs.drop (o + n) := by
  rw [← h, ← List.drop_drop, List.take_append_drop]
theorem open_fee (h : DataW.trod enc Try.prog w 0 (fun _ => true) true fuel 23 cs = some x) : ∃ b r : Int, cs = [.int .i64 b, .int .i64 r] ∧ b ≤ 9223372036854775807 := by
  obtain ⟨xs, m, _, rfl, hlen, hxl, hall⟩ := DataW.trod_struct Try.underlying23 h
  rw [cellsOf23] at hlen
  have hxl' : xs.length = 2 := hxl
  have at_ : ∀ i, i < 2 → xs[i]? = some (xs.getD i (.nil, [])) := fun i hi => by rw [List.getD_eq_getElem?_getD, List.getElem?_eq_getElem (by omega)]; rfl
  obtain ⟨b, e0, r0⟩ := open_num ((hall 0 _ rfl).trans (at_ 0 (by omega)))
  obtain ⟨r, e1, r1⟩ := open_num ((hall 1 _ rfl).trans (at_ 1 (by omega)))
  replace e0 := (show (cs.drop 0).take (Try.prog.cellsOf 3) = _ from e0)
  replace e1 := (show (cs.drop 1).take (Try.prog.cellsOf 3) = _ from e1)
  rw [cellsOf3] at e0 e1
  have d0 := cut_at cs 0 1 _ e0
  rw [cut_at cs 1 1 _ e1, (show cs.drop (1 + 1) = [] from List.drop_eq_nil_of_le (by omega)), List.drop_zero] at d0
  exact ⟨b, r, d0, r0.2⟩
theorem open_rules (h : DataW.trod enc Try.prog w 0 (fun _ => true) true fuel 25 cs = some x) : ∃ q : RV, cs = (RL q).toList ∧ q.b ≤ 9223372036854775807 := by
  obtain ⟨xs, m, _, rfl, hlen, hxl, hall⟩ := DataW.trod_struct Try.underlying25 h
  rw [cellsOf25] at hlen
  have hxl' : xs.length = 4 := hxl
  have at_ : ∀ i, i < 4 → xs[i]? = some (xs.getD i (.nil, [])) := fun i hi => by rw [List.getD_eq_getElem?_getD, List.getElem?_eq_getElem (by omega)]; rfl
  obtain ⟨b, r, e0, r0⟩ := open_fee ((hall 0 _ rfl).trans (at_ 0 (by omega)))
  obtain ⟨d, e1, r1⟩ := open_num ((hall 1 _ rfl).trans (at_ 1 (by omega)))
  obtain ⟨g, e2, r2⟩ := open_num ((hall 2 _ rfl).trans (at_ 2 (by omega)))
  obtain ⟨f, e3, r3⟩ := open_num ((hall 3 _ rfl).trans (at_ 3 (by omega)))
  replace e0 := (show (cs.drop 0).take (Try.prog.cellsOf 23) = _ from e0)
  replace e1 := (show (cs.drop 2).take (Try.prog.cellsOf 3) = _ from e1)
  replace e2 := (show (cs.drop 3).take (Try.prog.cellsOf 3) = _ from e2)
  replace e3 := (show (cs.drop 4).take (Try.prog.cellsOf 3) = _ from e3)
  rw [cellsOf3] at e1 e2 e3
  rw [cellsOf23] at e0
  have d0 := cut_at cs 0 2 _ e0
  rw [cut_at cs 2 1 _ e1, cut_at cs 3 1 _ e2, cut_at cs 4 1 _ e3, (show cs.drop (4 + 1) = [] from List.drop_eq_nil_of_le (by omega)), List.drop_zero] at d0
  exact ⟨⟨b, r, d, g, f⟩, d0, r0⟩
theorem IsHop.of (ch am ex tot ix : Int) {l k m : List Int} (hl : l.length = 32) (hk : k.length = 32) (hm : m.length = 32) :
    IsHop ([.int .i64 ch, .int .i64 am, .int .i64 ex] ++ U8 l ++ [.int .i64 tot] ++ U8 k ++ [.int .i64 ix] ++ U8 m : List Value).toArray ⟨ch, am, ex, tot⟩ := by
  have h1 : (U8 l).length = 32 := by simp [U8, hl]
  have h2 : (U8 k).length = 32 := by simp [U8, hk]
  have h3 : (U8 m).length = 32 := by simp [U8, hm]
  refine ⟨by simp [h1, h2, h3], ?_, by simp, by simp, by simp, ?_⟩
  · rw [List.all_toArray]
    simp [U8, Value.oneCell']
  · rw [List.getElem?_toArray]
    simp [List.getElem?_cons, List.getElem?_append, h1, h2, h3]
theorem open_hop (h : DataW.trod enc Try.prog w 0 (fun _ => true) true fuel 28 cs = some x) : ∃ v : HP, IsHop cs.toArray v ∧ -9223372036854775808 ≤ v.am ∧ v.am ≤ 9223372036854775807 ∧ v.ex ≤ 9223372036854775807 := by
  obtain ⟨xs, m, _, rfl, hlen, hxl, hall⟩ := DataW.trod_struct Try.underlying28 h
  rw [cellsOf28] at hlen
  have hxl' : xs.length = 8 := hxl
  have at_ : ∀ i, i < 8 → xs[i]? = some (xs.getD i (.nil, [])) := fun i hi => by rw [List.getD_eq_getElem?_getD, List.getElem?_eq_getElem (by omega)]; rfl
  obtain ⟨ch, e0, r0⟩ := open_num ((hall 0 _ rfl).trans (at_ 0 (by omega)))
  obtain ⟨am, e1, r1⟩ := open_num ((hall 1 _ rfl).trans (at_ 1 (by omega)))
  obtain ⟨ex, e2, r2⟩ := open_num ((hall 2 _ rfl).trans (at_ 2 (by omega)))
  obtain ⟨l, e3, hl⟩ := open_arr ((hall 3 _ rfl).trans (at_ 3 (by omega)))
  obtain ⟨tot, e4, r4⟩ := open_num ((hall 4 _ rfl).trans (at_ 4 (by omega)))
  obtain ⟨k, e5, hk⟩ := open_arr ((hall 5 _ rfl).trans (at_ 5 (by omega)))
  obtain ⟨ix, e6, r6⟩ := open_num ((hall 6 _ rfl).trans (at_ 6 (by omega)))
  obtain ⟨m, e7, hm⟩ := open_arr ((hall 7 _ rfl).trans (at_ 7 (by omega)))
  replace e0 := (show (cs.drop 0).take (Try.prog.cellsOf 3) = _ from e0)
  replace e1 := (show (cs.drop 1).take (Try.prog.cellsOf 3) = _ from e1)
  replace e2 := (show (cs.drop 2).take (Try.prog.cellsOf 3) = _ from e2)
  replace e3 := (show (cs.drop 3).take (Try.prog.cellsOf 26) = _ from e3)
  replace e4 := (show (cs.drop 35).take (Try.prog.cellsOf 3) = _ from e4)
  replace e5 := (show (cs.drop 36).take (Try.prog.cellsOf 26) = _ from e5)
  replace e6 := (show (cs.drop 68).take (Try.prog.cellsOf 3) = _ from e6)
  replace e7 := (show (cs.drop 69).take (Try.prog.cellsOf 26) = _ from e7)
  rw [cellsOf3] at e0 e1 e2 e4 e6
  rw [cellsOf26] at e3 e5 e7
  have d0 := cut_at cs 0 1 _ e0
  rw [cut_at cs 1 1 _ e1, cut_at cs 2 1 _ e2, cut_at cs 3 32 _ e3, cut_at cs 35 1 _ e4, cut_at cs 36 32 _ e5, cut_at cs 68 1 _ e6, cut_at cs 69 32 _ e7, (show cs.drop (69 + 32) = [] from List.drop_eq_nil_of_le (by omega)), List.drop_zero] at d0
  refine ⟨⟨ch, am, ex, tot⟩, ?_, r1.1, r1.2, r2.2⟩
  rw [d0]
  have := IsHop.of ch am ex tot ix hl hk hm
  simp only [List.cons_append, List.nil_append, List.append_assoc, List.append_nil] at this ⊢
  exact this
/-- rules lie there -/
def Rls (w : World) (b off n : Nat) (qs : Nat → RV) : Prop := ∀ i, i < n → w.rangeAt b (off + i * 5) (RL (qs i)).toList
theorem Rls.below {w W : World} {b off n : Nat} {qs : Nat → RV} (h : Rls w b off n qs) (hB : Below w.heap.size w W) : Rls W b off n qs := fun i hi => range_below (h i hi) hB
/-- a slice of rules that came in -/
def IsRules (w : World) (ao : Option Addr) (n c : Nat) : Prop :=
  n * 40 ≤ 140737488351232 ∧ n ≤ c ∧ (ao = none → n = 0 ∧ c = 0) ∧ ∃ qs : Nat → RV, (n = 0 ∨ ∃ b off, ao = some ⟨b, off, none⟩ ∧ Rls w b off n qs) ∧ ∀ i, i < n → (qs i).b ≤ 9223372036854775807
theorem open_rls {ao : Option Addr} {n c : Nat} (h : DataW.trod enc Try.prog w 0 (fun _ => true) true fuel 35 [.slice ao n c] = some x) (hs : ∀ m ∈ x.1.weights Try.prog 35, m ≤ reachBytes) : IsRules w ao n c := by
  rcases Go.Deep.open_slice Try.underlying35 h with ⟨hcs, _⟩ | ⟨a, len, cap, m, k, D, Pl, hcs, _, hl, hm, hmm, rfl, hx⟩
  · simp at hcs
    obtain ⟨rfl, rfl, rfl⟩ := hcs
    exact ⟨by omega, by omega, fun _ => ⟨rfl, rfl⟩, fun _ => R0, .inl rfl, fun i hi => by omega⟩
  · simp at hcs
    obtain ⟨rfl, rfl, rfl⟩ := hcs
    have hm' : m = c := by simpa using hmm
    subst hm'
    have hr := hs _ (by simp only [DataW.weights, Try.underlying35]; exact List.mem_cons_self ..)
    rw [bytesOf25] at hr
    simp only [List.length_map, List.length_range, reachBytes] at hr
    have each : ∀ i, i < n → ∃ q : RV, q.b ≤ 9223372036854775807 ∧ ∀ j, j < 5 → w.cell? ((a.add (i * 5)).add j) = (RL q).toList[j]? := fun i hi => by
      obtain ⟨cs', h1, h2⟩ := hx i (by omega)
      rw [cellsOf25] at h1
      obtain ⟨_, hlen, hcell⟩ := World.cells?_some h1
      obtain ⟨q, hq, hqa⟩ := open_rules h2
      exact ⟨q, hqa, fun j hj => by rw [← hq]; exact hcell j hj⟩
    have : Inhabited RV := ⟨R0⟩
    obtain ⟨q, hq⟩ := Go.Deep.choose_lt each
    refine ⟨by omega, hl, (fun e => by cases e), q, ?_, fun i hi => (hq i hi).1⟩
    by_cases h0 : n = 0
    · exact .inl h0
    obtain ⟨b, off, spot⟩ := a
    have hsp : spot = none := by
      have h := (hq 0 (by omega)).2 0 (by omega)
      simpa [Addr.add] using World.cell?_spot (h.trans (show (RL (q 0)).toList[0]? = some (.int .i64 (q 0).b) from rfl))
    subst hsp
    refine .inr ⟨b, off, rfl, fun i hi j v hv => ?_⟩
    have hj : j < 5 := (List.getElem?_eq_some_iff.1 hv).1
    have := (hq i hi).2 j hj
    rw [addr_add, addr_add, hv] at this
    exact this
end
end Go.Proofs.Ytfbaidmnnkcaeaa
