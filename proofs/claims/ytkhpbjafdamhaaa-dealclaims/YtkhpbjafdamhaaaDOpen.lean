/- Terms, views and points that came in, as cells. -/
import Derived.Test.YtkhpbjafdamhaaaDPl
import Derived.ProofKit
import Derived.OpenShut
import Derived.SizedLaws
import Derived.WideShapes
namespace Go.Proofs.Ytkhpbjafdamhaaa
open Go.RowKit Go.ChangeShapes Go.WideShapes Go.ChangeAt
set_option linter.unusedVariables false
set_option linter.unusedSimpArgs false
set_option maxRecDepth 100000

theorem cellsOf5 : Try.prog.cellsOf 5 = 1 := by kernel_rfl
theorem cellsOf3 : Try.prog.cellsOf 3 = 1 := by kernel_rfl
theorem cellsOf22 : Try.prog.cellsOf 22 = 32 := by kernel_rfl
theorem cellsOf24 : Try.prog.cellsOf 24 = 33 := by kernel_rfl
theorem cellsOf26 : Try.prog.cellsOf 26 = 43 := by kernel_rfl
theorem cellsOf29 : Try.prog.cellsOf 29 = 3 := by kernel_rfl
theorem cellsOf49 : Try.prog.cellsOf 49 = 36 := by kernel_rfl
theorem bytesOf49 : Try.prog.bytesOf 49 = 64 := by kernel_rfl
theorem bounds_i64 {z : Int} (h : (Lit.int .i64 z).wf = true) : -9223372036854775808 ≤ z ∧ z ≤ 9223372036854775807 := by
  simp [Lit.wf, IntKind.min, IntKind.max, IntKind.bits, IntKind.signed] at h
  omega
section
variable {H : Type} {enc : TypeId × Value → H} {w : World} {fuel : Nat} {cs : List Value} {x : DataW H × List MemPlace}
theorem open_arr (h : DataW.trod enc Try.prog w 0 (fun _ => true) true fuel 22 cs = some x) : ∃ l : List Int, cs = U8 l ∧ l.length = 32 := by
  obtain ⟨xs, m, _, _, hlen, hxl, hall⟩ := DataW.trod_array Try.underlying22 h; rw [cellsOf22] at hlen
  have each : ∀ i, i < 32 → ∃ z : Int, cs[i]? = some (.int .u8 z) := fun i hi => by
    have h1 := hall i hi; rw [cellsOf5, Nat.mul_one, List.getElem?_eq_getElem (by omega)] at h1; obtain ⟨z, h2, _, h3⟩ := DataW.trod_int Try.underlying5 h1
    have h4 : cs[i]? = some cs[i] := List.getElem?_eq_getElem (by omega)
    rw [List.drop_eq_getElem_cons (by omega), List.take_succ_cons, List.take_zero] at h2; rw [h4, (List.cons.inj h2).1]; exact ⟨z, rfl⟩
  obtain ⟨f, hf⟩ := Go.Deep.choose_lt each; refine ⟨(List.range 32).map f, ?_, by simp⟩
  apply List.ext_getElem?
  intro i
  unfold U8
  by_cases hi : i < 32
  · rw [hf i hi, List.getElem?_map, List.getElem?_map, List.getElem?_range hi]; rfl
  · rw [List.getElem?_eq_none (by omega), List.getElem?_eq_none (by simp; omega)]
theorem open_num (h : DataW.trod enc Try.prog w 0 (fun _ => true) true fuel 3 cs = some x) : ∃ n, cs = [.int .i64 n] ∧ n ≤ 9223372036854775807 := by
  obtain ⟨n, h1, _, h2⟩ := DataW.trod_int Try.underlying3 h; exact ⟨n, h1, (bounds_i64 h2).2⟩
theorem cut_at (cs : List Value) (o n : Nat) (A : List Value) (h : (cs.drop o).take n = A) : cs.drop o = A ++ cs.drop (o + n) := by
  rw [← h, ← List.drop_drop, List.take_append_drop]
theorem open_ref (h : DataW.trod enc Try.prog w 0 (fun _ => true) true fuel 24 cs = some x) : ∃ (l : List Int) (fo : Int), cs = U8 l ++ [.int .i64 fo] ∧ l.length = 32 := by
  obtain ⟨xs, m, _, rfl, hlen, hxl, hall⟩ := DataW.trod_struct Try.underlying24 h; rw [cellsOf24] at hlen
  have hxl' : xs.length = 2 := hxl
  have at_ : ∀ i, i < 2 → xs[i]? = some (xs.getD i (.nil, [])) := fun i hi => by rw [List.getD_eq_getElem?_getD, List.getElem?_eq_getElem (by omega)]; rfl
  obtain ⟨l, e0, hl⟩ := open_arr ((hall 0 _ rfl).trans (at_ 0 (by omega))); obtain ⟨fo, e1, _⟩ := open_num ((hall 1 _ rfl).trans (at_ 1 (by omega))); replace e0 := (show (cs.drop 0).take (Try.prog.cellsOf 22) = _ from e0); replace e1 := (show (cs.drop 32).take (Try.prog.cellsOf 3) = _ from e1); rw [cellsOf22] at e0; rw [cellsOf3] at e1; refine ⟨l, fo, ?_, hl⟩; have d0 := cut_at cs 0 32 _ e0; rw [cut_at cs 32 1 _ e1, (show cs.drop (32 + 1) = [] from List.drop_eq_nil_of_le (by omega)), List.drop_zero, List.append_nil] at d0; exact d0
theorem IsT.of (ch a b fo sa sb d fee res sl fl : Int) {l : List Int} (h : l.length = 32) :
    IsT ([.int .i64 ch, .int .i64 a, .int .i64 b] ++ (U8 l ++ [.int .i64 fo]) ++ [.int .i64 sa, .int .i64 sb, .int .i64 d, .int .i64 fee, .int .i64 res, .int .i64 sl, .int .i64 fl] : List Value).toArray { ch := ch, a := a, b := b, fo := fo, sa := sa, sb := sb, d := d, fee := fee, res := res, sl := sl, fl := fl } := by
  have hl : (U8 l).length = 32 := by simp [U8, h]
  refine ⟨by simp [hl], ?_, by simp, by simp, by simp, ?_, ?_, ?_, ?_, ?_, ?_, ?_, ?_⟩
  · rw [List.all_toArray]
    simp [U8, Value.oneCell']
  all_goals
    rw [List.getElem?_toArray]
    simp [List.getElem?_cons, List.getElem?_append, hl]
theorem open_terms (h : DataW.trod enc Try.prog w 0 (fun _ => true) true fuel 26 cs = some x) : ∃ t, IsT cs.toArray t ∧ TB t := by
  obtain ⟨xs, m, _, rfl, hlen, hxl, hall⟩ := DataW.trod_struct Try.underlying26 h; rw [cellsOf26] at hlen
  have hxl' : xs.length = 11 := hxl
  have at_ : ∀ i, i < 11 → xs[i]? = some (xs.getD i (.nil, [])) := fun i hi => by rw [List.getD_eq_getElem?_getD, List.getElem?_eq_getElem (by omega)]; rfl
  obtain ⟨ch, e0, r0⟩ := open_num ((hall 0 _ rfl).trans (at_ 0 (by omega))); obtain ⟨a, e1, r1⟩ := open_num ((hall 1 _ rfl).trans (at_ 1 (by omega))); obtain ⟨b, e2, r2⟩ := open_num ((hall 2 _ rfl).trans (at_ 2 (by omega))); obtain ⟨l, fo, e3, hl⟩ := open_ref ((hall 3 _ rfl).trans (at_ 3 (by omega))); obtain ⟨sa, e4, r4⟩ := open_num ((hall 4 _ rfl).trans (at_ 4 (by omega))); obtain ⟨sb, e5, r5⟩ := open_num ((hall 5 _ rfl).trans (at_ 5 (by omega))); obtain ⟨d, e6, r6⟩ := open_num ((hall 6 _ rfl).trans (at_ 6 (by omega)))
  obtain ⟨fee, e7, r7⟩ := open_num ((hall 7 _ rfl).trans (at_ 7 (by omega))); obtain ⟨res, e8, r8⟩ := open_num ((hall 8 _ rfl).trans (at_ 8 (by omega))); obtain ⟨sl, e9, r9⟩ := open_num ((hall 9 _ rfl).trans (at_ 9 (by omega))); obtain ⟨fl, e10, r10⟩ := open_num ((hall 10 _ rfl).trans (at_ 10 (by omega))); replace e0 := (show (cs.drop 0).take (Try.prog.cellsOf 3) = _ from e0); replace e1 := (show (cs.drop 1).take (Try.prog.cellsOf 3) = _ from e1); replace e2 := (show (cs.drop 2).take (Try.prog.cellsOf 3) = _ from e2); replace e3 := (show (cs.drop 3).take (Try.prog.cellsOf 24) = _ from e3)
  replace e4 := (show (cs.drop 36).take (Try.prog.cellsOf 3) = _ from e4); replace e5 := (show (cs.drop 37).take (Try.prog.cellsOf 3) = _ from e5); replace e6 := (show (cs.drop 38).take (Try.prog.cellsOf 3) = _ from e6); replace e7 := (show (cs.drop 39).take (Try.prog.cellsOf 3) = _ from e7); replace e8 := (show (cs.drop 40).take (Try.prog.cellsOf 3) = _ from e8); replace e9 := (show (cs.drop 41).take (Try.prog.cellsOf 3) = _ from e9); replace e10 := (show (cs.drop 42).take (Try.prog.cellsOf 3) = _ from e10); rw [cellsOf3] at e0 e1 e2 e4 e5 e6 e7 e8 e9 e10; rw [cellsOf24] at e3
  have d0 := cut_at cs 0 1 _ e0; rw [cut_at cs 1 1 _ e1, cut_at cs 2 1 _ e2, cut_at cs 3 33 _ e3, cut_at cs 36 1 _ e4, cut_at cs 37 1 _ e5, cut_at cs 38 1 _ e6, cut_at cs 39 1 _ e7, cut_at cs 40 1 _ e8, cut_at cs 41 1 _ e9, cut_at cs 42 1 _ e10, (show cs.drop (42 + 1) = [] from List.drop_eq_nil_of_le (by omega)), List.drop_zero] at d0; refine ⟨{ ch := ch, a := a, b := b, fo := fo, sa := sa, sb := sb, d := d, fee := fee, res := res, sl := sl, fl := fl }, ?_, ⟨r4, r5, r7, r8, r10⟩⟩; rw [d0]
  have := IsT.of ch a b fo sa sb d fee res sl fl hl
  simp only [List.cons_append, List.nil_append, List.append_assoc] at this ⊢; exact this
theorem IsH.of (y i a e : Int) {l : List Int} (h : l.length = 32) : IsH ([.int .i64 y, .int .i64 i, .int .i64 a] ++ U8 l ++ [.int .i64 e] : List Value).toArray { by_ := y, id := i, am := a, ex := e, hl := l } := by
  have hl : (U8 l).length = 32 := by simp [U8, h]
  refine ⟨by simp [hl], ?_, by simp, by simp, by simp, ?_, ?_, h⟩
  · rw [List.all_toArray]
    simp [U8, Value.oneCell']
  · rw [List.getElem?_toArray]
    simp [List.getElem?_cons, List.getElem?_append, hl]
  · unfold HV.hash
    rw [List.extract_toArray, List.extract_eq_take_drop]
    congr 1
    simp [List.take_append, hl]
theorem open_htlc (h : DataW.trod enc Try.prog w 0 (fun _ => true) true fuel 49 cs = some x) : ∃ q : HV, IsH cs.toArray q ∧ q.am ≤ 9223372036854775807 := by
  obtain ⟨xs, m, _, rfl, hlen, hxl, hall⟩ := DataW.trod_struct Try.underlying49 h; rw [cellsOf49] at hlen
  have hxl' : xs.length = 5 := hxl
  have at_ : ∀ i, i < 5 → xs[i]? = some (xs.getD i (.nil, [])) := fun i hi => by rw [List.getD_eq_getElem?_getD, List.getElem?_eq_getElem (by omega)]; rfl
  obtain ⟨y, e0, r0⟩ := open_num ((hall 0 _ rfl).trans (at_ 0 (by omega))); obtain ⟨i, e1, r1⟩ := open_num ((hall 1 _ rfl).trans (at_ 1 (by omega))); obtain ⟨a, e2, r2⟩ := open_num ((hall 2 _ rfl).trans (at_ 2 (by omega))); obtain ⟨l, e3, hl⟩ := open_arr ((hall 3 _ rfl).trans (at_ 3 (by omega))); obtain ⟨e, e4, r4⟩ := open_num ((hall 4 _ rfl).trans (at_ 4 (by omega))); replace e0 := (show (cs.drop 0).take (Try.prog.cellsOf 3) = _ from e0); replace e1 := (show (cs.drop 1).take (Try.prog.cellsOf 3) = _ from e1); replace e2 := (show (cs.drop 2).take (Try.prog.cellsOf 3) = _ from e2)
  replace e3 := (show (cs.drop 3).take (Try.prog.cellsOf 22) = _ from e3); replace e4 := (show (cs.drop 35).take (Try.prog.cellsOf 3) = _ from e4); rw [cellsOf3] at e0 e1 e2 e4; rw [cellsOf22] at e3; have d0 := cut_at cs 0 1 _ e0; rw [cut_at cs 1 1 _ e1, cut_at cs 2 1 _ e2, cut_at cs 3 32 _ e3, cut_at cs 35 1 _ e4, (show cs.drop (35 + 1) = [] from List.drop_eq_nil_of_le (by omega)), List.drop_zero] at d0; refine ⟨{ by_ := y, id := i, am := a, ex := e, hl := l }, ?_, r2⟩; rw [d0]
  have := IsH.of y i a e hl
  simp only [List.cons_append, List.nil_append, List.append_assoc] at this ⊢; exact this
theorem addr_add (b o j : Nat) : (⟨b, o, none⟩ : Addr).add j = ⟨b, o + j, none⟩ := Addr.add_mid b o j
theorem open_hs {ao : Option Addr} {n c : Nat} (h : DataW.trod enc Try.prog w 0 (fun _ => true) true fuel 27 [.slice ao n c] = some x) (hs : ∀ m ∈ x.1.weights Try.prog 27, m ≤ reachBytes) :
    n ≤ 140737488355328 ∧ ∃ (Cs : Nat → Array Value) (hv : Nat → HV), Hs w ao n Cs hv ∧ ∀ i, i < n → (hv i).am ≤ 9223372036854775807 := by
  rcases Go.Deep.open_slice Try.underlying27 h with ⟨hcs, _⟩ | ⟨a, len, cap, m, k, D, Pl, hcs, _, hl, hm, hmm, rfl, hx⟩
  · simp at hcs
    obtain ⟨rfl, rfl, rfl⟩ := hcs; exact ⟨by omega, fun _ => #[], fun _ => ⟨0, 0, 0, 0, []⟩, .inl rfl, fun i hi => by omega⟩
  · simp at hcs
    obtain ⟨rfl, rfl, rfl⟩ := hcs
    have hm' : m = c := by simpa using hmm
    subst hm'; have hr := hs _ (by simp only [DataW.weights, Try.underlying27]; exact List.mem_cons_self ..); rw [bytesOf49] at hr; simp only [List.length_map, List.length_range, reachBytes] at hr
    have each : ∀ i, i < n → ∃ q : Array Value × HV, IsH q.1 q.2 ∧ q.2.am ≤ 9223372036854775807 ∧ ∀ j, j < 36 → w.cell? ((a.add (i * 36)).add j) = q.1.toList[j]? := fun i hi => by
      obtain ⟨cs', h1, h2⟩ := hx i (by omega); rw [cellsOf49] at h1; obtain ⟨_, hlen, hcell⟩ := World.cells?_some h1; obtain ⟨q, hq, hqa⟩ := open_htlc h2; exact ⟨(cs'.toArray, q), hq, hqa, fun j hj => by simpa using hcell j hj⟩
    have : Inhabited (Array Value × HV) := ⟨(#[], ⟨0, 0, 0, 0, []⟩)⟩
    obtain ⟨q, hq⟩ := Go.Deep.choose_lt each; refine ⟨by omega, fun i => (q i).1, fun i => (q i).2, ?_, fun i hi => (hq i hi).2.1⟩
    by_cases h0 : n = 0
    · exact .inl h0
    obtain ⟨b, off, spot⟩ := a
    have hsp : spot = none := by
      have h := (hq 0 (by omega)).2.2 0 (by omega); have h36 := (hq 0 (by omega)).1.size; rw [List.getElem?_eq_getElem (by simp; omega)] at h
      simpa [Addr.add] using World.cell?_spot h
    subst hsp; refine .inr ⟨b, off, rfl, fun i hi => ⟨(hq i hi).1, fun j v hv => ?_⟩⟩
    have hj : j < 36 := by
      have := (List.getElem?_eq_some_iff.1 hv).1
      have h36 := (hq i hi).1.size
      simp at this
      omega
    have := (hq i hi).2.2 j hj
    rw [addr_add, addr_add, hv] at this; exact this
theorem open_view (h : DataW.trod enc Try.prog w 0 (fun _ => true) true fuel 29 cs = some x) (hs : ∀ m ∈ x.1.weights Try.prog 29, m ≤ reachBytes) :
    ∃ (a b : Int) (ao : Option Addr) (n c : Nat) (Cs : Nat → Array Value) (hv : Nat → HV), cs = [.int .i64 a, .int .i64 b, .slice ao n c] ∧ a ≤ 9223372036854775807 ∧ b ≤ 9223372036854775807 ∧ n ≤ 140737488355328 ∧ Hs w ao n Cs hv ∧ ∀ i, i < n → (hv i).am ≤ 9223372036854775807 := by
  obtain ⟨xs, m, _, rfl, hlen, hxl, hall⟩ := DataW.trod_struct Try.underlying29 h; rw [cellsOf29] at hlen
  have hxl' : xs.length = 3 := hxl
  have at_ : ∀ i, i < 3 → xs[i]? = some (xs.getD i (.nil, [])) := fun i hi => by rw [List.getD_eq_getElem?_getD, List.getElem?_eq_getElem (by omega)]; rfl
  obtain ⟨a, e0, r0⟩ := open_num ((hall 0 _ rfl).trans (at_ 0 (by omega))); obtain ⟨b, e1, r1⟩ := open_num ((hall 1 _ rfl).trans (at_ 1 (by omega))); have e2 := (hall 2 _ rfl).trans (at_ 2 (by omega)); replace e0 := (show (cs.drop 0).take (Try.prog.cellsOf 3) = _ from e0); replace e1 := (show (cs.drop 1).take (Try.prog.cellsOf 3) = _ from e1); rw [cellsOf3] at e0 e1
  match cs, hlen with
  | [v0, v1, v2], _ =>
    simp at e0 e1
    subst e0 e1
    have e2 : DataW.trod enc Try.prog w 0 (fun _ => true) true m 27 [v2] = some (xs.getD 2 (.nil, [])) := e2
    obtain ⟨ao, n, c, rfl⟩ : ∃ ao n c, v2 = .slice ao n c := by
      rcases Go.Deep.open_slice Try.underlying27 e2 with ⟨hcs, _⟩ | ⟨a', len, cap, m', k, D, Pl, hcs, _⟩
      · simp at hcs; exact ⟨_, _, _, hcs⟩
      · simp at hcs; exact ⟨_, _, _, hcs⟩
    obtain ⟨hn, Cs, hv, hH, hz⟩ := open_hs e2 (fun k hk => by
      refine hs k ?_; simp only [DataW.weights, Try.underlying29]
      exact DataW.weights_mem_each (j := 2) (t := 27) (d := (xs.getD 2 (.nil, [])).1) rfl (by rw [List.getElem?_map, at_ 2 (by omega)]; rfl) k hk)
    exact ⟨a, b, ao, n, c, Cs, hv, rfl, r0, r1, hn, hH, hz⟩
end
end Go.Proofs.Ytkhpbjafdamhaaa
