/- Pasts, floats and lists of them that came in, as cells. -/
import Derived.Test.YtjmdcgfhblgehaaSLaw2
import Derived.ProofKit
import Derived.OpenShut
import Derived.SizedLaws
import Derived.Deep.Slices
import Derived.Deep.SlicePairs
import Derived.WideShapes
namespace Go.Proofs.Ytjmdcgfhblgehaa
open Go.RowKit Go.ChangeShapes Go.WideShapes Go.ChangeAt
set_option linter.unusedVariables false
set_option linter.unusedSimpArgs false
set_option maxRecDepth 100000
theorem cellsOf3 : Try.prog.cellsOf 3 = 1 := by kernel_rfl
theorem addr_add (b o k : Nat) : (⟨b, o, none⟩ : Addr).add k = ⟨b, o + k, none⟩ := by unfold Addr.add; split <;> simp_all
theorem bounds_i64 {z : Int} (h : (Lit.int .i64 z).wf = true) : -9223372036854775808 ≤ z ∧ z ≤ 9223372036854775807 := by
  simp [Lit.wf, IntKind.min, IntKind.max, IntKind.bits, IntKind.signed] at h
  omega
theorem bounds_f64 {z : Nat} (h : (Lit.float .f64 z).wf = true) : z < 18446744073709551616 := by
  simp [Lit.wf] at h
  omega
section
variable {H : Type} {enc : TypeId × Value → H} {w : World} {fuel : Nat} {cs : List Value} {x : DataW H × List MemPlace}
theorem open_num (h : DataW.trod enc Try.prog w 0 (fun _ => true) true fuel 3 cs = some x) : ∃ n, cs = [.int .i64 n] ∧ -9223372036854775808 ≤ n ∧ n ≤ 9223372036854775807 := by
  obtain ⟨n, h1, _, h2⟩ := DataW.trod_int Try.underlying3 h
  exact ⟨n, h1, bounds_i64 h2⟩
theorem cut_at (cs : List Value) (o n : Nat) (A : List Value) (h : (cs.drop o).take n = A) : cs.drop o = A ++ cs.drop (o + n) := by
  rw [← h, ← List.drop_drop, List.take_append_drop]
theorem cellsOf23 : Try.prog.cellsOf 23 = 4 := by kernel_rfl
theorem open_past (h : DataW.trod enc Try.prog w 0 (fun _ => true) true fuel 23 cs = some x) : ∃ p : PV, cs = (PL p).toList ∧ PB p := by
  obtain ⟨xs, m, _, rfl, hlen, hxl, hall⟩ := DataW.trod_struct Try.underlying23 h
  rw [cellsOf23] at hlen
  have hxl' : xs.length = 4 := hxl
  have at_ : ∀ i, i < 4 → xs[i]? = some (xs.getD i (.nil, [])) := fun i hi => by rw [List.getD_eq_getElem?_getD, List.getElem?_eq_getElem (by omega)]; rfl
  obtain ⟨a, e0, r0⟩ := open_num ((hall 0 _ rfl).trans (at_ 0 (by omega)))
  obtain ⟨b, e1, r1⟩ := open_num ((hall 1 _ rfl).trans (at_ 1 (by omega)))
  obtain ⟨c, e2, r2⟩ := open_num ((hall 2 _ rfl).trans (at_ 2 (by omega)))
  obtain ⟨d, e3, r3⟩ := open_num ((hall 3 _ rfl).trans (at_ 3 (by omega)))
  replace e0 := (show (cs.drop 0).take (Try.prog.cellsOf 3) = _ from e0)
  replace e1 := (show (cs.drop 1).take (Try.prog.cellsOf 3) = _ from e1)
  replace e2 := (show (cs.drop 2).take (Try.prog.cellsOf 3) = _ from e2)
  replace e3 := (show (cs.drop 3).take (Try.prog.cellsOf 3) = _ from e3)
  rw [cellsOf3] at e0 e1 e2 e3
  have d0 := cut_at cs 0 1 _ e0
  rw [cut_at cs 1 1 _ e1, cut_at cs 2 1 _ e2, cut_at cs 3 1 _ e3, (show cs.drop (3 + 1) = [] from List.drop_eq_nil_of_le (by omega)), List.drop_zero] at d0
  exact ⟨⟨a, b, c, d⟩, d0, ⟨r1.1, r1.2, r3.1, r3.2⟩⟩
theorem trod_float {k : FloatKind} {t : TypeId} (ht : Try.prog.underlying t = some (.float k)) (h : DataW.trod enc Try.prog w 0 (fun _ => true) true fuel t cs = some x) : ∃ n, cs = [.float k n] ∧ x = (.lit (.float k n), []) ∧ (Lit.float k n).wf = true := by
  cases fuel with
  | zero => simp [DataW.trod] at h
  | succ n =>
    simp only [DataW.trod, ht] at h
    split at h <;> simp_all
theorem cellsOf_fls : Try.prog.cellsOf 24 = 1 := by kernel_rfl
theorem bytesOf_fls : Try.prog.bytesOf 24 = 8 := by kernel_rfl
theorem open_fls {ao : Option Addr} {n c : Nat} (h : DataW.trod enc Try.prog w 0 (fun _ => true) true fuel 32 [.slice ao n c] = some x) (hs : ∀ m ∈ x.1.weights Try.prog 32, m ≤ reachBytes) :
    n ≤ 140737488355328 ∧ ∃ z : Nat → Nat, Fs w ao n z ∧ ∀ i, i < n → z i < 18446744073709551616 := by
  rcases Go.Deep.open_slice Try.underlying32 h with ⟨hcs, _⟩ | ⟨a, len, cap, m, k, D, Pl, hcs, _, hl, hm, hmm, rfl, hx⟩
  · simp at hcs
    obtain ⟨rfl, rfl, rfl⟩ := hcs
    exact ⟨by omega, fun _ => 0, .inl rfl, fun i hi => by omega⟩
  · simp at hcs
    obtain ⟨rfl, rfl, rfl⟩ := hcs
    have hm' : m = c := by simpa using hmm
    subst hm'
    have hr := hs _ (by simp only [DataW.weights, Try.underlying32]; exact List.mem_cons_self ..)
    rw [bytesOf_fls] at hr
    simp only [List.length_map, List.length_range, reachBytes] at hr
    have each : ∀ i, i < n → ∃ q : Nat, q < 18446744073709551616 ∧ w.cell? (a.add i) = some (.float .f64 q) := fun i hi => by
      obtain ⟨cs', h1, h2⟩ := hx i (by omega)
      rw [cellsOf_fls] at h1
      obtain ⟨_, hlen, hcell⟩ := World.cells?_some h1
      obtain ⟨q, e1, _, e2⟩ := trod_float Try.underlying24 h2
      have := hcell 0 (by omega)
      rw [e1] at this
      rw [Nat.mul_one] at this
      exact ⟨q, bounds_f64 e2, by simpa [Go.Deep.add_add] using this⟩
    obtain ⟨q, hq⟩ := Go.Deep.choose_lt each
    refine ⟨by omega, q, ?_, fun i hi => (hq i hi).1⟩
    by_cases h0 : n = 0
    · exact .inl h0
    obtain ⟨b, off, spot⟩ := a
    have hsp : spot = none := by
      have h := (hq 0 (by omega)).2
      simpa [Addr.add] using World.cell?_spot h
    subst hsp
    refine .inr ⟨b, off, rfl, fun i hi => ?_⟩
    have := (hq i hi).2
    rw [addr_add] at this
    exact this
theorem cellsOf_ints_ : Try.prog.cellsOf 3 = 1 := by kernel_rfl
theorem bytesOf_ints_ : Try.prog.bytesOf 3 = 8 := by kernel_rfl
theorem open_ints_ {ao : Option Addr} {n c : Nat} (h : DataW.trod enc Try.prog w 0 (fun _ => true) true fuel 37 [.slice ao n c] = some x) (hs : ∀ m ∈ x.1.weights Try.prog 37, m ≤ reachBytes) :
    n ≤ 140737488355328 ∧ ∃ z : Nat → Int, Ns w ao n z ∧ ∀ i, i < n → (-9223372036854775808 ≤ z i ∧ z i ≤ 9223372036854775807) := by
  rcases Go.Deep.open_slice Try.underlying37 h with ⟨hcs, _⟩ | ⟨a, len, cap, m, k, D, Pl, hcs, _, hl, hm, hmm, rfl, hx⟩
  · simp at hcs
    obtain ⟨rfl, rfl, rfl⟩ := hcs
    exact ⟨by omega, fun _ => 0, .inl rfl, fun i hi => by omega⟩
  · simp at hcs
    obtain ⟨rfl, rfl, rfl⟩ := hcs
    have hm' : m = c := by simpa using hmm
    subst hm'
    have hr := hs _ (by simp only [DataW.weights, Try.underlying37]; exact List.mem_cons_self ..)
    rw [bytesOf_ints_] at hr
    simp only [List.length_map, List.length_range, reachBytes] at hr
    have each : ∀ i, i < n → ∃ q : Int, (-9223372036854775808 ≤ q ∧ q ≤ 9223372036854775807) ∧ w.cell? (a.add i) = some (.int .i64 q) := fun i hi => by
      obtain ⟨cs', h1, h2⟩ := hx i (by omega)
      rw [cellsOf_ints_] at h1
      obtain ⟨_, hlen, hcell⟩ := World.cells?_some h1
      obtain ⟨q, e1, _, e2⟩ := DataW.trod_int Try.underlying3 h2
      have := hcell 0 (by omega)
      rw [e1] at this
      rw [Nat.mul_one] at this
      exact ⟨q, bounds_i64 e2, by simpa [Go.Deep.add_add] using this⟩
    obtain ⟨q, hq⟩ := Go.Deep.choose_lt each
    refine ⟨by omega, q, ?_, fun i hi => (hq i hi).1⟩
    by_cases h0 : n = 0
    · exact .inl h0
    obtain ⟨b, off, spot⟩ := a
    have hsp : spot = none := by
      have h := (hq 0 (by omega)).2
      simpa [Addr.add] using World.cell?_spot h
    subst hsp
    refine .inr ⟨b, off, rfl, fun i hi => ?_⟩
    have := (hq i hi).2
    rw [addr_add] at this
    exact this
end
end Go.Proofs.Ytjmdcgfhblgehaa
