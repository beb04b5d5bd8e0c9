/- Pasts, floats and lists of them that came in, as cells. -/
import Derived.Test.YtjmdcgfhblgehabSBLaw
import Derived.ProofKit
import Derived.OpenShut
import Derived.SizedLaws
import Derived.Deep.Slices
import Derived.Deep.SlicePairs
import Derived.WideShapes
namespace Go.Proofs.Ytjmdcgfhblgehab
open Go.RowKit Go.ChangeShapes Go.WideShapes Go.ChangeAt
set_option linter.unusedVariables false
set_option linter.unusedSimpArgs false
set_option maxRecDepth 100000
theorem cellsOf3 : Try.prog.cellsOf 3 = 1 := by kernel_rfl
theorem addr_add (b o k : Nat) : (⟨b, o, none⟩ : Addr).add k = ⟨b, o + k, none⟩ := by unfold Addr.add; split <;> simp_all
theorem bounds_i64 {z : Int} (h : (Lit.int .i64 z).wf = true) : -9223372036854775808 ≤ z ∧ z ≤ 9223372036854775807 := by
  simp [Lit.wf, IntKind.min, IntKind.max, IntKind.bits, IntKind.signed] at h
  omega
theorem bounds_f64 {z : Nat} (h : (Lit.float .f64 z).wf = true) : z < 18446744073709551616 := by
  simp [Lit.wf] at h
  omega
section
variable {H : Type} {enc : TypeId × Value → H} {w : World} {fuel : Nat} {cs : List Value} {x : DataW H × List MemPlace}
theorem open_num (h : DataW.trod enc Try.prog w 0 (fun _ => true) true fuel 3 cs = some x) : ∃ n, cs = [.int .i64 n] ∧ -9223372036854775808 ≤ n ∧ n ≤ 9223372036854775807 := by
  obtain ⟨n, h1, _, h2⟩ := DataW.trod_int Try.underlying3 h
  exact ⟨n, h1, bounds_i64 h2⟩
theorem cut_at (cs : List Value) (o n : Nat) (A : List Value) (h : (cs.drop o).take n = A) : cs.drop o = A ++ cs.drop (o + n) := by
  rw [← h, ← List.drop_drop, List.take_append_drop]
theorem trod_float {k : FloatKind} {t : TypeId} (ht : Try.prog.underlying t = some (.float k)) (h : DataW.trod enc Try.prog w 0 (fun _ => true) true fuel t cs = some x) : ∃ n, cs = [.float k n] ∧ x = (.lit (.float k n), []) ∧ (Lit.float k n).wf = true := by
  cases fuel with
  | zero => simp [DataW.trod] at h
  | succ n =>
    simp only [DataW.trod, ht] at h
    split at h <;> simp_all
theorem cellsOf_fls : Try.prog.cellsOf 23 = 1 := by kernel_rfl
theorem bytesOf_fls : Try.prog.bytesOf 23 = 8 := by kernel_rfl
theorem open_fls {ao : Option Addr} {n c : Nat} (h : DataW.trod enc Try.prog w 0 (fun _ => true) true fuel 22 [.slice ao n c] = some x) (hs : ∀ m ∈ x.1.weights Try.prog 22, m ≤ reachBytes) :
    n ≤ 140737488355328 ∧ ∃ z : Nat → Nat, Fs w ao n z ∧ ∀ i, i < n → z i < 18446744073709551616 := by
  rcases Go.Deep.open_slice Try.underlying22 h with ⟨hcs, _⟩ | ⟨a, len, cap, m, k, D, Pl, hcs, _, hl, hm, hmm, rfl, hx⟩
  · simp at hcs
    obtain ⟨rfl, rfl, rfl⟩ := hcs
    exact ⟨by omega, fun _ => 0, .inl rfl, fun i hi => by omega⟩
  · simp at hcs
    obtain ⟨rfl, rfl, rfl⟩ := hcs
    have hm' : m = c := by simpa using hmm
    subst hm'
    have hr := hs _ (by simp only [DataW.weights, Try.underlying22]; exact List.mem_cons_self ..)
    rw [bytesOf_fls] at hr
    simp only [List.length_map, List.length_range, reachBytes] at hr
    have each : ∀ i, i < n → ∃ q : Nat, q < 18446744073709551616 ∧ w.cell? (a.add i) = some (.float .f64 q) := fun i hi => by
      obtain ⟨cs', h1, h2⟩ := hx i (by omega)
      rw [cellsOf_fls] at h1
      obtain ⟨_, hlen, hcell⟩ := World.cells?_some h1
      obtain ⟨q, e1, _, e2⟩ := trod_float Try.underlying23 h2
      have := hcell 0 (by omega)
      rw [e1] at this
      rw [Nat.mul_one] at this
      exact ⟨q, bounds_f64 e2, by simpa [Go.Deep.add_add] using this⟩
    obtain ⟨q, hq⟩ := Go.Deep.choose_lt each
    refine ⟨by omega, q, ?_, fun i hi => (hq i hi).1⟩
    by_cases h0 : n = 0
    · exact .inl h0
    obtain ⟨b, off, spot⟩ := a
    have hsp : spot = none := by
      have h := (hq 0 (by omega)).2
      simpa [Addr.add] using World.cell?_spot h
    subst hsp
    refine .inr ⟨b, off, rfl, fun i hi => ?_⟩
    have := (hq i hi).2
    rw [addr_add] at this
    exact this
end
end Go.Proofs.Ytjmdcgfhblgehab
