/- A list of inputs that came in. -/
import Derived.Test.YtkhpbjafdamhaaaDOpen
import Derived.Test.YtkhpbjafdamhaaaDCl
namespace Go.Proofs.Ytkhpbjafdamhaaa
open Go.RowKit Go.ChangeShapes Go.WideShapes Go.ChangeAt
set_option linter.unusedVariables false
set_option linter.unusedSimpArgs false
set_option maxRecDepth 100000

theorem cellsOf61 : Try.prog.cellsOf 61 = 130 := by kernel_rfl
theorem bytesOf61 : Try.prog.bytesOf 61 = 144 := by kernel_rfl
section
variable {H : Type} {enc : TypeId × Value → H} {w : World} {fuel : Nat} {cs : List Value} {x : DataW H × List MemPlace}
theorem open_in (h : DataW.trod enc Try.prog w 0 (fun _ => true) true fuel 61 cs = some x) : IsI cs.toArray := by
  obtain ⟨xs, m, _, rfl, hlen, hxl, hall⟩ := DataW.trod_struct Try.underlying61 h; rw [cellsOf61] at hlen
  have hxl' : xs.length = 5 := hxl
  have at_ : ∀ i, i < 5 → xs[i]? = some (xs.getD i (.nil, [])) := fun i hi => by rw [List.getD_eq_getElem?_getD, List.getElem?_eq_getElem (by omega)]; rfl
  obtain ⟨l0, fo, e0, h0⟩ := open_ref ((hall 0 _ rfl).trans (at_ 0 (by omega))); obtain ⟨p, e1, _⟩ := open_num ((hall 1 _ rfl).trans (at_ 1 (by omega))); obtain ⟨l1, e2, h1⟩ := open_arr ((hall 2 _ rfl).trans (at_ 2 (by omega))); obtain ⟨l2, e3, h2⟩ := open_arr ((hall 3 _ rfl).trans (at_ 3 (by omega))); obtain ⟨l3, e4, h3⟩ := open_arr ((hall 4 _ rfl).trans (at_ 4 (by omega))); replace e0 := (show (cs.drop 0).take (Try.prog.cellsOf 24) = _ from e0); replace e1 := (show (cs.drop 33).take (Try.prog.cellsOf 3) = _ from e1); replace e2 := (show (cs.drop 34).take (Try.prog.cellsOf 22) = _ from e2)
  replace e3 := (show (cs.drop 66).take (Try.prog.cellsOf 22) = _ from e3); replace e4 := (show (cs.drop 98).take (Try.prog.cellsOf 22) = _ from e4); rw [cellsOf24] at e0; rw [cellsOf3] at e1; rw [cellsOf22] at e2 e3 e4; have d0 := cut_at cs 0 33 _ e0; rw [cut_at cs 33 1 _ e1, cut_at cs 34 32 _ e2, cut_at cs 66 32 _ e3, cut_at cs 98 32 _ e4, (show cs.drop (98 + 32) = [] from List.drop_eq_nil_of_le (by omega)), List.drop_zero] at d0; rw [d0]
  have := IsI.of fo p h0 h1 h2 h3
  simp only [List.cons_append, List.nil_append, List.append_assoc, List.append_nil] at this ⊢; exact this
theorem flat_split {Is : Nat → Array Value} : ∀ {n : Nat}, (∀ i, i < n → IsI (Is i)) → ∀ {j : Nat} {u : Value}, (flatI Is n)[j]? = some u → ∃ i k, i < n ∧ k < 130 ∧ j = i * 130 + k ∧ (Is i).toList[k]? = some u
  | 0, _, j, u, hu => by simp [flatI] at hu
  | n + 1, h, j, u, hu => by
    have hl := flatI_len (Is := Is) (n := n) (fun i hi => h i (by omega)); rw [flatI_succ] at hu
    by_cases e : j < n * 130
    · rw [List.getElem?_append_left (by omega)] at hu
      obtain ⟨i, k, h1, h2, h3, h4⟩ := flat_split (fun i hi => h i (by omega)) hu; exact ⟨i, k, by omega, h2, h3, h4⟩
    · rw [List.getElem?_append_right (by omega), hl] at hu
      have hk := (List.getElem?_eq_some_iff.1 hu).1; rw [Array.length_toList, (h n (by omega)).size] at hk; exact ⟨n, j - n * 130, by omega, hk, by omega, hu⟩
theorem open_ins {ao : Option Addr} {n c : Nat} (h : DataW.trod enc Try.prog w 0 (fun _ => true) true fuel 31 [.slice ao n c] = some x) (hs : ∀ m ∈ x.1.weights Try.prog 31, m ≤ reachBytes) :
    n * 144 ≤ 140737488355328 ∧ ∃ Is : Nat → Array Value, InsS w ao n c Is ∧ ∀ i, i < n → IsI (Is i) := by
  rcases Go.Deep.open_slice Try.underlying31 h with ⟨hcs, _⟩ | ⟨a, len, cap, m, k, D, Pl, hcs, _, hl, hm, hmm, rfl, hx⟩
  · simp at hcs
    obtain ⟨rfl, rfl, rfl⟩ := hcs; exact ⟨by omega, fun _ => #[], .inl ⟨rfl, rfl, rfl⟩, fun i hi => by omega⟩
  · simp at hcs
    obtain ⟨rfl, rfl, rfl⟩ := hcs
    have hm' : m = c := by simpa using hmm
    subst hm'; have hr := hs _ (by simp only [DataW.weights, Try.underlying31]; exact List.mem_cons_self ..); rw [bytesOf61] at hr; simp only [List.length_map, List.length_range, reachBytes] at hr
    have each : ∀ i, i < n → ∃ q : Array Value, IsI q ∧ ∀ j, j < 130 → w.cell? ((a.add (i * 130)).add j) = q.toList[j]? := fun i hi => by
      obtain ⟨cs', h1, h2⟩ := hx i (by omega); rw [cellsOf61] at h1; obtain ⟨_, hlen, hcell⟩ := World.cells?_some h1; exact ⟨cs'.toArray, open_in h2, fun j hj => by simpa using hcell j hj⟩
    obtain ⟨q, hq⟩ := Go.Deep.choose_lt each; refine ⟨by omega, q, .inr ⟨a, rfl, fun j u hu => ?_⟩, fun i hi => (hq i hi).1⟩; obtain ⟨i, k, h1, h2, rfl, h4⟩ := flat_split (fun i hi => (hq i hi).1) hu
    have := (hq i h1).2 k h2
    rw [Go.Deep.add_add, h4] at this; exact this
end
end Go.Proofs.Ytkhpbjafdamhaaa
