/- How many files there are behind acts. -/
import Derived.Test.YtdmhcgneafacmaaFSure
namespace Go.Proofs.Ytdmhcgneafacmaa
set_option linter.unusedVariables false
set_option linter.unusedSimpArgs false

theorem sub_len {α : Type} : ∀ {A B : List α}, A.Nodup → (∀ x ∈ A, x ∈ B) → A.length ≤ B.length
  | [], _, _, _ => by simp
  | a :: r, B, hn, hs => by
    obtain ⟨h1, h2⟩ := List.nodup_cons.1 hn
    obtain ⟨B1, B2, rfl⟩ := List.append_of_mem (hs a (by simp))
    have := sub_len (A := r) (B := B1 ++ B2) h2 (fun x hx => by
      have hm := hs x (List.mem_cons_of_mem _ hx)
      rcases List.mem_append.1 hm with hm | hm
      · exact List.mem_append.2 (.inl hm)
      rcases List.mem_cons.1 hm with rfl | hm
      · exact absurd hx h1
      · exact List.mem_append.2 (.inr hm))
    simp at this ⊢
    omega
/-- the name at which an act may make a file -/
def tgt (A : AM) : ByteArray := match A.kind with | 3 => A.to | _ => A.name
theorem upd_at {f : ByteArray → Option (List Int)} {s n : ByteArray} {x : Option (List Int)} (h : upd f s x n ≠ none) : f n ≠ none ∨ n = s := by
  unfold upd at h
  split at h
  · rename_i e
    exact .inr (beq_eq e)
  · exact .inl h
theorem upd_gone {f : ByteArray → Option (List Int)} {s n : ByteArray} (h : upd f s none n ≠ none) : f n ≠ none := by
  unfold upd at h
  split at h
  · exact absurd rfl h
  · exact h
theorem doF_at {g : ByteArray → Option (List Int)} {A : AM} {n : ByteArray} (h : doF g A n ≠ none) : g n ≠ none ∨ n = tgt A := by
  obtain ⟨kind, name, to, bytes, m⟩ := A
  match kind, h with
  | 0, h => exact .inl (upd_gone h)
  | 1, h => exact upd_at h
  | 2, h => exact upd_at h
  | 3, h =>
    rcases upd_at h with h1 | h1
    · exact .inl (upd_gone h1)
    · exact .inr h1
  | k + 4, h => exact .inl (upd_gone h)
theorem fold_at : ∀ (l : List AM) (g : ByteArray → Option (List Int)) (n : ByteArray), (l.foldl doF g) n ≠ none → g n ≠ none ∨ n ∈ l.map tgt
  | [], _, _, h => .inl h
  | A :: l, g, n, h => by
    rcases fold_at l (doF g A) n h with h1 | h1
    · rcases doF_at h1 with h2 | h2
      · exact .inl h2
      · exact .inr (by rw [h2]; simp)
    · exact .inr (by simp only [List.map_cons]; exact List.mem_cons_of_mem _ h1)
theorem look_some {L : List Ent} {n : ByteArray} (h : look L n ≠ none) : n ∈ L.map (·.1) := by
  unfold look at h
  cases e : L.find? (fun x => x.1 == n) with
  | none =>
    rw [e] at h
    exact absurd rfl h
  | some x =>
    have h1 := List.find?_some e
    have h2 := List.mem_of_find?_eq_some e
    exact List.mem_map.2 ⟨x, h2, beq_eq h1⟩
theorem len_fold {w w' : World} {R R' : Nat → Prop} {b b' : Nat} {L L' : List Ent} (h : Dir w R b L) (h' : Dir w' R' b' L') (l : List AM) (e : look L' = l.foldl doF (look L)) : L'.length ≤ L.length + l.length := by
  have hn : (L'.map (·.1)).Nodup := by
    have := h'.names
    unfold List.Nodup
    rw [List.pairwise_map]
    exact this
  have := sub_len (A := L'.map (·.1)) (B := L.map (·.1) ++ l.map tgt) hn (fun n hn => by
    obtain ⟨x, hx, rfl⟩ := List.mem_map.1 hn
    have hl : look L' x.1 ≠ none := by rw [look_mem h'.names hx]; simp
    rw [e] at hl
    rcases fold_at l _ _ hl with h1 | h1
    · exact List.mem_append.2 (.inl (look_some h1))
    · exact List.mem_append.2 (.inr h1))
  simpa using this
theorem plus_le (o : Option (List Int)) : plus o ≤ 1 := by cases o <;> simp [plus]
end Go.Proofs.Ytdmhcgneafacmaa
