/- A search, as numbers: what holds behind each step. -/
import Derived.Test.YtgnkcmmpbohafaaGWkb
namespace Go.Proofs.Ytgnkcmmpbohafaa
open Go.RowKit
set_option linter.unusedVariables false
set_option linter.unusedSimpArgs false
def lenV : Value → Nat
  | .slice _ n _ => n
  | _ => 0
structure Pk (L : List EV) (v : WV) (FB : Option YV) (TOT s : Nat) (B : Option YV) (ss : List SF) : Prop where
  fb : bst v B (rem L v (toSt ss)) = FB
  st : s + lft L v (toSt ss) = TOT
  nd : (gon (toSt ss)).Nodup
  bd : ∀ x ∈ gon (toSt ss), 0 ≤ x ∧ x < 8
  nt : ¬ v.to ∈ gon (toSt ss)
  mem : ∀ f ∈ ss, ∀ x ∈ f.l, x ∈ L
  prs : ∀ x ∈ (wayF ss).drop 1, x ∈ L
section
variable {L : List EV} {v : WV} {FB : Option YV} {TOT s : Nat} {B : Option YV} {r : List SF} {d e : EV} {l : List EV} {a a' a2 : Option Addr} {c c' c2 : Nat}
theorem Pk.len {ss : List SF} (h : Pk L v FB TOT s B ss) (ht : 0 ≤ v.to ∧ v.to < 8) : ss.length ≤ 7 := by
  have h1 := few 8 (v.to :: gon (toSt ss)) (List.nodup_cons.2 ⟨h.nt, h.nd⟩) (fun x hx => by
    rcases List.mem_cons.1 hx with q | q
    · subst q; exact ht
    · exact h.bd x q)
  rw [List.length_cons, gon_st, List.length_map] at h1
  omega
theorem Pk.same {ss : List SF} (h : Pk L v FB TOT s B (⟨d, e :: l, a, c⟩ :: r)) (s' : Nat) (B' : Option YV) (h1 : bst v B' (rem L v (toSt (⟨d, l, a', c'⟩ :: r))) = FB) (h2 : s' + lft L v (toSt (⟨d, l, a', c'⟩ :: r)) = TOT) : Pk L v FB TOT s' B' (⟨d, l, a', c'⟩ :: r) :=
  ⟨h1, h2, h.nd, h.bd, h.nt, fun f hf x hx => by
    rcases List.mem_cons.1 hf with q | q
    · subst q
      exact h.mem ⟨d, e :: l, a, c⟩ (by simp) x (by simp at hx ⊢; exact .inr hx)
    · exact h.mem f (by simp [q]) x hx, fun x hx => h.prs x (by rw [wayF_cons] at hx ⊢; exact hx)⟩
theorem Pk.skp (h : Pk L v FB TOT s B (⟨d, e :: l, a, c⟩ :: r)) (hr : r.length ≤ 8) (hk : skip v (gon (toSt (⟨d, e :: l, a, c⟩ :: r))) e = true) : Pk L v FB TOT (s + 1) B (⟨d, l, a', c'⟩ :: r) := by
  have hl : (toSt r).length ≤ 8 := by simpa [toSt] using hr
  have h1 := rem_skip (L := L) (d := d) (l := l) (r := toSt r) hl hk
  have h2 := lft_skip (L := L) (d := d) (l := l) (r := toSt r) hl hk
  refine h.same (ss := []) (s + 1) B ?_ ?_
  · rw [← h.fb]
    exact congrArg (bst v B) h1.symm
  · have := h.st
    have h3 : lft L v (toSt (⟨d, e :: l, a, c⟩ :: r)) = 1 + lft L v (toSt (⟨d, l, a', c'⟩ :: r)) := h2
    omega
theorem Pk.there (h : Pk L v FB TOT s B (⟨d, e :: l, a, c⟩ :: r)) (hr : r.length ≤ 8) (hk : skip v (gon (toSt (⟨d, e :: l, a, c⟩ :: r))) e = false) (ht : e.to = v.to) : Pk L v FB TOT (s + 1) (seeN v B ((wayF (⟨d, e :: l, a, c⟩ :: r)).drop 1 ++ [e])) (⟨d, l, a', c'⟩ :: r) := by
  have hl : (toSt r).length ≤ 8 := by simpa [toSt] using hr
  have h1 := rem_there (L := L) (d := d) (l := l) (r := toSt r) hl hk ht
  have h2 := lft_there (L := L) (d := d) (l := l) (r := toSt r) hl hk ht
  refine h.same (ss := []) (s + 1) _ ?_ ?_
  · rw [← h.fb]
    have h3 : rem L v (toSt (⟨d, e :: l, a, c⟩ :: r)) = (pre (toSt (⟨d, e :: l, a, c⟩ :: r)) ++ [e]) :: rem L v (toSt (⟨d, l, a', c'⟩ :: r)) := h1
    rw [h3, pre_way]
    rfl
  · have := h.st
    have h3 : lft L v (toSt (⟨d, e :: l, a, c⟩ :: r)) = 1 + lft L v (toSt (⟨d, l, a', c'⟩ :: r)) := h2
    omega
theorem Pk.push (h : Pk L v FB TOT s B (⟨d, e :: l, a, c⟩ :: r)) (hr : r.length ≤ 8) (hk : skip v (gon (toSt (⟨d, e :: l, a, c⟩ :: r))) e = false) (ht : ¬ e.to = v.to) (he : 0 ≤ e.to ∧ e.to < 8) : Pk L v FB TOT (s + 1) B (⟨e, nxt L e.to, a2, c2⟩ :: ⟨d, l, a', c'⟩ :: r) := by
  have hl : (toSt r).length ≤ 8 := by simpa [toSt] using hr
  have h1 := rem_push (L := L) (d := d) (l := l) (r := toSt r) hl hk ht
  have h2 := lft_push (L := L) (d := d) (l := l) (r := toSt r) hl hk ht
  have hg : gon (toSt (⟨e, nxt L e.to, a2, c2⟩ :: ⟨d, l, a', c'⟩ :: r)) = e.to :: gon (toSt (⟨d, e :: l, a, c⟩ :: r)) := rfl
  have hm := h.mem
  have hel : e ∈ L := hm ⟨d, e :: l, a, c⟩ (by simp) e (by simp)
  refine ⟨?_, ?_, ?_, ?_, ?_, ?_, ?_⟩
  · rw [← h.fb]
    exact congrArg (bst v B) h1.symm
  · have := h.st
    have h3 : lft L v (toSt (⟨d, e :: l, a, c⟩ :: r)) = 1 + lft L v (toSt (⟨e, nxt L e.to, a2, c2⟩ :: ⟨d, l, a', c'⟩ :: r)) := h2
    omega
  · rw [hg]
    refine List.nodup_cons.2 ⟨fun q => ?_, h.nd⟩
    unfold skip at hk
    rw [decide_eq_true q] at hk
    simp at hk
  · rw [hg]
    intro x hx
    rcases List.mem_cons.1 hx with q | q
    · subst q; exact he
    · exact h.bd x q
  · rw [hg]
    intro hx
    rcases List.mem_cons.1 hx with q | q
    · exact ht q.symm
    · exact h.nt q
  · intro f hf x hx
    rcases List.mem_cons.1 hf with q | q
    · subst q
      exact (List.mem_filter.1 hx).1
    · rcases List.mem_cons.1 q with q | q
      · subst q
        exact hm ⟨d, e :: l, a, c⟩ (by simp) x (by simp at hx ⊢; exact .inr hx)
      · exact hm f (by simp [q]) x hx
  · intro x hx
    rw [wayF_cons] at hx
    have hw : wayF (⟨d, l, a', c'⟩ :: r) = wayF (⟨d, e :: l, a, c⟩ :: r) := rfl
    rw [hw] at hx
    have hlen : 1 ≤ (wayF (⟨d, e :: l, a, c⟩ :: r)).length := by rw [wayF_len]; simp
    rw [List.drop_append_of_le_length hlen] at hx
    rcases List.mem_append.1 hx with q | q
    · exact h.prs x q
    · have : x = e := by simpa using q
      subst this
      exact hel
theorem Pk.pop (h : Pk L v FB TOT s B (⟨d, [], a, c⟩ :: r)) : Pk L v FB TOT s B r := by
  have hg : gon (toSt (⟨d, [], a, c⟩ :: r)) = d.to :: gon (toSt r) := rfl
  refine ⟨?_, ?_, ?_, fun x hx => h.bd x (by rw [hg]; simp [hx]), fun hx => h.nt (by rw [hg]; simp [hx]), fun f hf x hx => h.mem f (by simp [hf]) x hx, fun x hx => h.prs x ?_⟩
  · rw [← h.fb]
    exact congrArg (bst v B) (rem_pop (L := L) (w := v) d (toSt r)).symm
  · rw [← h.st]
    exact congrArg (s + ·) (lft_pop (L := L) (w := v) d (toSt r)).symm
  · have := h.nd
    rw [hg] at this
    exact (List.nodup_cons.1 this).2
  · rw [wayF_cons]
    by_cases hn : (wayF r).length = 0
    · rw [List.eq_nil_of_length_eq_zero hn] at hx
      simp at hx
    · rw [List.drop_append_of_le_length (by omega)]
      exact List.mem_append.2 (.inl hx)
theorem Pk.gone (h : Pk L v FB TOT s B (⟨d, l, a, c⟩ :: r)) : ¬ d.to ∈ gon (toSt r) ∧ 0 ≤ d.to ∧ d.to < 8 := by
  have hg : gon (toSt (⟨d, l, a, c⟩ :: r)) = d.to :: gon (toSt r) := rfl
  have h1 := h.nd
  rw [hg] at h1
  exact ⟨(List.nodup_cons.1 h1).1, h.bd d.to (by rw [hg]; simp)⟩
theorem Pk.brk {ss : List SF} (h : Pk L v FB TOT s B ss) (hs : B.isSome = true) : FB.isSome = true ∧ s ≤ TOT := by
  refine ⟨?_, by have := h.st; omega⟩
  rw [← h.fb]
  exact bst_some hs
theorem Pk.one (h : Pk L v FB TOT s B (⟨d, e :: l, a, c⟩ :: r)) (hr : r.length ≤ 8) : s + 1 ≤ TOT := by
  have hl : (toSt r).length ≤ 8 := by simpa [toSt] using hr
  have h0 := h.st
  by_cases hk : skip v (gon (toSt (⟨d, e :: l, a, c⟩ :: r))) e = true
  · have h3 : lft L v (toSt (⟨d, e :: l, a, c⟩ :: r)) = 1 + lft L v (toSt (⟨d, l, a, c⟩ :: r)) := lft_skip (L := L) (d := d) (l := l) (r := toSt r) hl hk
    omega
  · replace hk := Bool.eq_false_iff.2 hk
    by_cases ht : e.to = v.to
    · have h3 : lft L v (toSt (⟨d, e :: l, a, c⟩ :: r)) = 1 + lft L v (toSt (⟨d, l, a, c⟩ :: r)) := lft_there (L := L) (d := d) (l := l) (r := toSt r) hl hk ht
      omega
    · have h3 : lft L v (toSt (⟨d, e :: l, a, c⟩ :: r)) = 1 + lft L v (toSt (⟨e, nxt L e.to, a, c⟩ :: ⟨d, l, a, c⟩ :: r)) := lft_push (L := L) (d := d) (l := l) (r := toSt r) hl hk ht
      omega
theorem Pk.done (h : Pk L v FB TOT s B []) : B = FB ∧ s = TOT := ⟨h.fb, h.st⟩
theorem Pk.begin (hf : 0 ≤ v.fr ∧ v.fr < 8) (hft : ¬ v.fr = v.to) : Pk L v (bst v none (rem L v [(E0 v, nxt L v.fr)])) (lft L v [(E0 v, nxt L v.fr)]) 0 none [⟨E0 v, nxt L v.fr, a, c⟩] := by
  refine ⟨rfl, Nat.zero_add _, ?_, ?_, ?_, ?_, ?_⟩
  · show [v.fr].Nodup
    simp
  · intro x hx
    have : x ∈ [v.fr] := hx
    have : x = v.fr := by simpa using this
    subst this
    exact hf
  · intro hx
    have : v.to ∈ [v.fr] := hx
    have : v.to = v.fr := by simpa using this
    exact hft this.symm
  · intro f hf' x hx
    have : f = ⟨E0 v, nxt L v.fr, a, c⟩ := by simpa using hf'
    subst this
    exact (List.mem_filter.1 hx).1
  · intro x hx
    simp [wayF] at hx
end
def Mk : Nat → Nat
  | 0 => 0
  | k + 1 => 1 + 64 * Mk k
theorem sumL_le {α : Type} (f : α → Nat) (m : Nat) : ∀ l : List α, (∀ x ∈ l, f x ≤ m) → (l.map f).sum ≤ l.length * m
  | [], _ => by simp
  | a :: l, h => by
    have h1 := sumL_le f m l (fun x hx => h x (by simp [hx]))
    have h2 := h a (by simp)
    rw [List.map_cons, List.sum_cons, List.length_cons, Nat.add_mul]
    omega
theorem stp_le {L : List EV} {v : WV} (hL : ∀ x, (nxt L x).length ≤ 64) : ∀ (k : Nat) (gone : List Int) (l : List EV), stp L v k gone l ≤ l.length * Mk k
  | 0, _, _ => by simp [stp]
  | k + 1, gone, l => by
    unfold stp
    refine sumL_le _ _ l fun e _ => ?_
    unfold Mk
    have h1 := stp_le (v := v) hL k (e.to :: gone) (nxt L e.to)
    have h2 := Nat.mul_le_mul_right (Mk k) (hL e.to)
    split
    · omega
    · split <;> omega
theorem tot_le {L : List EV} {v : WV} (hL : L.length ≤ 64) : lft L v [(E0 v, nxt L v.fr)] ≤ 100000000000000000 := by
  have hx : ∀ x, (nxt L x).length ≤ 64 := fun x => Nat.le_trans (List.length_filter_le _ _) hL
  have h1 := stp_le (v := v) hx 9 (gon [(E0 v, nxt L v.fr)]) (nxt L v.fr)
  have h2 := Nat.mul_le_mul_right (Mk 9) (hx v.fr)
  have h3 : 64 * Mk 9 ≤ 100000000000000000 := by decide
  show stp L v 9 _ _ + 0 ≤ _
  omega
/-- all that a search has -/
structure Wk (w W : World) (b3 b4 b7 b6 b9 bw N7 base r nw cw : Nat) (v : WV) (ao : Option Addr) (L : List EV) (A : Nat → Option Addr) (K : Nat → Nat) (S : List Int) (FB : Option YV) (TOT s : Nat) (fd : Bool) (B : Option YV) (ss : List SF) (x : Value) : Prop where
  E : Kept (· = b6) w W
  sz : base ≤ W.heap.size
  hI : Sta W b3 b4 b7 b6 bw N7 base r nw cw v ao L A K S B
  hS : SSs W N7 ss
  k9 : W.heap[b9]? = some (.cells (goA (gon (toSt ss))).toArray 117)
  wy : Wy W bw (wayF ss)
  ow : W.ownsRow w.heap.size 33 1 x ss.length (xsF ss)
  fd : fd = B.isSome
  pk : Pk L v FB TOT s B ss
theorem Wk.keep {w W W' : World} {b3 b4 b7 b6 b9 bw N7 base r nw cw : Nat} {v : WV} {ao : Option Addr} {L : List EV} {A : Nat → Option Addr} {K : Nat → Nat} {S : List Int} {FB : Option YV} {TOT s : Nat} {fd : Bool} {B : Option YV} {ss : List SF} {x : Value} (h : Wk w W b3 b4 b7 b6 b9 bw N7 base r nw cw v ao L A K S FB TOT s fd B ss x) (hB : Below W.heap.size W W') : Wk w W' b3 b4 b7 b6 b9 bw N7 base r nw cw v ao L A K S FB TOT s fd B ss x :=
  ⟨h.E.next hB, Nat.le_trans h.sz hB.size, h.hI.keep hB, h.hS.keep hB, Proofs.Ytgnkcmmpbohafaa.keep hB h.k9, h.wy.keep hB, own_keep h.ow hB, h.fd, h.pk⟩
end Go.Proofs.Ytgnkcmmpbohafaa
