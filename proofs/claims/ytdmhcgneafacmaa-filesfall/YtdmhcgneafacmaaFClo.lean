/- The contract of a folder's clone over this seat's translation. -/
import Derived.Test.YtdmhcgneafacmaaFRng
namespace Go.Proofs.Ytdmhcgneafacmaa
open Go.RowKit
set_option linter.unusedVariables false
set_option linter.unusedSimpArgs false

theorem Below.kept' {w w' : World} (h : Below w.heap.size w w') : Kept Not w w' := Kept.ofBelow h
/-- the new folder's rows -/
def newR (B : Nat) (w : World) : Nat → Prop := fun g => B + 2 ≤ g ∧ g < w.heap.size
/-- the new folder, when M are still to come -/
structure Half (w wr : World) (b : Nat) (L M D : List Ent) : Prop where
  iter : Iter wr b (w.heap.size + 1) L M
  dir : Dir wr (newR w.heap.size wr) w.heap.size D
  low : Below w.heap.size w wr
  mem : ∀ x ∈ M, x ∈ L
  apart : M.Pairwise fun x y => x.1 ≠ y.1
  there : ∀ n, (∀ x ∈ M, x.1 ≠ n) → look D n = look L n
  not : ∀ x ∈ M, look D x.1 = none
  len : D.length + M.length = L.length
  sums : sum D + sum M = sum L
theorem look_mem {L : List Ent} (h : L.Pairwise fun x y => x.1 ≠ y.1) {x : Ent} (hx : x ∈ L) : look L x.1 = some x.2.2 := by
  induction L with
  | nil => simp at hx
  | cons y r ih =>
    obtain ⟨h1, h2⟩ := List.pairwise_cons.1 h
    rw [show y = (y.1, y.2.1, y.2.2) from rfl, look_one]
    rcases List.mem_cons.1 hx with rfl | hx
    · simp [beq_same]
    · rw [beq_ne (Ne.symm (h1 x hx))]
      simpa using ih h2 hx
theorem sum_mem {L : List Ent} {x : Ent} (hx : x ∈ L) : x.2.2.length ≤ sum L := by
  obtain ⟨A, B, rfl⟩ := List.append_of_mem hx
  rw [sum_split, sum_cons]
  omega
theorem Dir.names {w : World} {R : Nat → Prop} {b : Nat} {L : List Ent} (h : Dir w R b L) : L.Pairwise fun x y => x.1 ≠ y.1 := h.apart.imp fun h => h.1

/-- one file more in the new folder -/
theorem Half.step {w wr w1 w2 : World} {R : Nat → Prop} {b : Nat} {L M M' D : List Ent} {x : Ent} {v : Value} (hD : Dir w R b L) (h : Half w wr b L M D) (hp : M.Perm (x :: M')) (hI : Iter w1 b (w.heap.size + 1) L M') (hg : wr.grownBy w1 (some (w.heap.size + 1))) (hz : w1.heap.size = wr.heap.size) (hn : NewRow w1 w2 v x.2.2) :
    ∃ w3 D', (Instr.mapUpdate 56 (.map (some w.heap.size)) (.string x.1) v).run Try.prog w2 = .ok () w3 ∧ Half w w3 b L M' D' ∧ left w3 b (w.heap.size + 1) < left wr b (w.heap.size + 1) := by
  obtain ⟨hr, hb, hv⟩ := hn
  have hblt := hD.lt
  have hds := h.dir.lt
  have hil := hI.lt
  have d1 : Dir w1 (newR w.heap.size w1) w.heap.size D := by
    have := h.dir.kept (Kept.ofGrown hg) (by simp) (fun g hg e => by simp at e; have := hg.1; omega)
    unfold newR at this ⊢
    rw [hz]
    exact this
  have d2 := d1.new (Kept.ofBelow hb)
  have xm : x ∈ M := hp.mem_iff.2 (List.mem_cons_self ..)
  obtain ⟨w3, D', hrun, hd3, hg3, hz3, h1, h2, h3⟩ := Dir.update (s := x.1) (R' := newR w.heap.size w2) d2 rfl (fun y hy _ => d2.rows y hy) hr (fun y hy _ => by
    cases hy' : y.2.1.ownBlock
    · exact .inl rfl
    · refine .inr fun e => ?_
      have := (d1.rows y hy).lt hy'
      have := hv _ e.symm
      omega) (fun g hg => ⟨hg.1, Nat.lt_of_lt_of_le hg.2 hb.size⟩) (fun g hg => ⟨by have := hv g hg; omega, hr.lt hg⟩) (fun e => by have := e.1; omega)
  have hxL := h.mem x xm
  have hno := h.not x xm
  have hap := (hp.pairwise_iff (fun {_ _} hne => Ne.symm hne)).1 h.apart
  obtain ⟨a1, a2⟩ := List.pairwise_cons.1 hap
  rw [hno] at h2 h3
  have hI3 : Iter w3 b (w.heap.size + 1) L M' := (hI.kept (Kept.ofBelow hb) (fun h => h) (fun h => h)).kept (Kept.ofGrown hg3) (by simp; omega) (by simp)
  refine ⟨w3, D', hrun, ⟨hI3, ?_, ?_, fun y hy => h.mem y (hp.mem_iff.2 (List.mem_cons_of_mem _ hy)), a2, ?_, ?_, ?_, ?_⟩, ?_⟩
  · unfold newR at hd3 ⊢
    rw [hz3]
    exact hd3
  · have b1 := h.low.grown hg h.low.size (fun j hj => by cases hj; omega)
    have b2 := b1.trans (hb.mono b1.size)
    exact b2.grown hg3 b2.size (fun j hj => by cases hj; exact Nat.le_refl _)
  · intro n hn
    rw [h1]
    unfold upd
    by_cases e : n = x.1
    · subst e
      rw [beq_same, if_pos rfl, look_mem hD.names hxL]
    · rw [beq_ne e]
      simp only [Bool.false_eq_true, if_false]
      exact h.there n (fun y hy => by
        rcases List.mem_cons.1 (hp.mem_iff.1 hy) with rfl | hy
        · exact fun h => e h.symm
        · exact hn y hy)
  · intro y hy
    rw [h1]
    unfold upd
    rw [beq_ne (Ne.symm (a1 y hy))]
    simp only [Bool.false_eq_true, if_false]
    exact h.not y (hp.mem_iff.2 (List.mem_cons_of_mem _ hy))
  · have := h.len
    rw [hp.length_eq, List.length_cons] at this
    rw [h2]
    simp only [plus]
    omega
  · have := h.sums
    rw [sum_perm hp, sum_cons] at this
    simp at h3
    omega
  · rw [hI3.left, h.iter.left, hp.length_eq]
    exact Nat.lt_succ_self _

/-- a folder of the same files -/
structure Copy (w w' : World) (b' : Nat) (L L' : List Ent) : Prop where
  dir : Dir w' (newR w.heap.size w') w.heap.size L'
  low : Below w.heap.size w w'
  is : b' = w.heap.size
  look : look L' = look L
  len : L'.length = L.length
  sums : sum L' = sum L

set_option maxHeartbeats 1000000 in
theorem copy_any (R : Nat → Prop) (b : Nat) (L : List Ent) (w : World) (h : Dir w R b L) (hl : sum L ≤ 140737488355328) :
    Calls Try.prog 26 #[.map (some b)] w fun e w' => e = .returned (.map (some w.heap.size)) ∧ ∃ L', Hid (Copy w w' w.heap.size L L') := by
  have H := hide h
  have hmm := @run_makeMap Try.prog
  have ha : Kept Not w (w.alloc (.map #[] 0)) := Kept.alloc _ _
  obtain ⟨o, hrun, hI⟩ := (h.new ha).range
  have e0 : (w.alloc (.map #[] 0)).heap.size = w.heap.size + 1 := by simp
  rw [e0] at hrun hI
  have HH : Half w ((w.alloc (.map #[] 0)).alloc o) b L L [] := ⟨hI, ⟨⟨#[], 0, ((MapKept.heap_alloc _ _).2 _ (by simp)).trans (MapKept.heap_alloc w _).1, rfl, by simp, by simp⟩, by simp, by simp, List.Pairwise.nil, fun e => by have := e.1; omega⟩,
    ((Below.refl w.heap.size w).alloc (Nat.le_refl _) _).alloc (by simp) _, fun _ h => h, h.names, fun n hn => (look_miss hn).symm, fun x hx => rfl, by simp, by simp [sum]⟩
  have HHH := hide HH
  clear h hI HH ha
  go_enter Try.func26, Try.ntmps26
  go_wp2_with (at_range; refine wl_range rfl rfl rfl hrun ?_)
  go_frame
  clear hrun hmm
  go_loopw [4] (fun _ wr => ∃ M D, Hid (Half w wr b L M D)) (fun _ wr => left wr b (w.heap.size + 1))
  case atStart => exact ⟨L, [], HHH⟩
  case round =>
    obtain ⟨M, D, HD⟩ := hrel
    rcases HD.out.iter.next 0 with ⟨rfl, hrun⟩ | ⟨x, M', w1, hp, hrun, hI', hg, hz, hen⟩
    · go_wp2_with (at_next; refine wl_next rfl rfl rfl hrun ?_)
      go_ret
      have hd := HD.out
      exact ⟨rfl, D, hide ⟨hd.dir, hd.low, rfl, funext fun n => hd.there n (by simp), by have := hd.len; simpa using this, by have := hd.sums; simpa [sum] using this⟩⟩
    · have hxM : x ∈ M := hp.mem_iff.2 (List.mem_cons_self ..)
      have hxL := HD.out.mem x hxM
      obtain ⟨ao, cap, hv, hB, hc1, hc2⟩ := (H.out.rows x hxL).isB
      have hB1 : IsB w1 ao cap x.2.2 := hB.below (HD.out.low.grown hg HD.out.low.size (fun j hj => by cases hj; omega))
      have HC := hide (clone_any ao cap x.2.2 w1 hB1 (Nat.le_trans (sum_mem hxL) hl))
      have HS := hide (fun (w2 : World) (v : Value) (hn : NewRow w1 w2 v x.2.2) => HD.out.step H.out hp hI' hg hz hn)
      rw [hv] at hrun hen
      generalize x.2.2.length = n at *
      generalize x.1 = s at *
      clear hp hI' hg hz hxM hv hxL hB hB1 HD
      go_wp2_with (at_next; refine wl_next rfl rfl rfl hrun ?_)
      refine HC.out.mono ?_
      rintro e w2 ⟨v, rfl, hn⟩
      obtain ⟨w3, D', hrun3, h3, h4⟩ := HS.out w2 v hn.out
      have H3 := hide h3
      have H4 := hide h4
      clear h3 h4 HS hn HC hrun hen
      go_wp2_with (at_mapUpdate; refine wl_update rfl rfl rfl rfl rfl hrun3 ?_; go_frame)
      go_roundw
      case rel => exact ⟨M', D', H3⟩
      case measure => exact H4.out
end Go.Proofs.Ytdmhcgneafacmaa
