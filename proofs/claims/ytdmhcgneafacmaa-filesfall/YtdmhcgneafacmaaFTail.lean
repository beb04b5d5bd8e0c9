/- What a disk of the law's tells ahead of a crash and behind it. -/
import Derived.Test.YtdmhcgneafacmaaFFly
namespace Go.Proofs.Ytdmhcgneafacmaa
open Go.RowKit
set_option linter.unusedVariables false
set_option linter.unusedSimpArgs false
set_option maxRecDepth 100000

/-! ### one list for all files by rising names -/
abbrev Key := ByteArray × List Int
def ltK (a b : Key) : Prop := Lib.compareBytes a.1.data.toList b.1.data.toList < 0
theorem ltK_irrefl (a : Key) : ¬ ltK a a := by
  unfold ltK
  rw [cb_refl]
  decide
theorem same_list : ∀ {A B : List Key}, A.Pairwise ltK → B.Pairwise ltK → (∀ x, x ∈ A ↔ x ∈ B) → A = B
  | [], [], _, _, _ => rfl
  | [], b :: t, _, _, h => absurd ((h b).2 (by simp)) (by simp)
  | a :: r, [], _, _, h => absurd ((h a).1 (by simp)) (by simp)
  | a :: r, b :: t, h1, h2, h => by
    obtain ⟨p1, p2⟩ := List.pairwise_cons.1 h1
    obtain ⟨q1, q2⟩ := List.pairwise_cons.1 h2
    have hab : a = b := by
      rcases List.mem_cons.1 ((h a).1 (by simp)) with e | e
      · exact e
      · rcases List.mem_cons.1 ((h b).2 (by simp)) with e2 | e2
        · exact e2.symm
        · exact absurd (cb_trans (p1 b e2) (q1 a e)) (ltK_irrefl a)
    subst hab
    rw [same_list p2 q2 (fun x => ⟨fun hx => by
      rcases List.mem_cons.1 ((h x).1 (List.mem_cons_of_mem _ hx)) with e | e
      · subst e
        exact absurd (p1 x hx) (ltK_irrefl x)
      · exact e, fun hx => by
      rcases List.mem_cons.1 ((h x).2 (List.mem_cons_of_mem _ hx)) with e | e
      · subst e
        exact absurd (q1 x hx) (ltK_irrefl x)
      · exact e⟩)]
theorem mem_keys {N : List Ent} (hN : N.Pairwise fun x y => x.1 ≠ y.1) (s : ByteArray) (zs : List Int) : (s, zs) ∈ N.map ekey ↔ look N s = some zs := by
  constructor
  · intro h
    obtain ⟨x, hx, e⟩ := List.mem_map.1 h
    unfold ekey at e
    simp only [Prod.mk.injEq] at e
    obtain ⟨rfl, rfl⟩ := e
    exact look_mem hN hx
  · intro h
    unfold look at h
    cases e : N.find? (fun x => x.1 == s) with
    | none =>
      rw [e] at h
      cases h
    | some x =>
      rw [e] at h
      simp at h
      have h1 := List.find?_some e
      exact List.mem_map.2 ⟨x, List.mem_of_find?_eq_some e, by unfold ekey; rw [beq_eq h1, h]⟩
theorem keys_up {D : List Fl} {N : List Ent} (p : (D.map fkey).Perm (N.map ekey)) (u : Up D) (hN : N.Pairwise fun x y => x.1 ≠ y.1) : (D.map fkey).Pairwise ltK := by
  have h1 : (N.map ekey).Pairwise fun a b => a.1 ≠ b.1 := by
    rw [List.pairwise_map]
    exact hN
  have h2 : (D.map fkey).Pairwise fun a b => a.1 ≠ b.1 := (p.pairwise_iff (fun {_ _} hne => Ne.symm hne)).2 h1
  rw [List.pairwise_map] at h2 ⊢
  unfold Up at u
  rw [List.pairwise_iff_getElem] at h2 u ⊢
  intro i j hi hj hij
  have a1 := h2 i j hi hj hij
  have a2 := u i j hi hj hij
  by_cases h : ltK (fkey D[i]) (fkey D[j])
  · exact h
  · refine absurd ?_ a1
    have := cb_anti h a2
    have e2 : (fkey D[i]).1.data = (fkey D[j]).1.data := by
      have e3 := congrArg List.toArray this
      simpa using e3
    exact congrArg ByteArray.mk e2
theorem keys_eq {D1 D2 : List Fl} {N1 N2 : List Ent} (p1 : (D1.map fkey).Perm (N1.map ekey)) (p2 : (D2.map fkey).Perm (N2.map ekey)) (u1 : Up D1) (u2 : Up D2) (h1 : N1.Pairwise fun x y => x.1 ≠ y.1) (h2 : N2.Pairwise fun x y => x.1 ≠ y.1) (hl : look N1 = look N2) : D1.map fkey = D2.map fkey :=
  same_list (keys_up p1 u1 h1) (keys_up p2 u2 h2) (fun x => by
    rw [p1.mem_iff, p2.mem_iff, show x = (x.1, x.2) from rfl, mem_keys h1, mem_keys h2, hl])

/-- two rows of files that tell the same -/
def Twin (w : World) (g1 g2 n : Nat) : Prop := ∀ i, i < n → ∃ s ao1 c1 ao2 c2 len z, w.cell? ⟨g1, i * 2, none⟩ = some (.string s) ∧ w.cell? ⟨g1, i * 2 + 1, none⟩ = some (.slice ao1 len c1) ∧ w.cell? ⟨g2, i * 2, none⟩ = some (.string s) ∧ w.cell? ⟨g2, i * 2 + 1, none⟩ = some (.slice ao2 len c2) ∧
  (∀ q, (convert 31 9 (.slice ao1 len c1)).run Try.prog (w.drewN q) = .ok (.string z) (w.drewN q)) ∧ (∀ q, (convert 31 9 (.slice ao2 len c2)).run Try.prog (w.drewN q) = .ok (.string z) (w.drewN q))
theorem FR.at {R : Nat → Prop} {W : World} {g cap : Nat} {D : List Fl} (h : FR R W (.slice (some ⟨g, 0, none⟩) D.length cap) D) {i : Nat} (hi : i < D.length) :
    W.cell? ⟨g, i * 2, none⟩ = some (.string D[i].1) ∧ W.cell? ⟨g, i * 2 + 1, none⟩ = some (sv D[i]) ∧ ∀ q, (convert 31 9 (sv D[i])).run Try.prog (W.drewN q) = .ok (.string (strOfNums D[i].2.2.2)) (W.drewN q) := by
  have hh := h.holds
  have hs : i < D.toArray.size := by simpa using hi
  have e0 : D.toArray[i]! = D[i] := by rw [getElem!_pos _ i hs]; simp
  have c0 := (Go.Sort.HoldsK.cell hh hs (c := 0) (by decide)).1
  have c1 := (Go.Sort.HoldsK.cell hh hs (c := 1) (by decide)).1
  rw [e0] at c0 c1
  simp only [Nat.zero_add, Nat.add_zero] at c0 c1
  refine ⟨c0, c1, fun q => ?_⟩
  have hr := h.rows D[i] (List.getElem_mem hi)
  obtain ⟨ao, cp, e, hB, _⟩ := hr.isB
  unfold sv at e ⊢
  simp only [Value.slice.injEq] at e
  obtain ⟨e1, _, e2⟩ := e
  rw [e1, e2]
  exact conv_any (w := W.drewN q) hB
theorem FR.twin {R R' : Nat → Prop} {W : World} {g1 g2 cap1 cap2 : Nat} {D1 D2 : List Fl} (h1 : FR R W (.slice (some ⟨g1, 0, none⟩) D1.length cap1) D1) (h2 : FR R' W (.slice (some ⟨g2, 0, none⟩) D2.length cap2) D2) (e : D1.map fkey = D2.map fkey) : Twin W g1 g2 D1.length := by
  have hl : D1.length = D2.length := by
    have := congrArg List.length e
    simpa using this
  intro i hi
  have hi2 : i < D2.length := by omega
  obtain ⟨a1, a2, a3⟩ := h1.at hi
  obtain ⟨b1, b2, b3⟩ := h2.at hi2
  have ek : fkey D1[i] = fkey D2[i] := by
    have := congrArg (fun l => l[i]?) e
    simpa [List.getElem?_map, List.getElem?_eq_getElem hi, List.getElem?_eq_getElem hi2] using this
  unfold fkey at ek
  simp only [Prod.mk.injEq] at ek
  unfold sv at a2 b2 a3 b3
  rw [← ek.1] at b1
  rw [← ek.2] at b2 b3
  exact ⟨D1[i].1, _, _, D2[i].2.1, D2[i].2.2.1, _, _, a1, a2, b1, b2, a3, b3⟩
theorem calm_unsure {w W : World} {f m : Nat} {y : Bool} (h : Calm w W f m y) : Calls Try.prog 18 #[.pointer (some ⟨f, 0, none⟩)] W fun e w' => e = .returned (.int .i64 m) ∧ w' = W := by
  obtain ⟨c, nb, sb, uv, N, S, acts, hd, hh, hb, hsum, hl, hN, hS, rfl, _⟩ := h
  exact unsure_any hd
theorem calm_bad {w W : World} {f m : Nat} {y : Bool} (h : Calm w W f m y) (k b : Int) (hbad : k < 0 ∨ (m : Int) < k ∨ b < 0) :
    Calls Try.prog 17 #[.pointer (some ⟨f, 0, none⟩)] W fun e w1 => ∃ v, e = .returned v ∧ Hid (Calls Try.prog 18 #[.pointer (some ⟨f, 0, none⟩)] w1 fun e w' => e = .returned (.int .i64 m) ∧ w' = w1) ∧
      Hid (Calls Try.prog 19 #[.pointer (some ⟨f, 0, none⟩), .int .i64 k, .int .i64 b] w1 fun e w2 => e = .returned (.int .i64 1) ∧ w2 = w1) ∧ Hid (Below w.heap.size w w1) := by
  obtain ⟨c, nb, sb, uv, N, S, acts, hd, hh, hb, hsum, hl, hN, hS, rfl, _⟩ := h
  refine (list_any hd (by omega) (by omega)).mono fun e w1 hp => ?_
  obtain ⟨v, he, hL⟩ := hp
  have hd1 := hd.new (Kept.ofBelow hL.out.1)
  exact ⟨v, he, hide (unsure_any hd1), hide (crash_bad hd1 k b hbad), hide (hb.trans (hL.out.1.mono hb.size))⟩
theorem crash_good {w : World} {c : Nat → Nat} {f : Nat} {size : Int} {nb sb : Nat} {uv : Value} {N S : List Ent} {acts : List AM} (h : Disk w c f size nb sb uv N S acts) (hl : sum S + tot acts ≤ 140737488355328) (k n : Nat) (hk : k ≤ acts.length) (hn : n ≤ 9223372036854775807) :
    Calls Try.prog 19 #[ptr f, .int .i64 k, .int .i64 n] w fun e w' => e = .returned (.int .i64 0) ∧ Hid (Crashed w w' c f size sb S acts k n) := by
  by_cases e : k = acts.length
  · subst e
    exact crash_all h hl n
  · have hA : acts[k]? = some acts[k] := List.getElem?_eq_getElem (by omega)
    by_cases hkd : acts[k].kind = 1
    · exact crash_app h hl k n _ hA hkd hn
    · exact crash_plain h hl k n _ hA hkd
theorem calm_good {w W : World} {f m : Nat} {y : Bool} (h : Calm w W f m y) (k b : Nat) (hk : k ≤ m) (hb : b ≤ 9223372036854775807) :
    Calls Try.prog 17 #[.pointer (some ⟨f, 0, none⟩)] W fun e w1 => ∃ g1 n1 cap1, e = .returned (.slice (some ⟨g1, 0, none⟩) n1 cap1) ∧ Hid (Calls Try.prog 18 #[.pointer (some ⟨f, 0, none⟩)] w1 fun e w' => e = .returned (.int .i64 m) ∧ w' = w1) ∧
      Hid (Calls Try.prog 19 #[.pointer (some ⟨f, 0, none⟩), .int .i64 k, .int .i64 b] w1 fun e w2 => e = .returned (.int .i64 0) ∧
        Hid (Calls Try.prog 17 #[.pointer (some ⟨f, 0, none⟩)] w2 fun e w3 => ∃ g2 n2 cap2, e = .returned (.slice (some ⟨g2, 0, none⟩) n2 cap2) ∧ Hid (Calls Try.prog 18 #[.pointer (some ⟨f, 0, none⟩)] w3 fun e w' => e = .returned (.int .i64 0) ∧ w' = w3) ∧
          Hid (Below w.heap.size w w3) ∧ Hid (k = m → n1 = n2 ∧ n1 ≤ 100000 ∧ Twin w3 g1 g2 n1))) := by
  obtain ⟨c, nb, sb, uv, N, S, acts, hd, hh, hbl, hsum, hl, hN, hS, rfl, _⟩ := h
  refine (list_any hd (by omega) (by omega)).mono fun e w1 hp => ?_
  obtain ⟨v1, he, hL⟩ := hp
  obtain ⟨hb1, D1, f1, p1, u1⟩ := hL.out
  obtain ⟨g1, cap1, rfl, _⟩ := f1.is
  have hd1 := hd.new (Kept.ofBelow hb1)
  have bw1 := hbl.trans (hb1.mono hbl.size)
  refine ⟨g1, D1.length, cap1, he, hide (unsure_any hd1), hide ?_⟩
  refine (crash_good hd1 (by omega) k b hk hb).mono fun e w2 hp2 => ⟨hp2.1, hide ?_⟩
  obtain ⟨c2, nb2, N2, S2, d2, st2, lk2, sm2, ln2⟩ := hp2.2.out
  have f2 := f1.kept st2.kept (fun g hg hlt => by
    have := hd.fresh g hg
    omega)
  have bw2 := bw1.trans (st2.below hh bw1.size)
  refine (list_any d2 (by omega) (by omega)).mono fun e w3 hp3 => ?_
  obtain ⟨v2, he3, hL3⟩ := hp3
  obtain ⟨hb3, D2, f3, p2, u2⟩ := hL3.out
  obtain ⟨g2, cap2, rfl, _⟩ := f3.is
  have f4 := f2.kept (Kept.ofBelow hb3) (fun _ _ _ h => h)
  refine ⟨g2, D2.length, cap2, he3, hide (unsure_any (d2.new (Kept.ofBelow hb3))), hide (bw2.trans (hb3.mono bw2.size)), hide (fun ekm => ?_)⟩
  have elk : look N2 = look N := by
    rw [lk2 (.inr ekm), ekm, List.take_length]
    exact hd.same.symm
  have ek := keys_eq p1 p2 u1 u2 hd.now.names d2.now.names elk.symm
  have el : D1.length = D2.length := by
    have := congrArg List.length ek
    simpa using this
  have el1 : D1.length = N.length := by
    have := p1.length_eq
    simpa using this
  exact ⟨el, by omega, f4.twin f3 ek⟩
end Go.Proofs.Ytdmhcgneafacmaa
