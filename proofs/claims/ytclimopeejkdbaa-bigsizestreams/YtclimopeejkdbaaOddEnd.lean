/- What comes behind the records that were put together: Encode, Decode, Find, SameRecords. -/
import Derived.Test.YtclimopeejkdbaaOddParts
namespace Go.Proofs.Ytclimopeejkdbaa
open Go.RowKit
set_option linter.unusedVariables false

theorem recsB_bytes : ∀ (A : List (Int × List Int)), (∀ r ∈ A, 0 ≤ r.1 ∧ Bytes r.2) → Bytes (recsB A)
  | [], _ => fun c hc => by cases hc
  | r :: t, h => by
    intro c hc
    have h1 := h r (List.mem_cons_self ..)
    simp only [recsB, List.mem_append] at hc
    rcases hc with hc | hc | hc | hc
    · exact numB_bytes _ h1.1 c hc
    · exact numB_bytes _ (by omega) c hc
    · exact h1.2 c hc
    · exact recsB_bytes t (fun x hx => h x (List.mem_cons_of_mem _ hx)) c hc

theorem decT_of (K : Int → Bool) (A : List (Int × List Int)) (hr : Ris (-1) A) (hl : A.length ≤ 64) (ha : ∀ r ∈ A, 0 ≤ r.1 ∧ r.1 ≤ 18446744073709551615 ∧ r.2.length ≤ 140737488351232 ∧ Bytes r.2) (hk : ∀ r ∈ A, r.1 % 2 = 0 → K r.1 = true) (hs : (recsB A).length ≤ 65536) : decT K (recsB A) = (0, A) := by
  unfold decT
  rw [if_neg (by omega), dec_of K A _ [] (Nat.lt_succ_self _) hr (by simpa using hl) (fun r hrm => ⟨(ha r hrm).1, (ha r hrm).2.1, by have := (ha r hrm).2.2.1; omega, hk r hrm⟩)]
  rfl

theorem plain_mem {q : List Rq} {p : Rq → Prop} {P : Int × List Int → Prop} (hP : ∀ r, p r → P (r.1, r.2.2.2)) (h : ∀ r ∈ q, p r) : ∀ r ∈ plain q, P r := by
  intro r hr
  unfold plain at hr
  obtain ⟨x, hx, rfl⟩ := List.mem_map.1 hr
  exact hP x (h x hx)

/-- Encode of records that were put together -/
theorem enc_row {W : World} {B : Nat} {v : Value} {q : List Rq} (h : W.ownsRow B 38 2 v q.length (rqCells q)) (hI : ∀ r ∈ q, IsB W r.2.1 r.2.2.1 r.2.2.2) (h0 : 0 < q.length) (hlen : q.length ≤ 4398046511104) (hr : Ris (-1) (plain q))
    (ha : ∀ r ∈ q, 0 ≤ r.1 ∧ r.1 ≤ 18446744073709551615 ∧ r.2.2.2.length ≤ 140737488351232 ∧ Bytes r.2.2.2) :
    Calls Try.prog 15 #[v] W fun e w' => ((∃ ao cp, e = .returned (.tuple #[.slice ao (recsB (plain q)).length cp, .int .i64 0]) ∧ Hid (IsB w' ao cp (recsB (plain q))) ∧ (recsB (plain q)).length ≤ cp ∧ cp ≤ 9223372036854775807 ∧ q.length ≤ 64 ∧ (recsB (plain q)).length ≤ 65536) ∨ e = .returned (.tuple #[.slice none 0 0, .int .i64 3])) ∧ Hid (Below W.heap.size W w') := by
  obtain ⟨g, c, rfl, R⟩ := row_open h hI h0
  by_cases h64 : 64 < q.length
  · exact (enc_many g 0 q.length c _ _ _ _ W R hlen (ris_plain q _ hr) h64).mono fun e w' hh => ⟨.inr hh.1, hh.2⟩
  · by_cases hs : 65536 < (recsB (plain q)).length
    · refine (enc_big g 0 q.length c _ _ _ _ W R (by omega) (fun k hk => (ha _ (rqAt_mem hk)).2.2.1) (fun k hk => (ha _ (rqAt_mem hk)).1) (ris_plain q _ hr) (by rw [encL_all]; exact hs)).mono fun e w' hh => ⟨.inr hh.1, hh.2⟩
    · have key := enc_ok g 0 q.length c _ _ _ _ W R (by omega) (fun k hk => (ha _ (rqAt_mem hk)).2.2.1) (fun k hk => ⟨(ha _ (rqAt_mem hk)).1, (ha _ (rqAt_mem hk)).2.1⟩) (ris_plain q _ hr) (by rw [encL_all]; omega)
      rw [encL_all] at key
      refine key.mono fun e w' hh => ?_
      obtain ⟨g', rfl, ho, hb⟩ := hh
      obtain ⟨ao, cap, he, hI, h1, h2⟩ := own_isB ho.out
      cases he
      exact ⟨.inl ⟨_, _, rfl, hI, h1, h2, by omega, by omega⟩, hb⟩

theorem first_of {ty : Nat → Int} {t : Int} : ∀ {len : Nat}, (∃ k, k < len ∧ ty k = t) → ∃ k0, k0 < len ∧ ty k0 = t ∧ ∀ k, k < k0 → ty k ≠ t
  | 0, ⟨k, hk, _⟩ => absurd hk (Nat.not_lt_zero _)
  | n + 1, ⟨k, hk, e⟩ => by
    by_cases h : ∃ k, k < n ∧ ty k = t
    · obtain ⟨k0, h1, h2, h3⟩ := first_of h
      exact ⟨k0, by omega, h2, h3⟩
    · have hkn : k = n := by
        by_cases h2 : k < n
        · exact absurd ⟨k, h2, e⟩ h
        · omega
      subst hkn
      exact ⟨k, by omega, e, fun j hj he => h ⟨j, hj, he⟩⟩

/-- Find of the record of type T -/
theorem find_own {w : World} {B : Nat} {v : Value} {qx q : List Rq} {T : Int} {val : List Int} (h : OwnRecs w B v qx) (hp : plain qx = plain q) (hr : Ris (-1) (plain q)) (hT : ∃ r ∈ q, r.1 = T ∧ r.2.2.2 = val) (hl : val.length ≤ 140737488355328) (hq : q.length ≤ 64) :
    Calls Try.prog 20 #[v, .int .u64 T] w fun e w' => ∃ a c, e = .returned (.tuple #[.slice a val.length c, .bool true]) ∧ Hid (IsB w' a c val) ∧ Hid (Below w.heap.size w w') := by
  obtain ⟨r, hr1, hr2, hr3⟩ := hT
  obtain ⟨i, hi, he⟩ := List.getElem_of_mem hr1
  have hpi : (plain q)[i]? = some (r.1, r.2.2.2) := by
    rw [plain_at q i hi]
    unfold rqAt
    rw [List.getD_eq_getElem?_getD, List.getElem?_eq_getElem hi, he]
    rfl
  have hlen : qx.length = q.length := by rw [← plain_length qx, ← plain_length q, hp]
  have hxi : (plain qx)[i]? = some ((rqAt qx i).1, (rqAt qx i).2.2.2) := plain_at qx i (by omega)
  rw [hp, hpi] at hxi
  simp at hxi
  obtain ⟨k0, k1, k2, k3⟩ := first_of (ty := fun k => (rqAt qx k).1) (t := T) (len := qx.length) ⟨i, by omega, by rw [← hr2]; exact hxi.1.symm⟩
  have hx0 : (plain q)[k0]? = some ((rqAt qx k0).1, (rqAt qx k0).2.2.2) := by rw [← hp]; exact plain_at qx k0 k1
  have hone := ris_one hr hx0 hpi (by rw [hr2]; exact k2)
  have hval : (rqAt qx k0).2.2.2 = val := by
    have := congrArg Prod.snd hone
    exact this.trans hr3
  obtain ⟨g, c, rfl, R⟩ := h.open (by omega)
  have key := find_yes g 0 qx.length c k0 _ _ _ _ T w R (by omega) k1 k2 k3 (by show (rqAt qx k0).2.2.2.length ≤ _; rw [hval]; exact hl)
  refine key.mono fun e w' hh => ?_
  obtain ⟨a, c', he', hI, hb⟩ := hh
  rw [hval] at he' hI
  exact ⟨a, c', he', hI, hb⟩

/-- SameRecords of what was decoded and what was put together -/
theorem same_mixed {w : World} {B B' : Nat} {v v' : Value} {q q' : List Rq} (h : OwnRecs w B v q) (h' : w.ownsRow B' 38 2 v' q'.length (rqCells q')) (hI : ∀ r ∈ q', IsB w r.2.1 r.2.2.1 r.2.2.2) (hp : plain q = plain q') (hl : q.length ≤ 64) (h0 : 0 < q.length) :
    Calls Try.prog 18 #[v, v'] w fun e w' => e = .returned (.bool true) ∧ Hid (Below w.heap.size w w') := by
  obtain ⟨e, hs⟩ := plain_same hp
  obtain ⟨g, c, rfl, R⟩ := h.open h0
  obtain ⟨g', c', rfl, R'⟩ := row_open h' hI (by omega)
  rw [← e] at R' ⊢
  exact same_row g 0 g' 0 q.length c c' _ _ _ _ _ _ _ _ w R R' (by omega) (fun k hk => (hs k hk).1) (fun k hk => (hs k hk).2)
end Go.Proofs.Ytclimopeejkdbaa
