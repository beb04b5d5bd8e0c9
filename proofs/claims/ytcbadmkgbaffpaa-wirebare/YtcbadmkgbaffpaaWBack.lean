/- There and back, as plain numbers: what is read of a message's bytes; one record more; a cut. -/
import Derived.Test.YtcbadmkgbaffpaaRMay
import Derived.Test.YtcbadmkgbaffpaaWDec5
import Derived.Test.YtcbadmkgbaffpaaWEnc3
namespace Go.Proofs.Ytcbadmkgbaffpaa
open Go.RowKit
set_option linter.unusedVariables false

theorem val_digs (n : Nat) : val (fun k => (digs n).getD k 0) (digs n).length = n := by
  induction n using Nat.strongRecOn with
  | _ n ih =>
    by_cases h : n = 0
    · subst h; rw [digs_zero]; rfl
    · rw [digs_pos n h, List.length_append, List.length_singleton]
      show val _ (digs (n / 256)).length * 256 + _ = _
      rw [val_congr _ (fun k => (digs (n / 256)).getD k 0) _ (fun j hj => by
        show (digs (n / 256) ++ _).getD j 0 = _
        rw [List.getD_eq_getElem?_getD, List.getD_eq_getElem?_getD, List.getElem?_append_left hj]), ih (n / 256) (by omega)]
      have : (digs (n / 256) ++ [((n % 256 : Nat) : Int)]).getD (digs (n / 256)).length 0 = ((n % 256 : Nat) : Int) := by
        rw [List.getD_eq_getElem?_getD, List.getElem?_append_right (Nat.le_refl _)]
        simp
      show ((n / 256 : Nat) : Int) * 256 + (digs (n / 256) ++ [((n % 256 : Nat) : Int)]).getD (digs (n / 256)).length 0 = n
      rw [this]
      omega
theorem digs_head (n : Nat) (h : n ≠ 0) : (digs n).getD 0 0 ≠ 0 ∧ digs n ≠ [] := by
  induction n using Nat.strongRecOn with
  | _ n ih =>
    rw [digs_pos n h]
    by_cases hq : n / 256 = 0
    · rw [hq, digs_zero]
      refine ⟨?_, by simp⟩
      show (((n % 256 : Nat) : Int)) ≠ 0
      omega
    · obtain ⟨h1, h2⟩ := ih (n / 256) (by omega) hq
      refine ⟨?_, by simp⟩
      cases e : digs (n / 256) with
      | nil => exact absurd e h2
      | cons x t => rw [e] at h1; exact h1
theorem rdNum_digs (n : Int) (h0 : 0 ≤ n) (h1 : n ≤ 9223372036854775807) : rdNum (digs n.toNat) = some n := by
  have hv := val_digs n.toNat
  rw [rdNum_some (digs_len 8 n.toNat (by omega)) ?_ (by rw [hv]; omega), hv]
  · congr 1; omega
  · by_cases h : n.toNat = 0
    · left; rw [h, digs_zero]
    · right; exact (digs_head _ h).1
theorem rdF_bytes {f : Fld} {i : Nat} (hf : f.fits i) (hn : ∀ n, f = .num n → 0 ≤ n ∧ n ≤ 9223372036854775807) : rdF i (bytesF f) = some f.plain := by
  unfold rdF
  rcases form_cases i with h | h | h
  · obtain ⟨n, rfl⟩ := fits_num hf h
    rw [if_pos h]
    show (rdNum (digs n.toNat)).map _ = _
    rw [rdNum_digs n (hn n rfl).1 (hn n rfl).2]
    rfl
  · obtain ⟨l, rfl, hl⟩ := fits_arr hf h
    rw [if_neg (by omega), if_pos h]
    show (if l.length = 32 then _ else _) = _
    rw [if_pos hl]
    rfl
  · obtain ⟨a, c, l, rfl⟩ := fits_lst hf h
    rw [if_neg (by omega), if_neg (by omega)]
    rfl
theorem look_map (g : Nat → List Int) (i : Nat) : ∀ (l : List Nat), i ∈ l → look (l.map fun (j : Nat) => (2 * (j : Int) + 1, g j)) i = some (g i)
  | [], h => by cases h
  | j :: t, h => by
    unfold look
    by_cases e : j = i
    · subst e; simp
    · have hi : i ∈ t := by
        rcases List.mem_cons.1 h with h | h
        · exact absurd h.symm e
        · exact h
      have := look_map g i t hi
      unfold look at this
      rw [List.map_cons, List.find?_cons_of_neg (by show ¬ ((2 * (j : Int) + 1 == 2 * (i : Int) + 1) = true); rw [beq_iff_eq]; omega)]
      exact this
theorem look_recs {K : Int} {F : Nat → Fld} {i : Nat} (hi : i ∈ fl K) : look (recs K F) i = some (bytesF (F i)) := look_map (fun j => bytesF (F j)) i (fl K) hi
theorem plain_out {K : Int} {F : Nat → Fld} (hF : Fits F) (hm : mayB K F = true) {i : Nat} (hi : i < 12) (hn : i ∉ fl K) : (F i).plain = (ZF i).plain := by
  have h := (may_ok hm).2 i hi
  unfold okB at h
  rw [if_neg hn, ← zero_same (hF i hi)] at h
  exact of_decide_eq_true h

/-- bytes whose kind is K and whose records are A: what Decode says of them where A has the fields of a message that may be -/
theorem dec_recs {zs : List Int} {K : Int} {F : Nat → Fld} {A : List (Int × List Int)} (hF : Fits F) (hm : mayB K F = true) (h2 : 2 ≤ zs.length) (hk : kindOf zs = K) (hr : recsOf zs = (0, A)) (hl : ∀ i ∈ fl K, look A i = some (bytesF (F i))) :
    decGood zs ∧ ∀ i, i < 12 → decF zs i = (F i).plain := by
  have hf : ∀ i ∈ fl K, fldA A i = some (F i).plain := fun i hi => by
    unfold fldA
    rw [hl i hi]
    exact rdF_bytes (hF i (fl_lt K i hi)) (may_num hm (fl_lt K i hi))
  have hd : ∀ i, i < 12 → decF zs i = (F i).plain := fun i hi => by
    unfold decF
    rw [hk, hr]
    by_cases h : i ∈ fl K
    · rw [if_pos h, hf i h]; rfl
    · rw [if_neg h, plain_out hF hm hi h]
  refine ⟨⟨h2, by rw [hr], fun i hi => ?_, ?_⟩, hd⟩
  · rw [hk] at hi
    rw [hr, hf i hi]
    rfl
  · rw [hk, mayP_congr (Q := fun i => (F i).plain) hd, ← mayB_plain]
    exact hm
theorem says_recs {zs : List Int} {K K' : Int} {F G : Nat → Fld} {E : Int} (h : decGood zs ∧ ∀ i, i < 12 → decF zs i = (F i).plain) (hk : kindOf zs = K) (hs : Says zs K' G E) : E = 0 ∧ K' = K ∧ ∀ i, i < 12 → (G i).plain = (F i).plain := by
  rcases hs with ⟨_, _, _, hn⟩ | ⟨h1, _, h2, h3⟩
  · exact absurd h.1 hn
  · exact ⟨h1, h2.trans hk, fun i hi => (h3 i hi).trans (h.2 i hi)⟩
theorem says_none {zs : List Int} {K' : Int} {G : Nat → Fld} {E : Int} (h : ¬ decGood zs) (hs : Says zs K' G E) : E = 10 ∧ K' = 0 ∧ G = ZF := by
  rcases hs with ⟨h1, h2, h3, _⟩ | ⟨_, h1, _⟩
  · exact ⟨h1, h2, h3⟩
  · exact absurd h1 h
theorem enc_kind (K : Int) (F : Nat → Fld) (B : List Int) : kindOf (encB K F ++ B) = K := by
  show 0 * 256 + K = K
  omega
theorem enc_drop (K : Int) (F : Nat → Fld) (B : List Int) : (encB K F ++ B).drop 2 = recsB (recs K F) ++ B := rfl
theorem recs_odd {K : Int} {F : Nat → Fld} {r : Int × List Int} (h : r ∈ recs K F) : r.1 % 2 = 1 ∧ 1 ≤ r.1 ∧ r.1 ≤ 23 := by
  obtain ⟨i, hi, rfl⟩ := List.mem_map.1 h
  have := fl_lt K i hi
  show (2 * (i : Int) + 1) % 2 = 1 ∧ _
  refine ⟨by omega, ?_, ?_⟩
  · show 1 ≤ 2 * (i : Int) + 1; omega
  · show 2 * (i : Int) + 1 ≤ 23; omega
theorem dec_enc {w : World} {K : Int} {F : Nat → Fld} (hF : Fits F) (hG : Good w F) (hm : mayB K F = true) : decGood (encB K F) ∧ ∀ i, i < 12 → decF (encB K F) i = (F i).plain := by
  have hr : recsOf (encB K F) = (0, recs K F) := by
    have ha := recs_all hF hG hm
    exact decT_of kn (recs K F) (recs_ris K F) (by rw [recs_len]; have := fl_len K; omega) ha.1 (fun r hr he => by have := (recs_odd hr).1; omega) (by have := ha.2; omega)
  have hk := enc_kind K F []
  rw [List.append_nil] at hk
  exact dec_recs hF hm (by simp [encB]) hk hr (fun i hi => look_recs hi)

theorem lastT_recs (K : Int) (F : Nat → Fld) : lastT (recs K F) ≤ 23 := by
  unfold lastT
  cases e : (recs K F).getLast? with
  | none => show (-1 : Int) ≤ 23; omega
  | some r => exact (recs_odd (List.mem_of_getLast? e)).2.2
theorem look_more {A : List (Int × List Int)} {i : Nat} {r : Int × List Int} {L : List Int} (h : look A i = some L) : look (A ++ [r]) i = some L := by
  unfold look at *
  obtain ⟨x, hx, rfl⟩ := Option.map_eq_some_iff.1 h
  rw [List.find?_append, hx]
  rfl
/-- one record more, of an odd type that no field has -/
theorem dec_more {w : World} {K : Int} {F : Nat → Fld} (hF : Fits F) (hG : Good w F) (hm : mayB K F = true) {t : Int} {L : List Int} (ht : 23 < t) (ht' : t ≤ 18446744073709551615) (ho : t % 2 = 1) (hL : L.length ≤ 1000) (hB : Bytes L) :
    decGood (encB K F ++ recsB [(t, L)]) ∧ ∀ i, i < 12 → decF (encB K F ++ recsB [(t, L)]) i = (F i).plain := by
  have ha := recs_all hF hG hm
  have hlast := lastT_recs K F
  have hlen : (recsB (recs K F ++ [(t, L)])).length ≤ 65536 := by
    rw [recsB_append, List.length_append]
    have h1 := numB_le t
    have h2 := numB_le (L.length : Int)
    show (recsB (recs K F)).length + (numB t ++ (numB L.length ++ (L ++ []))).length ≤ 65536
    simp only [List.length_append, List.length_nil]
    have := ha.2
    omega
  have hr : recsOf (encB K F ++ recsB [(t, L)]) = (0, recs K F ++ [(t, L)]) := by
    unfold recsOf
    rw [enc_drop, ← recsB_append]
    refine decT_of kn _ (ris_snoc _ _ _ (recs_ris K F) (by show (-1 : Int) < t; omega) (by show _ < t; omega)) (by rw [List.length_append, recs_len]; have := fl_len K; simp; omega) (fun r hr => ?_) (fun r hr he => ?_) hlen
    · rcases List.mem_append.1 hr with hr | hr
      · exact ha.1 r hr
      · rw [List.mem_singleton.1 hr]; exact ⟨by show 0 ≤ t; omega, ht', by show L.length ≤ _; omega, hB⟩
    · rcases List.mem_append.1 hr with hr | hr
      · have := (recs_odd hr).1; omega
      · rw [List.mem_singleton.1 hr] at he
        have : t % 2 = 0 := he
        omega
  exact dec_recs hF hm (by simp [encB]) (enc_kind K F _) hr (fun i hi => look_more (look_recs hi))
/-- a record of an even type that nobody knows, behind good ones -/
theorem dec_bad (K : Int → Bool) (r : Int × List Int) (a0 : 0 ≤ r.1) (a1 : r.1 ≤ 18446744073709551615) (a2 : r.2.length ≤ 140737488355328) (a3 : r.1 % 2 = 0) (a4 : K r.1 = false) : ∀ (A : List (Int × List Int)) (f : Nat) (acc : List (Int × List Int)), (recsB (A ++ [r])).length < f → Ris (lastT acc) (A ++ [r]) → acc.length + (A ++ [r]).length ≤ 64 →
    (∀ r ∈ A, 0 ≤ r.1 ∧ r.1 ≤ 18446744073709551615 ∧ r.2.length ≤ 140737488355328 ∧ (r.1 % 2 = 0 → K r.1 = true)) → (dec K f (recsB (A ++ [r])) acc).1 ≠ 0 := by
  intro A
  induction A with
  | nil =>
    intro f acc hf hris hlen hall
    obtain ⟨f, rfl⟩ : ∃ g, f = g + 1 := ⟨f - 1, by omega⟩
    obtain ⟨hr1, _⟩ := hris
    simp only [List.nil_append, List.length_singleton] at hlen
    have np := numB_pos r.1
    have e : recsB ([] ++ [r]) = numB r.1 ++ (numB r.2.length ++ (r.2 ++ [])) := rfl
    obtain ⟨p1, p2, p3⟩ := rd_num r.1 (numB r.2.length ++ (r.2 ++ [])) a0 a1
    obtain ⟨q1, q2, q3⟩ := rd_num (r.2.length : Int) (r.2 ++ []) (by omega) (by omega)
    have d1 : (numB r.1 ++ (numB r.2.length ++ (r.2 ++ []))).drop (numB r.1).length = numB r.2.length ++ (r.2 ++ []) := List.drop_left
    have hdl : (numB r.2.length ++ (r.2 ++ [])).length = (numB r.2.length).length + r.2.length := by simp
    have hfl : (numB r.1 ++ (numB r.2.length ++ (r.2 ++ []))).length = (numB r.1).length + ((numB r.2.length).length + r.2.length) := by simp
    rw [e, dec_12 (n := (numB r.1).length) (m := (numB r.2.length).length) (by omega) (by omega) p3 (by rw [p1]; omega) p2 (by rw [d1]; exact q3) (by rw [d1]; exact q2) (by rw [d1, q1]; omega) (by rw [p1]; exact ⟨a3, a4⟩)]
    decide
  | cons r' A ih =>
    intro f acc hf hris hlen hall
    obtain ⟨f, rfl⟩ : ∃ g, f = g + 1 := ⟨f - 1, by omega⟩
    obtain ⟨a0, a1, a2, a3⟩ := hall r' (List.mem_cons_self ..)
    obtain ⟨hr1, hr2⟩ := hris
    simp only [List.cons_append, List.length_cons, List.length_append, List.length_nil] at hlen
    have np := numB_pos r'.1
    have e : recsB (r' :: A ++ [r]) = numB r'.1 ++ (numB r'.2.length ++ (r'.2 ++ recsB (A ++ [r]))) := rfl
    obtain ⟨p1, p2, p3⟩ := rd_num r'.1 (numB r'.2.length ++ (r'.2 ++ recsB (A ++ [r]))) a0 a1
    obtain ⟨q1, q2, q3⟩ := rd_num (r'.2.length : Int) (r'.2 ++ recsB (A ++ [r])) (by omega) (by omega)
    have d1 : (numB r'.1 ++ (numB r'.2.length ++ (r'.2 ++ recsB (A ++ [r])))).drop (numB r'.1).length = numB r'.2.length ++ (r'.2 ++ recsB (A ++ [r])) := List.drop_left
    have hdl : (numB r'.2.length ++ (r'.2 ++ recsB (A ++ [r]))).length = (numB r'.2.length).length + (r'.2.length + (recsB (A ++ [r])).length) := by simp
    rw [e] at hf ⊢
    have hfl : (numB r'.1 ++ (numB r'.2.length ++ (r'.2 ++ recsB (A ++ [r])))).length = (numB r'.1).length + ((numB r'.2.length).length + (r'.2.length + (recsB (A ++ [r])).length)) := by simp
    rw [dec_go (n := (numB r'.1).length) (m := (numB r'.2.length).length) (k := r'.2.length) (by omega) (by omega) p3 (by rw [p1]; omega) p2 (by rw [d1]; exact q3) (by rw [d1]; exact q2) (by rw [d1]; exact q1) (by rw [d1]; omega)
      (by rw [p1]; intro ⟨h1, h2⟩; rw [a3 h1] at h2; cases h2)]
    have d2 : (numB r'.1 ++ (numB r'.2.length ++ (r'.2 ++ recsB (A ++ [r])))).drop ((numB r'.1).length + (numB r'.2.length).length) = r'.2 ++ recsB (A ++ [r]) := by
      rw [← List.drop_drop (i := (numB r'.2.length).length) (j := (numB r'.1).length), d1, List.drop_left]
    have d3 : (numB r'.1 ++ (numB r'.2.length ++ (r'.2 ++ recsB (A ++ [r])))).drop ((numB r'.1).length + ((numB r'.2.length).length + r'.2.length)) = recsB (A ++ [r]) := by
      rw [show (numB r'.1).length + ((numB r'.2.length).length + r'.2.length) = (numB r'.1).length + (numB r'.2.length).length + r'.2.length by omega, ← List.drop_drop (i := r'.2.length) (j := (numB r'.1).length + (numB r'.2.length).length), d2, List.drop_left]
    rw [d2, d3, p1, List.take_left]
    exact ih f _ (by omega) (by rw [lastT_snoc]; exact hr2) (by simp; omega) (fun x hx => hall x (List.mem_cons_of_mem _ hx))
theorem dec_even {w : World} {K : Int} {F : Nat → Fld} (hF : Fits F) (hG : Good w F) (hm : mayB K F = true) {t : Int} (ht : 23 < t) (ht' : t ≤ 18446744073709551615) (ho : t % 2 = 0) : ¬ decGood (encB K F ++ recsB [(t, [])]) := fun hg => by
  have ha := recs_all hF hG hm
  have hlast := lastT_recs K F
  refine absurd hg.2.1 ?_
  unfold recsOf
  rw [enc_drop, ← recsB_append]
  have hlen : (recsB (recs K F ++ [(t, [])])).length ≤ 65536 := by
    rw [recsB_append, List.length_append]
    have h1 := numB_le t
    have h2 := numB_le ((([] : List Int).length : Nat) : Int)
    show (recsB (recs K F)).length + (numB t ++ (numB (([] : List Int).length : Nat) ++ ([] ++ []))).length ≤ 65536
    simp only [List.length_append, List.length_nil] at h2 ⊢
    have := ha.2
    omega
  unfold decT
  rw [if_neg (by omega)]
  refine dec_bad kn (t, []) (by show 0 ≤ t; omega) ht' (by simp) ho rfl (recs K F) _ [] (Nat.lt_succ_self _) (ris_snoc _ _ _ (recs_ris K F) (by show (-1 : Int) < t; omega) (by show _ < t; omega)) ?_ (fun r hr => ?_)
  · have := fl_len K
    simp [recs_len]
    omega
  · obtain ⟨h1, h2, h3, _⟩ := ha.1 r hr
    exact ⟨h1, h2, by omega, fun he => by have := (recs_odd hr).1; omega⟩
end Go.Proofs.Ytcbadmkgbaffpaa
