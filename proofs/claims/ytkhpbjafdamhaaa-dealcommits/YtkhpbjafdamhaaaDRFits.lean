/- Whether a view may be: the document's. -/
import Derived.Test.YtkhpbjafdamhaaaDRefC
namespace Go.Proofs.Ytkhpbjafdamhaaa
open Go.RowKit
set_option linter.unusedVariables false
set_option linter.unusedSimpArgs false
set_option maxRecDepth 100000

/-- what the sum has come to: it goes on, or it is too much whatever comes -/
def SS (z : Nat → Int) (n i : Nat) (s e : Int) : Prop := (e = 0 ∧ s = sumP z (i + 2) ∧ (∀ k, k < i + 2 → 0 ≤ z k) ∧ s ≤ 9223372036854775807) ∨ (e ≠ 0 ∧ sumE z (n + 2) ≠ 0)
theorem sumE_neg {z : Nat → Int} {m k : Nat} (hk : k < m) (h : z k < 0) : sumE z m ≠ 0 := by
  unfold sumE
  rw [if_neg (fun hn => by have := of_decide_eq_true hn k hk; omega)]
  decide
theorem sumE_over {z : Nat → Int} {m k : Nat} (hk : k ≤ m) (h : 9223372036854775807 < sumP z k) : sumE z m ≠ 0 := by
  unfold sumE
  by_cases hn : nnB z m = true
  · have := sumP_mono z k m hk (of_decide_eq_true hn)
    rw [if_pos hn, if_neg (by omega)]
    decide
  · rw [if_neg hn]
    decide
theorem SS_start {x y : Int} {n : Nat} {hv : Nat → HV} (h : 0 ≤ x ∧ 0 ≤ y ∧ x + y ≤ 9223372036854775807) : SS (zf x y hv) n 0 (x + y) 0 := by
  have e : sumP (zf x y hv) 2 = x + y := by simp [sumP, zf]
  refine .inl ⟨rfl, e.symm, fun k hk => ?_, h.2.2⟩
  match k, hk with
  | 0, _ => exact h.1
  | 1, _ => exact h.2.1
theorem SS_bad0 {x y q s : Int} {n : Nat} {hv : Nat → HV} (h : ¬ (0 ≤ x ∧ 0 ≤ y ∧ x + y ≤ 9223372036854775807)) (hq : q ≠ 0) : SS (zf x y hv) n 0 s q := by
  have e : sumP (zf x y hv) 2 = x + y := by simp [sumP, zf]
  refine .inr ⟨hq, ?_⟩
  by_cases h1 : x < 0
  · exact sumE_neg (k := 0) (by omega) h1
  · by_cases h2 : y < 0
    · exact sumE_neg (k := 1) (by omega) h2
    · exact sumE_over (k := 2) (by omega) (by omega)
theorem zf_at (x y : Int) (hv : Nat → HV) (i : Nat) : zf x y hv (i + 2) = (hv i).am := by simp [zf]
theorem SS_step {x y s : Int} {n i : Nat} {hv : Nat → HV} (h : SS (zf x y hv) n i s 0) (hi : i < n) (ha : 0 ≤ (hv i).am ∧ s + (hv i).am ≤ 9223372036854775807) : SS (zf x y hv) n (i + 1) (s + (hv i).am) 0 := by
  rcases h with ⟨_, h1, h2, h3⟩ | ⟨h, _⟩
  · refine .inl ⟨rfl, ?_, fun k hk => ?_, ha.2⟩
    · show s + (hv i).am = sumP (zf x y hv) (i + 2) + zf x y hv (i + 2)
      rw [zf_at, ← h1]
    · by_cases e : k = i + 2
      · subst e; rw [zf_at]; exact ha.1
      · exact h2 k (by omega)
  · exact absurd rfl h
theorem SS_bad {x y s q s' : Int} {n i : Nat} {hv : Nat → HV} (h : SS (zf x y hv) n i s 0) (hi : i < n) (ha : ¬ (0 ≤ s ∧ 0 ≤ (hv i).am ∧ s + (hv i).am ≤ 9223372036854775807)) (hq : q ≠ 0) : SS (zf x y hv) n (i + 1) s' q := by
  rcases h with ⟨_, h1, h2, h3⟩ | ⟨h, _⟩
  · have h0 : 0 ≤ s := by rw [h1]; exact sumP_nonneg _ _ h2
    refine .inr ⟨hq, ?_⟩
    by_cases h4 : (hv i).am < 0
    · exact sumE_neg (k := i + 2) (by omega) (by rw [zf_at]; exact h4)
    · refine sumE_over (k := i + 3) (by omega) ?_
      show 9223372036854775807 < sumP (zf x y hv) (i + 2) + zf x y hv (i + 2)
      rw [zf_at, ← h1]
      omega
  · exact absurd rfl h
theorem SS_le {z : Nat → Int} {n i : Nat} {s : Int} (h : SS z n i s 0) : 0 ≤ s ∧ s ≤ 9223372036854775807 := by
  rcases h with ⟨_, h1, h2, h3⟩ | ⟨h, _⟩
  · exact ⟨by rw [h1]; exact sumP_nonneg _ _ h2, h3⟩
  · exact absurd rfl h
theorem fits_hs {t : TV} {x y : Int} {n : Nat} {hv : Nat → HV} (h : mayHs t n hv = false) : fitsB t x y n hv = false := by
  unfold fitsB
  rw [h, Bool.and_false, Bool.false_and]
theorem fits_sum {t : TV} {x y : Int} {n : Nat} {hv : Nat → HV} (h : sumsB t x y n hv = false) : fitsB t x y n hv = false := by
  unfold fitsB
  rw [h, Bool.and_false]
theorem hs_wrong {t : TV} {n i : Nat} {hv : Nat → HV} (hi : i < n) (h : wrongB t (hv i) = true) : mayHs t n hv = false := decide_eq_false fun e => by
  have := e.1 i hi
  rw [h] at this
  cases this
theorem hs_fall {t : TV} {n i : Nat} {hv : Nat → HV} (hi : i < n) (h0 : 0 < i) (h : belowB (hv (i - 1)) (hv i) = false) : mayHs t n hv = false := decide_eq_false fun e => by
  have := e.2 (i - 1) (by omega)
  rw [show i - 1 + 1 = i by omega, h] at this
  cases this
theorem sum_end {t : TV} {x y s : Int} {n : Nat} {hv : Nat → HV} (h : SS (zf x y hv) n n s 0) {c : Bool} (hc : decide (s = t.sa + t.sb) = c) : sumsB t x y n hv = c := by
  rcases h with ⟨_, h1, h2, h3⟩ | ⟨h, _⟩
  · have hn : nnB (zf x y hv) (n + 2) = true := decide_eq_true h2
    have e1 : sumE (zf x y hv) (n + 2) = 0 := by unfold sumE; rw [if_pos hn, ← h1, if_pos h3]
    have e2 : sumN (zf x y hv) (n + 2) = s := by unfold sumN; rw [if_pos hn, ← h1, if_pos h3]
    unfold sumsB
    rw [e1, e2, ← hc]
    simp
  · exact absurd rfl h
theorem sum_bad {t : TV} {x y s e : Int} {n i : Nat} {hv : Nat → HV} (h : SS (zf x y hv) n i s e) (he : e ≠ 0) : sumsB t x y n hv = false := by
  rcases h with ⟨h0, _⟩ | ⟨_, h⟩
  · exact absurd h0 he
  · exact decide_eq_false fun e => h e.1
theorem radd_any {a b : Int} (w : World) (h1 : a ≤ 9223372036854775807) (h2 : b ≤ 9223372036854775807) :
    Calls Try.prog 36 #[.int .i64 a, .int .i64 b] w fun e w' => ∃ m q, e = .returned (.tuple #[.int .i64 m, .int .i64 q]) ∧ (((0 ≤ a ∧ 0 ≤ b ∧ a + b ≤ 9223372036854775807) ∧ m = a + b ∧ q = 0) ∨ (¬ (0 ≤ a ∧ 0 ≤ b ∧ a + b ≤ 9223372036854775807) ∧ q ≠ 0)) ∧ Below w.heap.size w w' := by
  by_cases h : 0 ≤ a ∧ 0 ≤ b ∧ a + b ≤ 9223372036854775807
  · exact (radd_ok w h).mono fun e w' hp => ⟨_, _, hp.1, .inl ⟨h, rfl, rfl⟩, hp.2⟩
  · refine (radd_no w h1 h2 h).mono fun e w' hp => ?_
    obtain ⟨q, hq, he, hB⟩ := hp
    exact ⟨_, q, he, .inr ⟨h, hq⟩, hB⟩
theorem SS_first {x y m q : Int} {n : Nat} {hv : Nat → HV} (h : ((0 ≤ x ∧ 0 ≤ y ∧ x + y ≤ 9223372036854775807) ∧ m = x + y ∧ q = 0) ∨ (¬ (0 ≤ x ∧ 0 ≤ y ∧ x + y ≤ 9223372036854775807) ∧ q ≠ 0)) : SS (zf x y hv) n 0 m q := by
  rcases h with ⟨h, rfl, rfl⟩ | ⟨h, hq⟩
  · exact SS_start h
  · exact SS_bad0 h hq
theorem SS_next {x y s m q : Int} {n i : Nat} {hv : Nat → HV} (hS : SS (zf x y hv) n i s 0) (hi : i < n) (h : ((0 ≤ s ∧ 0 ≤ (hv i).am ∧ s + (hv i).am ≤ 9223372036854775807) ∧ m = s + (hv i).am ∧ q = 0) ∨ (¬ (0 ≤ s ∧ 0 ≤ (hv i).am ∧ s + (hv i).am ≤ 9223372036854775807) ∧ q ≠ 0)) : SS (zf x y hv) n (i + 1) m q := by
  rcases h with ⟨h, rfl, rfl⟩ | ⟨h, hq⟩
  · exact SS_step hS hi h.2
  · exact SS_bad hS hi h hq
theorem eqZh {q : HV} {c : Bool} (W : World) (hl : q.hl.length = 32) (hc : decide (q.hl = ZL) = c) : (binOp .eql 22 (.agg q.hash) (.agg Z32)).run Try.prog W = .ok (.bool c) W := eqZ W hl hc
set_option maxHeartbeats 16000000 in
theorem rfits_any {C : Array Value} {t : TV} {x y : Int} {ao : Option Addr} {n c : Nat} {Cs : Nat → Array Value} {hv : Nat → HV} (w : World) (hT : IsT C t) (hb : TB t) (hH : Hs w ao n Cs hv) (hn : n ≤ 140737488355328) (hx : x ≤ 9223372036854775807) (hy : y ≤ 9223372036854775807) (hz : ∀ i, i < n → (hv i).am ≤ 9223372036854775807) {r : Bool} (hr : fitsB t x y n hv = r) :
    Calls Try.prog 15 #[.agg C, .agg #[.int .i64 x, .int .i64 y, .slice ao n c]] w fun e w' => e = .returned (.bool r) ∧ Below w.heap.size w w' := by
  subst hr
  cases c0 : mayT t with
  | false =>
    have E : Below w.heap.size w w := Below.refl _ _
    go_enter Try.func15, Try.ntmps15
    refine wp_seq ?_
    refine wl_in ?_
    refine wl_cap fun Q hQ => ?_
    refine st_new (fun b => .pointer (some ⟨b, 0, none⟩)) (some 2) rfl rfl (ex_box rfl rfl) ?_
    intro b1 W1 k1 g1 B
    simp only [Act.put, List.setIfInBounds_toArray, List.set_cons_zero, List.set_cons_succ]
    have ge_b1 := Nat.le_trans E.size g1
    replace E := below_next E B
    clear B
    refine st_new (fun b => .pointer (some ⟨b, 0, none⟩)) (some 3) rfl rfl (ex_box rfl rfl) ?_
    intro b2 W2 k2 g2 B
    simp only [Act.put, List.setIfInBounds_toArray, List.set_cons_zero, List.set_cons_succ]
    have ne_b2_b1 : b2 ≠ b1 := fun e => by have := lt_of k1; omega
    have ge_b2 := Nat.le_trans E.size g2
    replace E := below_next E B
    replace k1 := keep B k1
    clear B
    refine st_to (v := (.bool false)) (some 4) rfl rfl (ex_asg rfl rfl) ?_
    simp only [Act.put, List.setIfInBounds_toArray, List.set_cons_zero, List.set_cons_succ]
    refine st_end ?_
    subst hQ
    refine wp_seq ?_
    refine wp_seq ?_
    refine wl_in ?_
    refine wl_cap fun Q hQ => ?_
    refine st_to (v := (.agg C)) (some 9) rfl rfl (ex_load (p := (.pointer (some ⟨b1, 0, none⟩))) rfl rfl (ld_all k1 Try.underlying26 rfl (inf26.trans (congrArg some (hT.size).symm)))) ?_
    simp only [Act.put, List.setIfInBounds_toArray, List.set_cons_zero, List.set_cons_succ]
    refine st_call (some 10) rfl rfl (rmay_any W2 hT hb c0) (ex_call (f := 13) (vs := [(.agg C)]) rfl (cf13 _) rfl) ?_
    rintro e W3 ⟨rfl, B⟩
    refine ⟨_, rfl, ?_⟩
    simp only [Act.put, List.setIfInBounds_toArray, List.set_cons_zero, List.set_cons_succ]
    replace E := below_next E B
    replace k1 := keep B k1
    replace k2 := keep B k2
    refine st_to (v := (.bool true)) (some 11) rfl rfl (ex_not rfl rfl rfl) ?_
    simp only [Act.put, List.setIfInBounds_toArray, List.set_cons_zero, List.set_cons_succ]
    refine st_to (v := (.bool true)) (some 12) rfl rfl (ex_mv rfl rfl) ?_
    simp only [Act.put, List.setIfInBounds_toArray, List.set_cons_zero, List.set_cons_succ]
    refine st_no (some 13) rfl rfl ?_
    simp only [Act.put, List.setIfInBounds_toArray, List.set_cons_zero, List.set_cons_succ]
    refine st_no (some 14) rfl rfl ?_
    simp only [Act.put, List.setIfInBounds_toArray, List.set_cons_zero, List.set_cons_succ]
    refine st_no (some 15) rfl rfl ?_
    simp only [Act.put, List.setIfInBounds_toArray, List.set_cons_zero, List.set_cons_succ]
    refine st_no (some 16) rfl rfl ?_
    simp only [Act.put, List.setIfInBounds_toArray, List.set_cons_zero, List.set_cons_succ]
    refine st_to (v := (.bool true)) (some 17) rfl rfl (ex_pkT rfl rfl rfl) ?_
    simp only [Act.put, List.setIfInBounds_toArray, List.set_cons_zero, List.set_cons_succ]
    refine st_end ?_
    subst hQ
    refine wp_cond_true rfl ?_
    refine wp_seq ?_
    refine wl_in ?_
    refine wl_cap fun Q hQ => ?_
    refine st_to (v := (.bool false)) (some 4) rfl rfl (ex_asg rfl rfl) ?_
    simp only [Act.put, List.setIfInBounds_toArray, List.set_cons_zero, List.set_cons_succ]
    refine st_end ?_
    subst hQ
    refine wp_ret ?_
    repeat (first | refine ret_out ?_ | refine ret_blk ?_)
    refine bodyPost_ret (results_tmp Try.results15 _ _ _) rfl ⟨?_, E⟩
    show Ending.returned (.bool false) = _
    rw [show fitsB t x y n hv = false from by unfold fitsB; rw [c0]; rfl]
  | true =>
    by_cases c9 : n ≤ 32
    rotate_left
    · skip
      have E : Below w.heap.size w w := Below.refl _ _
      go_enter Try.func15, Try.ntmps15
      refine wp_seq ?_
      refine wl_in ?_
      refine wl_cap fun Q hQ => ?_
      refine st_new (fun b => .pointer (some ⟨b, 0, none⟩)) (some 2) rfl rfl (ex_box rfl rfl) ?_
      intro b1 W1 k1 g1 B
      simp only [Act.put, List.setIfInBounds_toArray, List.set_cons_zero, List.set_cons_succ]
      have ge_b1 := Nat.le_trans E.size g1
      replace E := below_next E B
      clear B
      refine st_new (fun b => .pointer (some ⟨b, 0, none⟩)) (some 3) rfl rfl (ex_box rfl rfl) ?_
      intro b2 W2 k2 g2 B
      simp only [Act.put, List.setIfInBounds_toArray, List.set_cons_zero, List.set_cons_succ]
      have ne_b2_b1 : b2 ≠ b1 := fun e => by have := lt_of k1; omega
      have ge_b2 := Nat.le_trans E.size g2
      replace E := below_next E B
      replace k1 := keep B k1
      clear B
      refine st_to (v := (.bool false)) (some 4) rfl rfl (ex_asg rfl rfl) ?_
      simp only [Act.put, List.setIfInBounds_toArray, List.set_cons_zero, List.set_cons_succ]
      refine st_end ?_
      subst hQ
      refine wp_seq ?_
      refine wp_seq ?_
      refine wl_in ?_
      refine wl_cap fun Q hQ => ?_
      refine st_to (v := (.agg C)) (some 9) rfl rfl (ex_load (p := (.pointer (some ⟨b1, 0, none⟩))) rfl rfl (ld_all k1 Try.underlying26 rfl (inf26.trans (congrArg some (hT.size).symm)))) ?_
      simp only [Act.put, List.setIfInBounds_toArray, List.set_cons_zero, List.set_cons_succ]
      refine st_call (some 10) rfl rfl (rmay_any W2 hT hb c0) (ex_call (f := 13) (vs := [(.agg C)]) rfl (cf13 _) rfl) ?_
      rintro e W3 ⟨rfl, B⟩
      refine ⟨_, rfl, ?_⟩
      simp only [Act.put, List.setIfInBounds_toArray, List.set_cons_zero, List.set_cons_succ]
      replace E := below_next E B
      replace k1 := keep B k1
      replace k2 := keep B k2
      refine st_to (v := (.bool false)) (some 11) rfl rfl (ex_not rfl rfl rfl) ?_
      simp only [Act.put, List.setIfInBounds_toArray, List.set_cons_zero, List.set_cons_succ]
      refine st_to (v := (.bool false)) (some 12) rfl rfl (ex_mv rfl rfl) ?_
      simp only [Act.put, List.setIfInBounds_toArray, List.set_cons_zero, List.set_cons_succ]
      refine st_to (v := (.pointer (some ⟨b2, 2, none⟩))) (some 13) rfl rfl (ex_fa (p := (.pointer (some ⟨b2, 0, none⟩))) rfl rfl (fa29_2 _ _)) ?_
      simp only [Act.put, List.setIfInBounds_toArray, List.set_cons_zero, List.set_cons_succ]
      refine st_to (v := (.slice ao n c)) (some 14) rfl rfl (ex_load (p := (.pointer (some ⟨b2, 2, none⟩))) rfl rfl (ld27 (at_cell k2 rfl))) ?_
      simp only [Act.put, List.setIfInBounds_toArray, List.set_cons_zero, List.set_cons_succ]
      refine st_to (v := (.int .i64 (n : Nat))) (some 15) rfl rfl (ex_len rfl rfl (len27 _ _ _ _ _)) ?_
      simp only [Act.put, List.setIfInBounds_toArray, List.set_cons_zero, List.set_cons_succ]
      refine st_to (v := (.bool true)) (some 16) rfl rfl (ex_bin (u := (.int .i64 (n : Nat))) (r := (.int .i64 32)) rfl rfl rfl (eg3 _ _ _ _ _ _) (gtr3 _ (decide_eq_true (by omega)))) ?_
      simp only [Act.put, List.setIfInBounds_toArray, List.set_cons_zero, List.set_cons_succ]
      refine st_to (v := (.bool true)) (some 17) rfl rfl (ex_pkF rfl rfl rfl) ?_
      simp only [Act.put, List.setIfInBounds_toArray, List.set_cons_zero, List.set_cons_succ]
      refine st_end ?_
      subst hQ
      refine wp_cond_true rfl ?_
      refine wp_seq ?_
      refine wl_in ?_
      refine wl_cap fun Q hQ => ?_
      refine st_to (v := (.bool false)) (some 4) rfl rfl (ex_asg rfl rfl) ?_
      simp only [Act.put, List.setIfInBounds_toArray, List.set_cons_zero, List.set_cons_succ]
      refine st_end ?_
      subst hQ
      refine wp_ret ?_
      repeat (first | refine ret_out ?_ | refine ret_blk ?_)
      refine bodyPost_ret (results_tmp Try.results15 _ _ _) rfl ⟨?_, E⟩
      show Ending.returned (.bool false) = _
      rw [show fitsB t x y n hv = false from by unfold fitsB; rw [c0, decide_eq_false c9]; rfl]
    have hM := mayT_sum c0
    have E : Below w.heap.size w w := Below.refl _ _
    go_enter Try.func15, Try.ntmps15
    refine wp_seq ?_
    refine wl_in ?_
    refine wl_cap fun Q hQ => ?_
    refine st_new (fun b => .pointer (some ⟨b, 0, none⟩)) (some 2) rfl rfl (ex_box rfl rfl) ?_
    intro b1 W1 k1 g1 B
    simp only [Act.put, List.setIfInBounds_toArray, List.set_cons_zero, List.set_cons_succ]
    have ge_b1 := Nat.le_trans E.size g1
    replace E := below_next E B
    clear B
    refine st_new (fun b => .pointer (some ⟨b, 0, none⟩)) (some 3) rfl rfl (ex_box rfl rfl) ?_
    intro b2 W2 k2 g2 B
    simp only [Act.put, List.setIfInBounds_toArray, List.set_cons_zero, List.set_cons_succ]
    have ne_b2_b1 : b2 ≠ b1 := fun e => by have := lt_of k1; omega
    have ge_b2 := Nat.le_trans E.size g2
    replace E := below_next E B
    replace k1 := keep B k1
    clear B
    refine st_to (v := (.bool false)) (some 4) rfl rfl (ex_asg rfl rfl) ?_
    simp only [Act.put, List.setIfInBounds_toArray, List.set_cons_zero, List.set_cons_succ]
    refine st_end ?_
    subst hQ
    refine wp_seq ?_
    refine wp_seq ?_
    refine wl_in ?_
    refine wl_cap fun Q hQ => ?_
    refine st_to (v := (.agg C)) (some 9) rfl rfl (ex_load (p := (.pointer (some ⟨b1, 0, none⟩))) rfl rfl (ld_all k1 Try.underlying26 rfl (inf26.trans (congrArg some (hT.size).symm)))) ?_
    simp only [Act.put, List.setIfInBounds_toArray, List.set_cons_zero, List.set_cons_succ]
    refine st_call (some 10) rfl rfl (rmay_any W2 hT hb c0) (ex_call (f := 13) (vs := [(.agg C)]) rfl (cf13 _) rfl) ?_
    rintro e W3 ⟨rfl, B⟩
    refine ⟨_, rfl, ?_⟩
    simp only [Act.put, List.setIfInBounds_toArray, List.set_cons_zero, List.set_cons_succ]
    replace E := below_next E B
    replace k1 := keep B k1
    replace k2 := keep B k2
    refine st_to (v := (.bool false)) (some 11) rfl rfl (ex_not rfl rfl rfl) ?_
    simp only [Act.put, List.setIfInBounds_toArray, List.set_cons_zero, List.set_cons_succ]
    refine st_to (v := (.bool false)) (some 12) rfl rfl (ex_mv rfl rfl) ?_
    simp only [Act.put, List.setIfInBounds_toArray, List.set_cons_zero, List.set_cons_succ]
    refine st_to (v := (.pointer (some ⟨b2, 2, none⟩))) (some 13) rfl rfl (ex_fa (p := (.pointer (some ⟨b2, 0, none⟩))) rfl rfl (fa29_2 _ _)) ?_
    simp only [Act.put, List.setIfInBounds_toArray, List.set_cons_zero, List.set_cons_succ]
    refine st_to (v := (.slice ao n c)) (some 14) rfl rfl (ex_load (p := (.pointer (some ⟨b2, 2, none⟩))) rfl rfl (ld27 (at_cell k2 rfl))) ?_
    simp only [Act.put, List.setIfInBounds_toArray, List.set_cons_zero, List.set_cons_succ]
    refine st_to (v := (.int .i64 (n : Nat))) (some 15) rfl rfl (ex_len rfl rfl (len27 _ _ _ _ _)) ?_
    simp only [Act.put, List.setIfInBounds_toArray, List.set_cons_zero, List.set_cons_succ]
    refine st_to (v := (.bool false)) (some 16) rfl rfl (ex_bin (u := (.int .i64 (n : Nat))) (r := (.int .i64 32)) rfl rfl rfl (eg3 _ _ _ _ _ _) (gtr3 _ (decide_eq_false (by omega)))) ?_
    simp only [Act.put, List.setIfInBounds_toArray, List.set_cons_zero, List.set_cons_succ]
    refine st_to (v := (.bool false)) (some 17) rfl rfl (ex_pkF rfl rfl rfl) ?_
    simp only [Act.put, List.setIfInBounds_toArray, List.set_cons_zero, List.set_cons_succ]
    refine st_end ?_
    subst hQ
    refine wp_cond_false rfl ?_
    refine wp_skip ?_
    refine wp_seq ?_
    refine wl_in ?_
    refine wl_cap fun Q hQ => ?_
    refine st_to (v := (.pointer (some ⟨b2, 0, none⟩))) (some 19) rfl rfl (ex_fa (p := (.pointer (some ⟨b2, 0, none⟩))) rfl rfl (fa29_0 _ _)) ?_
    simp only [Act.put, List.setIfInBounds_toArray, List.set_cons_zero, List.set_cons_succ]
    refine st_to (v := (.int .i64 x)) (some 20) rfl rfl (ex_load (p := (.pointer (some ⟨b2, 0, none⟩))) rfl rfl (ld3 (at_cell k2 rfl))) ?_
    simp only [Act.put, List.setIfInBounds_toArray, List.set_cons_zero, List.set_cons_succ]
    refine st_to (v := (.pointer (some ⟨b2, 1, none⟩))) (some 21) rfl rfl (ex_fa (p := (.pointer (some ⟨b2, 0, none⟩))) rfl rfl (fa29_1 _ _)) ?_
    simp only [Act.put, List.setIfInBounds_toArray, List.set_cons_zero, List.set_cons_succ]
    refine st_to (v := (.int .i64 y)) (some 22) rfl rfl (ex_load (p := (.pointer (some ⟨b2, 1, none⟩))) rfl rfl (ld3 (at_cell k2 rfl))) ?_
    simp only [Act.put, List.setIfInBounds_toArray, List.set_cons_zero, List.set_cons_succ]
    refine st_call (some 23) rfl rfl (radd_any W3 hx hy) (ex_call (f := 36) (vs := [(.int .i64 x), (.int .i64 y)]) rfl (cf36 _) rfl) ?_
    rintro e W4 ⟨m0, r0, rfl, hm0, B⟩
    refine ⟨_, rfl, ?_⟩
    simp only [Act.put, List.setIfInBounds_toArray, List.set_cons_zero, List.set_cons_succ]
    replace E := below_next E B
    replace k1 := keep B k1
    replace k2 := keep B k2
    refine st_to (v := (.tuple #[(.int .i64 m0), (.int .i64 r0)])) (some 18) rfl rfl (ex_mv rfl rfl) ?_
    simp only [Act.put, List.setIfInBounds_toArray, List.set_cons_zero, List.set_cons_succ]
    refine st_to (v := (.int .i64 m0)) (some 24) rfl rfl (ex_ext rfl rfl rfl) ?_
    simp only [Act.put, List.setIfInBounds_toArray, List.set_cons_zero, List.set_cons_succ]
    refine st_to (v := (.int .i64 r0)) (some 25) rfl rfl (ex_ext rfl rfl rfl) ?_
    simp only [Act.put, List.setIfInBounds_toArray, List.set_cons_zero, List.set_cons_succ]
    refine st_to (v := (.int .i64 m0)) (some 5) rfl rfl (ex_asg rfl rfl) ?_
    simp only [Act.put, List.setIfInBounds_toArray, List.set_cons_zero, List.set_cons_succ]
    refine st_to (v := (.int .i64 r0)) (some 6) rfl rfl (ex_asg rfl rfl) ?_
    simp only [Act.put, List.setIfInBounds_toArray, List.set_cons_zero, List.set_cons_succ]
    refine st_end ?_
    subst hQ
    refine wp_seq ?_
    refine wp_seq ?_
    refine wl_in ?_
    refine wl_cap fun Q hQ => ?_
    refine st_to (v := (.int .i64 0)) (some 7) rfl rfl (ex_asg rfl rfl) ?_
    simp only [Act.put, List.setIfInBounds_toArray, List.set_cons_zero, List.set_cons_succ]
    refine st_end ?_
    subst hQ
    refine wp_block ?_
    go_loopw [5, 6, 7] (fun v5 v6 v7 wr => ∃ (i : Nat) (s e : Int), i ≤ n ∧ v7 = .int .i64 i ∧ v5 = .int .i64 s ∧ v6 = .int .i64 e ∧ Below w.heap.size w wr ∧ wr.heap[b1]? = some (.cells C 26) ∧ wr.heap[b2]? = some (.cells #[.int .i64 x, .int .i64 y, .slice ao n c] 29) ∧ (∀ j, j < i → wrongB t (hv j) = false) ∧ (∀ j, j + 1 < i → belowB (hv j) (hv (j + 1)) = true) ∧ SS (zf x y hv) n i s e) (fun _ _ v7 _ => n - (intOf v7).toNat)
    case atStart => exact ⟨0, _, _, Nat.zero_le _, rfl, rfl, rfl, E, k1, k2, fun j hj => by omega, fun j hj => by omega, SS_first hm0⟩
    case round =>
      clear E k1 k2
      obtain ⟨i, s, e, hi, rfl, rfl, rfl, E, k1, k2, hW, hB, hS⟩ := hrel
      by_cases hlt : i < n
      · by_cases he : e = 0
        · subst he
          have hH1 := hH
          rcases hH with hh | ⟨b, p, rfl, hh⟩
          · omega
          have HC := hh i hlt
          obtain ⟨s0, s1⟩ := SS_le hS
          have ha := hz i hlt
          refine wp_seq ?_
          refine wp_seq ?_
          refine wl_in ?_
          refine wl_cap fun Q hQ => ?_
          refine st_to (v := (.int .i64 (i : Nat))) (some 26) rfl rfl (ex_mv rfl rfl) ?_
          simp only [Act.put, List.setIfInBounds_toArray, List.set_cons_zero, List.set_cons_succ]
          refine st_to (v := (.pointer (some ⟨b2, 2, none⟩))) (some 27) rfl rfl (ex_fa (p := (.pointer (some ⟨b2, 0, none⟩))) rfl rfl (fa29_2 _ _)) ?_
          simp only [Act.put, List.setIfInBounds_toArray, List.set_cons_zero, List.set_cons_succ]
          refine st_to (v := (.slice (some ⟨b, p, none⟩) n c)) (some 28) rfl rfl (ex_load (p := (.pointer (some ⟨b2, 2, none⟩))) rfl rfl (ld27 (at_cell k2 rfl))) ?_
          simp only [Act.put, List.setIfInBounds_toArray, List.set_cons_zero, List.set_cons_succ]
          refine st_to (v := (.int .i64 (n : Nat))) (some 29) rfl rfl (ex_len rfl rfl (len27 _ _ _ _ _)) ?_
          simp only [Act.put, List.setIfInBounds_toArray, List.set_cons_zero, List.set_cons_succ]
          refine st_to (v := (.bool true)) (some 30) rfl rfl (ex_bin (u := (.int .i64 (i : Nat))) (r := (.int .i64 (n : Nat))) rfl rfl rfl (eg3 _ _ _ _ _ _) (lss3 _ (decide_eq_true (by omega)))) ?_
          simp only [Act.put, List.setIfInBounds_toArray, List.set_cons_zero, List.set_cons_succ]
          refine st_to (v := (.bool true)) (some 31) rfl rfl (ex_mv rfl rfl) ?_
          simp only [Act.put, List.setIfInBounds_toArray, List.set_cons_zero, List.set_cons_succ]
          refine st_to (v := (.int .i64 0)) (some 32) rfl rfl (ex_mv rfl rfl) ?_
          simp only [Act.put, List.setIfInBounds_toArray, List.set_cons_zero, List.set_cons_succ]
          refine st_to (v := (.bool true)) (some 33) rfl rfl (ex_bin (u := (.int .i64 0)) (r := (.int .i64 0)) rfl rfl rfl (eg35 _ _ _ _ _ _) (eql35 _ (by decide))) ?_
          simp only [Act.put, List.setIfInBounds_toArray, List.set_cons_zero, List.set_cons_succ]
          refine st_to (v := (.bool true)) (some 34) rfl rfl (ex_pkT rfl rfl rfl) ?_
          simp only [Act.put, List.setIfInBounds_toArray, List.set_cons_zero, List.set_cons_succ]
          refine st_end ?_
          subst hQ
          refine wp_cond_true rfl ?_
          refine wp_skip ?_
          refine wp_seq ?_
          refine wp_block ?_
          refine wp_seq ?_
          refine wl_in ?_
          refine wl_cap fun Q hQ => ?_
          refine st_to (v := (.pointer (some ⟨b2, 2, none⟩))) (some 37) rfl rfl (ex_fa (p := (.pointer (some ⟨b2, 0, none⟩))) rfl rfl (fa29_2 _ _)) ?_
          simp only [Act.put, List.setIfInBounds_toArray, List.set_cons_zero, List.set_cons_succ]
          refine st_to (v := (.slice (some ⟨b, p, none⟩) n c)) (some 38) rfl rfl (ex_load (p := (.pointer (some ⟨b2, 2, none⟩))) rfl rfl (ld27 (at_cell k2 rfl))) ?_
          simp only [Act.put, List.setIfInBounds_toArray, List.set_cons_zero, List.set_cons_succ]
          refine st_to (v := (.int .i64 (i : Nat))) (some 39) rfl rfl (ex_mv rfl rfl) ?_
          simp only [Act.put, List.setIfInBounds_toArray, List.set_cons_zero, List.set_cons_succ]
          refine st_to (v := (.pointer (some ⟨b, (p + i * 36), none⟩))) (some 40) rfl rfl (ex_ix27 rfl rfl rfl hlt) ?_
          simp only [Act.put, List.setIfInBounds_toArray, List.set_cons_zero, List.set_cons_succ]
          refine st_to (v := (.agg (Cs i))) (some 41) rfl rfl (ex_load rfl rfl (ld_range (range_below HC.2 E) Try.underlying49 rfl (inf49.trans (congrArg some HC.1.size.symm)))) ?_
          simp only [Act.put, List.setIfInBounds_toArray, List.set_cons_zero, List.set_cons_succ]
          refine st_new (fun b => .pointer (some ⟨b, 0, none⟩)) (some 8) rfl rfl (ex_alloc rfl zero49) ?_
          intro b3 W5 k3 g3 B
          simp only [Act.put, List.setIfInBounds_toArray, List.set_cons_zero, List.set_cons_succ]
          have ne_b3_b1 : b3 ≠ b1 := fun e => by have := lt_of k1; omega
          have ne_b3_b2 : b3 ≠ b2 := fun e => by have := lt_of k2; omega
          have ge_b3 := Nat.le_trans E.size g3
          replace E := below_next E B
          replace k1 := keep B k1
          replace k2 := keep B k2
          clear B
          obtain ⟨W6, hst, kn, K⟩ := put_all (D := (Cs i)) k3 (((show ((#[.int .i64 0, .int .i64 0, .int .i64 0] ++ Z32 ++ #[.int .i64 0]) : Array Value).size = 36 from rfl)).trans (HC.1.size).symm) (inf49.trans (congrArg some (HC.1.size).symm)) HC.1.one
          refine st_sk rfl rfl (ex_store rfl rfl rfl hst) ?_
          replace E := below_put E ge_b3 K
          replace k1 := keepK K k1 (fun e => ne_tag k1 k3 (by decide) e)
          replace k2 := keepK K k2 (fun e => ne_tag k2 k3 (by decide) e)
          replace k3 := kn
          clear kn K hst
          refine st_end ?_
          subst hQ
          refine wp_seq ?_
          refine wp_seq ?_
          refine wl_in ?_
          refine wl_cap fun Q hQ => ?_
          suffices JOIN : ∀ (j42 j43 j44 j45 j46 j47 j48 j49 j50 j51 j52 j53 j54 j55 j56 j57 j58 j59 j60 j61 j62 j63 j64 j65 j66 j67 j68 j69 j70 j71 j72 j73 : Value) (nW : wrongB t (hv i) = false), Q .normal { tmps := #[(.agg C), (.agg #[.int .i64 x, .int .i64 y, .slice (some ⟨b, p, none⟩) n c]), (.pointer (some ⟨b1, 0, none⟩)), (.pointer (some ⟨b2, 0, none⟩)), u4, (.int .i64 s), (.int .i64 0), (.int .i64 (i : Nat)), (.pointer (some ⟨b3, 0, none⟩)), (.agg C), (.bool true), (.bool false), (.bool false), (.pointer (some ⟨b2, 2, none⟩)), (.slice (some ⟨b, p, none⟩) n c), (.int .i64 (n : Nat)), (.bool false), (.bool false), (.tuple #[(.int .i64 m0), (.int .i64 r0)]), (.pointer (some ⟨b2, 0, none⟩)), (.int .i64 x), (.pointer (some ⟨b2, 1, none⟩)), (.int .i64 y), (.tuple #[(.int .i64 m0), (.int .i64 r0)]), (.int .i64 m0), (.int .i64 r0), (.int .i64 (i : Nat)), (.pointer (some ⟨b2, 2, none⟩)), (.slice (some ⟨b, p, none⟩) n c), (.int .i64 (n : Nat)), (.bool true), (.bool true), (.int .i64 0), (.bool true), (.bool true), u35, u36, (.pointer (some ⟨b2, 2, none⟩)), (.slice (some ⟨b, p, none⟩) n c), (.int .i64 (i : Nat)), (.pointer (some ⟨b, (p + i * 36), none⟩)), (.agg (Cs i)), j42, j43, j44, j45, j46, j47, j48, j49, j50, j51, j52, j53, j54, j55, j56, j57, j58, j59, j60, j61, j62, j63, j64, j65, j66, j67, j68, j69, j70, j71, j72, j73, (.bool false), u75, u76, u77, u78, u79, u80, u81, u82, u83, u84, u85, u86, u87, u88, u89, u90, u91, u92, u93, u94, u95, u96, u97, u98, u99, u100, u101, u102, u103, u104, u105, u106, u107, u108, u109, u110, u111, u112, u113, u114, u115, u116, u117, u118, u119, undef, undef, undef, undef, undef, undef, undef, undef, undef, undef, undef], defers := [] } W6 by
            by_cases q1 : (hv i).by_ = t.a
            rotate_left
            · by_cases q1b : (hv i).by_ = t.b
              rotate_left
              · skip
                refine st_to (v := (.pointer (some ⟨b3, 0, none⟩))) (some 42) rfl rfl (ex_fa (p := (.pointer (some ⟨b3, 0, none⟩))) rfl rfl (fa49_0 _ _)) ?_
                simp only [Act.put, List.setIfInBounds_toArray, List.set_cons_zero, List.set_cons_succ]
                refine st_to (v := (.int .i64 (hv i).by_)) (some 43) rfl rfl (ex_load (p := (.pointer (some ⟨b3, 0, none⟩))) rfl rfl (ld3 (at_cell k3 HC.1.c0))) ?_
                simp only [Act.put, List.setIfInBounds_toArray, List.set_cons_zero, List.set_cons_succ]
                refine st_to (v := (.pointer (some ⟨b1, 1, none⟩))) (some 44) rfl rfl (ex_fa (p := (.pointer (some ⟨b1, 0, none⟩))) rfl rfl (fa26_1 _ _)) ?_
                simp only [Act.put, List.setIfInBounds_toArray, List.set_cons_zero, List.set_cons_succ]
                refine st_to (v := (.int .i64 t.a)) (some 45) rfl rfl (ex_load (p := (.pointer (some ⟨b1, 1, none⟩))) rfl rfl (ld3 (at_cell k1 hT.c1))) ?_
                simp only [Act.put, List.setIfInBounds_toArray, List.set_cons_zero, List.set_cons_succ]
                refine st_to (v := (.bool true)) (some 46) rfl rfl (ex_bin (u := (.int .i64 (hv i).by_)) (r := (.int .i64 t.a)) rfl rfl rfl (eg3 _ _ _ _ _ _) (neq3 _ (decide_eq_true q1))) ?_
                simp only [Act.put, List.setIfInBounds_toArray, List.set_cons_zero, List.set_cons_succ]
                refine st_to (v := (.bool true)) (some 47) rfl rfl (ex_mv rfl rfl) ?_
                simp only [Act.put, List.setIfInBounds_toArray, List.set_cons_zero, List.set_cons_succ]
                refine st_to (v := (.pointer (some ⟨b3, 0, none⟩))) (some 48) rfl rfl (ex_fa (p := (.pointer (some ⟨b3, 0, none⟩))) rfl rfl (fa49_0 _ _)) ?_
                simp only [Act.put, List.setIfInBounds_toArray, List.set_cons_zero, List.set_cons_succ]
                refine st_to (v := (.int .i64 (hv i).by_)) (some 49) rfl rfl (ex_load (p := (.pointer (some ⟨b3, 0, none⟩))) rfl rfl (ld3 (at_cell k3 HC.1.c0))) ?_
                simp only [Act.put, List.setIfInBounds_toArray, List.set_cons_zero, List.set_cons_succ]
                refine st_to (v := (.pointer (some ⟨b1, 2, none⟩))) (some 50) rfl rfl (ex_fa (p := (.pointer (some ⟨b1, 0, none⟩))) rfl rfl (fa26_2 _ _)) ?_
                simp only [Act.put, List.setIfInBounds_toArray, List.set_cons_zero, List.set_cons_succ]
                refine st_to (v := (.int .i64 t.b)) (some 51) rfl rfl (ex_load (p := (.pointer (some ⟨b1, 2, none⟩))) rfl rfl (ld3 (at_cell k1 hT.c2))) ?_
                simp only [Act.put, List.setIfInBounds_toArray, List.set_cons_zero, List.set_cons_succ]
                refine st_to (v := (.bool true)) (some 52) rfl rfl (ex_bin (u := (.int .i64 (hv i).by_)) (r := (.int .i64 t.b)) rfl rfl rfl (eg3 _ _ _ _ _ _) (neq3 _ (decide_eq_true q1b))) ?_
                simp only [Act.put, List.setIfInBounds_toArray, List.set_cons_zero, List.set_cons_succ]
                refine st_to (v := (.bool true)) (some 53) rfl rfl (ex_pkT rfl rfl rfl) ?_
                simp only [Act.put, List.setIfInBounds_toArray, List.set_cons_zero, List.set_cons_succ]
                refine st_to (v := (.bool true)) (some 54) rfl rfl (ex_mv rfl rfl) ?_
                simp only [Act.put, List.setIfInBounds_toArray, List.set_cons_zero, List.set_cons_succ]
                refine st_no (some 55) rfl rfl ?_
                simp only [Act.put, List.setIfInBounds_toArray, List.set_cons_zero, List.set_cons_succ]
                refine st_no (some 56) rfl rfl ?_
                simp only [Act.put, List.setIfInBounds_toArray, List.set_cons_zero, List.set_cons_succ]
                refine st_no (some 57) rfl rfl ?_
                simp only [Act.put, List.setIfInBounds_toArray, List.set_cons_zero, List.set_cons_succ]
                refine st_to (v := (.bool true)) (some 58) rfl rfl (ex_pkT rfl rfl rfl) ?_
                simp only [Act.put, List.setIfInBounds_toArray, List.set_cons_zero, List.set_cons_succ]
                refine st_to (v := (.bool true)) (some 59) rfl rfl (ex_mv rfl rfl) ?_
                simp only [Act.put, List.setIfInBounds_toArray, List.set_cons_zero, List.set_cons_succ]
                refine st_no (some 60) rfl rfl ?_
                simp only [Act.put, List.setIfInBounds_toArray, List.set_cons_zero, List.set_cons_succ]
                refine st_no (some 61) rfl rfl ?_
                simp only [Act.put, List.setIfInBounds_toArray, List.set_cons_zero, List.set_cons_succ]
                refine st_no (some 62) rfl rfl ?_
                simp only [Act.put, List.setIfInBounds_toArray, List.set_cons_zero, List.set_cons_succ]
                refine st_to (v := (.bool true)) (some 63) rfl rfl (ex_pkT rfl rfl rfl) ?_
                simp only [Act.put, List.setIfInBounds_toArray, List.set_cons_zero, List.set_cons_succ]
                refine st_to (v := (.bool true)) (some 64) rfl rfl (ex_mv rfl rfl) ?_
                simp only [Act.put, List.setIfInBounds_toArray, List.set_cons_zero, List.set_cons_succ]
                refine st_no (some 65) rfl rfl ?_
                simp only [Act.put, List.setIfInBounds_toArray, List.set_cons_zero, List.set_cons_succ]
                refine st_no (some 66) rfl rfl ?_
                simp only [Act.put, List.setIfInBounds_toArray, List.set_cons_zero, List.set_cons_succ]
                refine st_no (some 67) rfl rfl ?_
                simp only [Act.put, List.setIfInBounds_toArray, List.set_cons_zero, List.set_cons_succ]
                refine st_to (v := (.bool true)) (some 68) rfl rfl (ex_pkT rfl rfl rfl) ?_
                simp only [Act.put, List.setIfInBounds_toArray, List.set_cons_zero, List.set_cons_succ]
                refine st_to (v := (.bool true)) (some 69) rfl rfl (ex_mv rfl rfl) ?_
                simp only [Act.put, List.setIfInBounds_toArray, List.set_cons_zero, List.set_cons_succ]
                refine st_no (some 70) rfl rfl ?_
                simp only [Act.put, List.setIfInBounds_toArray, List.set_cons_zero, List.set_cons_succ]
                refine st_no (some 71) rfl rfl ?_
                simp only [Act.put, List.setIfInBounds_toArray, List.set_cons_zero, List.set_cons_succ]
                refine st_no (some 72) rfl rfl ?_
                simp only [Act.put, List.setIfInBounds_toArray, List.set_cons_zero, List.set_cons_succ]
                refine st_no (some 73) rfl rfl ?_
                simp only [Act.put, List.setIfInBounds_toArray, List.set_cons_zero, List.set_cons_succ]
                refine st_to (v := (.bool true)) (some 74) rfl rfl (ex_pkT rfl rfl rfl) ?_
                simp only [Act.put, List.setIfInBounds_toArray, List.set_cons_zero, List.set_cons_succ]
                refine st_end ?_
                subst hQ
                refine wp_cond_true rfl ?_
                refine wp_seq ?_
                refine wl_in ?_
                refine wl_cap fun Q hQ => ?_
                refine st_to (v := (.bool false)) (some 4) rfl rfl (ex_asg rfl rfl) ?_
                simp only [Act.put, List.setIfInBounds_toArray, List.set_cons_zero, List.set_cons_succ]
                refine st_end ?_
                subst hQ
                refine wp_ret ?_
                repeat (first | refine ret_out ?_ | refine ret_blk ?_)
                refine bodyPost_ret (results_tmp Try.results15 _ _ _) rfl ⟨?_, E⟩
                show Ending.returned (.bool false) = _
                rw [fits_hs (hs_wrong hlt (decide_eq_true (.inl (fun h => h.elim q1 q1b))))]
              by_cases q2 : (hv i).id < 0
              · skip
                refine st_to (v := (.pointer (some ⟨b3, 0, none⟩))) (some 42) rfl rfl (ex_fa (p := (.pointer (some ⟨b3, 0, none⟩))) rfl rfl (fa49_0 _ _)) ?_
                simp only [Act.put, List.setIfInBounds_toArray, List.set_cons_zero, List.set_cons_succ]
                refine st_to (v := (.int .i64 (hv i).by_)) (some 43) rfl rfl (ex_load (p := (.pointer (some ⟨b3, 0, none⟩))) rfl rfl (ld3 (at_cell k3 HC.1.c0))) ?_
                simp only [Act.put, List.setIfInBounds_toArray, List.set_cons_zero, List.set_cons_succ]
                refine st_to (v := (.pointer (some ⟨b1, 1, none⟩))) (some 44) rfl rfl (ex_fa (p := (.pointer (some ⟨b1, 0, none⟩))) rfl rfl (fa26_1 _ _)) ?_
                simp only [Act.put, List.setIfInBounds_toArray, List.set_cons_zero, List.set_cons_succ]
                refine st_to (v := (.int .i64 t.a)) (some 45) rfl rfl (ex_load (p := (.pointer (some ⟨b1, 1, none⟩))) rfl rfl (ld3 (at_cell k1 hT.c1))) ?_
                simp only [Act.put, List.setIfInBounds_toArray, List.set_cons_zero, List.set_cons_succ]
                refine st_to (v := (.bool true)) (some 46) rfl rfl (ex_bin (u := (.int .i64 (hv i).by_)) (r := (.int .i64 t.a)) rfl rfl rfl (eg3 _ _ _ _ _ _) (neq3 _ (decide_eq_true q1))) ?_
                simp only [Act.put, List.setIfInBounds_toArray, List.set_cons_zero, List.set_cons_succ]
                refine st_to (v := (.bool true)) (some 47) rfl rfl (ex_mv rfl rfl) ?_
                simp only [Act.put, List.setIfInBounds_toArray, List.set_cons_zero, List.set_cons_succ]
                refine st_to (v := (.pointer (some ⟨b3, 0, none⟩))) (some 48) rfl rfl (ex_fa (p := (.pointer (some ⟨b3, 0, none⟩))) rfl rfl (fa49_0 _ _)) ?_
                simp only [Act.put, List.setIfInBounds_toArray, List.set_cons_zero, List.set_cons_succ]
                refine st_to (v := (.int .i64 (hv i).by_)) (some 49) rfl rfl (ex_load (p := (.pointer (some ⟨b3, 0, none⟩))) rfl rfl (ld3 (at_cell k3 HC.1.c0))) ?_
                simp only [Act.put, List.setIfInBounds_toArray, List.set_cons_zero, List.set_cons_succ]
                refine st_to (v := (.pointer (some ⟨b1, 2, none⟩))) (some 50) rfl rfl (ex_fa (p := (.pointer (some ⟨b1, 0, none⟩))) rfl rfl (fa26_2 _ _)) ?_
                simp only [Act.put, List.setIfInBounds_toArray, List.set_cons_zero, List.set_cons_succ]
                refine st_to (v := (.int .i64 t.b)) (some 51) rfl rfl (ex_load (p := (.pointer (some ⟨b1, 2, none⟩))) rfl rfl (ld3 (at_cell k1 hT.c2))) ?_
                simp only [Act.put, List.setIfInBounds_toArray, List.set_cons_zero, List.set_cons_succ]
                refine st_to (v := (.bool false)) (some 52) rfl rfl (ex_bin (u := (.int .i64 (hv i).by_)) (r := (.int .i64 t.b)) rfl rfl rfl (eg3 _ _ _ _ _ _) (neq3 _ (decide_eq_false (fun e => e q1b)))) ?_
                simp only [Act.put, List.setIfInBounds_toArray, List.set_cons_zero, List.set_cons_succ]
                refine st_to (v := (.bool false)) (some 53) rfl rfl (ex_pkT rfl rfl rfl) ?_
                simp only [Act.put, List.setIfInBounds_toArray, List.set_cons_zero, List.set_cons_succ]
                refine st_to (v := (.bool false)) (some 54) rfl rfl (ex_mv rfl rfl) ?_
                simp only [Act.put, List.setIfInBounds_toArray, List.set_cons_zero, List.set_cons_succ]
                refine st_to (v := (.pointer (some ⟨b3, 1, none⟩))) (some 55) rfl rfl (ex_fa (p := (.pointer (some ⟨b3, 0, none⟩))) rfl rfl (fa49_1 _ _)) ?_
                simp only [Act.put, List.setIfInBounds_toArray, List.set_cons_zero, List.set_cons_succ]
                refine st_to (v := (.int .i64 (hv i).id)) (some 56) rfl rfl (ex_load (p := (.pointer (some ⟨b3, 1, none⟩))) rfl rfl (ld3 (at_cell k3 HC.1.c1))) ?_
                simp only [Act.put, List.setIfInBounds_toArray, List.set_cons_zero, List.set_cons_succ]
                refine st_to (v := (.bool true)) (some 57) rfl rfl (ex_bin (u := (.int .i64 (hv i).id)) (r := (.int .i64 0)) rfl rfl rfl (eg3 _ _ _ _ _ _) (lss3 _ (decide_eq_true q2))) ?_
                simp only [Act.put, List.setIfInBounds_toArray, List.set_cons_zero, List.set_cons_succ]
                refine st_to (v := (.bool true)) (some 58) rfl rfl (ex_pkF rfl rfl rfl) ?_
                simp only [Act.put, List.setIfInBounds_toArray, List.set_cons_zero, List.set_cons_succ]
                refine st_to (v := (.bool true)) (some 59) rfl rfl (ex_mv rfl rfl) ?_
                simp only [Act.put, List.setIfInBounds_toArray, List.set_cons_zero, List.set_cons_succ]
                refine st_no (some 60) rfl rfl ?_
                simp only [Act.put, List.setIfInBounds_toArray, List.set_cons_zero, List.set_cons_succ]
                refine st_no (some 61) rfl rfl ?_
                simp only [Act.put, List.setIfInBounds_toArray, List.set_cons_zero, List.set_cons_succ]
                refine st_no (some 62) rfl rfl ?_
                simp only [Act.put, List.setIfInBounds_toArray, List.set_cons_zero, List.set_cons_succ]
                refine st_to (v := (.bool true)) (some 63) rfl rfl (ex_pkT rfl rfl rfl) ?_
                simp only [Act.put, List.setIfInBounds_toArray, List.set_cons_zero, List.set_cons_succ]
                refine st_to (v := (.bool true)) (some 64) rfl rfl (ex_mv rfl rfl) ?_
                simp only [Act.put, List.setIfInBounds_toArray, List.set_cons_zero, List.set_cons_succ]
                refine st_no (some 65) rfl rfl ?_
                simp only [Act.put, List.setIfInBounds_toArray, List.set_cons_zero, List.set_cons_succ]
                refine st_no (some 66) rfl rfl ?_
                simp only [Act.put, List.setIfInBounds_toArray, List.set_cons_zero, List.set_cons_succ]
                refine st_no (some 67) rfl rfl ?_
                simp only [Act.put, List.setIfInBounds_toArray, List.set_cons_zero, List.set_cons_succ]
                refine st_to (v := (.bool true)) (some 68) rfl rfl (ex_pkT rfl rfl rfl) ?_
                simp only [Act.put, List.setIfInBounds_toArray, List.set_cons_zero, List.set_cons_succ]
                refine st_to (v := (.bool true)) (some 69) rfl rfl (ex_mv rfl rfl) ?_
                simp only [Act.put, List.setIfInBounds_toArray, List.set_cons_zero, List.set_cons_succ]
                refine st_no (some 70) rfl rfl ?_
                simp only [Act.put, List.setIfInBounds_toArray, List.set_cons_zero, List.set_cons_succ]
                refine st_no (some 71) rfl rfl ?_
                simp only [Act.put, List.setIfInBounds_toArray, List.set_cons_zero, List.set_cons_succ]
                refine st_no (some 72) rfl rfl ?_
                simp only [Act.put, List.setIfInBounds_toArray, List.set_cons_zero, List.set_cons_succ]
                refine st_no (some 73) rfl rfl ?_
                simp only [Act.put, List.setIfInBounds_toArray, List.set_cons_zero, List.set_cons_succ]
                refine st_to (v := (.bool true)) (some 74) rfl rfl (ex_pkT rfl rfl rfl) ?_
                simp only [Act.put, List.setIfInBounds_toArray, List.set_cons_zero, List.set_cons_succ]
                refine st_end ?_
                subst hQ
                refine wp_cond_true rfl ?_
                refine wp_seq ?_
                refine wl_in ?_
                refine wl_cap fun Q hQ => ?_
                refine st_to (v := (.bool false)) (some 4) rfl rfl (ex_asg rfl rfl) ?_
                simp only [Act.put, List.setIfInBounds_toArray, List.set_cons_zero, List.set_cons_succ]
                refine st_end ?_
                subst hQ
                refine wp_ret ?_
                repeat (first | refine ret_out ?_ | refine ret_blk ?_)
                refine bodyPost_ret (results_tmp Try.results15 _ _ _) rfl ⟨?_, E⟩
                show Ending.returned (.bool false) = _
                rw [fits_hs (hs_wrong hlt (decide_eq_true (.inr (.inl q2))))]
              by_cases q3 : (hv i).ex < 0
              · skip
                refine st_to (v := (.pointer (some ⟨b3, 0, none⟩))) (some 42) rfl rfl (ex_fa (p := (.pointer (some ⟨b3, 0, none⟩))) rfl rfl (fa49_0 _ _)) ?_
                simp only [Act.put, List.setIfInBounds_toArray, List.set_cons_zero, List.set_cons_succ]
                refine st_to (v := (.int .i64 (hv i).by_)) (some 43) rfl rfl (ex_load (p := (.pointer (some ⟨b3, 0, none⟩))) rfl rfl (ld3 (at_cell k3 HC.1.c0))) ?_
                simp only [Act.put, List.setIfInBounds_toArray, List.set_cons_zero, List.set_cons_succ]
                refine st_to (v := (.pointer (some ⟨b1, 1, none⟩))) (some 44) rfl rfl (ex_fa (p := (.pointer (some ⟨b1, 0, none⟩))) rfl rfl (fa26_1 _ _)) ?_
                simp only [Act.put, List.setIfInBounds_toArray, List.set_cons_zero, List.set_cons_succ]
                refine st_to (v := (.int .i64 t.a)) (some 45) rfl rfl (ex_load (p := (.pointer (some ⟨b1, 1, none⟩))) rfl rfl (ld3 (at_cell k1 hT.c1))) ?_
                simp only [Act.put, List.setIfInBounds_toArray, List.set_cons_zero, List.set_cons_succ]
                refine st_to (v := (.bool true)) (some 46) rfl rfl (ex_bin (u := (.int .i64 (hv i).by_)) (r := (.int .i64 t.a)) rfl rfl rfl (eg3 _ _ _ _ _ _) (neq3 _ (decide_eq_true q1))) ?_
                simp only [Act.put, List.setIfInBounds_toArray, List.set_cons_zero, List.set_cons_succ]
                refine st_to (v := (.bool true)) (some 47) rfl rfl (ex_mv rfl rfl) ?_
                simp only [Act.put, List.setIfInBounds_toArray, List.set_cons_zero, List.set_cons_succ]
                refine st_to (v := (.pointer (some ⟨b3, 0, none⟩))) (some 48) rfl rfl (ex_fa (p := (.pointer (some ⟨b3, 0, none⟩))) rfl rfl (fa49_0 _ _)) ?_
                simp only [Act.put, List.setIfInBounds_toArray, List.set_cons_zero, List.set_cons_succ]
                refine st_to (v := (.int .i64 (hv i).by_)) (some 49) rfl rfl (ex_load (p := (.pointer (some ⟨b3, 0, none⟩))) rfl rfl (ld3 (at_cell k3 HC.1.c0))) ?_
                simp only [Act.put, List.setIfInBounds_toArray, List.set_cons_zero, List.set_cons_succ]
                refine st_to (v := (.pointer (some ⟨b1, 2, none⟩))) (some 50) rfl rfl (ex_fa (p := (.pointer (some ⟨b1, 0, none⟩))) rfl rfl (fa26_2 _ _)) ?_
                simp only [Act.put, List.setIfInBounds_toArray, List.set_cons_zero, List.set_cons_succ]
                refine st_to (v := (.int .i64 t.b)) (some 51) rfl rfl (ex_load (p := (.pointer (some ⟨b1, 2, none⟩))) rfl rfl (ld3 (at_cell k1 hT.c2))) ?_
                simp only [Act.put, List.setIfInBounds_toArray, List.set_cons_zero, List.set_cons_succ]
                refine st_to (v := (.bool false)) (some 52) rfl rfl (ex_bin (u := (.int .i64 (hv i).by_)) (r := (.int .i64 t.b)) rfl rfl rfl (eg3 _ _ _ _ _ _) (neq3 _ (decide_eq_false (fun e => e q1b)))) ?_
                simp only [Act.put, List.setIfInBounds_toArray, List.set_cons_zero, List.set_cons_succ]
                refine st_to (v := (.bool false)) (some 53) rfl rfl (ex_pkT rfl rfl rfl) ?_
                simp only [Act.put, List.setIfInBounds_toArray, List.set_cons_zero, List.set_cons_succ]
                refine st_to (v := (.bool false)) (some 54) rfl rfl (ex_mv rfl rfl) ?_
                simp only [Act.put, List.setIfInBounds_toArray, List.set_cons_zero, List.set_cons_succ]
                refine st_to (v := (.pointer (some ⟨b3, 1, none⟩))) (some 55) rfl rfl (ex_fa (p := (.pointer (some ⟨b3, 0, none⟩))) rfl rfl (fa49_1 _ _)) ?_
                simp only [Act.put, List.setIfInBounds_toArray, List.set_cons_zero, List.set_cons_succ]
                refine st_to (v := (.int .i64 (hv i).id)) (some 56) rfl rfl (ex_load (p := (.pointer (some ⟨b3, 1, none⟩))) rfl rfl (ld3 (at_cell k3 HC.1.c1))) ?_
                simp only [Act.put, List.setIfInBounds_toArray, List.set_cons_zero, List.set_cons_succ]
                refine st_to (v := (.bool false)) (some 57) rfl rfl (ex_bin (u := (.int .i64 (hv i).id)) (r := (.int .i64 0)) rfl rfl rfl (eg3 _ _ _ _ _ _) (lss3 _ (decide_eq_false q2))) ?_
                simp only [Act.put, List.setIfInBounds_toArray, List.set_cons_zero, List.set_cons_succ]
                refine st_to (v := (.bool false)) (some 58) rfl rfl (ex_pkF rfl rfl rfl) ?_
                simp only [Act.put, List.setIfInBounds_toArray, List.set_cons_zero, List.set_cons_succ]
                refine st_to (v := (.bool false)) (some 59) rfl rfl (ex_mv rfl rfl) ?_
                simp only [Act.put, List.setIfInBounds_toArray, List.set_cons_zero, List.set_cons_succ]
                refine st_to (v := (.pointer (some ⟨b3, 35, none⟩))) (some 60) rfl rfl (ex_fa (p := (.pointer (some ⟨b3, 0, none⟩))) rfl rfl (fa49_4 _ _)) ?_
                simp only [Act.put, List.setIfInBounds_toArray, List.set_cons_zero, List.set_cons_succ]
                refine st_to (v := (.int .i64 (hv i).ex)) (some 61) rfl rfl (ex_load (p := (.pointer (some ⟨b3, 35, none⟩))) rfl rfl (ld3 (at_cell k3 HC.1.c35))) ?_
                simp only [Act.put, List.setIfInBounds_toArray, List.set_cons_zero, List.set_cons_succ]
                refine st_to (v := (.bool true)) (some 62) rfl rfl (ex_bin (u := (.int .i64 (hv i).ex)) (r := (.int .i64 0)) rfl rfl rfl (eg3 _ _ _ _ _ _) (lss3 _ (decide_eq_true q3))) ?_
                simp only [Act.put, List.setIfInBounds_toArray, List.set_cons_zero, List.set_cons_succ]
                refine st_to (v := (.bool true)) (some 63) rfl rfl (ex_pkF rfl rfl rfl) ?_
                simp only [Act.put, List.setIfInBounds_toArray, List.set_cons_zero, List.set_cons_succ]
                refine st_to (v := (.bool true)) (some 64) rfl rfl (ex_mv rfl rfl) ?_
                simp only [Act.put, List.setIfInBounds_toArray, List.set_cons_zero, List.set_cons_succ]
                refine st_no (some 65) rfl rfl ?_
                simp only [Act.put, List.setIfInBounds_toArray, List.set_cons_zero, List.set_cons_succ]
                refine st_no (some 66) rfl rfl ?_
                simp only [Act.put, List.setIfInBounds_toArray, List.set_cons_zero, List.set_cons_succ]
                refine st_no (some 67) rfl rfl ?_
                simp only [Act.put, List.setIfInBounds_toArray, List.set_cons_zero, List.set_cons_succ]
                refine st_to (v := (.bool true)) (some 68) rfl rfl (ex_pkT rfl rfl rfl) ?_
                simp only [Act.put, List.setIfInBounds_toArray, List.set_cons_zero, List.set_cons_succ]
                refine st_to (v := (.bool true)) (some 69) rfl rfl (ex_mv rfl rfl) ?_
                simp only [Act.put, List.setIfInBounds_toArray, List.set_cons_zero, List.set_cons_succ]
                refine st_no (some 70) rfl rfl ?_
                simp only [Act.put, List.setIfInBounds_toArray, List.set_cons_zero, List.set_cons_succ]
                refine st_no (some 71) rfl rfl ?_
                simp only [Act.put, List.setIfInBounds_toArray, List.set_cons_zero, List.set_cons_succ]
                refine st_no (some 72) rfl rfl ?_
                simp only [Act.put, List.setIfInBounds_toArray, List.set_cons_zero, List.set_cons_succ]
                refine st_no (some 73) rfl rfl ?_
                simp only [Act.put, List.setIfInBounds_toArray, List.set_cons_zero, List.set_cons_succ]
                refine st_to (v := (.bool true)) (some 74) rfl rfl (ex_pkT rfl rfl rfl) ?_
                simp only [Act.put, List.setIfInBounds_toArray, List.set_cons_zero, List.set_cons_succ]
                refine st_end ?_
                subst hQ
                refine wp_cond_true rfl ?_
                refine wp_seq ?_
                refine wl_in ?_
                refine wl_cap fun Q hQ => ?_
                refine st_to (v := (.bool false)) (some 4) rfl rfl (ex_asg rfl rfl) ?_
                simp only [Act.put, List.setIfInBounds_toArray, List.set_cons_zero, List.set_cons_succ]
                refine st_end ?_
                subst hQ
                refine wp_ret ?_
                repeat (first | refine ret_out ?_ | refine ret_blk ?_)
                refine bodyPost_ret (results_tmp Try.results15 _ _ _) rfl ⟨?_, E⟩
                show Ending.returned (.bool false) = _
                rw [fits_hs (hs_wrong hlt (decide_eq_true (.inr (.inr (.inl q3)))))]
              by_cases q4 : 2147483647 < (hv i).ex
              · skip
                refine st_to (v := (.pointer (some ⟨b3, 0, none⟩))) (some 42) rfl rfl (ex_fa (p := (.pointer (some ⟨b3, 0, none⟩))) rfl rfl (fa49_0 _ _)) ?_
                simp only [Act.put, List.setIfInBounds_toArray, List.set_cons_zero, List.set_cons_succ]
                refine st_to (v := (.int .i64 (hv i).by_)) (some 43) rfl rfl (ex_load (p := (.pointer (some ⟨b3, 0, none⟩))) rfl rfl (ld3 (at_cell k3 HC.1.c0))) ?_
                simp only [Act.put, List.setIfInBounds_toArray, List.set_cons_zero, List.set_cons_succ]
                refine st_to (v := (.pointer (some ⟨b1, 1, none⟩))) (some 44) rfl rfl (ex_fa (p := (.pointer (some ⟨b1, 0, none⟩))) rfl rfl (fa26_1 _ _)) ?_
                simp only [Act.put, List.setIfInBounds_toArray, List.set_cons_zero, List.set_cons_succ]
                refine st_to (v := (.int .i64 t.a)) (some 45) rfl rfl (ex_load (p := (.pointer (some ⟨b1, 1, none⟩))) rfl rfl (ld3 (at_cell k1 hT.c1))) ?_
                simp only [Act.put, List.setIfInBounds_toArray, List.set_cons_zero, List.set_cons_succ]
                refine st_to (v := (.bool true)) (some 46) rfl rfl (ex_bin (u := (.int .i64 (hv i).by_)) (r := (.int .i64 t.a)) rfl rfl rfl (eg3 _ _ _ _ _ _) (neq3 _ (decide_eq_true q1))) ?_
                simp only [Act.put, List.setIfInBounds_toArray, List.set_cons_zero, List.set_cons_succ]
                refine st_to (v := (.bool true)) (some 47) rfl rfl (ex_mv rfl rfl) ?_
                simp only [Act.put, List.setIfInBounds_toArray, List.set_cons_zero, List.set_cons_succ]
                refine st_to (v := (.pointer (some ⟨b3, 0, none⟩))) (some 48) rfl rfl (ex_fa (p := (.pointer (some ⟨b3, 0, none⟩))) rfl rfl (fa49_0 _ _)) ?_
                simp only [Act.put, List.setIfInBounds_toArray, List.set_cons_zero, List.set_cons_succ]
                refine st_to (v := (.int .i64 (hv i).by_)) (some 49) rfl rfl (ex_load (p := (.pointer (some ⟨b3, 0, none⟩))) rfl rfl (ld3 (at_cell k3 HC.1.c0))) ?_
                simp only [Act.put, List.setIfInBounds_toArray, List.set_cons_zero, List.set_cons_succ]
                refine st_to (v := (.pointer (some ⟨b1, 2, none⟩))) (some 50) rfl rfl (ex_fa (p := (.pointer (some ⟨b1, 0, none⟩))) rfl rfl (fa26_2 _ _)) ?_
                simp only [Act.put, List.setIfInBounds_toArray, List.set_cons_zero, List.set_cons_succ]
                refine st_to (v := (.int .i64 t.b)) (some 51) rfl rfl (ex_load (p := (.pointer (some ⟨b1, 2, none⟩))) rfl rfl (ld3 (at_cell k1 hT.c2))) ?_
                simp only [Act.put, List.setIfInBounds_toArray, List.set_cons_zero, List.set_cons_succ]
                refine st_to (v := (.bool false)) (some 52) rfl rfl (ex_bin (u := (.int .i64 (hv i).by_)) (r := (.int .i64 t.b)) rfl rfl rfl (eg3 _ _ _ _ _ _) (neq3 _ (decide_eq_false (fun e => e q1b)))) ?_
                simp only [Act.put, List.setIfInBounds_toArray, List.set_cons_zero, List.set_cons_succ]
                refine st_to (v := (.bool false)) (some 53) rfl rfl (ex_pkT rfl rfl rfl) ?_
                simp only [Act.put, List.setIfInBounds_toArray, List.set_cons_zero, List.set_cons_succ]
                refine st_to (v := (.bool false)) (some 54) rfl rfl (ex_mv rfl rfl) ?_
                simp only [Act.put, List.setIfInBounds_toArray, List.set_cons_zero, List.set_cons_succ]
                refine st_to (v := (.pointer (some ⟨b3, 1, none⟩))) (some 55) rfl rfl (ex_fa (p := (.pointer (some ⟨b3, 0, none⟩))) rfl rfl (fa49_1 _ _)) ?_
                simp only [Act.put, List.setIfInBounds_toArray, List.set_cons_zero, List.set_cons_succ]
                refine st_to (v := (.int .i64 (hv i).id)) (some 56) rfl rfl (ex_load (p := (.pointer (some ⟨b3, 1, none⟩))) rfl rfl (ld3 (at_cell k3 HC.1.c1))) ?_
                simp only [Act.put, List.setIfInBounds_toArray, List.set_cons_zero, List.set_cons_succ]
                refine st_to (v := (.bool false)) (some 57) rfl rfl (ex_bin (u := (.int .i64 (hv i).id)) (r := (.int .i64 0)) rfl rfl rfl (eg3 _ _ _ _ _ _) (lss3 _ (decide_eq_false q2))) ?_
                simp only [Act.put, List.setIfInBounds_toArray, List.set_cons_zero, List.set_cons_succ]
                refine st_to (v := (.bool false)) (some 58) rfl rfl (ex_pkF rfl rfl rfl) ?_
                simp only [Act.put, List.setIfInBounds_toArray, List.set_cons_zero, List.set_cons_succ]
                refine st_to (v := (.bool false)) (some 59) rfl rfl (ex_mv rfl rfl) ?_
                simp only [Act.put, List.setIfInBounds_toArray, List.set_cons_zero, List.set_cons_succ]
                refine st_to (v := (.pointer (some ⟨b3, 35, none⟩))) (some 60) rfl rfl (ex_fa (p := (.pointer (some ⟨b3, 0, none⟩))) rfl rfl (fa49_4 _ _)) ?_
                simp only [Act.put, List.setIfInBounds_toArray, List.set_cons_zero, List.set_cons_succ]
                refine st_to (v := (.int .i64 (hv i).ex)) (some 61) rfl rfl (ex_load (p := (.pointer (some ⟨b3, 35, none⟩))) rfl rfl (ld3 (at_cell k3 HC.1.c35))) ?_
                simp only [Act.put, List.setIfInBounds_toArray, List.set_cons_zero, List.set_cons_succ]
                refine st_to (v := (.bool false)) (some 62) rfl rfl (ex_bin (u := (.int .i64 (hv i).ex)) (r := (.int .i64 0)) rfl rfl rfl (eg3 _ _ _ _ _ _) (lss3 _ (decide_eq_false q3))) ?_
                simp only [Act.put, List.setIfInBounds_toArray, List.set_cons_zero, List.set_cons_succ]
                refine st_to (v := (.bool false)) (some 63) rfl rfl (ex_pkF rfl rfl rfl) ?_
                simp only [Act.put, List.setIfInBounds_toArray, List.set_cons_zero, List.set_cons_succ]
                refine st_to (v := (.bool false)) (some 64) rfl rfl (ex_mv rfl rfl) ?_
                simp only [Act.put, List.setIfInBounds_toArray, List.set_cons_zero, List.set_cons_succ]
                refine st_to (v := (.pointer (some ⟨b3, 35, none⟩))) (some 65) rfl rfl (ex_fa (p := (.pointer (some ⟨b3, 0, none⟩))) rfl rfl (fa49_4 _ _)) ?_
                simp only [Act.put, List.setIfInBounds_toArray, List.set_cons_zero, List.set_cons_succ]
                refine st_to (v := (.int .i64 (hv i).ex)) (some 66) rfl rfl (ex_load (p := (.pointer (some ⟨b3, 35, none⟩))) rfl rfl (ld3 (at_cell k3 HC.1.c35))) ?_
                simp only [Act.put, List.setIfInBounds_toArray, List.set_cons_zero, List.set_cons_succ]
                refine st_to (v := (.bool true)) (some 67) rfl rfl (ex_bin (u := (.int .i64 (hv i).ex)) (r := (.int .i64 2147483647)) rfl rfl rfl (eg3 _ _ _ _ _ _) (gtr3 _ (decide_eq_true q4))) ?_
                simp only [Act.put, List.setIfInBounds_toArray, List.set_cons_zero, List.set_cons_succ]
                refine st_to (v := (.bool true)) (some 68) rfl rfl (ex_pkF rfl rfl rfl) ?_
                simp only [Act.put, List.setIfInBounds_toArray, List.set_cons_zero, List.set_cons_succ]
                refine st_to (v := (.bool true)) (some 69) rfl rfl (ex_mv rfl rfl) ?_
                simp only [Act.put, List.setIfInBounds_toArray, List.set_cons_zero, List.set_cons_succ]
                refine st_no (some 70) rfl rfl ?_
                simp only [Act.put, List.setIfInBounds_toArray, List.set_cons_zero, List.set_cons_succ]
                refine st_no (some 71) rfl rfl ?_
                simp only [Act.put, List.setIfInBounds_toArray, List.set_cons_zero, List.set_cons_succ]
                refine st_no (some 72) rfl rfl ?_
                simp only [Act.put, List.setIfInBounds_toArray, List.set_cons_zero, List.set_cons_succ]
                refine st_no (some 73) rfl rfl ?_
                simp only [Act.put, List.setIfInBounds_toArray, List.set_cons_zero, List.set_cons_succ]
                refine st_to (v := (.bool true)) (some 74) rfl rfl (ex_pkT rfl rfl rfl) ?_
                simp only [Act.put, List.setIfInBounds_toArray, List.set_cons_zero, List.set_cons_succ]
                refine st_end ?_
                subst hQ
                refine wp_cond_true rfl ?_
                refine wp_seq ?_
                refine wl_in ?_
                refine wl_cap fun Q hQ => ?_
                refine st_to (v := (.bool false)) (some 4) rfl rfl (ex_asg rfl rfl) ?_
                simp only [Act.put, List.setIfInBounds_toArray, List.set_cons_zero, List.set_cons_succ]
                refine st_end ?_
                subst hQ
                refine wp_ret ?_
                repeat (first | refine ret_out ?_ | refine ret_blk ?_)
                refine bodyPost_ret (results_tmp Try.results15 _ _ _) rfl ⟨?_, E⟩
                show Ending.returned (.bool false) = _
                rw [fits_hs (hs_wrong hlt (decide_eq_true (.inr (.inr (.inr (.inl q4))))))]
              by_cases q5 : (hv i).hl = ZL
              · skip
                refine st_to (v := (.pointer (some ⟨b3, 0, none⟩))) (some 42) rfl rfl (ex_fa (p := (.pointer (some ⟨b3, 0, none⟩))) rfl rfl (fa49_0 _ _)) ?_
                simp only [Act.put, List.setIfInBounds_toArray, List.set_cons_zero, List.set_cons_succ]
                refine st_to (v := (.int .i64 (hv i).by_)) (some 43) rfl rfl (ex_load (p := (.pointer (some ⟨b3, 0, none⟩))) rfl rfl (ld3 (at_cell k3 HC.1.c0))) ?_
                simp only [Act.put, List.setIfInBounds_toArray, List.set_cons_zero, List.set_cons_succ]
                refine st_to (v := (.pointer (some ⟨b1, 1, none⟩))) (some 44) rfl rfl (ex_fa (p := (.pointer (some ⟨b1, 0, none⟩))) rfl rfl (fa26_1 _ _)) ?_
                simp only [Act.put, List.setIfInBounds_toArray, List.set_cons_zero, List.set_cons_succ]
                refine st_to (v := (.int .i64 t.a)) (some 45) rfl rfl (ex_load (p := (.pointer (some ⟨b1, 1, none⟩))) rfl rfl (ld3 (at_cell k1 hT.c1))) ?_
                simp only [Act.put, List.setIfInBounds_toArray, List.set_cons_zero, List.set_cons_succ]
                refine st_to (v := (.bool true)) (some 46) rfl rfl (ex_bin (u := (.int .i64 (hv i).by_)) (r := (.int .i64 t.a)) rfl rfl rfl (eg3 _ _ _ _ _ _) (neq3 _ (decide_eq_true q1))) ?_
                simp only [Act.put, List.setIfInBounds_toArray, List.set_cons_zero, List.set_cons_succ]
                refine st_to (v := (.bool true)) (some 47) rfl rfl (ex_mv rfl rfl) ?_
                simp only [Act.put, List.setIfInBounds_toArray, List.set_cons_zero, List.set_cons_succ]
                refine st_to (v := (.pointer (some ⟨b3, 0, none⟩))) (some 48) rfl rfl (ex_fa (p := (.pointer (some ⟨b3, 0, none⟩))) rfl rfl (fa49_0 _ _)) ?_
                simp only [Act.put, List.setIfInBounds_toArray, List.set_cons_zero, List.set_cons_succ]
                refine st_to (v := (.int .i64 (hv i).by_)) (some 49) rfl rfl (ex_load (p := (.pointer (some ⟨b3, 0, none⟩))) rfl rfl (ld3 (at_cell k3 HC.1.c0))) ?_
                simp only [Act.put, List.setIfInBounds_toArray, List.set_cons_zero, List.set_cons_succ]
                refine st_to (v := (.pointer (some ⟨b1, 2, none⟩))) (some 50) rfl rfl (ex_fa (p := (.pointer (some ⟨b1, 0, none⟩))) rfl rfl (fa26_2 _ _)) ?_
                simp only [Act.put, List.setIfInBounds_toArray, List.set_cons_zero, List.set_cons_succ]
                refine st_to (v := (.int .i64 t.b)) (some 51) rfl rfl (ex_load (p := (.pointer (some ⟨b1, 2, none⟩))) rfl rfl (ld3 (at_cell k1 hT.c2))) ?_
                simp only [Act.put, List.setIfInBounds_toArray, List.set_cons_zero, List.set_cons_succ]
                refine st_to (v := (.bool false)) (some 52) rfl rfl (ex_bin (u := (.int .i64 (hv i).by_)) (r := (.int .i64 t.b)) rfl rfl rfl (eg3 _ _ _ _ _ _) (neq3 _ (decide_eq_false (fun e => e q1b)))) ?_
                simp only [Act.put, List.setIfInBounds_toArray, List.set_cons_zero, List.set_cons_succ]
                refine st_to (v := (.bool false)) (some 53) rfl rfl (ex_pkT rfl rfl rfl) ?_
                simp only [Act.put, List.setIfInBounds_toArray, List.set_cons_zero, List.set_cons_succ]
                refine st_to (v := (.bool false)) (some 54) rfl rfl (ex_mv rfl rfl) ?_
                simp only [Act.put, List.setIfInBounds_toArray, List.set_cons_zero, List.set_cons_succ]
                refine st_to (v := (.pointer (some ⟨b3, 1, none⟩))) (some 55) rfl rfl (ex_fa (p := (.pointer (some ⟨b3, 0, none⟩))) rfl rfl (fa49_1 _ _)) ?_
                simp only [Act.put, List.setIfInBounds_toArray, List.set_cons_zero, List.set_cons_succ]
                refine st_to (v := (.int .i64 (hv i).id)) (some 56) rfl rfl (ex_load (p := (.pointer (some ⟨b3, 1, none⟩))) rfl rfl (ld3 (at_cell k3 HC.1.c1))) ?_
                simp only [Act.put, List.setIfInBounds_toArray, List.set_cons_zero, List.set_cons_succ]
                refine st_to (v := (.bool false)) (some 57) rfl rfl (ex_bin (u := (.int .i64 (hv i).id)) (r := (.int .i64 0)) rfl rfl rfl (eg3 _ _ _ _ _ _) (lss3 _ (decide_eq_false q2))) ?_
                simp only [Act.put, List.setIfInBounds_toArray, List.set_cons_zero, List.set_cons_succ]
                refine st_to (v := (.bool false)) (some 58) rfl rfl (ex_pkF rfl rfl rfl) ?_
                simp only [Act.put, List.setIfInBounds_toArray, List.set_cons_zero, List.set_cons_succ]
                refine st_to (v := (.bool false)) (some 59) rfl rfl (ex_mv rfl rfl) ?_
                simp only [Act.put, List.setIfInBounds_toArray, List.set_cons_zero, List.set_cons_succ]
                refine st_to (v := (.pointer (some ⟨b3, 35, none⟩))) (some 60) rfl rfl (ex_fa (p := (.pointer (some ⟨b3, 0, none⟩))) rfl rfl (fa49_4 _ _)) ?_
                simp only [Act.put, List.setIfInBounds_toArray, List.set_cons_zero, List.set_cons_succ]
                refine st_to (v := (.int .i64 (hv i).ex)) (some 61) rfl rfl (ex_load (p := (.pointer (some ⟨b3, 35, none⟩))) rfl rfl (ld3 (at_cell k3 HC.1.c35))) ?_
                simp only [Act.put, List.setIfInBounds_toArray, List.set_cons_zero, List.set_cons_succ]
                refine st_to (v := (.bool false)) (some 62) rfl rfl (ex_bin (u := (.int .i64 (hv i).ex)) (r := (.int .i64 0)) rfl rfl rfl (eg3 _ _ _ _ _ _) (lss3 _ (decide_eq_false q3))) ?_
                simp only [Act.put, List.setIfInBounds_toArray, List.set_cons_zero, List.set_cons_succ]
                refine st_to (v := (.bool false)) (some 63) rfl rfl (ex_pkF rfl rfl rfl) ?_
                simp only [Act.put, List.setIfInBounds_toArray, List.set_cons_zero, List.set_cons_succ]
                refine st_to (v := (.bool false)) (some 64) rfl rfl (ex_mv rfl rfl) ?_
                simp only [Act.put, List.setIfInBounds_toArray, List.set_cons_zero, List.set_cons_succ]
                refine st_to (v := (.pointer (some ⟨b3, 35, none⟩))) (some 65) rfl rfl (ex_fa (p := (.pointer (some ⟨b3, 0, none⟩))) rfl rfl (fa49_4 _ _)) ?_
                simp only [Act.put, List.setIfInBounds_toArray, List.set_cons_zero, List.set_cons_succ]
                refine st_to (v := (.int .i64 (hv i).ex)) (some 66) rfl rfl (ex_load (p := (.pointer (some ⟨b3, 35, none⟩))) rfl rfl (ld3 (at_cell k3 HC.1.c35))) ?_
                simp only [Act.put, List.setIfInBounds_toArray, List.set_cons_zero, List.set_cons_succ]
                refine st_to (v := (.bool false)) (some 67) rfl rfl (ex_bin (u := (.int .i64 (hv i).ex)) (r := (.int .i64 2147483647)) rfl rfl rfl (eg3 _ _ _ _ _ _) (gtr3 _ (decide_eq_false q4))) ?_
                simp only [Act.put, List.setIfInBounds_toArray, List.set_cons_zero, List.set_cons_succ]
                refine st_to (v := (.bool false)) (some 68) rfl rfl (ex_pkF rfl rfl rfl) ?_
                simp only [Act.put, List.setIfInBounds_toArray, List.set_cons_zero, List.set_cons_succ]
                refine st_to (v := (.bool false)) (some 69) rfl rfl (ex_mv rfl rfl) ?_
                simp only [Act.put, List.setIfInBounds_toArray, List.set_cons_zero, List.set_cons_succ]
                refine st_to (v := (.pointer (some ⟨b3, 3, none⟩))) (some 70) rfl rfl (ex_fa (p := (.pointer (some ⟨b3, 0, none⟩))) rfl rfl (fa49_3 _ _)) ?_
                simp only [Act.put, List.setIfInBounds_toArray, List.set_cons_zero, List.set_cons_succ]
                refine st_to (v := (.agg (hv i).hash)) (some 71) rfl rfl (ex_load (p := (.pointer (some ⟨b3, 3, none⟩))) rfl rfl (HC.1.ldp k3)) ?_
                simp only [Act.put, List.setIfInBounds_toArray, List.set_cons_zero, List.set_cons_succ]
                refine st_to (v := (.agg Z32)) (some 72) rfl rfl (ex_build0  rfl (b22 _)) ?_
                simp only [Act.put, List.setIfInBounds_toArray, List.set_cons_zero, List.set_cons_succ]
                refine st_to (v := (.bool true)) (some 73) rfl rfl (ex_bin rfl rfl rfl (eg22 _ _ _ _ _) (eqZh _ HC.1.len (decide_eq_true q5))) ?_
                simp only [Act.put, List.setIfInBounds_toArray, List.set_cons_zero, List.set_cons_succ]
                refine st_to (v := (.bool true)) (some 74) rfl rfl (ex_pkF rfl rfl rfl) ?_
                simp only [Act.put, List.setIfInBounds_toArray, List.set_cons_zero, List.set_cons_succ]
                refine st_end ?_
                subst hQ
                refine wp_cond_true rfl ?_
                refine wp_seq ?_
                refine wl_in ?_
                refine wl_cap fun Q hQ => ?_
                refine st_to (v := (.bool false)) (some 4) rfl rfl (ex_asg rfl rfl) ?_
                simp only [Act.put, List.setIfInBounds_toArray, List.set_cons_zero, List.set_cons_succ]
                refine st_end ?_
                subst hQ
                refine wp_ret ?_
                repeat (first | refine ret_out ?_ | refine ret_blk ?_)
                refine bodyPost_ret (results_tmp Try.results15 _ _ _) rfl ⟨?_, E⟩
                show Ending.returned (.bool false) = _
                rw [fits_hs (hs_wrong hlt (decide_eq_true (.inr (.inr (.inr (.inr q5))))))]
              refine st_to (v := (.pointer (some ⟨b3, 0, none⟩))) (some 42) rfl rfl (ex_fa (p := (.pointer (some ⟨b3, 0, none⟩))) rfl rfl (fa49_0 _ _)) ?_
              simp only [Act.put, List.setIfInBounds_toArray, List.set_cons_zero, List.set_cons_succ]
              refine st_to (v := (.int .i64 (hv i).by_)) (some 43) rfl rfl (ex_load (p := (.pointer (some ⟨b3, 0, none⟩))) rfl rfl (ld3 (at_cell k3 HC.1.c0))) ?_
              simp only [Act.put, List.setIfInBounds_toArray, List.set_cons_zero, List.set_cons_succ]
              refine st_to (v := (.pointer (some ⟨b1, 1, none⟩))) (some 44) rfl rfl (ex_fa (p := (.pointer (some ⟨b1, 0, none⟩))) rfl rfl (fa26_1 _ _)) ?_
              simp only [Act.put, List.setIfInBounds_toArray, List.set_cons_zero, List.set_cons_succ]
              refine st_to (v := (.int .i64 t.a)) (some 45) rfl rfl (ex_load (p := (.pointer (some ⟨b1, 1, none⟩))) rfl rfl (ld3 (at_cell k1 hT.c1))) ?_
              simp only [Act.put, List.setIfInBounds_toArray, List.set_cons_zero, List.set_cons_succ]
              refine st_to (v := (.bool true)) (some 46) rfl rfl (ex_bin (u := (.int .i64 (hv i).by_)) (r := (.int .i64 t.a)) rfl rfl rfl (eg3 _ _ _ _ _ _) (neq3 _ (decide_eq_true q1))) ?_
              simp only [Act.put, List.setIfInBounds_toArray, List.set_cons_zero, List.set_cons_succ]
              refine st_to (v := (.bool true)) (some 47) rfl rfl (ex_mv rfl rfl) ?_
              simp only [Act.put, List.setIfInBounds_toArray, List.set_cons_zero, List.set_cons_succ]
              refine st_to (v := (.pointer (some ⟨b3, 0, none⟩))) (some 48) rfl rfl (ex_fa (p := (.pointer (some ⟨b3, 0, none⟩))) rfl rfl (fa49_0 _ _)) ?_
              simp only [Act.put, List.setIfInBounds_toArray, List.set_cons_zero, List.set_cons_succ]
              refine st_to (v := (.int .i64 (hv i).by_)) (some 49) rfl rfl (ex_load (p := (.pointer (some ⟨b3, 0, none⟩))) rfl rfl (ld3 (at_cell k3 HC.1.c0))) ?_
              simp only [Act.put, List.setIfInBounds_toArray, List.set_cons_zero, List.set_cons_succ]
              refine st_to (v := (.pointer (some ⟨b1, 2, none⟩))) (some 50) rfl rfl (ex_fa (p := (.pointer (some ⟨b1, 0, none⟩))) rfl rfl (fa26_2 _ _)) ?_
              simp only [Act.put, List.setIfInBounds_toArray, List.set_cons_zero, List.set_cons_succ]
              refine st_to (v := (.int .i64 t.b)) (some 51) rfl rfl (ex_load (p := (.pointer (some ⟨b1, 2, none⟩))) rfl rfl (ld3 (at_cell k1 hT.c2))) ?_
              simp only [Act.put, List.setIfInBounds_toArray, List.set_cons_zero, List.set_cons_succ]
              refine st_to (v := (.bool false)) (some 52) rfl rfl (ex_bin (u := (.int .i64 (hv i).by_)) (r := (.int .i64 t.b)) rfl rfl rfl (eg3 _ _ _ _ _ _) (neq3 _ (decide_eq_false (fun e => e q1b)))) ?_
              simp only [Act.put, List.setIfInBounds_toArray, List.set_cons_zero, List.set_cons_succ]
              refine st_to (v := (.bool false)) (some 53) rfl rfl (ex_pkT rfl rfl rfl) ?_
              simp only [Act.put, List.setIfInBounds_toArray, List.set_cons_zero, List.set_cons_succ]
              refine st_to (v := (.bool false)) (some 54) rfl rfl (ex_mv rfl rfl) ?_
              simp only [Act.put, List.setIfInBounds_toArray, List.set_cons_zero, List.set_cons_succ]
              refine st_to (v := (.pointer (some ⟨b3, 1, none⟩))) (some 55) rfl rfl (ex_fa (p := (.pointer (some ⟨b3, 0, none⟩))) rfl rfl (fa49_1 _ _)) ?_
              simp only [Act.put, List.setIfInBounds_toArray, List.set_cons_zero, List.set_cons_succ]
              refine st_to (v := (.int .i64 (hv i).id)) (some 56) rfl rfl (ex_load (p := (.pointer (some ⟨b3, 1, none⟩))) rfl rfl (ld3 (at_cell k3 HC.1.c1))) ?_
              simp only [Act.put, List.setIfInBounds_toArray, List.set_cons_zero, List.set_cons_succ]
              refine st_to (v := (.bool false)) (some 57) rfl rfl (ex_bin (u := (.int .i64 (hv i).id)) (r := (.int .i64 0)) rfl rfl rfl (eg3 _ _ _ _ _ _) (lss3 _ (decide_eq_false q2))) ?_
              simp only [Act.put, List.setIfInBounds_toArray, List.set_cons_zero, List.set_cons_succ]
              refine st_to (v := (.bool false)) (some 58) rfl rfl (ex_pkF rfl rfl rfl) ?_
              simp only [Act.put, List.setIfInBounds_toArray, List.set_cons_zero, List.set_cons_succ]
              refine st_to (v := (.bool false)) (some 59) rfl rfl (ex_mv rfl rfl) ?_
              simp only [Act.put, List.setIfInBounds_toArray, List.set_cons_zero, List.set_cons_succ]
              refine st_to (v := (.pointer (some ⟨b3, 35, none⟩))) (some 60) rfl rfl (ex_fa (p := (.pointer (some ⟨b3, 0, none⟩))) rfl rfl (fa49_4 _ _)) ?_
              simp only [Act.put, List.setIfInBounds_toArray, List.set_cons_zero, List.set_cons_succ]
              refine st_to (v := (.int .i64 (hv i).ex)) (some 61) rfl rfl (ex_load (p := (.pointer (some ⟨b3, 35, none⟩))) rfl rfl (ld3 (at_cell k3 HC.1.c35))) ?_
              simp only [Act.put, List.setIfInBounds_toArray, List.set_cons_zero, List.set_cons_succ]
              refine st_to (v := (.bool false)) (some 62) rfl rfl (ex_bin (u := (.int .i64 (hv i).ex)) (r := (.int .i64 0)) rfl rfl rfl (eg3 _ _ _ _ _ _) (lss3 _ (decide_eq_false q3))) ?_
              simp only [Act.put, List.setIfInBounds_toArray, List.set_cons_zero, List.set_cons_succ]
              refine st_to (v := (.bool false)) (some 63) rfl rfl (ex_pkF rfl rfl rfl) ?_
              simp only [Act.put, List.setIfInBounds_toArray, List.set_cons_zero, List.set_cons_succ]
              refine st_to (v := (.bool false)) (some 64) rfl rfl (ex_mv rfl rfl) ?_
              simp only [Act.put, List.setIfInBounds_toArray, List.set_cons_zero, List.set_cons_succ]
              refine st_to (v := (.pointer (some ⟨b3, 35, none⟩))) (some 65) rfl rfl (ex_fa (p := (.pointer (some ⟨b3, 0, none⟩))) rfl rfl (fa49_4 _ _)) ?_
              simp only [Act.put, List.setIfInBounds_toArray, List.set_cons_zero, List.set_cons_succ]
              refine st_to (v := (.int .i64 (hv i).ex)) (some 66) rfl rfl (ex_load (p := (.pointer (some ⟨b3, 35, none⟩))) rfl rfl (ld3 (at_cell k3 HC.1.c35))) ?_
              simp only [Act.put, List.setIfInBounds_toArray, List.set_cons_zero, List.set_cons_succ]
              refine st_to (v := (.bool false)) (some 67) rfl rfl (ex_bin (u := (.int .i64 (hv i).ex)) (r := (.int .i64 2147483647)) rfl rfl rfl (eg3 _ _ _ _ _ _) (gtr3 _ (decide_eq_false q4))) ?_
              simp only [Act.put, List.setIfInBounds_toArray, List.set_cons_zero, List.set_cons_succ]
              refine st_to (v := (.bool false)) (some 68) rfl rfl (ex_pkF rfl rfl rfl) ?_
              simp only [Act.put, List.setIfInBounds_toArray, List.set_cons_zero, List.set_cons_succ]
              refine st_to (v := (.bool false)) (some 69) rfl rfl (ex_mv rfl rfl) ?_
              simp only [Act.put, List.setIfInBounds_toArray, List.set_cons_zero, List.set_cons_succ]
              refine st_to (v := (.pointer (some ⟨b3, 3, none⟩))) (some 70) rfl rfl (ex_fa (p := (.pointer (some ⟨b3, 0, none⟩))) rfl rfl (fa49_3 _ _)) ?_
              simp only [Act.put, List.setIfInBounds_toArray, List.set_cons_zero, List.set_cons_succ]
              refine st_to (v := (.agg (hv i).hash)) (some 71) rfl rfl (ex_load (p := (.pointer (some ⟨b3, 3, none⟩))) rfl rfl (HC.1.ldp k3)) ?_
              simp only [Act.put, List.setIfInBounds_toArray, List.set_cons_zero, List.set_cons_succ]
              refine st_to (v := (.agg Z32)) (some 72) rfl rfl (ex_build0  rfl (b22 _)) ?_
              simp only [Act.put, List.setIfInBounds_toArray, List.set_cons_zero, List.set_cons_succ]
              refine st_to (v := (.bool false)) (some 73) rfl rfl (ex_bin rfl rfl rfl (eg22 _ _ _ _ _) (eqZh _ HC.1.len (decide_eq_false q5))) ?_
              simp only [Act.put, List.setIfInBounds_toArray, List.set_cons_zero, List.set_cons_succ]
              refine st_to (v := (.bool false)) (some 74) rfl rfl (ex_pkF rfl rfl rfl) ?_
              simp only [Act.put, List.setIfInBounds_toArray, List.set_cons_zero, List.set_cons_succ]
              refine st_end ?_
              exact JOIN _ _ _ _ _ _ _ _ _ _ _ _ _ _ _ _ _ _ _ _ _ _ _ _ _ _ _ _ _ _ _ _ (decide_eq_false (fun h => by rcases h with h | h | h | h | h; exact h (.inr q1b); exact q2 h; exact q3 h; exact q4 h; exact q5 h))
            by_cases q2 : (hv i).id < 0
            · skip
              refine st_to (v := (.pointer (some ⟨b3, 0, none⟩))) (some 42) rfl rfl (ex_fa (p := (.pointer (some ⟨b3, 0, none⟩))) rfl rfl (fa49_0 _ _)) ?_
              simp only [Act.put, List.setIfInBounds_toArray, List.set_cons_zero, List.set_cons_succ]
              refine st_to (v := (.int .i64 (hv i).by_)) (some 43) rfl rfl (ex_load (p := (.pointer (some ⟨b3, 0, none⟩))) rfl rfl (ld3 (at_cell k3 HC.1.c0))) ?_
              simp only [Act.put, List.setIfInBounds_toArray, List.set_cons_zero, List.set_cons_succ]
              refine st_to (v := (.pointer (some ⟨b1, 1, none⟩))) (some 44) rfl rfl (ex_fa (p := (.pointer (some ⟨b1, 0, none⟩))) rfl rfl (fa26_1 _ _)) ?_
              simp only [Act.put, List.setIfInBounds_toArray, List.set_cons_zero, List.set_cons_succ]
              refine st_to (v := (.int .i64 t.a)) (some 45) rfl rfl (ex_load (p := (.pointer (some ⟨b1, 1, none⟩))) rfl rfl (ld3 (at_cell k1 hT.c1))) ?_
              simp only [Act.put, List.setIfInBounds_toArray, List.set_cons_zero, List.set_cons_succ]
              refine st_to (v := (.bool false)) (some 46) rfl rfl (ex_bin (u := (.int .i64 (hv i).by_)) (r := (.int .i64 t.a)) rfl rfl rfl (eg3 _ _ _ _ _ _) (neq3 _ (decide_eq_false (fun e => e q1)))) ?_
              simp only [Act.put, List.setIfInBounds_toArray, List.set_cons_zero, List.set_cons_succ]
              refine st_to (v := (.bool false)) (some 47) rfl rfl (ex_mv rfl rfl) ?_
              simp only [Act.put, List.setIfInBounds_toArray, List.set_cons_zero, List.set_cons_succ]
              refine st_no (some 48) rfl rfl ?_
              simp only [Act.put, List.setIfInBounds_toArray, List.set_cons_zero, List.set_cons_succ]
              refine st_no (some 49) rfl rfl ?_
              simp only [Act.put, List.setIfInBounds_toArray, List.set_cons_zero, List.set_cons_succ]
              refine st_no (some 50) rfl rfl ?_
              simp only [Act.put, List.setIfInBounds_toArray, List.set_cons_zero, List.set_cons_succ]
              refine st_no (some 51) rfl rfl ?_
              simp only [Act.put, List.setIfInBounds_toArray, List.set_cons_zero, List.set_cons_succ]
              refine st_no (some 52) rfl rfl ?_
              simp only [Act.put, List.setIfInBounds_toArray, List.set_cons_zero, List.set_cons_succ]
              refine st_to (v := (.bool false)) (some 53) rfl rfl (ex_pkF rfl rfl rfl) ?_
              simp only [Act.put, List.setIfInBounds_toArray, List.set_cons_zero, List.set_cons_succ]
              refine st_to (v := (.bool false)) (some 54) rfl rfl (ex_mv rfl rfl) ?_
              simp only [Act.put, List.setIfInBounds_toArray, List.set_cons_zero, List.set_cons_succ]
              refine st_to (v := (.pointer (some ⟨b3, 1, none⟩))) (some 55) rfl rfl (ex_fa (p := (.pointer (some ⟨b3, 0, none⟩))) rfl rfl (fa49_1 _ _)) ?_
              simp only [Act.put, List.setIfInBounds_toArray, List.set_cons_zero, List.set_cons_succ]
              refine st_to (v := (.int .i64 (hv i).id)) (some 56) rfl rfl (ex_load (p := (.pointer (some ⟨b3, 1, none⟩))) rfl rfl (ld3 (at_cell k3 HC.1.c1))) ?_
              simp only [Act.put, List.setIfInBounds_toArray, List.set_cons_zero, List.set_cons_succ]
              refine st_to (v := (.bool true)) (some 57) rfl rfl (ex_bin (u := (.int .i64 (hv i).id)) (r := (.int .i64 0)) rfl rfl rfl (eg3 _ _ _ _ _ _) (lss3 _ (decide_eq_true q2))) ?_
              simp only [Act.put, List.setIfInBounds_toArray, List.set_cons_zero, List.set_cons_succ]
              refine st_to (v := (.bool true)) (some 58) rfl rfl (ex_pkF rfl rfl rfl) ?_
              simp only [Act.put, List.setIfInBounds_toArray, List.set_cons_zero, List.set_cons_succ]
              refine st_to (v := (.bool true)) (some 59) rfl rfl (ex_mv rfl rfl) ?_
              simp only [Act.put, List.setIfInBounds_toArray, List.set_cons_zero, List.set_cons_succ]
              refine st_no (some 60) rfl rfl ?_
              simp only [Act.put, List.setIfInBounds_toArray, List.set_cons_zero, List.set_cons_succ]
              refine st_no (some 61) rfl rfl ?_
              simp only [Act.put, List.setIfInBounds_toArray, List.set_cons_zero, List.set_cons_succ]
              refine st_no (some 62) rfl rfl ?_
              simp only [Act.put, List.setIfInBounds_toArray, List.set_cons_zero, List.set_cons_succ]
              refine st_to (v := (.bool true)) (some 63) rfl rfl (ex_pkT rfl rfl rfl) ?_
              simp only [Act.put, List.setIfInBounds_toArray, List.set_cons_zero, List.set_cons_succ]
              refine st_to (v := (.bool true)) (some 64) rfl rfl (ex_mv rfl rfl) ?_
              simp only [Act.put, List.setIfInBounds_toArray, List.set_cons_zero, List.set_cons_succ]
              refine st_no (some 65) rfl rfl ?_
              simp only [Act.put, List.setIfInBounds_toArray, List.set_cons_zero, List.set_cons_succ]
              refine st_no (some 66) rfl rfl ?_
              simp only [Act.put, List.setIfInBounds_toArray, List.set_cons_zero, List.set_cons_succ]
              refine st_no (some 67) rfl rfl ?_
              simp only [Act.put, List.setIfInBounds_toArray, List.set_cons_zero, List.set_cons_succ]
              refine st_to (v := (.bool true)) (some 68) rfl rfl (ex_pkT rfl rfl rfl) ?_
              simp only [Act.put, List.setIfInBounds_toArray, List.set_cons_zero, List.set_cons_succ]
              refine st_to (v := (.bool true)) (some 69) rfl rfl (ex_mv rfl rfl) ?_
              simp only [Act.put, List.setIfInBounds_toArray, List.set_cons_zero, List.set_cons_succ]
              refine st_no (some 70) rfl rfl ?_
              simp only [Act.put, List.setIfInBounds_toArray, List.set_cons_zero, List.set_cons_succ]
              refine st_no (some 71) rfl rfl ?_
              simp only [Act.put, List.setIfInBounds_toArray, List.set_cons_zero, List.set_cons_succ]
              refine st_no (some 72) rfl rfl ?_
              simp only [Act.put, List.setIfInBounds_toArray, List.set_cons_zero, List.set_cons_succ]
              refine st_no (some 73) rfl rfl ?_
              simp only [Act.put, List.setIfInBounds_toArray, List.set_cons_zero, List.set_cons_succ]
              refine st_to (v := (.bool true)) (some 74) rfl rfl (ex_pkT rfl rfl rfl) ?_
              simp only [Act.put, List.setIfInBounds_toArray, List.set_cons_zero, List.set_cons_succ]
              refine st_end ?_
              subst hQ
              refine wp_cond_true rfl ?_
              refine wp_seq ?_
              refine wl_in ?_
              refine wl_cap fun Q hQ => ?_
              refine st_to (v := (.bool false)) (some 4) rfl rfl (ex_asg rfl rfl) ?_
              simp only [Act.put, List.setIfInBounds_toArray, List.set_cons_zero, List.set_cons_succ]
              refine st_end ?_
              subst hQ
              refine wp_ret ?_
              repeat (first | refine ret_out ?_ | refine ret_blk ?_)
              refine bodyPost_ret (results_tmp Try.results15 _ _ _) rfl ⟨?_, E⟩
              show Ending.returned (.bool false) = _
              rw [fits_hs (hs_wrong hlt (decide_eq_true (.inr (.inl q2))))]
            by_cases q3 : (hv i).ex < 0
            · skip
              refine st_to (v := (.pointer (some ⟨b3, 0, none⟩))) (some 42) rfl rfl (ex_fa (p := (.pointer (some ⟨b3, 0, none⟩))) rfl rfl (fa49_0 _ _)) ?_
              simp only [Act.put, List.setIfInBounds_toArray, List.set_cons_zero, List.set_cons_succ]
              refine st_to (v := (.int .i64 (hv i).by_)) (some 43) rfl rfl (ex_load (p := (.pointer (some ⟨b3, 0, none⟩))) rfl rfl (ld3 (at_cell k3 HC.1.c0))) ?_
              simp only [Act.put, List.setIfInBounds_toArray, List.set_cons_zero, List.set_cons_succ]
              refine st_to (v := (.pointer (some ⟨b1, 1, none⟩))) (some 44) rfl rfl (ex_fa (p := (.pointer (some ⟨b1, 0, none⟩))) rfl rfl (fa26_1 _ _)) ?_
              simp only [Act.put, List.setIfInBounds_toArray, List.set_cons_zero, List.set_cons_succ]
              refine st_to (v := (.int .i64 t.a)) (some 45) rfl rfl (ex_load (p := (.pointer (some ⟨b1, 1, none⟩))) rfl rfl (ld3 (at_cell k1 hT.c1))) ?_
              simp only [Act.put, List.setIfInBounds_toArray, List.set_cons_zero, List.set_cons_succ]
              refine st_to (v := (.bool false)) (some 46) rfl rfl (ex_bin (u := (.int .i64 (hv i).by_)) (r := (.int .i64 t.a)) rfl rfl rfl (eg3 _ _ _ _ _ _) (neq3 _ (decide_eq_false (fun e => e q1)))) ?_
              simp only [Act.put, List.setIfInBounds_toArray, List.set_cons_zero, List.set_cons_succ]
              refine st_to (v := (.bool false)) (some 47) rfl rfl (ex_mv rfl rfl) ?_
              simp only [Act.put, List.setIfInBounds_toArray, List.set_cons_zero, List.set_cons_succ]
              refine st_no (some 48) rfl rfl ?_
              simp only [Act.put, List.setIfInBounds_toArray, List.set_cons_zero, List.set_cons_succ]
              refine st_no (some 49) rfl rfl ?_
              simp only [Act.put, List.setIfInBounds_toArray, List.set_cons_zero, List.set_cons_succ]
              refine st_no (some 50) rfl rfl ?_
              simp only [Act.put, List.setIfInBounds_toArray, List.set_cons_zero, List.set_cons_succ]
              refine st_no (some 51) rfl rfl ?_
              simp only [Act.put, List.setIfInBounds_toArray, List.set_cons_zero, List.set_cons_succ]
              refine st_no (some 52) rfl rfl ?_
              simp only [Act.put, List.setIfInBounds_toArray, List.set_cons_zero, List.set_cons_succ]
              refine st_to (v := (.bool false)) (some 53) rfl rfl (ex_pkF rfl rfl rfl) ?_
              simp only [Act.put, List.setIfInBounds_toArray, List.set_cons_zero, List.set_cons_succ]
              refine st_to (v := (.bool false)) (some 54) rfl rfl (ex_mv rfl rfl) ?_
              simp only [Act.put, List.setIfInBounds_toArray, List.set_cons_zero, List.set_cons_succ]
              refine st_to (v := (.pointer (some ⟨b3, 1, none⟩))) (some 55) rfl rfl (ex_fa (p := (.pointer (some ⟨b3, 0, none⟩))) rfl rfl (fa49_1 _ _)) ?_
              simp only [Act.put, List.setIfInBounds_toArray, List.set_cons_zero, List.set_cons_succ]
              refine st_to (v := (.int .i64 (hv i).id)) (some 56) rfl rfl (ex_load (p := (.pointer (some ⟨b3, 1, none⟩))) rfl rfl (ld3 (at_cell k3 HC.1.c1))) ?_
              simp only [Act.put, List.setIfInBounds_toArray, List.set_cons_zero, List.set_cons_succ]
              refine st_to (v := (.bool false)) (some 57) rfl rfl (ex_bin (u := (.int .i64 (hv i).id)) (r := (.int .i64 0)) rfl rfl rfl (eg3 _ _ _ _ _ _) (lss3 _ (decide_eq_false q2))) ?_
              simp only [Act.put, List.setIfInBounds_toArray, List.set_cons_zero, List.set_cons_succ]
              refine st_to (v := (.bool false)) (some 58) rfl rfl (ex_pkF rfl rfl rfl) ?_
              simp only [Act.put, List.setIfInBounds_toArray, List.set_cons_zero, List.set_cons_succ]
              refine st_to (v := (.bool false)) (some 59) rfl rfl (ex_mv rfl rfl) ?_
              simp only [Act.put, List.setIfInBounds_toArray, List.set_cons_zero, List.set_cons_succ]
              refine st_to (v := (.pointer (some ⟨b3, 35, none⟩))) (some 60) rfl rfl (ex_fa (p := (.pointer (some ⟨b3, 0, none⟩))) rfl rfl (fa49_4 _ _)) ?_
              simp only [Act.put, List.setIfInBounds_toArray, List.set_cons_zero, List.set_cons_succ]
              refine st_to (v := (.int .i64 (hv i).ex)) (some 61) rfl rfl (ex_load (p := (.pointer (some ⟨b3, 35, none⟩))) rfl rfl (ld3 (at_cell k3 HC.1.c35))) ?_
              simp only [Act.put, List.setIfInBounds_toArray, List.set_cons_zero, List.set_cons_succ]
              refine st_to (v := (.bool true)) (some 62) rfl rfl (ex_bin (u := (.int .i64 (hv i).ex)) (r := (.int .i64 0)) rfl rfl rfl (eg3 _ _ _ _ _ _) (lss3 _ (decide_eq_true q3))) ?_
              simp only [Act.put, List.setIfInBounds_toArray, List.set_cons_zero, List.set_cons_succ]
              refine st_to (v := (.bool true)) (some 63) rfl rfl (ex_pkF rfl rfl rfl) ?_
              simp only [Act.put, List.setIfInBounds_toArray, List.set_cons_zero, List.set_cons_succ]
              refine st_to (v := (.bool true)) (some 64) rfl rfl (ex_mv rfl rfl) ?_
              simp only [Act.put, List.setIfInBounds_toArray, List.set_cons_zero, List.set_cons_succ]
              refine st_no (some 65) rfl rfl ?_
              simp only [Act.put, List.setIfInBounds_toArray, List.set_cons_zero, List.set_cons_succ]
              refine st_no (some 66) rfl rfl ?_
              simp only [Act.put, List.setIfInBounds_toArray, List.set_cons_zero, List.set_cons_succ]
              refine st_no (some 67) rfl rfl ?_
              simp only [Act.put, List.setIfInBounds_toArray, List.set_cons_zero, List.set_cons_succ]
              refine st_to (v := (.bool true)) (some 68) rfl rfl (ex_pkT rfl rfl rfl) ?_
              simp only [Act.put, List.setIfInBounds_toArray, List.set_cons_zero, List.set_cons_succ]
              refine st_to (v := (.bool true)) (some 69) rfl rfl (ex_mv rfl rfl) ?_
              simp only [Act.put, List.setIfInBounds_toArray, List.set_cons_zero, List.set_cons_succ]
              refine st_no (some 70) rfl rfl ?_
              simp only [Act.put, List.setIfInBounds_toArray, List.set_cons_zero, List.set_cons_succ]
              refine st_no (some 71) rfl rfl ?_
              simp only [Act.put, List.setIfInBounds_toArray, List.set_cons_zero, List.set_cons_succ]
              refine st_no (some 72) rfl rfl ?_
              simp only [Act.put, List.setIfInBounds_toArray, List.set_cons_zero, List.set_cons_succ]
              refine st_no (some 73) rfl rfl ?_
              simp only [Act.put, List.setIfInBounds_toArray, List.set_cons_zero, List.set_cons_succ]
              refine st_to (v := (.bool true)) (some 74) rfl rfl (ex_pkT rfl rfl rfl) ?_
              simp only [Act.put, List.setIfInBounds_toArray, List.set_cons_zero, List.set_cons_succ]
              refine st_end ?_
              subst hQ
              refine wp_cond_true rfl ?_
              refine wp_seq ?_
              refine wl_in ?_
              refine wl_cap fun Q hQ => ?_
              refine st_to (v := (.bool false)) (some 4) rfl rfl (ex_asg rfl rfl) ?_
              simp only [Act.put, List.setIfInBounds_toArray, List.set_cons_zero, List.set_cons_succ]
              refine st_end ?_
              subst hQ
              refine wp_ret ?_
              repeat (first | refine ret_out ?_ | refine ret_blk ?_)
              refine bodyPost_ret (results_tmp Try.results15 _ _ _) rfl ⟨?_, E⟩
              show Ending.returned (.bool false) = _
              rw [fits_hs (hs_wrong hlt (decide_eq_true (.inr (.inr (.inl q3)))))]
            by_cases q4 : 2147483647 < (hv i).ex
            · skip
              refine st_to (v := (.pointer (some ⟨b3, 0, none⟩))) (some 42) rfl rfl (ex_fa (p := (.pointer (some ⟨b3, 0, none⟩))) rfl rfl (fa49_0 _ _)) ?_
              simp only [Act.put, List.setIfInBounds_toArray, List.set_cons_zero, List.set_cons_succ]
              refine st_to (v := (.int .i64 (hv i).by_)) (some 43) rfl rfl (ex_load (p := (.pointer (some ⟨b3, 0, none⟩))) rfl rfl (ld3 (at_cell k3 HC.1.c0))) ?_
              simp only [Act.put, List.setIfInBounds_toArray, List.set_cons_zero, List.set_cons_succ]
              refine st_to (v := (.pointer (some ⟨b1, 1, none⟩))) (some 44) rfl rfl (ex_fa (p := (.pointer (some ⟨b1, 0, none⟩))) rfl rfl (fa26_1 _ _)) ?_
              simp only [Act.put, List.setIfInBounds_toArray, List.set_cons_zero, List.set_cons_succ]
              refine st_to (v := (.int .i64 t.a)) (some 45) rfl rfl (ex_load (p := (.pointer (some ⟨b1, 1, none⟩))) rfl rfl (ld3 (at_cell k1 hT.c1))) ?_
              simp only [Act.put, List.setIfInBounds_toArray, List.set_cons_zero, List.set_cons_succ]
              refine st_to (v := (.bool false)) (some 46) rfl rfl (ex_bin (u := (.int .i64 (hv i).by_)) (r := (.int .i64 t.a)) rfl rfl rfl (eg3 _ _ _ _ _ _) (neq3 _ (decide_eq_false (fun e => e q1)))) ?_
              simp only [Act.put, List.setIfInBounds_toArray, List.set_cons_zero, List.set_cons_succ]
              refine st_to (v := (.bool false)) (some 47) rfl rfl (ex_mv rfl rfl) ?_
              simp only [Act.put, List.setIfInBounds_toArray, List.set_cons_zero, List.set_cons_succ]
              refine st_no (some 48) rfl rfl ?_
              simp only [Act.put, List.setIfInBounds_toArray, List.set_cons_zero, List.set_cons_succ]
              refine st_no (some 49) rfl rfl ?_
              simp only [Act.put, List.setIfInBounds_toArray, List.set_cons_zero, List.set_cons_succ]
              refine st_no (some 50) rfl rfl ?_
              simp only [Act.put, List.setIfInBounds_toArray, List.set_cons_zero, List.set_cons_succ]
              refine st_no (some 51) rfl rfl ?_
              simp only [Act.put, List.setIfInBounds_toArray, List.set_cons_zero, List.set_cons_succ]
              refine st_no (some 52) rfl rfl ?_
              simp only [Act.put, List.setIfInBounds_toArray, List.set_cons_zero, List.set_cons_succ]
              refine st_to (v := (.bool false)) (some 53) rfl rfl (ex_pkF rfl rfl rfl) ?_
              simp only [Act.put, List.setIfInBounds_toArray, List.set_cons_zero, List.set_cons_succ]
              refine st_to (v := (.bool false)) (some 54) rfl rfl (ex_mv rfl rfl) ?_
              simp only [Act.put, List.setIfInBounds_toArray, List.set_cons_zero, List.set_cons_succ]
              refine st_to (v := (.pointer (some ⟨b3, 1, none⟩))) (some 55) rfl rfl (ex_fa (p := (.pointer (some ⟨b3, 0, none⟩))) rfl rfl (fa49_1 _ _)) ?_
              simp only [Act.put, List.setIfInBounds_toArray, List.set_cons_zero, List.set_cons_succ]
              refine st_to (v := (.int .i64 (hv i).id)) (some 56) rfl rfl (ex_load (p := (.pointer (some ⟨b3, 1, none⟩))) rfl rfl (ld3 (at_cell k3 HC.1.c1))) ?_
              simp only [Act.put, List.setIfInBounds_toArray, List.set_cons_zero, List.set_cons_succ]
              refine st_to (v := (.bool false)) (some 57) rfl rfl (ex_bin (u := (.int .i64 (hv i).id)) (r := (.int .i64 0)) rfl rfl rfl (eg3 _ _ _ _ _ _) (lss3 _ (decide_eq_false q2))) ?_
              simp only [Act.put, List.setIfInBounds_toArray, List.set_cons_zero, List.set_cons_succ]
              refine st_to (v := (.bool false)) (some 58) rfl rfl (ex_pkF rfl rfl rfl) ?_
              simp only [Act.put, List.setIfInBounds_toArray, List.set_cons_zero, List.set_cons_succ]
              refine st_to (v := (.bool false)) (some 59) rfl rfl (ex_mv rfl rfl) ?_
              simp only [Act.put, List.setIfInBounds_toArray, List.set_cons_zero, List.set_cons_succ]
              refine st_to (v := (.pointer (some ⟨b3, 35, none⟩))) (some 60) rfl rfl (ex_fa (p := (.pointer (some ⟨b3, 0, none⟩))) rfl rfl (fa49_4 _ _)) ?_
              simp only [Act.put, List.setIfInBounds_toArray, List.set_cons_zero, List.set_cons_succ]
              refine st_to (v := (.int .i64 (hv i).ex)) (some 61) rfl rfl (ex_load (p := (.pointer (some ⟨b3, 35, none⟩))) rfl rfl (ld3 (at_cell k3 HC.1.c35))) ?_
              simp only [Act.put, List.setIfInBounds_toArray, List.set_cons_zero, List.set_cons_succ]
              refine st_to (v := (.bool false)) (some 62) rfl rfl (ex_bin (u := (.int .i64 (hv i).ex)) (r := (.int .i64 0)) rfl rfl rfl (eg3 _ _ _ _ _ _) (lss3 _ (decide_eq_false q3))) ?_
              simp only [Act.put, List.setIfInBounds_toArray, List.set_cons_zero, List.set_cons_succ]
              refine st_to (v := (.bool false)) (some 63) rfl rfl (ex_pkF rfl rfl rfl) ?_
              simp only [Act.put, List.setIfInBounds_toArray, List.set_cons_zero, List.set_cons_succ]
              refine st_to (v := (.bool false)) (some 64) rfl rfl (ex_mv rfl rfl) ?_
              simp only [Act.put, List.setIfInBounds_toArray, List.set_cons_zero, List.set_cons_succ]
              refine st_to (v := (.pointer (some ⟨b3, 35, none⟩))) (some 65) rfl rfl (ex_fa (p := (.pointer (some ⟨b3, 0, none⟩))) rfl rfl (fa49_4 _ _)) ?_
              simp only [Act.put, List.setIfInBounds_toArray, List.set_cons_zero, List.set_cons_succ]
              refine st_to (v := (.int .i64 (hv i).ex)) (some 66) rfl rfl (ex_load (p := (.pointer (some ⟨b3, 35, none⟩))) rfl rfl (ld3 (at_cell k3 HC.1.c35))) ?_
              simp only [Act.put, List.setIfInBounds_toArray, List.set_cons_zero, List.set_cons_succ]
              refine st_to (v := (.bool true)) (some 67) rfl rfl (ex_bin (u := (.int .i64 (hv i).ex)) (r := (.int .i64 2147483647)) rfl rfl rfl (eg3 _ _ _ _ _ _) (gtr3 _ (decide_eq_true q4))) ?_
              simp only [Act.put, List.setIfInBounds_toArray, List.set_cons_zero, List.set_cons_succ]
              refine st_to (v := (.bool true)) (some 68) rfl rfl (ex_pkF rfl rfl rfl) ?_
              simp only [Act.put, List.setIfInBounds_toArray, List.set_cons_zero, List.set_cons_succ]
              refine st_to (v := (.bool true)) (some 69) rfl rfl (ex_mv rfl rfl) ?_
              simp only [Act.put, List.setIfInBounds_toArray, List.set_cons_zero, List.set_cons_succ]
              refine st_no (some 70) rfl rfl ?_
              simp only [Act.put, List.setIfInBounds_toArray, List.set_cons_zero, List.set_cons_succ]
              refine st_no (some 71) rfl rfl ?_
              simp only [Act.put, List.setIfInBounds_toArray, List.set_cons_zero, List.set_cons_succ]
              refine st_no (some 72) rfl rfl ?_
              simp only [Act.put, List.setIfInBounds_toArray, List.set_cons_zero, List.set_cons_succ]
              refine st_no (some 73) rfl rfl ?_
              simp only [Act.put, List.setIfInBounds_toArray, List.set_cons_zero, List.set_cons_succ]
              refine st_to (v := (.bool true)) (some 74) rfl rfl (ex_pkT rfl rfl rfl) ?_
              simp only [Act.put, List.setIfInBounds_toArray, List.set_cons_zero, List.set_cons_succ]
              refine st_end ?_
              subst hQ
              refine wp_cond_true rfl ?_
              refine wp_seq ?_
              refine wl_in ?_
              refine wl_cap fun Q hQ => ?_
              refine st_to (v := (.bool false)) (some 4) rfl rfl (ex_asg rfl rfl) ?_
              simp only [Act.put, List.setIfInBounds_toArray, List.set_cons_zero, List.set_cons_succ]
              refine st_end ?_
              subst hQ
              refine wp_ret ?_
              repeat (first | refine ret_out ?_ | refine ret_blk ?_)
              refine bodyPost_ret (results_tmp Try.results15 _ _ _) rfl ⟨?_, E⟩
              show Ending.returned (.bool false) = _
              rw [fits_hs (hs_wrong hlt (decide_eq_true (.inr (.inr (.inr (.inl q4))))))]
            by_cases q5 : (hv i).hl = ZL
            · skip
              refine st_to (v := (.pointer (some ⟨b3, 0, none⟩))) (some 42) rfl rfl (ex_fa (p := (.pointer (some ⟨b3, 0, none⟩))) rfl rfl (fa49_0 _ _)) ?_
              simp only [Act.put, List.setIfInBounds_toArray, List.set_cons_zero, List.set_cons_succ]
              refine st_to (v := (.int .i64 (hv i).by_)) (some 43) rfl rfl (ex_load (p := (.pointer (some ⟨b3, 0, none⟩))) rfl rfl (ld3 (at_cell k3 HC.1.c0))) ?_
              simp only [Act.put, List.setIfInBounds_toArray, List.set_cons_zero, List.set_cons_succ]
              refine st_to (v := (.pointer (some ⟨b1, 1, none⟩))) (some 44) rfl rfl (ex_fa (p := (.pointer (some ⟨b1, 0, none⟩))) rfl rfl (fa26_1 _ _)) ?_
              simp only [Act.put, List.setIfInBounds_toArray, List.set_cons_zero, List.set_cons_succ]
              refine st_to (v := (.int .i64 t.a)) (some 45) rfl rfl (ex_load (p := (.pointer (some ⟨b1, 1, none⟩))) rfl rfl (ld3 (at_cell k1 hT.c1))) ?_
              simp only [Act.put, List.setIfInBounds_toArray, List.set_cons_zero, List.set_cons_succ]
              refine st_to (v := (.bool false)) (some 46) rfl rfl (ex_bin (u := (.int .i64 (hv i).by_)) (r := (.int .i64 t.a)) rfl rfl rfl (eg3 _ _ _ _ _ _) (neq3 _ (decide_eq_false (fun e => e q1)))) ?_
              simp only [Act.put, List.setIfInBounds_toArray, List.set_cons_zero, List.set_cons_succ]
              refine st_to (v := (.bool false)) (some 47) rfl rfl (ex_mv rfl rfl) ?_
              simp only [Act.put, List.setIfInBounds_toArray, List.set_cons_zero, List.set_cons_succ]
              refine st_no (some 48) rfl rfl ?_
              simp only [Act.put, List.setIfInBounds_toArray, List.set_cons_zero, List.set_cons_succ]
              refine st_no (some 49) rfl rfl ?_
              simp only [Act.put, List.setIfInBounds_toArray, List.set_cons_zero, List.set_cons_succ]
              refine st_no (some 50) rfl rfl ?_
              simp only [Act.put, List.setIfInBounds_toArray, List.set_cons_zero, List.set_cons_succ]
              refine st_no (some 51) rfl rfl ?_
              simp only [Act.put, List.setIfInBounds_toArray, List.set_cons_zero, List.set_cons_succ]
              refine st_no (some 52) rfl rfl ?_
              simp only [Act.put, List.setIfInBounds_toArray, List.set_cons_zero, List.set_cons_succ]
              refine st_to (v := (.bool false)) (some 53) rfl rfl (ex_pkF rfl rfl rfl) ?_
              simp only [Act.put, List.setIfInBounds_toArray, List.set_cons_zero, List.set_cons_succ]
              refine st_to (v := (.bool false)) (some 54) rfl rfl (ex_mv rfl rfl) ?_
              simp only [Act.put, List.setIfInBounds_toArray, List.set_cons_zero, List.set_cons_succ]
              refine st_to (v := (.pointer (some ⟨b3, 1, none⟩))) (some 55) rfl rfl (ex_fa (p := (.pointer (some ⟨b3, 0, none⟩))) rfl rfl (fa49_1 _ _)) ?_
              simp only [Act.put, List.setIfInBounds_toArray, List.set_cons_zero, List.set_cons_succ]
              refine st_to (v := (.int .i64 (hv i).id)) (some 56) rfl rfl (ex_load (p := (.pointer (some ⟨b3, 1, none⟩))) rfl rfl (ld3 (at_cell k3 HC.1.c1))) ?_
              simp only [Act.put, List.setIfInBounds_toArray, List.set_cons_zero, List.set_cons_succ]
              refine st_to (v := (.bool false)) (some 57) rfl rfl (ex_bin (u := (.int .i64 (hv i).id)) (r := (.int .i64 0)) rfl rfl rfl (eg3 _ _ _ _ _ _) (lss3 _ (decide_eq_false q2))) ?_
              simp only [Act.put, List.setIfInBounds_toArray, List.set_cons_zero, List.set_cons_succ]
              refine st_to (v := (.bool false)) (some 58) rfl rfl (ex_pkF rfl rfl rfl) ?_
              simp only [Act.put, List.setIfInBounds_toArray, List.set_cons_zero, List.set_cons_succ]
              refine st_to (v := (.bool false)) (some 59) rfl rfl (ex_mv rfl rfl) ?_
              simp only [Act.put, List.setIfInBounds_toArray, List.set_cons_zero, List.set_cons_succ]
              refine st_to (v := (.pointer (some ⟨b3, 35, none⟩))) (some 60) rfl rfl (ex_fa (p := (.pointer (some ⟨b3, 0, none⟩))) rfl rfl (fa49_4 _ _)) ?_
              simp only [Act.put, List.setIfInBounds_toArray, List.set_cons_zero, List.set_cons_succ]
              refine st_to (v := (.int .i64 (hv i).ex)) (some 61) rfl rfl (ex_load (p := (.pointer (some ⟨b3, 35, none⟩))) rfl rfl (ld3 (at_cell k3 HC.1.c35))) ?_
              simp only [Act.put, List.setIfInBounds_toArray, List.set_cons_zero, List.set_cons_succ]
              refine st_to (v := (.bool false)) (some 62) rfl rfl (ex_bin (u := (.int .i64 (hv i).ex)) (r := (.int .i64 0)) rfl rfl rfl (eg3 _ _ _ _ _ _) (lss3 _ (decide_eq_false q3))) ?_
              simp only [Act.put, List.setIfInBounds_toArray, List.set_cons_zero, List.set_cons_succ]
              refine st_to (v := (.bool false)) (some 63) rfl rfl (ex_pkF rfl rfl rfl) ?_
              simp only [Act.put, List.setIfInBounds_toArray, List.set_cons_zero, List.set_cons_succ]
              refine st_to (v := (.bool false)) (some 64) rfl rfl (ex_mv rfl rfl) ?_
              simp only [Act.put, List.setIfInBounds_toArray, List.set_cons_zero, List.set_cons_succ]
              refine st_to (v := (.pointer (some ⟨b3, 35, none⟩))) (some 65) rfl rfl (ex_fa (p := (.pointer (some ⟨b3, 0, none⟩))) rfl rfl (fa49_4 _ _)) ?_
              simp only [Act.put, List.setIfInBounds_toArray, List.set_cons_zero, List.set_cons_succ]
              refine st_to (v := (.int .i64 (hv i).ex)) (some 66) rfl rfl (ex_load (p := (.pointer (some ⟨b3, 35, none⟩))) rfl rfl (ld3 (at_cell k3 HC.1.c35))) ?_
              simp only [Act.put, List.setIfInBounds_toArray, List.set_cons_zero, List.set_cons_succ]
              refine st_to (v := (.bool false)) (some 67) rfl rfl (ex_bin (u := (.int .i64 (hv i).ex)) (r := (.int .i64 2147483647)) rfl rfl rfl (eg3 _ _ _ _ _ _) (gtr3 _ (decide_eq_false q4))) ?_
              simp only [Act.put, List.setIfInBounds_toArray, List.set_cons_zero, List.set_cons_succ]
              refine st_to (v := (.bool false)) (some 68) rfl rfl (ex_pkF rfl rfl rfl) ?_
              simp only [Act.put, List.setIfInBounds_toArray, List.set_cons_zero, List.set_cons_succ]
              refine st_to (v := (.bool false)) (some 69) rfl rfl (ex_mv rfl rfl) ?_
              simp only [Act.put, List.setIfInBounds_toArray, List.set_cons_zero, List.set_cons_succ]
              refine st_to (v := (.pointer (some ⟨b3, 3, none⟩))) (some 70) rfl rfl (ex_fa (p := (.pointer (some ⟨b3, 0, none⟩))) rfl rfl (fa49_3 _ _)) ?_
              simp only [Act.put, List.setIfInBounds_toArray, List.set_cons_zero, List.set_cons_succ]
              refine st_to (v := (.agg (hv i).hash)) (some 71) rfl rfl (ex_load (p := (.pointer (some ⟨b3, 3, none⟩))) rfl rfl (HC.1.ldp k3)) ?_
              simp only [Act.put, List.setIfInBounds_toArray, List.set_cons_zero, List.set_cons_succ]
              refine st_to (v := (.agg Z32)) (some 72) rfl rfl (ex_build0  rfl (b22 _)) ?_
              simp only [Act.put, List.setIfInBounds_toArray, List.set_cons_zero, List.set_cons_succ]
              refine st_to (v := (.bool true)) (some 73) rfl rfl (ex_bin rfl rfl rfl (eg22 _ _ _ _ _) (eqZh _ HC.1.len (decide_eq_true q5))) ?_
              simp only [Act.put, List.setIfInBounds_toArray, List.set_cons_zero, List.set_cons_succ]
              refine st_to (v := (.bool true)) (some 74) rfl rfl (ex_pkF rfl rfl rfl) ?_
              simp only [Act.put, List.setIfInBounds_toArray, List.set_cons_zero, List.set_cons_succ]
              refine st_end ?_
              subst hQ
              refine wp_cond_true rfl ?_
              refine wp_seq ?_
              refine wl_in ?_
              refine wl_cap fun Q hQ => ?_
              refine st_to (v := (.bool false)) (some 4) rfl rfl (ex_asg rfl rfl) ?_
              simp only [Act.put, List.setIfInBounds_toArray, List.set_cons_zero, List.set_cons_succ]
              refine st_end ?_
              subst hQ
              refine wp_ret ?_
              repeat (first | refine ret_out ?_ | refine ret_blk ?_)
              refine bodyPost_ret (results_tmp Try.results15 _ _ _) rfl ⟨?_, E⟩
              show Ending.returned (.bool false) = _
              rw [fits_hs (hs_wrong hlt (decide_eq_true (.inr (.inr (.inr (.inr q5))))))]
            refine st_to (v := (.pointer (some ⟨b3, 0, none⟩))) (some 42) rfl rfl (ex_fa (p := (.pointer (some ⟨b3, 0, none⟩))) rfl rfl (fa49_0 _ _)) ?_
            simp only [Act.put, List.setIfInBounds_toArray, List.set_cons_zero, List.set_cons_succ]
            refine st_to (v := (.int .i64 (hv i).by_)) (some 43) rfl rfl (ex_load (p := (.pointer (some ⟨b3, 0, none⟩))) rfl rfl (ld3 (at_cell k3 HC.1.c0))) ?_
            simp only [Act.put, List.setIfInBounds_toArray, List.set_cons_zero, List.set_cons_succ]
            refine st_to (v := (.pointer (some ⟨b1, 1, none⟩))) (some 44) rfl rfl (ex_fa (p := (.pointer (some ⟨b1, 0, none⟩))) rfl rfl (fa26_1 _ _)) ?_
            simp only [Act.put, List.setIfInBounds_toArray, List.set_cons_zero, List.set_cons_succ]
            refine st_to (v := (.int .i64 t.a)) (some 45) rfl rfl (ex_load (p := (.pointer (some ⟨b1, 1, none⟩))) rfl rfl (ld3 (at_cell k1 hT.c1))) ?_
            simp only [Act.put, List.setIfInBounds_toArray, List.set_cons_zero, List.set_cons_succ]
            refine st_to (v := (.bool false)) (some 46) rfl rfl (ex_bin (u := (.int .i64 (hv i).by_)) (r := (.int .i64 t.a)) rfl rfl rfl (eg3 _ _ _ _ _ _) (neq3 _ (decide_eq_false (fun e => e q1)))) ?_
            simp only [Act.put, List.setIfInBounds_toArray, List.set_cons_zero, List.set_cons_succ]
            refine st_to (v := (.bool false)) (some 47) rfl rfl (ex_mv rfl rfl) ?_
            simp only [Act.put, List.setIfInBounds_toArray, List.set_cons_zero, List.set_cons_succ]
            refine st_no (some 48) rfl rfl ?_
            simp only [Act.put, List.setIfInBounds_toArray, List.set_cons_zero, List.set_cons_succ]
            refine st_no (some 49) rfl rfl ?_
            simp only [Act.put, List.setIfInBounds_toArray, List.set_cons_zero, List.set_cons_succ]
            refine st_no (some 50) rfl rfl ?_
            simp only [Act.put, List.setIfInBounds_toArray, List.set_cons_zero, List.set_cons_succ]
            refine st_no (some 51) rfl rfl ?_
            simp only [Act.put, List.setIfInBounds_toArray, List.set_cons_zero, List.set_cons_succ]
            refine st_no (some 52) rfl rfl ?_
            simp only [Act.put, List.setIfInBounds_toArray, List.set_cons_zero, List.set_cons_succ]
            refine st_to (v := (.bool false)) (some 53) rfl rfl (ex_pkF rfl rfl rfl) ?_
            simp only [Act.put, List.setIfInBounds_toArray, List.set_cons_zero, List.set_cons_succ]
            refine st_to (v := (.bool false)) (some 54) rfl rfl (ex_mv rfl rfl) ?_
            simp only [Act.put, List.setIfInBounds_toArray, List.set_cons_zero, List.set_cons_succ]
            refine st_to (v := (.pointer (some ⟨b3, 1, none⟩))) (some 55) rfl rfl (ex_fa (p := (.pointer (some ⟨b3, 0, none⟩))) rfl rfl (fa49_1 _ _)) ?_
            simp only [Act.put, List.setIfInBounds_toArray, List.set_cons_zero, List.set_cons_succ]
            refine st_to (v := (.int .i64 (hv i).id)) (some 56) rfl rfl (ex_load (p := (.pointer (some ⟨b3, 1, none⟩))) rfl rfl (ld3 (at_cell k3 HC.1.c1))) ?_
            simp only [Act.put, List.setIfInBounds_toArray, List.set_cons_zero, List.set_cons_succ]
            refine st_to (v := (.bool false)) (some 57) rfl rfl (ex_bin (u := (.int .i64 (hv i).id)) (r := (.int .i64 0)) rfl rfl rfl (eg3 _ _ _ _ _ _) (lss3 _ (decide_eq_false q2))) ?_
            simp only [Act.put, List.setIfInBounds_toArray, List.set_cons_zero, List.set_cons_succ]
            refine st_to (v := (.bool false)) (some 58) rfl rfl (ex_pkF rfl rfl rfl) ?_
            simp only [Act.put, List.setIfInBounds_toArray, List.set_cons_zero, List.set_cons_succ]
            refine st_to (v := (.bool false)) (some 59) rfl rfl (ex_mv rfl rfl) ?_
            simp only [Act.put, List.setIfInBounds_toArray, List.set_cons_zero, List.set_cons_succ]
            refine st_to (v := (.pointer (some ⟨b3, 35, none⟩))) (some 60) rfl rfl (ex_fa (p := (.pointer (some ⟨b3, 0, none⟩))) rfl rfl (fa49_4 _ _)) ?_
            simp only [Act.put, List.setIfInBounds_toArray, List.set_cons_zero, List.set_cons_succ]
            refine st_to (v := (.int .i64 (hv i).ex)) (some 61) rfl rfl (ex_load (p := (.pointer (some ⟨b3, 35, none⟩))) rfl rfl (ld3 (at_cell k3 HC.1.c35))) ?_
            simp only [Act.put, List.setIfInBounds_toArray, List.set_cons_zero, List.set_cons_succ]
            refine st_to (v := (.bool false)) (some 62) rfl rfl (ex_bin (u := (.int .i64 (hv i).ex)) (r := (.int .i64 0)) rfl rfl rfl (eg3 _ _ _ _ _ _) (lss3 _ (decide_eq_false q3))) ?_
            simp only [Act.put, List.setIfInBounds_toArray, List.set_cons_zero, List.set_cons_succ]
            refine st_to (v := (.bool false)) (some 63) rfl rfl (ex_pkF rfl rfl rfl) ?_
            simp only [Act.put, List.setIfInBounds_toArray, List.set_cons_zero, List.set_cons_succ]
            refine st_to (v := (.bool false)) (some 64) rfl rfl (ex_mv rfl rfl) ?_
            simp only [Act.put, List.setIfInBounds_toArray, List.set_cons_zero, List.set_cons_succ]
            refine st_to (v := (.pointer (some ⟨b3, 35, none⟩))) (some 65) rfl rfl (ex_fa (p := (.pointer (some ⟨b3, 0, none⟩))) rfl rfl (fa49_4 _ _)) ?_
            simp only [Act.put, List.setIfInBounds_toArray, List.set_cons_zero, List.set_cons_succ]
            refine st_to (v := (.int .i64 (hv i).ex)) (some 66) rfl rfl (ex_load (p := (.pointer (some ⟨b3, 35, none⟩))) rfl rfl (ld3 (at_cell k3 HC.1.c35))) ?_
            simp only [Act.put, List.setIfInBounds_toArray, List.set_cons_zero, List.set_cons_succ]
            refine st_to (v := (.bool false)) (some 67) rfl rfl (ex_bin (u := (.int .i64 (hv i).ex)) (r := (.int .i64 2147483647)) rfl rfl rfl (eg3 _ _ _ _ _ _) (gtr3 _ (decide_eq_false q4))) ?_
            simp only [Act.put, List.setIfInBounds_toArray, List.set_cons_zero, List.set_cons_succ]
            refine st_to (v := (.bool false)) (some 68) rfl rfl (ex_pkF rfl rfl rfl) ?_
            simp only [Act.put, List.setIfInBounds_toArray, List.set_cons_zero, List.set_cons_succ]
            refine st_to (v := (.bool false)) (some 69) rfl rfl (ex_mv rfl rfl) ?_
            simp only [Act.put, List.setIfInBounds_toArray, List.set_cons_zero, List.set_cons_succ]
            refine st_to (v := (.pointer (some ⟨b3, 3, none⟩))) (some 70) rfl rfl (ex_fa (p := (.pointer (some ⟨b3, 0, none⟩))) rfl rfl (fa49_3 _ _)) ?_
            simp only [Act.put, List.setIfInBounds_toArray, List.set_cons_zero, List.set_cons_succ]
            refine st_to (v := (.agg (hv i).hash)) (some 71) rfl rfl (ex_load (p := (.pointer (some ⟨b3, 3, none⟩))) rfl rfl (HC.1.ldp k3)) ?_
            simp only [Act.put, List.setIfInBounds_toArray, List.set_cons_zero, List.set_cons_succ]
            refine st_to (v := (.agg Z32)) (some 72) rfl rfl (ex_build0  rfl (b22 _)) ?_
            simp only [Act.put, List.setIfInBounds_toArray, List.set_cons_zero, List.set_cons_succ]
            refine st_to (v := (.bool false)) (some 73) rfl rfl (ex_bin rfl rfl rfl (eg22 _ _ _ _ _) (eqZh _ HC.1.len (decide_eq_false q5))) ?_
            simp only [Act.put, List.setIfInBounds_toArray, List.set_cons_zero, List.set_cons_succ]
            refine st_to (v := (.bool false)) (some 74) rfl rfl (ex_pkF rfl rfl rfl) ?_
            simp only [Act.put, List.setIfInBounds_toArray, List.set_cons_zero, List.set_cons_succ]
            refine st_end ?_
            exact JOIN _ _ _ _ _ _ _ _ _ _ _ _ _ _ _ _ _ _ _ _ _ _ _ _ _ _ _ _ _ _ _ _ (decide_eq_false (fun h => by rcases h with h | h | h | h | h; exact h (.inl q1); exact q2 h; exact q3 h; exact q4 h; exact q5 h))
          intro j42 j43 j44 j45 j46 j47 j48 j49 j50 j51 j52 j53 j54 j55 j56 j57 j58 j59 j60 j61 j62 j63 j64 j65 j66 j67 j68 j69 j70 j71 j72 j73 nW
          subst hQ
          refine wp_cond_false rfl ?_
          refine wp_skip ?_
          refine wp_seq ?_
          refine wp_seq ?_
          obtain ⟨W7, hwd⟩ : ∃ wd, W6.drew = wd := ⟨_, rfl⟩
          refine wp_region_held (S := fun W => Kept Nil W7 W) (by kernel_rfl) ?_
          show wpAnyH _ _ _ _ _ _ _ _ W6.drew
          rw [hwd]
          refine capQ fun Q hQ => ?_
          have hQP : ∀ c (a : Act) (d : Nat) v w, Q (.panic c) (a.put (some d) v) w → Q (.panic c) a w := by
            subst hQ
            exact fun _ _ _ _ _ h => h
          have BD : Below W6.heap.size W6 W7 := by rw [← hwd]; exact below_drew (Below.refl _ _)
          clear hwd
          replace E := below_next E BD
          replace k1 := keep BD k1
          replace k2 := keep BD k2
          replace k3 := keep BD k3
          clear BD
          have S : Kept Nil W7 W7 := Kept.refl _ _
          have d_k1 := k1
          have d_k2 := k2
          have d_k3 := k3
          suffices JOIN : ∀ (j75 j76 j77 j78 j79 j80 j81 j82 j83 j84 j85 j86 j87 j88 j89 j90 j91 j92 j93 j94 j95 j96 j97 j98 j99 j100 j101 j102 j103 j104 j105 j106 j107 j108 j109 j110 j111 : Value) (nB : 0 < i → belowB (hv (i - 1)) (hv i) = true), Q .normal { tmps := #[(.agg C), (.agg #[.int .i64 x, .int .i64 y, .slice (some ⟨b, p, none⟩) n c]), (.pointer (some ⟨b1, 0, none⟩)), (.pointer (some ⟨b2, 0, none⟩)), u4, (.int .i64 s), (.int .i64 0), (.int .i64 (i : Nat)), (.pointer (some ⟨b3, 0, none⟩)), (.agg C), (.bool true), (.bool false), (.bool false), (.pointer (some ⟨b2, 2, none⟩)), (.slice (some ⟨b, p, none⟩) n c), (.int .i64 (n : Nat)), (.bool false), (.bool false), (.tuple #[(.int .i64 m0), (.int .i64 r0)]), (.pointer (some ⟨b2, 0, none⟩)), (.int .i64 x), (.pointer (some ⟨b2, 1, none⟩)), (.int .i64 y), (.tuple #[(.int .i64 m0), (.int .i64 r0)]), (.int .i64 m0), (.int .i64 r0), (.int .i64 (i : Nat)), (.pointer (some ⟨b2, 2, none⟩)), (.slice (some ⟨b, p, none⟩) n c), (.int .i64 (n : Nat)), (.bool true), (.bool true), (.int .i64 0), (.bool true), (.bool true), u35, u36, (.pointer (some ⟨b2, 2, none⟩)), (.slice (some ⟨b, p, none⟩) n c), (.int .i64 (i : Nat)), (.pointer (some ⟨b, (p + i * 36), none⟩)), (.agg (Cs i)), j42, j43, j44, j45, j46, j47, j48, j49, j50, j51, j52, j53, j54, j55, j56, j57, j58, j59, j60, j61, j62, j63, j64, j65, j66, j67, j68, j69, j70, j71, j72, j73, (.bool false), j75, j76, j77, j78, j79, j80, j81, j82, j83, j84, j85, j86, j87, j88, j89, j90, j91, j92, j93, j94, j95, j96, j97, j98, j99, j100, j101, j102, j103, j104, j105, j106, j107, j108, j109, j110, j111, (.bool false), u113, u114, u115, u116, u117, u118, u119, undef, undef, undef, undef, undef, undef, undef, undef, undef, undef, undef], defers := [] } W7 by
            by_cases q6 : 0 < i
            rotate_left
            · skip
              refine ah_take (v := (.int .i64 (i : Nat))) (i := 0) (some 75) rfl rfl (by kernel_rfl) (by kernel_rfl) (by kernel_rfl) rfl (fun W hK => ex_mv rfl rfl) S (fun c a w h => hQP c a _ _ w h) ?_
              simp only [Act.put, List.setIfInBounds_toArray, List.set_cons_zero, List.set_cons_succ]
              refine ah_take (v := (.bool false)) (i := 1) (some 76) rfl rfl (by kernel_rfl) (by kernel_rfl) (by kernel_rfl) rfl (fun W hK => ex_bin (u := (.int .i64 (i : Nat))) (r := (.int .i64 0)) rfl rfl rfl (eg3 _ _ _ _ _ _) (gtr3 _ (decide_eq_false (by omega)))) S (fun c a w h => hQP c a _ _ w h) ?_
              simp only [Act.put, List.setIfInBounds_toArray, List.set_cons_zero, List.set_cons_succ]
              refine ah_take (v := (.bool false)) (i := 2) (some 77) rfl rfl (by kernel_rfl) (by kernel_rfl) (by kernel_rfl) rfl (fun W hK => ex_mv rfl rfl) S (fun c a w h => hQP c a _ _ w h) ?_
              simp only [Act.put, List.setIfInBounds_toArray, List.set_cons_zero, List.set_cons_succ]
              refine ah_skip (i := 3) (some 78) rfl rfl (by kernel_rfl) (by kernel_rfl) (by kernel_rfl) rfl S (fun c a w h => hQP c a _ _ w h) ?_
              simp only [Act.put, List.setIfInBounds_toArray, List.set_cons_zero, List.set_cons_succ]
              refine ah_skip (i := 4) (some 79) rfl rfl (by kernel_rfl) (by kernel_rfl) (by kernel_rfl) rfl S (fun c a w h => hQP c a _ _ w h) ?_
              simp only [Act.put, List.setIfInBounds_toArray, List.set_cons_zero, List.set_cons_succ]
              refine ah_skip (i := 5) (some 80) rfl rfl (by kernel_rfl) (by kernel_rfl) (by kernel_rfl) rfl S (fun c a w h => hQP c a _ _ w h) ?_
              simp only [Act.put, List.setIfInBounds_toArray, List.set_cons_zero, List.set_cons_succ]
              refine ah_skip (i := 6) (some 81) rfl rfl (by kernel_rfl) (by kernel_rfl) (by kernel_rfl) rfl S (fun c a w h => hQP c a _ _ w h) ?_
              simp only [Act.put, List.setIfInBounds_toArray, List.set_cons_zero, List.set_cons_succ]
              refine ah_skip (i := 7) (some 82) rfl rfl (by kernel_rfl) (by kernel_rfl) (by kernel_rfl) rfl S (fun c a w h => hQP c a _ _ w h) ?_
              simp only [Act.put, List.setIfInBounds_toArray, List.set_cons_zero, List.set_cons_succ]
              refine ah_skip (i := 8) (some 83) rfl rfl (by kernel_rfl) (by kernel_rfl) (by kernel_rfl) rfl S (fun c a w h => hQP c a _ _ w h) ?_
              simp only [Act.put, List.setIfInBounds_toArray, List.set_cons_zero, List.set_cons_succ]
              refine ah_skip (i := 9) (some 84) rfl rfl (by kernel_rfl) (by kernel_rfl) (by kernel_rfl) rfl S (fun c a w h => hQP c a _ _ w h) ?_
              simp only [Act.put, List.setIfInBounds_toArray, List.set_cons_zero, List.set_cons_succ]
              refine ah_skip (i := 10) (some 85) rfl rfl (by kernel_rfl) (by kernel_rfl) (by kernel_rfl) rfl S (fun c a w h => hQP c a _ _ w h) ?_
              simp only [Act.put, List.setIfInBounds_toArray, List.set_cons_zero, List.set_cons_succ]
              refine ah_skip (i := 11) (some 86) rfl rfl (by kernel_rfl) (by kernel_rfl) (by kernel_rfl) rfl S (fun c a w h => hQP c a _ _ w h) ?_
              simp only [Act.put, List.setIfInBounds_toArray, List.set_cons_zero, List.set_cons_succ]
              refine ah_skip (i := 12) (some 87) rfl rfl (by kernel_rfl) (by kernel_rfl) (by kernel_rfl) rfl S (fun c a w h => hQP c a _ _ w h) ?_
              simp only [Act.put, List.setIfInBounds_toArray, List.set_cons_zero, List.set_cons_succ]
              refine ah_skip (i := 13) (some 88) rfl rfl (by kernel_rfl) (by kernel_rfl) (by kernel_rfl) rfl S (fun c a w h => hQP c a _ _ w h) ?_
              simp only [Act.put, List.setIfInBounds_toArray, List.set_cons_zero, List.set_cons_succ]
              refine ah_skip (i := 14) (some 89) rfl rfl (by kernel_rfl) (by kernel_rfl) (by kernel_rfl) rfl S (fun c a w h => hQP c a _ _ w h) ?_
              simp only [Act.put, List.setIfInBounds_toArray, List.set_cons_zero, List.set_cons_succ]
              refine ah_skip (i := 15) (some 90) rfl rfl (by kernel_rfl) (by kernel_rfl) (by kernel_rfl) rfl S (fun c a w h => hQP c a _ _ w h) ?_
              simp only [Act.put, List.setIfInBounds_toArray, List.set_cons_zero, List.set_cons_succ]
              refine ah_skip (i := 16) (some 91) rfl rfl (by kernel_rfl) (by kernel_rfl) (by kernel_rfl) rfl S (fun c a w h => hQP c a _ _ w h) ?_
              simp only [Act.put, List.setIfInBounds_toArray, List.set_cons_zero, List.set_cons_succ]
              refine ah_skip (i := 17) (some 92) rfl rfl (by kernel_rfl) (by kernel_rfl) (by kernel_rfl) rfl S (fun c a w h => hQP c a _ _ w h) ?_
              simp only [Act.put, List.setIfInBounds_toArray, List.set_cons_zero, List.set_cons_succ]
              refine ah_skip (i := 18) (some 93) rfl rfl (by kernel_rfl) (by kernel_rfl) (by kernel_rfl) rfl S (fun c a w h => hQP c a _ _ w h) ?_
              simp only [Act.put, List.setIfInBounds_toArray, List.set_cons_zero, List.set_cons_succ]
              refine ah_skip (i := 19) (some 94) rfl rfl (by kernel_rfl) (by kernel_rfl) (by kernel_rfl) rfl S (fun c a w h => hQP c a _ _ w h) ?_
              simp only [Act.put, List.setIfInBounds_toArray, List.set_cons_zero, List.set_cons_succ]
              refine ah_skip (i := 20) (some 95) rfl rfl (by kernel_rfl) (by kernel_rfl) (by kernel_rfl) rfl S (fun c a w h => hQP c a _ _ w h) ?_
              simp only [Act.put, List.setIfInBounds_toArray, List.set_cons_zero, List.set_cons_succ]
              refine ah_skip (i := 21) (some 96) rfl rfl (by kernel_rfl) (by kernel_rfl) (by kernel_rfl) rfl S (fun c a w h => hQP c a _ _ w h) ?_
              simp only [Act.put, List.setIfInBounds_toArray, List.set_cons_zero, List.set_cons_succ]
              refine ah_skip (i := 22) (some 97) rfl rfl (by kernel_rfl) (by kernel_rfl) (by kernel_rfl) rfl S (fun c a w h => hQP c a _ _ w h) ?_
              simp only [Act.put, List.setIfInBounds_toArray, List.set_cons_zero, List.set_cons_succ]
              refine ah_skip (i := 23) (some 98) rfl rfl (by kernel_rfl) (by kernel_rfl) (by kernel_rfl) rfl S (fun c a w h => hQP c a _ _ w h) ?_
              simp only [Act.put, List.setIfInBounds_toArray, List.set_cons_zero, List.set_cons_succ]
              refine ah_skip (i := 24) (some 99) rfl rfl (by kernel_rfl) (by kernel_rfl) (by kernel_rfl) rfl S (fun c a w h => hQP c a _ _ w h) ?_
              simp only [Act.put, List.setIfInBounds_toArray, List.set_cons_zero, List.set_cons_succ]
              refine ah_skip (i := 25) (some 100) rfl rfl (by kernel_rfl) (by kernel_rfl) (by kernel_rfl) rfl S (fun c a w h => hQP c a _ _ w h) ?_
              simp only [Act.put, List.setIfInBounds_toArray, List.set_cons_zero, List.set_cons_succ]
              refine ah_skip (i := 26) (some 101) rfl rfl (by kernel_rfl) (by kernel_rfl) (by kernel_rfl) rfl S (fun c a w h => hQP c a _ _ w h) ?_
              simp only [Act.put, List.setIfInBounds_toArray, List.set_cons_zero, List.set_cons_succ]
              refine ah_skip (i := 27) (some 102) rfl rfl (by kernel_rfl) (by kernel_rfl) (by kernel_rfl) rfl S (fun c a w h => hQP c a _ _ w h) ?_
              simp only [Act.put, List.setIfInBounds_toArray, List.set_cons_zero, List.set_cons_succ]
              refine ah_skip (i := 28) (some 103) rfl rfl (by kernel_rfl) (by kernel_rfl) (by kernel_rfl) rfl S (fun c a w h => hQP c a _ _ w h) ?_
              simp only [Act.put, List.setIfInBounds_toArray, List.set_cons_zero, List.set_cons_succ]
              refine ah_skip (i := 29) (some 104) rfl rfl (by kernel_rfl) (by kernel_rfl) (by kernel_rfl) rfl S (fun c a w h => hQP c a _ _ w h) ?_
              simp only [Act.put, List.setIfInBounds_toArray, List.set_cons_zero, List.set_cons_succ]
              refine ah_skip (i := 30) (some 105) rfl rfl (by kernel_rfl) (by kernel_rfl) (by kernel_rfl) rfl S (fun c a w h => hQP c a _ _ w h) ?_
              simp only [Act.put, List.setIfInBounds_toArray, List.set_cons_zero, List.set_cons_succ]
              refine ah_skip (i := 31) (some 106) rfl rfl (by kernel_rfl) (by kernel_rfl) (by kernel_rfl) rfl S (fun c a w h => hQP c a _ _ w h) ?_
              simp only [Act.put, List.setIfInBounds_toArray, List.set_cons_zero, List.set_cons_succ]
              refine ah_skip (i := 32) (some 107) rfl rfl (by kernel_rfl) (by kernel_rfl) (by kernel_rfl) rfl S (fun c a w h => hQP c a _ _ w h) ?_
              simp only [Act.put, List.setIfInBounds_toArray, List.set_cons_zero, List.set_cons_succ]
              refine ah_skip (i := 33) (some 108) rfl rfl (by kernel_rfl) (by kernel_rfl) (by kernel_rfl) rfl S (fun c a w h => hQP c a _ _ w h) ?_
              simp only [Act.put, List.setIfInBounds_toArray, List.set_cons_zero, List.set_cons_succ]
              refine ah_skip (i := 34) (some 109) rfl rfl (by kernel_rfl) (by kernel_rfl) (by kernel_rfl) rfl S (fun c a w h => hQP c a _ _ w h) ?_
              simp only [Act.put, List.setIfInBounds_toArray, List.set_cons_zero, List.set_cons_succ]
              refine ah_skip (i := 35) (some 110) rfl rfl (by kernel_rfl) (by kernel_rfl) (by kernel_rfl) rfl S (fun c a w h => hQP c a _ _ w h) ?_
              simp only [Act.put, List.setIfInBounds_toArray, List.set_cons_zero, List.set_cons_succ]
              refine ah_skip (i := 36) (some 111) rfl rfl (by kernel_rfl) (by kernel_rfl) (by kernel_rfl) rfl S (fun c a w h => hQP c a _ _ w h) ?_
              simp only [Act.put, List.setIfInBounds_toArray, List.set_cons_zero, List.set_cons_succ]
              refine ah_take (v := (.bool false)) (i := 37) (some 112) rfl rfl (by kernel_rfl) (by kernel_rfl) (by kernel_rfl) rfl (fun W hK => ex_pkF rfl rfl rfl) S (fun c a w h => hQP c a _ _ w h) ?_
              simp only [Act.put, List.setIfInBounds_toArray, List.set_cons_zero, List.set_cons_succ]
              refine ah_done (by kernel_rfl) ?_
              exact JOIN _ _ _ _ _ _ _ _ _ _ _ _ _ _ _ _ _ _ _ _ _ _ _ _ _ _ _ _ _ _ _ _ _ _ _ _ _ (fun h => absurd h q6)
            have HD := range_below (hh (i - 1) (by omega)).2 E
            have q0 := range_at0 HD (hh (i - 1) (by omega)).1.c0
            have q1 := range_at HD (hh (i - 1) (by omega)).1.c1
            have e1 : ((i : Nat) : Int) - 1 = ((i - 1 : Nat) : Int) := by omega
            by_cases q7 : (hv i).by_ < (hv (i - 1)).by_
            · skip
              refine ah_take (v := (.int .i64 (i : Nat))) (i := 0) (some 75) rfl rfl (by kernel_rfl) (by kernel_rfl) (by kernel_rfl) rfl (fun W hK => ex_mv rfl rfl) S (fun c a w h => hQP c a _ _ w h) ?_
              simp only [Act.put, List.setIfInBounds_toArray, List.set_cons_zero, List.set_cons_succ]
              refine ah_take (v := (.bool true)) (i := 1) (some 76) rfl rfl (by kernel_rfl) (by kernel_rfl) (by kernel_rfl) rfl (fun W hK => ex_bin (u := (.int .i64 (i : Nat))) (r := (.int .i64 0)) rfl rfl rfl (eg3 _ _ _ _ _ _) (gtr3 _ (decide_eq_true (by omega)))) S (fun c a w h => hQP c a _ _ w h) ?_
              simp only [Act.put, List.setIfInBounds_toArray, List.set_cons_zero, List.set_cons_succ]
              refine ah_take (v := (.bool true)) (i := 2) (some 77) rfl rfl (by kernel_rfl) (by kernel_rfl) (by kernel_rfl) rfl (fun W hK => ex_mv rfl rfl) S (fun c a w h => hQP c a _ _ w h) ?_
              simp only [Act.put, List.setIfInBounds_toArray, List.set_cons_zero, List.set_cons_succ]
              refine ah_take (v := (.pointer (some ⟨b2, 2, none⟩))) (i := 3) (some 78) rfl rfl (by kernel_rfl) (by kernel_rfl) (by kernel_rfl) rfl (fun W hK => ex_fa (p := (.pointer (some ⟨b2, 0, none⟩))) rfl rfl (fa29_2 _ _)) S (fun c a w h => hQP c a _ _ w h) ?_
              simp only [Act.put, List.setIfInBounds_toArray, List.set_cons_zero, List.set_cons_succ]
              refine ah_take (v := (.slice (some ⟨b, p, none⟩) n c)) (i := 4) (some 79) rfl rfl (by kernel_rfl) (by kernel_rfl) (by kernel_rfl) rfl (fun W hK => ex_load (p := (.pointer (some ⟨b2, 2, none⟩))) rfl rfl (ld27 (at_cell (keepK hK d_k2 (nilN _)) rfl))) S (fun c a w h => hQP c a _ _ w h) ?_
              simp only [Act.put, List.setIfInBounds_toArray, List.set_cons_zero, List.set_cons_succ]
              refine ah_take (v := (.int .i64 (i : Nat))) (i := 5) (some 80) rfl rfl (by kernel_rfl) (by kernel_rfl) (by kernel_rfl) rfl (fun W hK => ex_mv rfl rfl) S (fun c a w h => hQP c a _ _ w h) ?_
              simp only [Act.put, List.setIfInBounds_toArray, List.set_cons_zero, List.set_cons_succ]
              refine ah_take (v := (.int .i64 ((i - 1 : Nat) : Int))) (i := 6) (some 81) rfl rfl (by kernel_rfl) (by kernel_rfl) (by kernel_rfl) rfl (fun W hK => ex_bin rfl rfl rfl (eg3 _ _ _ _ _ _) (sub3 _ e1 (by omega))) S (fun c a w h => hQP c a _ _ w h) ?_
              simp only [Act.put, List.setIfInBounds_toArray, List.set_cons_zero, List.set_cons_succ]
              refine ah_take (v := (.pointer (some ⟨b, (p + (i - 1) * 36), none⟩))) (i := 7) (some 82) rfl rfl (by kernel_rfl) (by kernel_rfl) (by kernel_rfl) rfl (fun W hK => ex_ix27 (k := i - 1) rfl rfl rfl (by omega)) S (fun c a w h => hQP c a _ _ w h) ?_
              simp only [Act.put, List.setIfInBounds_toArray, List.set_cons_zero, List.set_cons_succ]
              refine ah_take (v := (.pointer (some ⟨b, (p + (i - 1) * 36), none⟩))) (i := 8) (some 83) rfl rfl (by kernel_rfl) (by kernel_rfl) (by kernel_rfl) rfl (fun W hK => ex_fa rfl rfl (faH0 _ _ _)) S (fun c a w h => hQP c a _ _ w h) ?_
              simp only [Act.put, List.setIfInBounds_toArray, List.set_cons_zero, List.set_cons_succ]
              refine ah_take (v := (.int .i64 (hv (i - 1)).by_)) (i := 9) (some 84) rfl rfl (by kernel_rfl) (by kernel_rfl) (by kernel_rfl) rfl (fun W hK => ex_load rfl rfl (ld3 (cell_kept hK q0))) S (fun c a w h => hQP c a _ _ w h) ?_
              simp only [Act.put, List.setIfInBounds_toArray, List.set_cons_zero, List.set_cons_succ]
              refine ah_take (v := (.pointer (some ⟨b3, 0, none⟩))) (i := 10) (some 85) rfl rfl (by kernel_rfl) (by kernel_rfl) (by kernel_rfl) rfl (fun W hK => ex_fa (p := (.pointer (some ⟨b3, 0, none⟩))) rfl rfl (fa49_0 _ _)) S (fun c a w h => hQP c a _ _ w h) ?_
              simp only [Act.put, List.setIfInBounds_toArray, List.set_cons_zero, List.set_cons_succ]
              refine ah_take (v := (.int .i64 (hv i).by_)) (i := 11) (some 86) rfl rfl (by kernel_rfl) (by kernel_rfl) (by kernel_rfl) rfl (fun W hK => ex_load (p := (.pointer (some ⟨b3, 0, none⟩))) rfl rfl (ld3 (at_cell (keepK hK d_k3 (nilN _)) HC.1.c0))) S (fun c a w h => hQP c a _ _ w h) ?_
              simp only [Act.put, List.setIfInBounds_toArray, List.set_cons_zero, List.set_cons_succ]
              refine ah_take (v := (.bool true)) (i := 12) (some 87) rfl rfl (by kernel_rfl) (by kernel_rfl) (by kernel_rfl) rfl (fun W hK => ex_bin (u := (.int .i64 (hv (i - 1)).by_)) (r := (.int .i64 (hv i).by_)) rfl rfl rfl (eg3 _ _ _ _ _ _) (gtr3 _ (decide_eq_true q7))) S (fun c a w h => hQP c a _ _ w h) ?_
              simp only [Act.put, List.setIfInBounds_toArray, List.set_cons_zero, List.set_cons_succ]
              refine ah_take (v := (.bool true)) (i := 13) (some 88) rfl rfl (by kernel_rfl) (by kernel_rfl) (by kernel_rfl) rfl (fun W hK => ex_mv rfl rfl) S (fun c a w h => hQP c a _ _ w h) ?_
              simp only [Act.put, List.setIfInBounds_toArray, List.set_cons_zero, List.set_cons_succ]
              refine ah_skip (i := 14) (some 89) rfl rfl (by kernel_rfl) (by kernel_rfl) (by kernel_rfl) rfl S (fun c a w h => hQP c a _ _ w h) ?_
              simp only [Act.put, List.setIfInBounds_toArray, List.set_cons_zero, List.set_cons_succ]
              refine ah_skip (i := 15) (some 90) rfl rfl (by kernel_rfl) (by kernel_rfl) (by kernel_rfl) rfl S (fun c a w h => hQP c a _ _ w h) ?_
              simp only [Act.put, List.setIfInBounds_toArray, List.set_cons_zero, List.set_cons_succ]
              refine ah_skip (i := 16) (some 91) rfl rfl (by kernel_rfl) (by kernel_rfl) (by kernel_rfl) rfl S (fun c a w h => hQP c a _ _ w h) ?_
              simp only [Act.put, List.setIfInBounds_toArray, List.set_cons_zero, List.set_cons_succ]
              refine ah_skip (i := 17) (some 92) rfl rfl (by kernel_rfl) (by kernel_rfl) (by kernel_rfl) rfl S (fun c a w h => hQP c a _ _ w h) ?_
              simp only [Act.put, List.setIfInBounds_toArray, List.set_cons_zero, List.set_cons_succ]
              refine ah_skip (i := 18) (some 93) rfl rfl (by kernel_rfl) (by kernel_rfl) (by kernel_rfl) rfl S (fun c a w h => hQP c a _ _ w h) ?_
              simp only [Act.put, List.setIfInBounds_toArray, List.set_cons_zero, List.set_cons_succ]
              refine ah_skip (i := 19) (some 94) rfl rfl (by kernel_rfl) (by kernel_rfl) (by kernel_rfl) rfl S (fun c a w h => hQP c a _ _ w h) ?_
              simp only [Act.put, List.setIfInBounds_toArray, List.set_cons_zero, List.set_cons_succ]
              refine ah_skip (i := 20) (some 95) rfl rfl (by kernel_rfl) (by kernel_rfl) (by kernel_rfl) rfl S (fun c a w h => hQP c a _ _ w h) ?_
              simp only [Act.put, List.setIfInBounds_toArray, List.set_cons_zero, List.set_cons_succ]
              refine ah_skip (i := 21) (some 96) rfl rfl (by kernel_rfl) (by kernel_rfl) (by kernel_rfl) rfl S (fun c a w h => hQP c a _ _ w h) ?_
              simp only [Act.put, List.setIfInBounds_toArray, List.set_cons_zero, List.set_cons_succ]
              refine ah_skip (i := 22) (some 97) rfl rfl (by kernel_rfl) (by kernel_rfl) (by kernel_rfl) rfl S (fun c a w h => hQP c a _ _ w h) ?_
              simp only [Act.put, List.setIfInBounds_toArray, List.set_cons_zero, List.set_cons_succ]
              refine ah_skip (i := 23) (some 98) rfl rfl (by kernel_rfl) (by kernel_rfl) (by kernel_rfl) rfl S (fun c a w h => hQP c a _ _ w h) ?_
              simp only [Act.put, List.setIfInBounds_toArray, List.set_cons_zero, List.set_cons_succ]
              refine ah_skip (i := 24) (some 99) rfl rfl (by kernel_rfl) (by kernel_rfl) (by kernel_rfl) rfl S (fun c a w h => hQP c a _ _ w h) ?_
              simp only [Act.put, List.setIfInBounds_toArray, List.set_cons_zero, List.set_cons_succ]
              refine ah_skip (i := 25) (some 100) rfl rfl (by kernel_rfl) (by kernel_rfl) (by kernel_rfl) rfl S (fun c a w h => hQP c a _ _ w h) ?_
              simp only [Act.put, List.setIfInBounds_toArray, List.set_cons_zero, List.set_cons_succ]
              refine ah_skip (i := 26) (some 101) rfl rfl (by kernel_rfl) (by kernel_rfl) (by kernel_rfl) rfl S (fun c a w h => hQP c a _ _ w h) ?_
              simp only [Act.put, List.setIfInBounds_toArray, List.set_cons_zero, List.set_cons_succ]
              refine ah_skip (i := 27) (some 102) rfl rfl (by kernel_rfl) (by kernel_rfl) (by kernel_rfl) rfl S (fun c a w h => hQP c a _ _ w h) ?_
              simp only [Act.put, List.setIfInBounds_toArray, List.set_cons_zero, List.set_cons_succ]
              refine ah_skip (i := 28) (some 103) rfl rfl (by kernel_rfl) (by kernel_rfl) (by kernel_rfl) rfl S (fun c a w h => hQP c a _ _ w h) ?_
              simp only [Act.put, List.setIfInBounds_toArray, List.set_cons_zero, List.set_cons_succ]
              refine ah_skip (i := 29) (some 104) rfl rfl (by kernel_rfl) (by kernel_rfl) (by kernel_rfl) rfl S (fun c a w h => hQP c a _ _ w h) ?_
              simp only [Act.put, List.setIfInBounds_toArray, List.set_cons_zero, List.set_cons_succ]
              refine ah_skip (i := 30) (some 105) rfl rfl (by kernel_rfl) (by kernel_rfl) (by kernel_rfl) rfl S (fun c a w h => hQP c a _ _ w h) ?_
              simp only [Act.put, List.setIfInBounds_toArray, List.set_cons_zero, List.set_cons_succ]
              refine ah_skip (i := 31) (some 106) rfl rfl (by kernel_rfl) (by kernel_rfl) (by kernel_rfl) rfl S (fun c a w h => hQP c a _ _ w h) ?_
              simp only [Act.put, List.setIfInBounds_toArray, List.set_cons_zero, List.set_cons_succ]
              refine ah_skip (i := 32) (some 107) rfl rfl (by kernel_rfl) (by kernel_rfl) (by kernel_rfl) rfl S (fun c a w h => hQP c a _ _ w h) ?_
              simp only [Act.put, List.setIfInBounds_toArray, List.set_cons_zero, List.set_cons_succ]
              refine ah_skip (i := 33) (some 108) rfl rfl (by kernel_rfl) (by kernel_rfl) (by kernel_rfl) rfl S (fun c a w h => hQP c a _ _ w h) ?_
              simp only [Act.put, List.setIfInBounds_toArray, List.set_cons_zero, List.set_cons_succ]
              refine ah_skip (i := 34) (some 109) rfl rfl (by kernel_rfl) (by kernel_rfl) (by kernel_rfl) rfl S (fun c a w h => hQP c a _ _ w h) ?_
              simp only [Act.put, List.setIfInBounds_toArray, List.set_cons_zero, List.set_cons_succ]
              refine ah_skip (i := 35) (some 110) rfl rfl (by kernel_rfl) (by kernel_rfl) (by kernel_rfl) rfl S (fun c a w h => hQP c a _ _ w h) ?_
              simp only [Act.put, List.setIfInBounds_toArray, List.set_cons_zero, List.set_cons_succ]
              refine ah_take (v := (.bool true)) (i := 36) (some 111) rfl rfl (by kernel_rfl) (by kernel_rfl) (by kernel_rfl) rfl (fun W hK => ex_pkT rfl rfl rfl) S (fun c a w h => hQP c a _ _ w h) ?_
              simp only [Act.put, List.setIfInBounds_toArray, List.set_cons_zero, List.set_cons_succ]
              refine ah_take (v := (.bool true)) (i := 37) (some 112) rfl rfl (by kernel_rfl) (by kernel_rfl) (by kernel_rfl) rfl (fun W hK => ex_pkT rfl rfl rfl) S (fun c a w h => hQP c a _ _ w h) ?_
              simp only [Act.put, List.setIfInBounds_toArray, List.set_cons_zero, List.set_cons_succ]
              refine ah_done (by kernel_rfl) ?_
              clear hQP
              subst hQ
              clear S d_k1 d_k2 d_k3 
              refine wp_cond_true rfl ?_
              refine wp_seq ?_
              refine wl_in ?_
              refine wl_cap fun Q hQ => ?_
              refine st_to (v := (.bool false)) (some 4) rfl rfl (ex_asg rfl rfl) ?_
              simp only [Act.put, List.setIfInBounds_toArray, List.set_cons_zero, List.set_cons_succ]
              refine st_end ?_
              subst hQ
              refine wp_ret ?_
              repeat (first | refine ret_out ?_ | refine ret_blk ?_)
              refine bodyPost_ret (results_tmp Try.results15 _ _ _) rfl ⟨?_, E⟩
              show Ending.returned (.bool false) = _
              rw [fits_hs (hs_fall hlt q6 (decide_eq_false (by omega)))]
            by_cases q8 : (hv (i - 1)).by_ = (hv i).by_
            rotate_left
            · skip
              refine ah_take (v := (.int .i64 (i : Nat))) (i := 0) (some 75) rfl rfl (by kernel_rfl) (by kernel_rfl) (by kernel_rfl) rfl (fun W hK => ex_mv rfl rfl) S (fun c a w h => hQP c a _ _ w h) ?_
              simp only [Act.put, List.setIfInBounds_toArray, List.set_cons_zero, List.set_cons_succ]
              refine ah_take (v := (.bool true)) (i := 1) (some 76) rfl rfl (by kernel_rfl) (by kernel_rfl) (by kernel_rfl) rfl (fun W hK => ex_bin (u := (.int .i64 (i : Nat))) (r := (.int .i64 0)) rfl rfl rfl (eg3 _ _ _ _ _ _) (gtr3 _ (decide_eq_true (by omega)))) S (fun c a w h => hQP c a _ _ w h) ?_
              simp only [Act.put, List.setIfInBounds_toArray, List.set_cons_zero, List.set_cons_succ]
              refine ah_take (v := (.bool true)) (i := 2) (some 77) rfl rfl (by kernel_rfl) (by kernel_rfl) (by kernel_rfl) rfl (fun W hK => ex_mv rfl rfl) S (fun c a w h => hQP c a _ _ w h) ?_
              simp only [Act.put, List.setIfInBounds_toArray, List.set_cons_zero, List.set_cons_succ]
              refine ah_take (v := (.pointer (some ⟨b2, 2, none⟩))) (i := 3) (some 78) rfl rfl (by kernel_rfl) (by kernel_rfl) (by kernel_rfl) rfl (fun W hK => ex_fa (p := (.pointer (some ⟨b2, 0, none⟩))) rfl rfl (fa29_2 _ _)) S (fun c a w h => hQP c a _ _ w h) ?_
              simp only [Act.put, List.setIfInBounds_toArray, List.set_cons_zero, List.set_cons_succ]
              refine ah_take (v := (.slice (some ⟨b, p, none⟩) n c)) (i := 4) (some 79) rfl rfl (by kernel_rfl) (by kernel_rfl) (by kernel_rfl) rfl (fun W hK => ex_load (p := (.pointer (some ⟨b2, 2, none⟩))) rfl rfl (ld27 (at_cell (keepK hK d_k2 (nilN _)) rfl))) S (fun c a w h => hQP c a _ _ w h) ?_
              simp only [Act.put, List.setIfInBounds_toArray, List.set_cons_zero, List.set_cons_succ]
              refine ah_take (v := (.int .i64 (i : Nat))) (i := 5) (some 80) rfl rfl (by kernel_rfl) (by kernel_rfl) (by kernel_rfl) rfl (fun W hK => ex_mv rfl rfl) S (fun c a w h => hQP c a _ _ w h) ?_
              simp only [Act.put, List.setIfInBounds_toArray, List.set_cons_zero, List.set_cons_succ]
              refine ah_take (v := (.int .i64 ((i - 1 : Nat) : Int))) (i := 6) (some 81) rfl rfl (by kernel_rfl) (by kernel_rfl) (by kernel_rfl) rfl (fun W hK => ex_bin rfl rfl rfl (eg3 _ _ _ _ _ _) (sub3 _ e1 (by omega))) S (fun c a w h => hQP c a _ _ w h) ?_
              simp only [Act.put, List.setIfInBounds_toArray, List.set_cons_zero, List.set_cons_succ]
              refine ah_take (v := (.pointer (some ⟨b, (p + (i - 1) * 36), none⟩))) (i := 7) (some 82) rfl rfl (by kernel_rfl) (by kernel_rfl) (by kernel_rfl) rfl (fun W hK => ex_ix27 (k := i - 1) rfl rfl rfl (by omega)) S (fun c a w h => hQP c a _ _ w h) ?_
              simp only [Act.put, List.setIfInBounds_toArray, List.set_cons_zero, List.set_cons_succ]
              refine ah_take (v := (.pointer (some ⟨b, (p + (i - 1) * 36), none⟩))) (i := 8) (some 83) rfl rfl (by kernel_rfl) (by kernel_rfl) (by kernel_rfl) rfl (fun W hK => ex_fa rfl rfl (faH0 _ _ _)) S (fun c a w h => hQP c a _ _ w h) ?_
              simp only [Act.put, List.setIfInBounds_toArray, List.set_cons_zero, List.set_cons_succ]
              refine ah_take (v := (.int .i64 (hv (i - 1)).by_)) (i := 9) (some 84) rfl rfl (by kernel_rfl) (by kernel_rfl) (by kernel_rfl) rfl (fun W hK => ex_load rfl rfl (ld3 (cell_kept hK q0))) S (fun c a w h => hQP c a _ _ w h) ?_
              simp only [Act.put, List.setIfInBounds_toArray, List.set_cons_zero, List.set_cons_succ]
              refine ah_take (v := (.pointer (some ⟨b3, 0, none⟩))) (i := 10) (some 85) rfl rfl (by kernel_rfl) (by kernel_rfl) (by kernel_rfl) rfl (fun W hK => ex_fa (p := (.pointer (some ⟨b3, 0, none⟩))) rfl rfl (fa49_0 _ _)) S (fun c a w h => hQP c a _ _ w h) ?_
              simp only [Act.put, List.setIfInBounds_toArray, List.set_cons_zero, List.set_cons_succ]
              refine ah_take (v := (.int .i64 (hv i).by_)) (i := 11) (some 86) rfl rfl (by kernel_rfl) (by kernel_rfl) (by kernel_rfl) rfl (fun W hK => ex_load (p := (.pointer (some ⟨b3, 0, none⟩))) rfl rfl (ld3 (at_cell (keepK hK d_k3 (nilN _)) HC.1.c0))) S (fun c a w h => hQP c a _ _ w h) ?_
              simp only [Act.put, List.setIfInBounds_toArray, List.set_cons_zero, List.set_cons_succ]
              refine ah_take (v := (.bool false)) (i := 12) (some 87) rfl rfl (by kernel_rfl) (by kernel_rfl) (by kernel_rfl) rfl (fun W hK => ex_bin (u := (.int .i64 (hv (i - 1)).by_)) (r := (.int .i64 (hv i).by_)) rfl rfl rfl (eg3 _ _ _ _ _ _) (gtr3 _ (decide_eq_false q7))) S (fun c a w h => hQP c a _ _ w h) ?_
              simp only [Act.put, List.setIfInBounds_toArray, List.set_cons_zero, List.set_cons_succ]
              refine ah_take (v := (.bool false)) (i := 13) (some 88) rfl rfl (by kernel_rfl) (by kernel_rfl) (by kernel_rfl) rfl (fun W hK => ex_mv rfl rfl) S (fun c a w h => hQP c a _ _ w h) ?_
              simp only [Act.put, List.setIfInBounds_toArray, List.set_cons_zero, List.set_cons_succ]
              refine ah_take (v := (.pointer (some ⟨b2, 2, none⟩))) (i := 14) (some 89) rfl rfl (by kernel_rfl) (by kernel_rfl) (by kernel_rfl) rfl (fun W hK => ex_fa (p := (.pointer (some ⟨b2, 0, none⟩))) rfl rfl (fa29_2 _ _)) S (fun c a w h => hQP c a _ _ w h) ?_
              simp only [Act.put, List.setIfInBounds_toArray, List.set_cons_zero, List.set_cons_succ]
              refine ah_take (v := (.slice (some ⟨b, p, none⟩) n c)) (i := 15) (some 90) rfl rfl (by kernel_rfl) (by kernel_rfl) (by kernel_rfl) rfl (fun W hK => ex_load (p := (.pointer (some ⟨b2, 2, none⟩))) rfl rfl (ld27 (at_cell (keepK hK d_k2 (nilN _)) rfl))) S (fun c a w h => hQP c a _ _ w h) ?_
              simp only [Act.put, List.setIfInBounds_toArray, List.set_cons_zero, List.set_cons_succ]
              refine ah_take (v := (.int .i64 (i : Nat))) (i := 16) (some 91) rfl rfl (by kernel_rfl) (by kernel_rfl) (by kernel_rfl) rfl (fun W hK => ex_mv rfl rfl) S (fun c a w h => hQP c a _ _ w h) ?_
              simp only [Act.put, List.setIfInBounds_toArray, List.set_cons_zero, List.set_cons_succ]
              refine ah_take (v := (.int .i64 ((i - 1 : Nat) : Int))) (i := 17) (some 92) rfl rfl (by kernel_rfl) (by kernel_rfl) (by kernel_rfl) rfl (fun W hK => ex_bin rfl rfl rfl (eg3 _ _ _ _ _ _) (sub3 _ e1 (by omega))) S (fun c a w h => hQP c a _ _ w h) ?_
              simp only [Act.put, List.setIfInBounds_toArray, List.set_cons_zero, List.set_cons_succ]
              refine ah_take (v := (.pointer (some ⟨b, (p + (i - 1) * 36), none⟩))) (i := 18) (some 93) rfl rfl (by kernel_rfl) (by kernel_rfl) (by kernel_rfl) rfl (fun W hK => ex_ix27 (k := i - 1) rfl rfl rfl (by omega)) S (fun c a w h => hQP c a _ _ w h) ?_
              simp only [Act.put, List.setIfInBounds_toArray, List.set_cons_zero, List.set_cons_succ]
              refine ah_take (v := (.pointer (some ⟨b, (p + (i - 1) * 36), none⟩))) (i := 19) (some 94) rfl rfl (by kernel_rfl) (by kernel_rfl) (by kernel_rfl) rfl (fun W hK => ex_fa rfl rfl (faH0 _ _ _)) S (fun c a w h => hQP c a _ _ w h) ?_
              simp only [Act.put, List.setIfInBounds_toArray, List.set_cons_zero, List.set_cons_succ]
              refine ah_take (v := (.int .i64 (hv (i - 1)).by_)) (i := 20) (some 95) rfl rfl (by kernel_rfl) (by kernel_rfl) (by kernel_rfl) rfl (fun W hK => ex_load rfl rfl (ld3 (cell_kept hK q0))) S (fun c a w h => hQP c a _ _ w h) ?_
              simp only [Act.put, List.setIfInBounds_toArray, List.set_cons_zero, List.set_cons_succ]
              refine ah_take (v := (.pointer (some ⟨b3, 0, none⟩))) (i := 21) (some 96) rfl rfl (by kernel_rfl) (by kernel_rfl) (by kernel_rfl) rfl (fun W hK => ex_fa (p := (.pointer (some ⟨b3, 0, none⟩))) rfl rfl (fa49_0 _ _)) S (fun c a w h => hQP c a _ _ w h) ?_
              simp only [Act.put, List.setIfInBounds_toArray, List.set_cons_zero, List.set_cons_succ]
              refine ah_take (v := (.int .i64 (hv i).by_)) (i := 22) (some 97) rfl rfl (by kernel_rfl) (by kernel_rfl) (by kernel_rfl) rfl (fun W hK => ex_load (p := (.pointer (some ⟨b3, 0, none⟩))) rfl rfl (ld3 (at_cell (keepK hK d_k3 (nilN _)) HC.1.c0))) S (fun c a w h => hQP c a _ _ w h) ?_
              simp only [Act.put, List.setIfInBounds_toArray, List.set_cons_zero, List.set_cons_succ]
              refine ah_take (v := (.bool false)) (i := 23) (some 98) rfl rfl (by kernel_rfl) (by kernel_rfl) (by kernel_rfl) rfl (fun W hK => ex_bin (u := (.int .i64 (hv (i - 1)).by_)) (r := (.int .i64 (hv i).by_)) rfl rfl rfl (eg3 _ _ _ _ _ _) (eql3 _ (decide_eq_false q8))) S (fun c a w h => hQP c a _ _ w h) ?_
              simp only [Act.put, List.setIfInBounds_toArray, List.set_cons_zero, List.set_cons_succ]
              refine ah_take (v := (.bool false)) (i := 24) (some 99) rfl rfl (by kernel_rfl) (by kernel_rfl) (by kernel_rfl) rfl (fun W hK => ex_mv rfl rfl) S (fun c a w h => hQP c a _ _ w h) ?_
              simp only [Act.put, List.setIfInBounds_toArray, List.set_cons_zero, List.set_cons_succ]
              refine ah_skip (i := 25) (some 100) rfl rfl (by kernel_rfl) (by kernel_rfl) (by kernel_rfl) rfl S (fun c a w h => hQP c a _ _ w h) ?_
              simp only [Act.put, List.setIfInBounds_toArray, List.set_cons_zero, List.set_cons_succ]
              refine ah_skip (i := 26) (some 101) rfl rfl (by kernel_rfl) (by kernel_rfl) (by kernel_rfl) rfl S (fun c a w h => hQP c a _ _ w h) ?_
              simp only [Act.put, List.setIfInBounds_toArray, List.set_cons_zero, List.set_cons_succ]
              refine ah_skip (i := 27) (some 102) rfl rfl (by kernel_rfl) (by kernel_rfl) (by kernel_rfl) rfl S (fun c a w h => hQP c a _ _ w h) ?_
              simp only [Act.put, List.setIfInBounds_toArray, List.set_cons_zero, List.set_cons_succ]
              refine ah_skip (i := 28) (some 103) rfl rfl (by kernel_rfl) (by kernel_rfl) (by kernel_rfl) rfl S (fun c a w h => hQP c a _ _ w h) ?_
              simp only [Act.put, List.setIfInBounds_toArray, List.set_cons_zero, List.set_cons_succ]
              refine ah_skip (i := 29) (some 104) rfl rfl (by kernel_rfl) (by kernel_rfl) (by kernel_rfl) rfl S (fun c a w h => hQP c a _ _ w h) ?_
              simp only [Act.put, List.setIfInBounds_toArray, List.set_cons_zero, List.set_cons_succ]
              refine ah_skip (i := 30) (some 105) rfl rfl (by kernel_rfl) (by kernel_rfl) (by kernel_rfl) rfl S (fun c a w h => hQP c a _ _ w h) ?_
              simp only [Act.put, List.setIfInBounds_toArray, List.set_cons_zero, List.set_cons_succ]
              refine ah_skip (i := 31) (some 106) rfl rfl (by kernel_rfl) (by kernel_rfl) (by kernel_rfl) rfl S (fun c a w h => hQP c a _ _ w h) ?_
              simp only [Act.put, List.setIfInBounds_toArray, List.set_cons_zero, List.set_cons_succ]
              refine ah_skip (i := 32) (some 107) rfl rfl (by kernel_rfl) (by kernel_rfl) (by kernel_rfl) rfl S (fun c a w h => hQP c a _ _ w h) ?_
              simp only [Act.put, List.setIfInBounds_toArray, List.set_cons_zero, List.set_cons_succ]
              refine ah_skip (i := 33) (some 108) rfl rfl (by kernel_rfl) (by kernel_rfl) (by kernel_rfl) rfl S (fun c a w h => hQP c a _ _ w h) ?_
              simp only [Act.put, List.setIfInBounds_toArray, List.set_cons_zero, List.set_cons_succ]
              refine ah_skip (i := 34) (some 109) rfl rfl (by kernel_rfl) (by kernel_rfl) (by kernel_rfl) rfl S (fun c a w h => hQP c a _ _ w h) ?_
              simp only [Act.put, List.setIfInBounds_toArray, List.set_cons_zero, List.set_cons_succ]
              refine ah_take (v := (.bool false)) (i := 35) (some 110) rfl rfl (by kernel_rfl) (by kernel_rfl) (by kernel_rfl) rfl (fun W hK => ex_pkF rfl rfl rfl) S (fun c a w h => hQP c a _ _ w h) ?_
              simp only [Act.put, List.setIfInBounds_toArray, List.set_cons_zero, List.set_cons_succ]
              refine ah_take (v := (.bool false)) (i := 36) (some 111) rfl rfl (by kernel_rfl) (by kernel_rfl) (by kernel_rfl) rfl (fun W hK => ex_pkF rfl rfl rfl) S (fun c a w h => hQP c a _ _ w h) ?_
              simp only [Act.put, List.setIfInBounds_toArray, List.set_cons_zero, List.set_cons_succ]
              refine ah_take (v := (.bool false)) (i := 37) (some 112) rfl rfl (by kernel_rfl) (by kernel_rfl) (by kernel_rfl) rfl (fun W hK => ex_pkT rfl rfl rfl) S (fun c a w h => hQP c a _ _ w h) ?_
              simp only [Act.put, List.setIfInBounds_toArray, List.set_cons_zero, List.set_cons_succ]
              refine ah_done (by kernel_rfl) ?_
              exact JOIN _ _ _ _ _ _ _ _ _ _ _ _ _ _ _ _ _ _ _ _ _ _ _ _ _ _ _ _ _ _ _ _ _ _ _ _ _ (fun _ => decide_eq_true (by omega))
            by_cases q9 : (hv i).id ≤ (hv (i - 1)).id
            · skip
              refine ah_take (v := (.int .i64 (i : Nat))) (i := 0) (some 75) rfl rfl (by kernel_rfl) (by kernel_rfl) (by kernel_rfl) rfl (fun W hK => ex_mv rfl rfl) S (fun c a w h => hQP c a _ _ w h) ?_
              simp only [Act.put, List.setIfInBounds_toArray, List.set_cons_zero, List.set_cons_succ]
              refine ah_take (v := (.bool true)) (i := 1) (some 76) rfl rfl (by kernel_rfl) (by kernel_rfl) (by kernel_rfl) rfl (fun W hK => ex_bin (u := (.int .i64 (i : Nat))) (r := (.int .i64 0)) rfl rfl rfl (eg3 _ _ _ _ _ _) (gtr3 _ (decide_eq_true (by omega)))) S (fun c a w h => hQP c a _ _ w h) ?_
              simp only [Act.put, List.setIfInBounds_toArray, List.set_cons_zero, List.set_cons_succ]
              refine ah_take (v := (.bool true)) (i := 2) (some 77) rfl rfl (by kernel_rfl) (by kernel_rfl) (by kernel_rfl) rfl (fun W hK => ex_mv rfl rfl) S (fun c a w h => hQP c a _ _ w h) ?_
              simp only [Act.put, List.setIfInBounds_toArray, List.set_cons_zero, List.set_cons_succ]
              refine ah_take (v := (.pointer (some ⟨b2, 2, none⟩))) (i := 3) (some 78) rfl rfl (by kernel_rfl) (by kernel_rfl) (by kernel_rfl) rfl (fun W hK => ex_fa (p := (.pointer (some ⟨b2, 0, none⟩))) rfl rfl (fa29_2 _ _)) S (fun c a w h => hQP c a _ _ w h) ?_
              simp only [Act.put, List.setIfInBounds_toArray, List.set_cons_zero, List.set_cons_succ]
              refine ah_take (v := (.slice (some ⟨b, p, none⟩) n c)) (i := 4) (some 79) rfl rfl (by kernel_rfl) (by kernel_rfl) (by kernel_rfl) rfl (fun W hK => ex_load (p := (.pointer (some ⟨b2, 2, none⟩))) rfl rfl (ld27 (at_cell (keepK hK d_k2 (nilN _)) rfl))) S (fun c a w h => hQP c a _ _ w h) ?_
              simp only [Act.put, List.setIfInBounds_toArray, List.set_cons_zero, List.set_cons_succ]
              refine ah_take (v := (.int .i64 (i : Nat))) (i := 5) (some 80) rfl rfl (by kernel_rfl) (by kernel_rfl) (by kernel_rfl) rfl (fun W hK => ex_mv rfl rfl) S (fun c a w h => hQP c a _ _ w h) ?_
              simp only [Act.put, List.setIfInBounds_toArray, List.set_cons_zero, List.set_cons_succ]
              refine ah_take (v := (.int .i64 ((i - 1 : Nat) : Int))) (i := 6) (some 81) rfl rfl (by kernel_rfl) (by kernel_rfl) (by kernel_rfl) rfl (fun W hK => ex_bin rfl rfl rfl (eg3 _ _ _ _ _ _) (sub3 _ e1 (by omega))) S (fun c a w h => hQP c a _ _ w h) ?_
              simp only [Act.put, List.setIfInBounds_toArray, List.set_cons_zero, List.set_cons_succ]
              refine ah_take (v := (.pointer (some ⟨b, (p + (i - 1) * 36), none⟩))) (i := 7) (some 82) rfl rfl (by kernel_rfl) (by kernel_rfl) (by kernel_rfl) rfl (fun W hK => ex_ix27 (k := i - 1) rfl rfl rfl (by omega)) S (fun c a w h => hQP c a _ _ w h) ?_
              simp only [Act.put, List.setIfInBounds_toArray, List.set_cons_zero, List.set_cons_succ]
              refine ah_take (v := (.pointer (some ⟨b, (p + (i - 1) * 36), none⟩))) (i := 8) (some 83) rfl rfl (by kernel_rfl) (by kernel_rfl) (by kernel_rfl) rfl (fun W hK => ex_fa rfl rfl (faH0 _ _ _)) S (fun c a w h => hQP c a _ _ w h) ?_
              simp only [Act.put, List.setIfInBounds_toArray, List.set_cons_zero, List.set_cons_succ]
              refine ah_take (v := (.int .i64 (hv (i - 1)).by_)) (i := 9) (some 84) rfl rfl (by kernel_rfl) (by kernel_rfl) (by kernel_rfl) rfl (fun W hK => ex_load rfl rfl (ld3 (cell_kept hK q0))) S (fun c a w h => hQP c a _ _ w h) ?_
              simp only [Act.put, List.setIfInBounds_toArray, List.set_cons_zero, List.set_cons_succ]
              refine ah_take (v := (.pointer (some ⟨b3, 0, none⟩))) (i := 10) (some 85) rfl rfl (by kernel_rfl) (by kernel_rfl) (by kernel_rfl) rfl (fun W hK => ex_fa (p := (.pointer (some ⟨b3, 0, none⟩))) rfl rfl (fa49_0 _ _)) S (fun c a w h => hQP c a _ _ w h) ?_
              simp only [Act.put, List.setIfInBounds_toArray, List.set_cons_zero, List.set_cons_succ]
              refine ah_take (v := (.int .i64 (hv i).by_)) (i := 11) (some 86) rfl rfl (by kernel_rfl) (by kernel_rfl) (by kernel_rfl) rfl (fun W hK => ex_load (p := (.pointer (some ⟨b3, 0, none⟩))) rfl rfl (ld3 (at_cell (keepK hK d_k3 (nilN _)) HC.1.c0))) S (fun c a w h => hQP c a _ _ w h) ?_
              simp only [Act.put, List.setIfInBounds_toArray, List.set_cons_zero, List.set_cons_succ]
              refine ah_take (v := (.bool false)) (i := 12) (some 87) rfl rfl (by kernel_rfl) (by kernel_rfl) (by kernel_rfl) rfl (fun W hK => ex_bin (u := (.int .i64 (hv (i - 1)).by_)) (r := (.int .i64 (hv i).by_)) rfl rfl rfl (eg3 _ _ _ _ _ _) (gtr3 _ (decide_eq_false q7))) S (fun c a w h => hQP c a _ _ w h) ?_
              simp only [Act.put, List.setIfInBounds_toArray, List.set_cons_zero, List.set_cons_succ]
              refine ah_take (v := (.bool false)) (i := 13) (some 88) rfl rfl (by kernel_rfl) (by kernel_rfl) (by kernel_rfl) rfl (fun W hK => ex_mv rfl rfl) S (fun c a w h => hQP c a _ _ w h) ?_
              simp only [Act.put, List.setIfInBounds_toArray, List.set_cons_zero, List.set_cons_succ]
              refine ah_take (v := (.pointer (some ⟨b2, 2, none⟩))) (i := 14) (some 89) rfl rfl (by kernel_rfl) (by kernel_rfl) (by kernel_rfl) rfl (fun W hK => ex_fa (p := (.pointer (some ⟨b2, 0, none⟩))) rfl rfl (fa29_2 _ _)) S (fun c a w h => hQP c a _ _ w h) ?_
              simp only [Act.put, List.setIfInBounds_toArray, List.set_cons_zero, List.set_cons_succ]
              refine ah_take (v := (.slice (some ⟨b, p, none⟩) n c)) (i := 15) (some 90) rfl rfl (by kernel_rfl) (by kernel_rfl) (by kernel_rfl) rfl (fun W hK => ex_load (p := (.pointer (some ⟨b2, 2, none⟩))) rfl rfl (ld27 (at_cell (keepK hK d_k2 (nilN _)) rfl))) S (fun c a w h => hQP c a _ _ w h) ?_
              simp only [Act.put, List.setIfInBounds_toArray, List.set_cons_zero, List.set_cons_succ]
              refine ah_take (v := (.int .i64 (i : Nat))) (i := 16) (some 91) rfl rfl (by kernel_rfl) (by kernel_rfl) (by kernel_rfl) rfl (fun W hK => ex_mv rfl rfl) S (fun c a w h => hQP c a _ _ w h) ?_
              simp only [Act.put, List.setIfInBounds_toArray, List.set_cons_zero, List.set_cons_succ]
              refine ah_take (v := (.int .i64 ((i - 1 : Nat) : Int))) (i := 17) (some 92) rfl rfl (by kernel_rfl) (by kernel_rfl) (by kernel_rfl) rfl (fun W hK => ex_bin rfl rfl rfl (eg3 _ _ _ _ _ _) (sub3 _ e1 (by omega))) S (fun c a w h => hQP c a _ _ w h) ?_
              simp only [Act.put, List.setIfInBounds_toArray, List.set_cons_zero, List.set_cons_succ]
              refine ah_take (v := (.pointer (some ⟨b, (p + (i - 1) * 36), none⟩))) (i := 18) (some 93) rfl rfl (by kernel_rfl) (by kernel_rfl) (by kernel_rfl) rfl (fun W hK => ex_ix27 (k := i - 1) rfl rfl rfl (by omega)) S (fun c a w h => hQP c a _ _ w h) ?_
              simp only [Act.put, List.setIfInBounds_toArray, List.set_cons_zero, List.set_cons_succ]
              refine ah_take (v := (.pointer (some ⟨b, (p + (i - 1) * 36), none⟩))) (i := 19) (some 94) rfl rfl (by kernel_rfl) (by kernel_rfl) (by kernel_rfl) rfl (fun W hK => ex_fa rfl rfl (faH0 _ _ _)) S (fun c a w h => hQP c a _ _ w h) ?_
              simp only [Act.put, List.setIfInBounds_toArray, List.set_cons_zero, List.set_cons_succ]
              refine ah_take (v := (.int .i64 (hv (i - 1)).by_)) (i := 20) (some 95) rfl rfl (by kernel_rfl) (by kernel_rfl) (by kernel_rfl) rfl (fun W hK => ex_load rfl rfl (ld3 (cell_kept hK q0))) S (fun c a w h => hQP c a _ _ w h) ?_
              simp only [Act.put, List.setIfInBounds_toArray, List.set_cons_zero, List.set_cons_succ]
              refine ah_take (v := (.pointer (some ⟨b3, 0, none⟩))) (i := 21) (some 96) rfl rfl (by kernel_rfl) (by kernel_rfl) (by kernel_rfl) rfl (fun W hK => ex_fa (p := (.pointer (some ⟨b3, 0, none⟩))) rfl rfl (fa49_0 _ _)) S (fun c a w h => hQP c a _ _ w h) ?_
              simp only [Act.put, List.setIfInBounds_toArray, List.set_cons_zero, List.set_cons_succ]
              refine ah_take (v := (.int .i64 (hv i).by_)) (i := 22) (some 97) rfl rfl (by kernel_rfl) (by kernel_rfl) (by kernel_rfl) rfl (fun W hK => ex_load (p := (.pointer (some ⟨b3, 0, none⟩))) rfl rfl (ld3 (at_cell (keepK hK d_k3 (nilN _)) HC.1.c0))) S (fun c a w h => hQP c a _ _ w h) ?_
              simp only [Act.put, List.setIfInBounds_toArray, List.set_cons_zero, List.set_cons_succ]
              refine ah_take (v := (.bool true)) (i := 23) (some 98) rfl rfl (by kernel_rfl) (by kernel_rfl) (by kernel_rfl) rfl (fun W hK => ex_bin (u := (.int .i64 (hv (i - 1)).by_)) (r := (.int .i64 (hv i).by_)) rfl rfl rfl (eg3 _ _ _ _ _ _) (eql3 _ (decide_eq_true q8))) S (fun c a w h => hQP c a _ _ w h) ?_
              simp only [Act.put, List.setIfInBounds_toArray, List.set_cons_zero, List.set_cons_succ]
              refine ah_take (v := (.bool true)) (i := 24) (some 99) rfl rfl (by kernel_rfl) (by kernel_rfl) (by kernel_rfl) rfl (fun W hK => ex_mv rfl rfl) S (fun c a w h => hQP c a _ _ w h) ?_
              simp only [Act.put, List.setIfInBounds_toArray, List.set_cons_zero, List.set_cons_succ]
              refine ah_take (v := (.pointer (some ⟨b2, 2, none⟩))) (i := 25) (some 100) rfl rfl (by kernel_rfl) (by kernel_rfl) (by kernel_rfl) rfl (fun W hK => ex_fa (p := (.pointer (some ⟨b2, 0, none⟩))) rfl rfl (fa29_2 _ _)) S (fun c a w h => hQP c a _ _ w h) ?_
              simp only [Act.put, List.setIfInBounds_toArray, List.set_cons_zero, List.set_cons_succ]
              refine ah_take (v := (.slice (some ⟨b, p, none⟩) n c)) (i := 26) (some 101) rfl rfl (by kernel_rfl) (by kernel_rfl) (by kernel_rfl) rfl (fun W hK => ex_load (p := (.pointer (some ⟨b2, 2, none⟩))) rfl rfl (ld27 (at_cell (keepK hK d_k2 (nilN _)) rfl))) S (fun c a w h => hQP c a _ _ w h) ?_
              simp only [Act.put, List.setIfInBounds_toArray, List.set_cons_zero, List.set_cons_succ]
              refine ah_take (v := (.int .i64 (i : Nat))) (i := 27) (some 102) rfl rfl (by kernel_rfl) (by kernel_rfl) (by kernel_rfl) rfl (fun W hK => ex_mv rfl rfl) S (fun c a w h => hQP c a _ _ w h) ?_
              simp only [Act.put, List.setIfInBounds_toArray, List.set_cons_zero, List.set_cons_succ]
              refine ah_take (v := (.int .i64 ((i - 1 : Nat) : Int))) (i := 28) (some 103) rfl rfl (by kernel_rfl) (by kernel_rfl) (by kernel_rfl) rfl (fun W hK => ex_bin rfl rfl rfl (eg3 _ _ _ _ _ _) (sub3 _ e1 (by omega))) S (fun c a w h => hQP c a _ _ w h) ?_
              simp only [Act.put, List.setIfInBounds_toArray, List.set_cons_zero, List.set_cons_succ]
              refine ah_take (v := (.pointer (some ⟨b, (p + (i - 1) * 36), none⟩))) (i := 29) (some 104) rfl rfl (by kernel_rfl) (by kernel_rfl) (by kernel_rfl) rfl (fun W hK => ex_ix27 (k := i - 1) rfl rfl rfl (by omega)) S (fun c a w h => hQP c a _ _ w h) ?_
              simp only [Act.put, List.setIfInBounds_toArray, List.set_cons_zero, List.set_cons_succ]
              refine ah_take (v := (.pointer (some ⟨b, (p + (i - 1) * 36 + 1), none⟩))) (i := 30) (some 105) rfl rfl (by kernel_rfl) (by kernel_rfl) (by kernel_rfl) rfl (fun W hK => ex_fa rfl rfl (faH1 _ _ _)) S (fun c a w h => hQP c a _ _ w h) ?_
              simp only [Act.put, List.setIfInBounds_toArray, List.set_cons_zero, List.set_cons_succ]
              refine ah_take (v := (.int .i64 (hv (i - 1)).id)) (i := 31) (some 106) rfl rfl (by kernel_rfl) (by kernel_rfl) (by kernel_rfl) rfl (fun W hK => ex_load rfl rfl (ld3 (cell_kept hK q1))) S (fun c a w h => hQP c a _ _ w h) ?_
              simp only [Act.put, List.setIfInBounds_toArray, List.set_cons_zero, List.set_cons_succ]
              refine ah_take (v := (.pointer (some ⟨b3, 1, none⟩))) (i := 32) (some 107) rfl rfl (by kernel_rfl) (by kernel_rfl) (by kernel_rfl) rfl (fun W hK => ex_fa (p := (.pointer (some ⟨b3, 0, none⟩))) rfl rfl (fa49_1 _ _)) S (fun c a w h => hQP c a _ _ w h) ?_
              simp only [Act.put, List.setIfInBounds_toArray, List.set_cons_zero, List.set_cons_succ]
              refine ah_take (v := (.int .i64 (hv i).id)) (i := 33) (some 108) rfl rfl (by kernel_rfl) (by kernel_rfl) (by kernel_rfl) rfl (fun W hK => ex_load (p := (.pointer (some ⟨b3, 1, none⟩))) rfl rfl (ld3 (at_cell (keepK hK d_k3 (nilN _)) HC.1.c1))) S (fun c a w h => hQP c a _ _ w h) ?_
              simp only [Act.put, List.setIfInBounds_toArray, List.set_cons_zero, List.set_cons_succ]
              refine ah_take (v := (.bool true)) (i := 34) (some 109) rfl rfl (by kernel_rfl) (by kernel_rfl) (by kernel_rfl) rfl (fun W hK => ex_bin (u := (.int .i64 (hv (i - 1)).id)) (r := (.int .i64 (hv i).id)) rfl rfl rfl (eg3 _ _ _ _ _ _) (geq3 _ (decide_eq_true q9))) S (fun c a w h => hQP c a _ _ w h) ?_
              simp only [Act.put, List.setIfInBounds_toArray, List.set_cons_zero, List.set_cons_succ]
              refine ah_take (v := (.bool true)) (i := 35) (some 110) rfl rfl (by kernel_rfl) (by kernel_rfl) (by kernel_rfl) rfl (fun W hK => ex_pkT rfl rfl rfl) S (fun c a w h => hQP c a _ _ w h) ?_
              simp only [Act.put, List.setIfInBounds_toArray, List.set_cons_zero, List.set_cons_succ]
              refine ah_take (v := (.bool true)) (i := 36) (some 111) rfl rfl (by kernel_rfl) (by kernel_rfl) (by kernel_rfl) rfl (fun W hK => ex_pkF rfl rfl rfl) S (fun c a w h => hQP c a _ _ w h) ?_
              simp only [Act.put, List.setIfInBounds_toArray, List.set_cons_zero, List.set_cons_succ]
              refine ah_take (v := (.bool true)) (i := 37) (some 112) rfl rfl (by kernel_rfl) (by kernel_rfl) (by kernel_rfl) rfl (fun W hK => ex_pkT rfl rfl rfl) S (fun c a w h => hQP c a _ _ w h) ?_
              simp only [Act.put, List.setIfInBounds_toArray, List.set_cons_zero, List.set_cons_succ]
              refine ah_done (by kernel_rfl) ?_
              clear hQP
              subst hQ
              clear S d_k1 d_k2 d_k3 
              refine wp_cond_true rfl ?_
              refine wp_seq ?_
              refine wl_in ?_
              refine wl_cap fun Q hQ => ?_
              refine st_to (v := (.bool false)) (some 4) rfl rfl (ex_asg rfl rfl) ?_
              simp only [Act.put, List.setIfInBounds_toArray, List.set_cons_zero, List.set_cons_succ]
              refine st_end ?_
              subst hQ
              refine wp_ret ?_
              repeat (first | refine ret_out ?_ | refine ret_blk ?_)
              refine bodyPost_ret (results_tmp Try.results15 _ _ _) rfl ⟨?_, E⟩
              show Ending.returned (.bool false) = _
              rw [fits_hs (hs_fall hlt q6 (decide_eq_false (by omega)))]
            refine ah_take (v := (.int .i64 (i : Nat))) (i := 0) (some 75) rfl rfl (by kernel_rfl) (by kernel_rfl) (by kernel_rfl) rfl (fun W hK => ex_mv rfl rfl) S (fun c a w h => hQP c a _ _ w h) ?_
            simp only [Act.put, List.setIfInBounds_toArray, List.set_cons_zero, List.set_cons_succ]
            refine ah_take (v := (.bool true)) (i := 1) (some 76) rfl rfl (by kernel_rfl) (by kernel_rfl) (by kernel_rfl) rfl (fun W hK => ex_bin (u := (.int .i64 (i : Nat))) (r := (.int .i64 0)) rfl rfl rfl (eg3 _ _ _ _ _ _) (gtr3 _ (decide_eq_true (by omega)))) S (fun c a w h => hQP c a _ _ w h) ?_
            simp only [Act.put, List.setIfInBounds_toArray, List.set_cons_zero, List.set_cons_succ]
            refine ah_take (v := (.bool true)) (i := 2) (some 77) rfl rfl (by kernel_rfl) (by kernel_rfl) (by kernel_rfl) rfl (fun W hK => ex_mv rfl rfl) S (fun c a w h => hQP c a _ _ w h) ?_
            simp only [Act.put, List.setIfInBounds_toArray, List.set_cons_zero, List.set_cons_succ]
            refine ah_take (v := (.pointer (some ⟨b2, 2, none⟩))) (i := 3) (some 78) rfl rfl (by kernel_rfl) (by kernel_rfl) (by kernel_rfl) rfl (fun W hK => ex_fa (p := (.pointer (some ⟨b2, 0, none⟩))) rfl rfl (fa29_2 _ _)) S (fun c a w h => hQP c a _ _ w h) ?_
            simp only [Act.put, List.setIfInBounds_toArray, List.set_cons_zero, List.set_cons_succ]
            refine ah_take (v := (.slice (some ⟨b, p, none⟩) n c)) (i := 4) (some 79) rfl rfl (by kernel_rfl) (by kernel_rfl) (by kernel_rfl) rfl (fun W hK => ex_load (p := (.pointer (some ⟨b2, 2, none⟩))) rfl rfl (ld27 (at_cell (keepK hK d_k2 (nilN _)) rfl))) S (fun c a w h => hQP c a _ _ w h) ?_
            simp only [Act.put, List.setIfInBounds_toArray, List.set_cons_zero, List.set_cons_succ]
            refine ah_take (v := (.int .i64 (i : Nat))) (i := 5) (some 80) rfl rfl (by kernel_rfl) (by kernel_rfl) (by kernel_rfl) rfl (fun W hK => ex_mv rfl rfl) S (fun c a w h => hQP c a _ _ w h) ?_
            simp only [Act.put, List.setIfInBounds_toArray, List.set_cons_zero, List.set_cons_succ]
            refine ah_take (v := (.int .i64 ((i - 1 : Nat) : Int))) (i := 6) (some 81) rfl rfl (by kernel_rfl) (by kernel_rfl) (by kernel_rfl) rfl (fun W hK => ex_bin rfl rfl rfl (eg3 _ _ _ _ _ _) (sub3 _ e1 (by omega))) S (fun c a w h => hQP c a _ _ w h) ?_
            simp only [Act.put, List.setIfInBounds_toArray, List.set_cons_zero, List.set_cons_succ]
            refine ah_take (v := (.pointer (some ⟨b, (p + (i - 1) * 36), none⟩))) (i := 7) (some 82) rfl rfl (by kernel_rfl) (by kernel_rfl) (by kernel_rfl) rfl (fun W hK => ex_ix27 (k := i - 1) rfl rfl rfl (by omega)) S (fun c a w h => hQP c a _ _ w h) ?_
            simp only [Act.put, List.setIfInBounds_toArray, List.set_cons_zero, List.set_cons_succ]
            refine ah_take (v := (.pointer (some ⟨b, (p + (i - 1) * 36), none⟩))) (i := 8) (some 83) rfl rfl (by kernel_rfl) (by kernel_rfl) (by kernel_rfl) rfl (fun W hK => ex_fa rfl rfl (faH0 _ _ _)) S (fun c a w h => hQP c a _ _ w h) ?_
            simp only [Act.put, List.setIfInBounds_toArray, List.set_cons_zero, List.set_cons_succ]
            refine ah_take (v := (.int .i64 (hv (i - 1)).by_)) (i := 9) (some 84) rfl rfl (by kernel_rfl) (by kernel_rfl) (by kernel_rfl) rfl (fun W hK => ex_load rfl rfl (ld3 (cell_kept hK q0))) S (fun c a w h => hQP c a _ _ w h) ?_
            simp only [Act.put, List.setIfInBounds_toArray, List.set_cons_zero, List.set_cons_succ]
            refine ah_take (v := (.pointer (some ⟨b3, 0, none⟩))) (i := 10) (some 85) rfl rfl (by kernel_rfl) (by kernel_rfl) (by kernel_rfl) rfl (fun W hK => ex_fa (p := (.pointer (some ⟨b3, 0, none⟩))) rfl rfl (fa49_0 _ _)) S (fun c a w h => hQP c a _ _ w h) ?_
            simp only [Act.put, List.setIfInBounds_toArray, List.set_cons_zero, List.set_cons_succ]
            refine ah_take (v := (.int .i64 (hv i).by_)) (i := 11) (some 86) rfl rfl (by kernel_rfl) (by kernel_rfl) (by kernel_rfl) rfl (fun W hK => ex_load (p := (.pointer (some ⟨b3, 0, none⟩))) rfl rfl (ld3 (at_cell (keepK hK d_k3 (nilN _)) HC.1.c0))) S (fun c a w h => hQP c a _ _ w h) ?_
            simp only [Act.put, List.setIfInBounds_toArray, List.set_cons_zero, List.set_cons_succ]
            refine ah_take (v := (.bool false)) (i := 12) (some 87) rfl rfl (by kernel_rfl) (by kernel_rfl) (by kernel_rfl) rfl (fun W hK => ex_bin (u := (.int .i64 (hv (i - 1)).by_)) (r := (.int .i64 (hv i).by_)) rfl rfl rfl (eg3 _ _ _ _ _ _) (gtr3 _ (decide_eq_false q7))) S (fun c a w h => hQP c a _ _ w h) ?_
            simp only [Act.put, List.setIfInBounds_toArray, List.set_cons_zero, List.set_cons_succ]
            refine ah_take (v := (.bool false)) (i := 13) (some 88) rfl rfl (by kernel_rfl) (by kernel_rfl) (by kernel_rfl) rfl (fun W hK => ex_mv rfl rfl) S (fun c a w h => hQP c a _ _ w h) ?_
            simp only [Act.put, List.setIfInBounds_toArray, List.set_cons_zero, List.set_cons_succ]
            refine ah_take (v := (.pointer (some ⟨b2, 2, none⟩))) (i := 14) (some 89) rfl rfl (by kernel_rfl) (by kernel_rfl) (by kernel_rfl) rfl (fun W hK => ex_fa (p := (.pointer (some ⟨b2, 0, none⟩))) rfl rfl (fa29_2 _ _)) S (fun c a w h => hQP c a _ _ w h) ?_
            simp only [Act.put, List.setIfInBounds_toArray, List.set_cons_zero, List.set_cons_succ]
            refine ah_take (v := (.slice (some ⟨b, p, none⟩) n c)) (i := 15) (some 90) rfl rfl (by kernel_rfl) (by kernel_rfl) (by kernel_rfl) rfl (fun W hK => ex_load (p := (.pointer (some ⟨b2, 2, none⟩))) rfl rfl (ld27 (at_cell (keepK hK d_k2 (nilN _)) rfl))) S (fun c a w h => hQP c a _ _ w h) ?_
            simp only [Act.put, List.setIfInBounds_toArray, List.set_cons_zero, List.set_cons_succ]
            refine ah_take (v := (.int .i64 (i : Nat))) (i := 16) (some 91) rfl rfl (by kernel_rfl) (by kernel_rfl) (by kernel_rfl) rfl (fun W hK => ex_mv rfl rfl) S (fun c a w h => hQP c a _ _ w h) ?_
            simp only [Act.put, List.setIfInBounds_toArray, List.set_cons_zero, List.set_cons_succ]
            refine ah_take (v := (.int .i64 ((i - 1 : Nat) : Int))) (i := 17) (some 92) rfl rfl (by kernel_rfl) (by kernel_rfl) (by kernel_rfl) rfl (fun W hK => ex_bin rfl rfl rfl (eg3 _ _ _ _ _ _) (sub3 _ e1 (by omega))) S (fun c a w h => hQP c a _ _ w h) ?_
            simp only [Act.put, List.setIfInBounds_toArray, List.set_cons_zero, List.set_cons_succ]
            refine ah_take (v := (.pointer (some ⟨b, (p + (i - 1) * 36), none⟩))) (i := 18) (some 93) rfl rfl (by kernel_rfl) (by kernel_rfl) (by kernel_rfl) rfl (fun W hK => ex_ix27 (k := i - 1) rfl rfl rfl (by omega)) S (fun c a w h => hQP c a _ _ w h) ?_
            simp only [Act.put, List.setIfInBounds_toArray, List.set_cons_zero, List.set_cons_succ]
            refine ah_take (v := (.pointer (some ⟨b, (p + (i - 1) * 36), none⟩))) (i := 19) (some 94) rfl rfl (by kernel_rfl) (by kernel_rfl) (by kernel_rfl) rfl (fun W hK => ex_fa rfl rfl (faH0 _ _ _)) S (fun c a w h => hQP c a _ _ w h) ?_
            simp only [Act.put, List.setIfInBounds_toArray, List.set_cons_zero, List.set_cons_succ]
            refine ah_take (v := (.int .i64 (hv (i - 1)).by_)) (i := 20) (some 95) rfl rfl (by kernel_rfl) (by kernel_rfl) (by kernel_rfl) rfl (fun W hK => ex_load rfl rfl (ld3 (cell_kept hK q0))) S (fun c a w h => hQP c a _ _ w h) ?_
            simp only [Act.put, List.setIfInBounds_toArray, List.set_cons_zero, List.set_cons_succ]
            refine ah_take (v := (.pointer (some ⟨b3, 0, none⟩))) (i := 21) (some 96) rfl rfl (by kernel_rfl) (by kernel_rfl) (by kernel_rfl) rfl (fun W hK => ex_fa (p := (.pointer (some ⟨b3, 0, none⟩))) rfl rfl (fa49_0 _ _)) S (fun c a w h => hQP c a _ _ w h) ?_
            simp only [Act.put, List.setIfInBounds_toArray, List.set_cons_zero, List.set_cons_succ]
            refine ah_take (v := (.int .i64 (hv i).by_)) (i := 22) (some 97) rfl rfl (by kernel_rfl) (by kernel_rfl) (by kernel_rfl) rfl (fun W hK => ex_load (p := (.pointer (some ⟨b3, 0, none⟩))) rfl rfl (ld3 (at_cell (keepK hK d_k3 (nilN _)) HC.1.c0))) S (fun c a w h => hQP c a _ _ w h) ?_
            simp only [Act.put, List.setIfInBounds_toArray, List.set_cons_zero, List.set_cons_succ]
            refine ah_take (v := (.bool true)) (i := 23) (some 98) rfl rfl (by kernel_rfl) (by kernel_rfl) (by kernel_rfl) rfl (fun W hK => ex_bin (u := (.int .i64 (hv (i - 1)).by_)) (r := (.int .i64 (hv i).by_)) rfl rfl rfl (eg3 _ _ _ _ _ _) (eql3 _ (decide_eq_true q8))) S (fun c a w h => hQP c a _ _ w h) ?_
            simp only [Act.put, List.setIfInBounds_toArray, List.set_cons_zero, List.set_cons_succ]
            refine ah_take (v := (.bool true)) (i := 24) (some 99) rfl rfl (by kernel_rfl) (by kernel_rfl) (by kernel_rfl) rfl (fun W hK => ex_mv rfl rfl) S (fun c a w h => hQP c a _ _ w h) ?_
            simp only [Act.put, List.setIfInBounds_toArray, List.set_cons_zero, List.set_cons_succ]
            refine ah_take (v := (.pointer (some ⟨b2, 2, none⟩))) (i := 25) (some 100) rfl rfl (by kernel_rfl) (by kernel_rfl) (by kernel_rfl) rfl (fun W hK => ex_fa (p := (.pointer (some ⟨b2, 0, none⟩))) rfl rfl (fa29_2 _ _)) S (fun c a w h => hQP c a _ _ w h) ?_
            simp only [Act.put, List.setIfInBounds_toArray, List.set_cons_zero, List.set_cons_succ]
            refine ah_take (v := (.slice (some ⟨b, p, none⟩) n c)) (i := 26) (some 101) rfl rfl (by kernel_rfl) (by kernel_rfl) (by kernel_rfl) rfl (fun W hK => ex_load (p := (.pointer (some ⟨b2, 2, none⟩))) rfl rfl (ld27 (at_cell (keepK hK d_k2 (nilN _)) rfl))) S (fun c a w h => hQP c a _ _ w h) ?_
            simp only [Act.put, List.setIfInBounds_toArray, List.set_cons_zero, List.set_cons_succ]
            refine ah_take (v := (.int .i64 (i : Nat))) (i := 27) (some 102) rfl rfl (by kernel_rfl) (by kernel_rfl) (by kernel_rfl) rfl (fun W hK => ex_mv rfl rfl) S (fun c a w h => hQP c a _ _ w h) ?_
            simp only [Act.put, List.setIfInBounds_toArray, List.set_cons_zero, List.set_cons_succ]
            refine ah_take (v := (.int .i64 ((i - 1 : Nat) : Int))) (i := 28) (some 103) rfl rfl (by kernel_rfl) (by kernel_rfl) (by kernel_rfl) rfl (fun W hK => ex_bin rfl rfl rfl (eg3 _ _ _ _ _ _) (sub3 _ e1 (by omega))) S (fun c a w h => hQP c a _ _ w h) ?_
            simp only [Act.put, List.setIfInBounds_toArray, List.set_cons_zero, List.set_cons_succ]
            refine ah_take (v := (.pointer (some ⟨b, (p + (i - 1) * 36), none⟩))) (i := 29) (some 104) rfl rfl (by kernel_rfl) (by kernel_rfl) (by kernel_rfl) rfl (fun W hK => ex_ix27 (k := i - 1) rfl rfl rfl (by omega)) S (fun c a w h => hQP c a _ _ w h) ?_
            simp only [Act.put, List.setIfInBounds_toArray, List.set_cons_zero, List.set_cons_succ]
            refine ah_take (v := (.pointer (some ⟨b, (p + (i - 1) * 36 + 1), none⟩))) (i := 30) (some 105) rfl rfl (by kernel_rfl) (by kernel_rfl) (by kernel_rfl) rfl (fun W hK => ex_fa rfl rfl (faH1 _ _ _)) S (fun c a w h => hQP c a _ _ w h) ?_
            simp only [Act.put, List.setIfInBounds_toArray, List.set_cons_zero, List.set_cons_succ]
            refine ah_take (v := (.int .i64 (hv (i - 1)).id)) (i := 31) (some 106) rfl rfl (by kernel_rfl) (by kernel_rfl) (by kernel_rfl) rfl (fun W hK => ex_load rfl rfl (ld3 (cell_kept hK q1))) S (fun c a w h => hQP c a _ _ w h) ?_
            simp only [Act.put, List.setIfInBounds_toArray, List.set_cons_zero, List.set_cons_succ]
            refine ah_take (v := (.pointer (some ⟨b3, 1, none⟩))) (i := 32) (some 107) rfl rfl (by kernel_rfl) (by kernel_rfl) (by kernel_rfl) rfl (fun W hK => ex_fa (p := (.pointer (some ⟨b3, 0, none⟩))) rfl rfl (fa49_1 _ _)) S (fun c a w h => hQP c a _ _ w h) ?_
            simp only [Act.put, List.setIfInBounds_toArray, List.set_cons_zero, List.set_cons_succ]
            refine ah_take (v := (.int .i64 (hv i).id)) (i := 33) (some 108) rfl rfl (by kernel_rfl) (by kernel_rfl) (by kernel_rfl) rfl (fun W hK => ex_load (p := (.pointer (some ⟨b3, 1, none⟩))) rfl rfl (ld3 (at_cell (keepK hK d_k3 (nilN _)) HC.1.c1))) S (fun c a w h => hQP c a _ _ w h) ?_
            simp only [Act.put, List.setIfInBounds_toArray, List.set_cons_zero, List.set_cons_succ]
            refine ah_take (v := (.bool false)) (i := 34) (some 109) rfl rfl (by kernel_rfl) (by kernel_rfl) (by kernel_rfl) rfl (fun W hK => ex_bin (u := (.int .i64 (hv (i - 1)).id)) (r := (.int .i64 (hv i).id)) rfl rfl rfl (eg3 _ _ _ _ _ _) (geq3 _ (decide_eq_false q9))) S (fun c a w h => hQP c a _ _ w h) ?_
            simp only [Act.put, List.setIfInBounds_toArray, List.set_cons_zero, List.set_cons_succ]
            refine ah_take (v := (.bool false)) (i := 35) (some 110) rfl rfl (by kernel_rfl) (by kernel_rfl) (by kernel_rfl) rfl (fun W hK => ex_pkT rfl rfl rfl) S (fun c a w h => hQP c a _ _ w h) ?_
            simp only [Act.put, List.setIfInBounds_toArray, List.set_cons_zero, List.set_cons_succ]
            refine ah_take (v := (.bool false)) (i := 36) (some 111) rfl rfl (by kernel_rfl) (by kernel_rfl) (by kernel_rfl) rfl (fun W hK => ex_pkF rfl rfl rfl) S (fun c a w h => hQP c a _ _ w h) ?_
            simp only [Act.put, List.setIfInBounds_toArray, List.set_cons_zero, List.set_cons_succ]
            refine ah_take (v := (.bool false)) (i := 37) (some 112) rfl rfl (by kernel_rfl) (by kernel_rfl) (by kernel_rfl) rfl (fun W hK => ex_pkT rfl rfl rfl) S (fun c a w h => hQP c a _ _ w h) ?_
            simp only [Act.put, List.setIfInBounds_toArray, List.set_cons_zero, List.set_cons_succ]
            refine ah_done (by kernel_rfl) ?_
            exact JOIN _ _ _ _ _ _ _ _ _ _ _ _ _ _ _ _ _ _ _ _ _ _ _ _ _ _ _ _ _ _ _ _ _ _ _ _ _ (fun _ => decide_eq_true (by omega))
          intro j75 j76 j77 j78 j79 j80 j81 j82 j83 j84 j85 j86 j87 j88 j89 j90 j91 j92 j93 j94 j95 j96 j97 j98 j99 j100 j101 j102 j103 j104 j105 j106 j107 j108 j109 j110 j111 nB
          clear hQP
          subst hQ
          clear S d_k1 d_k2 d_k3 
          refine wp_cond_false rfl ?_
          refine wp_skip ?_
          refine wl_in ?_
          refine wl_cap fun Q hQ => ?_
          refine st_to (v := (.int .i64 s)) (some 114) rfl rfl (ex_mv rfl rfl) ?_
          simp only [Act.put, List.setIfInBounds_toArray, List.set_cons_zero, List.set_cons_succ]
          refine st_to (v := (.pointer (some ⟨b3, 2, none⟩))) (some 115) rfl rfl (ex_fa (p := (.pointer (some ⟨b3, 0, none⟩))) rfl rfl (fa49_2 _ _)) ?_
          simp only [Act.put, List.setIfInBounds_toArray, List.set_cons_zero, List.set_cons_succ]
          refine st_to (v := (.int .i64 (hv i).am)) (some 116) rfl rfl (ex_load (p := (.pointer (some ⟨b3, 2, none⟩))) rfl rfl (ld3 (at_cell k3 HC.1.c2))) ?_
          simp only [Act.put, List.setIfInBounds_toArray, List.set_cons_zero, List.set_cons_succ]
          refine st_call (some 117) rfl rfl (radd_any W7 s1 ha) (ex_call (f := 36) (vs := [(.int .i64 s), (.int .i64 (hv i).am)]) rfl (cf36 _) rfl) ?_
          rintro e W8 ⟨m1, r1, rfl, hm1, B⟩
          refine ⟨_, rfl, ?_⟩
          simp only [Act.put, List.setIfInBounds_toArray, List.set_cons_zero, List.set_cons_succ]
          replace E := below_next E B
          replace k1 := keep B k1
          replace k2 := keep B k2
          replace k3 := keep B k3
          refine st_to (v := (.tuple #[(.int .i64 m1), (.int .i64 r1)])) (some 113) rfl rfl (ex_mv rfl rfl) ?_
          simp only [Act.put, List.setIfInBounds_toArray, List.set_cons_zero, List.set_cons_succ]
          refine st_to (v := (.int .i64 m1)) (some 118) rfl rfl (ex_ext rfl rfl rfl) ?_
          simp only [Act.put, List.setIfInBounds_toArray, List.set_cons_zero, List.set_cons_succ]
          refine st_to (v := (.int .i64 r1)) (some 119) rfl rfl (ex_ext rfl rfl rfl) ?_
          simp only [Act.put, List.setIfInBounds_toArray, List.set_cons_zero, List.set_cons_succ]
          refine st_to (v := (.int .i64 m1)) (some 5) rfl rfl (ex_asg rfl rfl) ?_
          simp only [Act.put, List.setIfInBounds_toArray, List.set_cons_zero, List.set_cons_succ]
          refine st_to (v := (.int .i64 r1)) (some 6) rfl rfl (ex_asg rfl rfl) ?_
          simp only [Act.put, List.setIfInBounds_toArray, List.set_cons_zero, List.set_cons_succ]
          refine st_end ?_
          subst hQ
          refine wl_in ?_
          refine wl_cap fun Q hQ => ?_
          refine st_to (v := (.int .i64 (i : Nat))) (some 35) rfl rfl (ex_mv rfl rfl) ?_
          simp only [Act.put, List.setIfInBounds_toArray, List.set_cons_zero, List.set_cons_succ]
          refine st_to (v := (.int .i64 ((i + 1 : Nat) : Int))) (some 36) rfl rfl (ex_bin rfl rfl rfl (eg3 _ _ _ _ _ _) (add3 _ (by omega) (by omega))) ?_
          simp only [Act.put, List.setIfInBounds_toArray, List.set_cons_zero, List.set_cons_succ]
          refine st_to (v := (.int .i64 ((i + 1 : Nat) : Int))) (some 7) rfl rfl (ex_asg rfl rfl) ?_
          simp only [Act.put, List.setIfInBounds_toArray, List.set_cons_zero, List.set_cons_succ]
          refine st_end ?_
          subst hQ
          refine then_go ?_
          go_roundw
          case rel => exact ⟨i + 1, _, _, by omega, rfl, rfl, rfl, E, k1, k2, fun j hj => (Nat.lt_succ_iff_lt_or_eq.1 hj).elim (hW j) (fun e => by rw [e]; exact nW), fun j hj => (Nat.lt_succ_iff_lt_or_eq.1 hj).elim (hB j) (fun e => by subst e; exact nB (by omega)), SS_next hS hlt hm1⟩
          case measure => simp [intOf]; omega
        · skip
          refine wp_seq ?_
          refine wp_seq ?_
          refine wl_in ?_
          refine wl_cap fun Q hQ => ?_
          refine st_to (v := (.int .i64 (i : Nat))) (some 26) rfl rfl (ex_mv rfl rfl) ?_
          simp only [Act.put, List.setIfInBounds_toArray, List.set_cons_zero, List.set_cons_succ]
          refine st_to (v := (.pointer (some ⟨b2, 2, none⟩))) (some 27) rfl rfl (ex_fa (p := (.pointer (some ⟨b2, 0, none⟩))) rfl rfl (fa29_2 _ _)) ?_
          simp only [Act.put, List.setIfInBounds_toArray, List.set_cons_zero, List.set_cons_succ]
          refine st_to (v := (.slice ao n c)) (some 28) rfl rfl (ex_load (p := (.pointer (some ⟨b2, 2, none⟩))) rfl rfl (ld27 (at_cell k2 rfl))) ?_
          simp only [Act.put, List.setIfInBounds_toArray, List.set_cons_zero, List.set_cons_succ]
          refine st_to (v := (.int .i64 (n : Nat))) (some 29) rfl rfl (ex_len rfl rfl (len27 _ _ _ _ _)) ?_
          simp only [Act.put, List.setIfInBounds_toArray, List.set_cons_zero, List.set_cons_succ]
          refine st_to (v := (.bool true)) (some 30) rfl rfl (ex_bin (u := (.int .i64 (i : Nat))) (r := (.int .i64 (n : Nat))) rfl rfl rfl (eg3 _ _ _ _ _ _) (lss3 _ (decide_eq_true (by omega)))) ?_
          simp only [Act.put, List.setIfInBounds_toArray, List.set_cons_zero, List.set_cons_succ]
          refine st_to (v := (.bool true)) (some 31) rfl rfl (ex_mv rfl rfl) ?_
          simp only [Act.put, List.setIfInBounds_toArray, List.set_cons_zero, List.set_cons_succ]
          refine st_to (v := (.int .i64 e)) (some 32) rfl rfl (ex_mv rfl rfl) ?_
          simp only [Act.put, List.setIfInBounds_toArray, List.set_cons_zero, List.set_cons_succ]
          refine st_to (v := (.bool false)) (some 33) rfl rfl (ex_bin (u := (.int .i64 e)) (r := (.int .i64 0)) rfl rfl rfl (eg35 _ _ _ _ _ _) (eql35 _ (decide_eq_false he))) ?_
          simp only [Act.put, List.setIfInBounds_toArray, List.set_cons_zero, List.set_cons_succ]
          refine st_to (v := (.bool false)) (some 34) rfl rfl (ex_pkT rfl rfl rfl) ?_
          simp only [Act.put, List.setIfInBounds_toArray, List.set_cons_zero, List.set_cons_succ]
          refine st_end ?_
          subst hQ
          refine wp_cond_false rfl ?_
          refine wp_exit ?_
          refine ex_then ?_
          refine ex_then ?_
          refine ex_blk ?_
          refine wp_seq ?_
          refine wl_in ?_
          refine wl_cap fun Q hQ => ?_
          refine st_to (v := (.int .i64 e)) (some 120) rfl rfl (ex_mv rfl rfl) ?_
          simp only [Act.put, List.setIfInBounds_toArray, List.set_cons_zero, List.set_cons_succ]
          refine st_to (v := (.bool false)) (some 121) rfl rfl (ex_bin (u := (.int .i64 e)) (r := (.int .i64 0)) rfl rfl rfl (eg35 _ _ _ _ _ _) (eql35 _ (decide_eq_false he))) ?_
          simp only [Act.put, List.setIfInBounds_toArray, List.set_cons_zero, List.set_cons_succ]
          refine st_to (v := (.bool false)) (some 122) rfl rfl (ex_mv rfl rfl) ?_
          simp only [Act.put, List.setIfInBounds_toArray, List.set_cons_zero, List.set_cons_succ]
          refine st_no (some 123) rfl rfl ?_
          simp only [Act.put, List.setIfInBounds_toArray, List.set_cons_zero, List.set_cons_succ]
          refine st_no (some 124) rfl rfl ?_
          simp only [Act.put, List.setIfInBounds_toArray, List.set_cons_zero, List.set_cons_succ]
          refine st_no (some 125) rfl rfl ?_
          simp only [Act.put, List.setIfInBounds_toArray, List.set_cons_zero, List.set_cons_succ]
          refine st_no (some 126) rfl rfl ?_
          simp only [Act.put, List.setIfInBounds_toArray, List.set_cons_zero, List.set_cons_succ]
          refine st_no (some 127) rfl rfl ?_
          simp only [Act.put, List.setIfInBounds_toArray, List.set_cons_zero, List.set_cons_succ]
          refine st_no (some 128) rfl rfl ?_
          simp only [Act.put, List.setIfInBounds_toArray, List.set_cons_zero, List.set_cons_succ]
          refine st_no (some 129) rfl rfl ?_
          simp only [Act.put, List.setIfInBounds_toArray, List.set_cons_zero, List.set_cons_succ]
          refine st_to (v := (.bool false)) (some 130) rfl rfl (ex_pkF rfl rfl rfl) ?_
          simp only [Act.put, List.setIfInBounds_toArray, List.set_cons_zero, List.set_cons_succ]
          refine st_to (v := (.bool false)) (some 4) rfl rfl (ex_asg rfl rfl) ?_
          simp only [Act.put, List.setIfInBounds_toArray, List.set_cons_zero, List.set_cons_succ]
          refine st_end ?_
          subst hQ
          refine wp_ret ?_
          refine bodyPost_ret (results_tmp Try.results15 _ _ _) rfl ⟨?_, E⟩
          show Ending.returned (.bool false) = _
          rw [fits_sum (sum_bad hS he)]
      · skip
        have hi' : i = n := by omega
        subst hi'
        have hMH : mayHs t i hv = true := decide_eq_true ⟨hW, fun j hj => hB j (by omega)⟩
        by_cases he : e = 0
        rotate_left
        · skip
          refine wp_seq ?_
          refine wp_seq ?_
          refine wl_in ?_
          refine wl_cap fun Q hQ => ?_
          refine st_to (v := (.int .i64 (i : Nat))) (some 26) rfl rfl (ex_mv rfl rfl) ?_
          simp only [Act.put, List.setIfInBounds_toArray, List.set_cons_zero, List.set_cons_succ]
          refine st_to (v := (.pointer (some ⟨b2, 2, none⟩))) (some 27) rfl rfl (ex_fa (p := (.pointer (some ⟨b2, 0, none⟩))) rfl rfl (fa29_2 _ _)) ?_
          simp only [Act.put, List.setIfInBounds_toArray, List.set_cons_zero, List.set_cons_succ]
          refine st_to (v := (.slice ao i c)) (some 28) rfl rfl (ex_load (p := (.pointer (some ⟨b2, 2, none⟩))) rfl rfl (ld27 (at_cell k2 rfl))) ?_
          simp only [Act.put, List.setIfInBounds_toArray, List.set_cons_zero, List.set_cons_succ]
          refine st_to (v := (.int .i64 (i : Nat))) (some 29) rfl rfl (ex_len rfl rfl (len27 _ _ _ _ _)) ?_
          simp only [Act.put, List.setIfInBounds_toArray, List.set_cons_zero, List.set_cons_succ]
          refine st_to (v := (.bool false)) (some 30) rfl rfl (ex_bin (u := (.int .i64 (i : Nat))) (r := (.int .i64 (i : Nat))) rfl rfl rfl (eg3 _ _ _ _ _ _) (lss3 _ (decide_eq_false (by omega)))) ?_
          simp only [Act.put, List.setIfInBounds_toArray, List.set_cons_zero, List.set_cons_succ]
          refine st_to (v := (.bool false)) (some 31) rfl rfl (ex_mv rfl rfl) ?_
          simp only [Act.put, List.setIfInBounds_toArray, List.set_cons_zero, List.set_cons_succ]
          refine st_no (some 32) rfl rfl ?_
          simp only [Act.put, List.setIfInBounds_toArray, List.set_cons_zero, List.set_cons_succ]
          refine st_no (some 33) rfl rfl ?_
          simp only [Act.put, List.setIfInBounds_toArray, List.set_cons_zero, List.set_cons_succ]
          refine st_to (v := (.bool false)) (some 34) rfl rfl (ex_pkF rfl rfl rfl) ?_
          simp only [Act.put, List.setIfInBounds_toArray, List.set_cons_zero, List.set_cons_succ]
          refine st_end ?_
          subst hQ
          refine wp_cond_false rfl ?_
          refine wp_exit ?_
          refine ex_then ?_
          refine ex_then ?_
          refine ex_blk ?_
          refine wp_seq ?_
          refine wl_in ?_
          refine wl_cap fun Q hQ => ?_
          refine st_to (v := (.int .i64 e)) (some 120) rfl rfl (ex_mv rfl rfl) ?_
          simp only [Act.put, List.setIfInBounds_toArray, List.set_cons_zero, List.set_cons_succ]
          refine st_to (v := (.bool false)) (some 121) rfl rfl (ex_bin (u := (.int .i64 e)) (r := (.int .i64 0)) rfl rfl rfl (eg35 _ _ _ _ _ _) (eql35 _ (decide_eq_false he))) ?_
          simp only [Act.put, List.setIfInBounds_toArray, List.set_cons_zero, List.set_cons_succ]
          refine st_to (v := (.bool false)) (some 122) rfl rfl (ex_mv rfl rfl) ?_
          simp only [Act.put, List.setIfInBounds_toArray, List.set_cons_zero, List.set_cons_succ]
          refine st_no (some 123) rfl rfl ?_
          simp only [Act.put, List.setIfInBounds_toArray, List.set_cons_zero, List.set_cons_succ]
          refine st_no (some 124) rfl rfl ?_
          simp only [Act.put, List.setIfInBounds_toArray, List.set_cons_zero, List.set_cons_succ]
          refine st_no (some 125) rfl rfl ?_
          simp only [Act.put, List.setIfInBounds_toArray, List.set_cons_zero, List.set_cons_succ]
          refine st_no (some 126) rfl rfl ?_
          simp only [Act.put, List.setIfInBounds_toArray, List.set_cons_zero, List.set_cons_succ]
          refine st_no (some 127) rfl rfl ?_
          simp only [Act.put, List.setIfInBounds_toArray, List.set_cons_zero, List.set_cons_succ]
          refine st_no (some 128) rfl rfl ?_
          simp only [Act.put, List.setIfInBounds_toArray, List.set_cons_zero, List.set_cons_succ]
          refine st_no (some 129) rfl rfl ?_
          simp only [Act.put, List.setIfInBounds_toArray, List.set_cons_zero, List.set_cons_succ]
          refine st_to (v := (.bool false)) (some 130) rfl rfl (ex_pkF rfl rfl rfl) ?_
          simp only [Act.put, List.setIfInBounds_toArray, List.set_cons_zero, List.set_cons_succ]
          refine st_to (v := (.bool false)) (some 4) rfl rfl (ex_asg rfl rfl) ?_
          simp only [Act.put, List.setIfInBounds_toArray, List.set_cons_zero, List.set_cons_succ]
          refine st_end ?_
          subst hQ
          refine wp_ret ?_
          refine bodyPost_ret (results_tmp Try.results15 _ _ _) rfl ⟨?_, E⟩
          show Ending.returned (.bool false) = _
          rw [fits_sum (sum_bad hS he)]
        subst he
        by_cases hq2 : s = t.sa + t.sb
        rotate_left
        · skip
          refine wp_seq ?_
          refine wp_seq ?_
          refine wl_in ?_
          refine wl_cap fun Q hQ => ?_
          refine st_to (v := (.int .i64 (i : Nat))) (some 26) rfl rfl (ex_mv rfl rfl) ?_
          simp only [Act.put, List.setIfInBounds_toArray, List.set_cons_zero, List.set_cons_succ]
          refine st_to (v := (.pointer (some ⟨b2, 2, none⟩))) (some 27) rfl rfl (ex_fa (p := (.pointer (some ⟨b2, 0, none⟩))) rfl rfl (fa29_2 _ _)) ?_
          simp only [Act.put, List.setIfInBounds_toArray, List.set_cons_zero, List.set_cons_succ]
          refine st_to (v := (.slice ao i c)) (some 28) rfl rfl (ex_load (p := (.pointer (some ⟨b2, 2, none⟩))) rfl rfl (ld27 (at_cell k2 rfl))) ?_
          simp only [Act.put, List.setIfInBounds_toArray, List.set_cons_zero, List.set_cons_succ]
          refine st_to (v := (.int .i64 (i : Nat))) (some 29) rfl rfl (ex_len rfl rfl (len27 _ _ _ _ _)) ?_
          simp only [Act.put, List.setIfInBounds_toArray, List.set_cons_zero, List.set_cons_succ]
          refine st_to (v := (.bool false)) (some 30) rfl rfl (ex_bin (u := (.int .i64 (i : Nat))) (r := (.int .i64 (i : Nat))) rfl rfl rfl (eg3 _ _ _ _ _ _) (lss3 _ (decide_eq_false (by omega)))) ?_
          simp only [Act.put, List.setIfInBounds_toArray, List.set_cons_zero, List.set_cons_succ]
          refine st_to (v := (.bool false)) (some 31) rfl rfl (ex_mv rfl rfl) ?_
          simp only [Act.put, List.setIfInBounds_toArray, List.set_cons_zero, List.set_cons_succ]
          refine st_no (some 32) rfl rfl ?_
          simp only [Act.put, List.setIfInBounds_toArray, List.set_cons_zero, List.set_cons_succ]
          refine st_no (some 33) rfl rfl ?_
          simp only [Act.put, List.setIfInBounds_toArray, List.set_cons_zero, List.set_cons_succ]
          refine st_to (v := (.bool false)) (some 34) rfl rfl (ex_pkF rfl rfl rfl) ?_
          simp only [Act.put, List.setIfInBounds_toArray, List.set_cons_zero, List.set_cons_succ]
          refine st_end ?_
          subst hQ
          refine wp_cond_false rfl ?_
          refine wp_exit ?_
          refine ex_then ?_
          refine ex_then ?_
          refine ex_blk ?_
          refine wp_seq ?_
          refine wl_in ?_
          refine wl_cap fun Q hQ => ?_
          refine st_to (v := (.int .i64 0)) (some 120) rfl rfl (ex_mv rfl rfl) ?_
          simp only [Act.put, List.setIfInBounds_toArray, List.set_cons_zero, List.set_cons_succ]
          refine st_to (v := (.bool true)) (some 121) rfl rfl (ex_bin (u := (.int .i64 0)) (r := (.int .i64 0)) rfl rfl rfl (eg35 _ _ _ _ _ _) (eql35 _ (by decide))) ?_
          simp only [Act.put, List.setIfInBounds_toArray, List.set_cons_zero, List.set_cons_succ]
          refine st_to (v := (.bool true)) (some 122) rfl rfl (ex_mv rfl rfl) ?_
          simp only [Act.put, List.setIfInBounds_toArray, List.set_cons_zero, List.set_cons_succ]
          refine st_to (v := (.int .i64 s)) (some 123) rfl rfl (ex_mv rfl rfl) ?_
          simp only [Act.put, List.setIfInBounds_toArray, List.set_cons_zero, List.set_cons_succ]
          refine st_to (v := (.pointer (some ⟨b1, 36, none⟩))) (some 124) rfl rfl (ex_fa (p := (.pointer (some ⟨b1, 0, none⟩))) rfl rfl (fa26_4 _ _)) ?_
          simp only [Act.put, List.setIfInBounds_toArray, List.set_cons_zero, List.set_cons_succ]
          refine st_to (v := (.int .i64 t.sa)) (some 125) rfl rfl (ex_load (p := (.pointer (some ⟨b1, 36, none⟩))) rfl rfl (ld3 (at_cell k1 hT.c36))) ?_
          simp only [Act.put, List.setIfInBounds_toArray, List.set_cons_zero, List.set_cons_succ]
          refine st_to (v := (.pointer (some ⟨b1, 37, none⟩))) (some 126) rfl rfl (ex_fa (p := (.pointer (some ⟨b1, 0, none⟩))) rfl rfl (fa26_5 _ _)) ?_
          simp only [Act.put, List.setIfInBounds_toArray, List.set_cons_zero, List.set_cons_succ]
          refine st_to (v := (.int .i64 t.sb)) (some 127) rfl rfl (ex_load (p := (.pointer (some ⟨b1, 37, none⟩))) rfl rfl (ld3 (at_cell k1 hT.c37))) ?_
          simp only [Act.put, List.setIfInBounds_toArray, List.set_cons_zero, List.set_cons_succ]
          refine st_to (v := (.int .i64 (t.sa + t.sb))) (some 128) rfl rfl (ex_bin rfl rfl rfl (eg3 _ _ _ _ _ _) (add3 _ rfl (by omega))) ?_
          simp only [Act.put, List.setIfInBounds_toArray, List.set_cons_zero, List.set_cons_succ]
          refine st_to (v := (.bool false)) (some 129) rfl rfl (ex_bin (u := (.int .i64 s)) (r := (.int .i64 (t.sa + t.sb))) rfl rfl rfl (eg3 _ _ _ _ _ _) (eql3 _ (decide_eq_false hq2))) ?_
          simp only [Act.put, List.setIfInBounds_toArray, List.set_cons_zero, List.set_cons_succ]
          refine st_to (v := (.bool false)) (some 130) rfl rfl (ex_pkT rfl rfl rfl) ?_
          simp only [Act.put, List.setIfInBounds_toArray, List.set_cons_zero, List.set_cons_succ]
          refine st_to (v := (.bool false)) (some 4) rfl rfl (ex_asg rfl rfl) ?_
          simp only [Act.put, List.setIfInBounds_toArray, List.set_cons_zero, List.set_cons_succ]
          refine st_end ?_
          subst hQ
          refine wp_ret ?_
          refine bodyPost_ret (results_tmp Try.results15 _ _ _) rfl ⟨?_, E⟩
          show Ending.returned (.bool false) = _
          rw [fits_sum (sum_end hS (decide_eq_false hq2))]
        refine wp_seq ?_
        refine wp_seq ?_
        refine wl_in ?_
        refine wl_cap fun Q hQ => ?_
        refine st_to (v := (.int .i64 (i : Nat))) (some 26) rfl rfl (ex_mv rfl rfl) ?_
        simp only [Act.put, List.setIfInBounds_toArray, List.set_cons_zero, List.set_cons_succ]
        refine st_to (v := (.pointer (some ⟨b2, 2, none⟩))) (some 27) rfl rfl (ex_fa (p := (.pointer (some ⟨b2, 0, none⟩))) rfl rfl (fa29_2 _ _)) ?_
        simp only [Act.put, List.setIfInBounds_toArray, List.set_cons_zero, List.set_cons_succ]
        refine st_to (v := (.slice ao i c)) (some 28) rfl rfl (ex_load (p := (.pointer (some ⟨b2, 2, none⟩))) rfl rfl (ld27 (at_cell k2 rfl))) ?_
        simp only [Act.put, List.setIfInBounds_toArray, List.set_cons_zero, List.set_cons_succ]
        refine st_to (v := (.int .i64 (i : Nat))) (some 29) rfl rfl (ex_len rfl rfl (len27 _ _ _ _ _)) ?_
        simp only [Act.put, List.setIfInBounds_toArray, List.set_cons_zero, List.set_cons_succ]
        refine st_to (v := (.bool false)) (some 30) rfl rfl (ex_bin (u := (.int .i64 (i : Nat))) (r := (.int .i64 (i : Nat))) rfl rfl rfl (eg3 _ _ _ _ _ _) (lss3 _ (decide_eq_false (by omega)))) ?_
        simp only [Act.put, List.setIfInBounds_toArray, List.set_cons_zero, List.set_cons_succ]
        refine st_to (v := (.bool false)) (some 31) rfl rfl (ex_mv rfl rfl) ?_
        simp only [Act.put, List.setIfInBounds_toArray, List.set_cons_zero, List.set_cons_succ]
        refine st_no (some 32) rfl rfl ?_
        simp only [Act.put, List.setIfInBounds_toArray, List.set_cons_zero, List.set_cons_succ]
        refine st_no (some 33) rfl rfl ?_
        simp only [Act.put, List.setIfInBounds_toArray, List.set_cons_zero, List.set_cons_succ]
        refine st_to (v := (.bool false)) (some 34) rfl rfl (ex_pkF rfl rfl rfl) ?_
        simp only [Act.put, List.setIfInBounds_toArray, List.set_cons_zero, List.set_cons_succ]
        refine st_end ?_
        subst hQ
        refine wp_cond_false rfl ?_
        refine wp_exit ?_
        refine ex_then ?_
        refine ex_then ?_
        refine ex_blk ?_
        refine wp_seq ?_
        refine wl_in ?_
        refine wl_cap fun Q hQ => ?_
        refine st_to (v := (.int .i64 0)) (some 120) rfl rfl (ex_mv rfl rfl) ?_
        simp only [Act.put, List.setIfInBounds_toArray, List.set_cons_zero, List.set_cons_succ]
        refine st_to (v := (.bool true)) (some 121) rfl rfl (ex_bin (u := (.int .i64 0)) (r := (.int .i64 0)) rfl rfl rfl (eg35 _ _ _ _ _ _) (eql35 _ (by decide))) ?_
        simp only [Act.put, List.setIfInBounds_toArray, List.set_cons_zero, List.set_cons_succ]
        refine st_to (v := (.bool true)) (some 122) rfl rfl (ex_mv rfl rfl) ?_
        simp only [Act.put, List.setIfInBounds_toArray, List.set_cons_zero, List.set_cons_succ]
        refine st_to (v := (.int .i64 s)) (some 123) rfl rfl (ex_mv rfl rfl) ?_
        simp only [Act.put, List.setIfInBounds_toArray, List.set_cons_zero, List.set_cons_succ]
        refine st_to (v := (.pointer (some ⟨b1, 36, none⟩))) (some 124) rfl rfl (ex_fa (p := (.pointer (some ⟨b1, 0, none⟩))) rfl rfl (fa26_4 _ _)) ?_
        simp only [Act.put, List.setIfInBounds_toArray, List.set_cons_zero, List.set_cons_succ]
        refine st_to (v := (.int .i64 t.sa)) (some 125) rfl rfl (ex_load (p := (.pointer (some ⟨b1, 36, none⟩))) rfl rfl (ld3 (at_cell k1 hT.c36))) ?_
        simp only [Act.put, List.setIfInBounds_toArray, List.set_cons_zero, List.set_cons_succ]
        refine st_to (v := (.pointer (some ⟨b1, 37, none⟩))) (some 126) rfl rfl (ex_fa (p := (.pointer (some ⟨b1, 0, none⟩))) rfl rfl (fa26_5 _ _)) ?_
        simp only [Act.put, List.setIfInBounds_toArray, List.set_cons_zero, List.set_cons_succ]
        refine st_to (v := (.int .i64 t.sb)) (some 127) rfl rfl (ex_load (p := (.pointer (some ⟨b1, 37, none⟩))) rfl rfl (ld3 (at_cell k1 hT.c37))) ?_
        simp only [Act.put, List.setIfInBounds_toArray, List.set_cons_zero, List.set_cons_succ]
        refine st_to (v := (.int .i64 (t.sa + t.sb))) (some 128) rfl rfl (ex_bin rfl rfl rfl (eg3 _ _ _ _ _ _) (add3 _ rfl (by omega))) ?_
        simp only [Act.put, List.setIfInBounds_toArray, List.set_cons_zero, List.set_cons_succ]
        refine st_to (v := (.bool true)) (some 129) rfl rfl (ex_bin (u := (.int .i64 s)) (r := (.int .i64 (t.sa + t.sb))) rfl rfl rfl (eg3 _ _ _ _ _ _) (eql3 _ (decide_eq_true hq2))) ?_
        simp only [Act.put, List.setIfInBounds_toArray, List.set_cons_zero, List.set_cons_succ]
        refine st_to (v := (.bool true)) (some 130) rfl rfl (ex_pkT rfl rfl rfl) ?_
        simp only [Act.put, List.setIfInBounds_toArray, List.set_cons_zero, List.set_cons_succ]
        refine st_to (v := (.bool true)) (some 4) rfl rfl (ex_asg rfl rfl) ?_
        simp only [Act.put, List.setIfInBounds_toArray, List.set_cons_zero, List.set_cons_succ]
        refine st_end ?_
        subst hQ
        refine wp_ret ?_
        refine bodyPost_ret (results_tmp Try.results15 _ _ _) rfl ⟨?_, E⟩
        show Ending.returned (.bool true) = _
        rw [show fitsB t x y i hv = true from by unfold fitsB; rw [c0, decide_eq_true c9, hMH, sum_end hS (decide_eq_true hq2)]; rfl]
end Go.Proofs.Ytkhpbjafdamhaaa
