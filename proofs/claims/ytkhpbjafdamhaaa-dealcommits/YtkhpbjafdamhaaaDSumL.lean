/- What a commitment sums up to: the statement's walk. -/
import Derived.Test.YtkhpbjafdamhaaaDOuts
namespace Go.Proofs.Ytkhpbjafdamhaaa
open Go.RowKit
set_option linter.unusedVariables false
set_option linter.unusedSimpArgs false
set_option maxRecDepth 100000

theorem cut1 {p : Array Value} (h : p.size = 37) : p.extract (0 * 37) (0 * 37 + 37) = p := by
  rw [show 0 * 37 = 0 from rfl, show 0 + 37 = p.size by omega, Array.extract_size]
theorem cutL {p q : Array Value} {i j : Nat} (h : j ≤ p.size) : (p ++ q).extract i j = p.extract i j := by
  rw [Array.extract_append]
  rw [show j - p.size = 0 by omega]
  simp
theorem cutR {p q : Array Value} {i j : Nat} (h : p.size ≤ i) : (p ++ q).extract i j = q.extract (i - p.size) (j - p.size) := by
  rw [Array.extract_append, show p.extract i j = #[] from by apply Array.eq_empty_of_size_eq_zero; simp; omega]
  simp
theorem okps1 {p : Array Value} (h : p.size = 37) (hp : OkP p) : OkPs p 1 := ⟨by omega, by omega, by omega, fun k hk => by
  have : k = 0 := by omega
  subst this
  rw [cut1 h]
  exact hp⟩
theorem okps2 {p q : Array Value} (h1 : p.size = 37) (h2 : q.size = 37) (hp : OkP p) (hq : OkP q) : OkPs (p ++ q) 2 := ⟨by rw [Array.size_append]; omega, by omega, by omega, fun k hk => by
  match k, hk with
  | 0, _ => rw [cutL (by omega), cut1 h1]; exact hp
  | 1, _ =>
    rw [cutR (by omega), h1]
    have := cut1 h2
    simp only [Nat.zero_mul, Nat.zero_add] at this
    show OkP (q.extract 0 37)
    rw [this]
    exact hq⟩
theorem okps3 {p q r : Array Value} (h1 : p.size = 37) (h2 : q.size = 37) (h3 : r.size = 37) (hp : OkP p) (hq : OkP q) (hr : OkP r) : OkPs (p ++ q ++ r) 3 := ⟨by rw [Array.size_append, Array.size_append]; omega, by omega, by omega, fun k hk => by
  have hpq : (p ++ q).size = 74 := by rw [Array.size_append]; omega
  match k, hk with
  | 0, _ => rw [cutL (by omega)]; exact (okps2 h1 h2 hp hq).each 0 (by omega)
  | 1, _ => rw [cutL (by omega)]; exact (okps2 h1 h2 hp hq).each 1 (by omega)
  | 2, _ =>
    rw [cutR (by omega), hpq]
    have := cut1 h3
    simp only [Nat.zero_mul, Nat.zero_add] at this
    show OkP (r.extract 0 37)
    rw [this]
    exact hr⟩
theorem may_parts {t : TV} (hm : mayT t = true) : 0 ≤ t.a ∧ t.a < t.b ∧ t.b < 8 ∧ 1 ≤ t.d ∧ t.d ≤ 1000 ∧ 0 ≤ t.fee := by
  have h := of_decide_eq_true hm
  exact ⟨h.2.2.2.2.1, h.2.2.2.2.2.1, h.2.2.2.2.2.2.1, h.2.2.2.2.2.2.2.2.1, h.2.2.2.2.2.2.2.2.2.1, h.2.1.1⟩
theorem htl_ok {t : TV} {n i : Nat} {hv : Nat → HV} (h : mayHs t n hv = true) (hi : i < n) : 0 ≤ (hv i).ex ∧ (hv i).ex ≤ 2147483647 := by
  have h1 := (of_decide_eq_true h).1 i hi
  unfold wrongB at h1
  have h1 := of_decide_eq_false h1
  constructor
  · exact Int.not_lt.1 fun e => h1 (.inr (.inr (.inl e)))
  · exact Int.not_lt.1 fun e => h1 (.inr (.inr (.inr (.inl e))))
theorem oth_in {t : TV} {h : Int} (hm : mayT t = true) (hh : h = t.a ∨ h = t.b) : (0 ≤ h ∧ h < 8) ∧ 0 ≤ othN t h ∧ othN t h < 8 := by
  obtain ⟨h1, h2, h3, _⟩ := may_parts hm
  have e : ¬ t.b = t.a := by omega
  unfold othN
  rcases hh with rfl | rfl
  · simp; omega
  · simp [e]; omega
theorem opth_ok {t : TV} {n : Nat} {h : Int} {pl : List Int} {hv : Nat → HV} {Cs : Nat → Array Value} (hm : mayT t = true) (hh : h = t.a ∨ h = t.b) (hs : mayHs t n hv = true) (hpl : pl.length = 32) (hH : ∀ i, i < n → IsH (Cs i) (hv i)) : ∀ j, j < n + 2 → OkPs (opth h (othN t h) t.d (U8 pl).toArray hv j) (ol j) := fun j hj => by
  obtain ⟨⟨a1, a2⟩, a3, a4⟩ := oth_in hm hh
  obtain ⟨_, _, _, d1, d2, _⟩ := may_parts hm
  have hv32 := U8_size pl hpl
  have P1 : ∀ (a e d : Int) (v : Array Value), v.size = 32 → v.all (·.oneCell') = true → 0 ≤ a → a < 8 → 0 ≤ e → e ≤ 2147483647 → 0 ≤ d → d ≤ 2147483647 → OkP (pth a 0 false e d v) := fun a e d v h1 h2 h3 h4 h5 h6 h7 h8 => ⟨a, e, d, v, rfl, h1, h2, h3, h4, h5, h6, h7, h8⟩
  unfold opth ol
  by_cases e0 : j = 0
  · rw [if_pos e0, if_pos e0]
    exact okps2 (pth_size Z32_size) (pth_size hv32) (P1 _ _ _ _ Z32_size Z32_one (by omega) (by omega) (by omega) (by omega) (by omega) (by omega)) (P1 _ _ _ _ hv32 (U8_one pl) (by omega) (by omega) (by omega) (by omega) (by omega) (by omega))
  · rw [if_neg e0, if_neg e0]
    by_cases e1 : j = 1
    · rw [if_pos e1, if_pos e1]
      exact okps1 (pth_size Z32_size) (P1 _ _ _ _ Z32_size Z32_one (by omega) (by omega) (by omega) (by omega) (by omega) (by omega))
    · rw [if_neg e1, if_neg e1]
      have hx := hH (j - 2) (by omega)
      obtain ⟨x1, x2⟩ := htl_ok hs (show j - 2 < n by omega)
      unfold htlP
      split
      · exact okps3 (pth_size hx.hs) (pth_size Z32_size) (pth_size hv32) (P1 _ _ _ _ hx.hs hx.vone (by omega) (by omega) (by omega) (by omega) (by omega) (by omega)) (P1 _ _ _ _ Z32_size Z32_one (by omega) (by omega) (by omega) (by omega) (by omega) (by omega)) (P1 _ _ _ _ hv32 (U8_one pl) (by omega) (by omega) (by omega) (by omega) (by omega) (by omega))
      · exact okps3 (pth_size hx.hs) (pth_size Z32_size) (pth_size hv32) (P1 _ _ _ _ hx.hs hx.vone (by omega) (by omega) (by omega) (by omega) (by omega) (by omega)) (P1 _ _ _ _ Z32_size Z32_one (by omega) (by omega) (by omega) (by omega) (by omega) (by omega)) (P1 _ _ _ _ hv32 (U8_one pl) (by omega) (by omega) (by omega) (by omega) (by omega) (by omega))
theorem sum_zf (a b : Int) (hv : Nat → HV) : ∀ n, sumP (zf a b hv) (n + 2) = a + b + sumP (fun i => (hv i).am) n
  | 0 => by simp [sumP, zf]
  | n + 1 => by
    have := sum_zf a b hv n
    show sumP (zf a b hv) (n + 2) + zf a b hv (n + 2) = a + b + (sumP (fun i => (hv i).am) n + (hv n).am)
    rw [this]
    simp [zf]
    omega
theorem sums_is {t : TV} {x y : Int} {n : Nat} {hv : Nat → HV} (h : sumsB t x y n hv = true) : sumP (zf x y hv) (n + 2) = t.sa + t.sb ∧ ∀ i, i < n + 2 → 0 ≤ zf x y hv i := by
  have h1 := of_decide_eq_true h
  refine ⟨?_, sums_nn h⟩
  obtain ⟨h1, h2⟩ := h1
  unfold sumE at h1
  unfold sumN at h2
  split at h1
  · rename_i hn
    rw [if_pos hn] at h2
    split at h1
    · rename_i hle
      rw [if_pos hle] at h2
      exact h2
    · cases h1
  · cases h1
theorem om_zf (a b : Int) (hv : Nat → HV) : om a b hv = zf a b hv := rfl
/-- what the two have of a commitment is what they have, less the fee at most -/
theorem pay {t : TV} {x y h : Int} {n : Nat} {hv : Nat → HV} (hf : fitsB t x y n hv = true) :
    (∀ j, j < n + 2 → 0 ≤ om (ownN t x y h) (othA t x y h) hv j) ∧ (∀ j, j ≤ n + 2 → sumP (om (ownN t x y h) (othA t x y h) hv) j ≤ 9223372036854775807) ∧ sumP (om (ownN t x y h) (othA t x y h) hv) (n + 2) ≤ t.sa + t.sb ∧ t.sa + t.sb - t.fee ≤ sumP (om (ownN t x y h) (othA t x y h) hv) (n + 2) := by
  obtain ⟨f1, f2, f3, f4⟩ := fits_parts hf
  obtain ⟨s1, s2⟩ := sums_is f4
  have hx0 : 0 ≤ x := s2 0 (by omega)
  have hy0 : 0 ≤ y := by have := s2 1 (by omega); simpa [zf] using this
  obtain ⟨_, _, _, _, _, hfee⟩ := may_parts f1
  have hM := (mayT_sum f1).2.2
  have hs : 0 ≤ subN x t.fee ∧ subN x t.fee ≤ x ∧ x - t.fee ≤ subN x t.fee := by
    unfold subN
    rw [if_neg (by omega)]
    split <;> omega
  have hab : 0 ≤ ownN t x y h ∧ 0 ≤ othA t x y h ∧ ownN t x y h + othA t x y h ≤ x + y ∧ x + y - t.fee ≤ ownN t x y h + othA t x y h := by
    unfold ownN othA
    split <;> omega
  have nn : ∀ j, j < n + 2 → 0 ≤ om (ownN t x y h) (othA t x y h) hv j := fun j hj => by
    unfold om
    split
    · exact hab.1
    · split
      · exact hab.2.1
      · have := s2 j hj
        simp only [zf] at this
        rw [if_neg (by omega), if_neg (by omega)] at this
        exact this
  have e1 := sum_zf x y hv n
  have e2 := sum_zf (ownN t x y h) (othA t x y h) hv n
  rw [← om_zf] at e2
  have tot : sumP (om (ownN t x y h) (othA t x y h) hv) (n + 2) ≤ t.sa + t.sb := by rw [e2]; rw [e1] at s1; omega
  refine ⟨nn, fun j hj => ?_, tot, by rw [e2]; rw [e1] at s1; omega⟩
  have := sumP_mono (om (ownN t x y h) (othA t x y h) hv) j (n + 2) hj nn
  omega

set_option maxHeartbeats 8000000 in
theorem sums_law {C : Array Value} {t : TV} {x y h : Int} {pl : List Int} {ao : Option Addr} {n c : Nat} {Cs : Nat → Array Value} {hv : Nat → HV} (w : World) (hT : IsT C t) (hb : TB t) (hpl : pl.length = 32) (hH : Hs w ao n Cs hv) (hn : n ≤ 140737488355328) (hx : x ≤ 9223372036854775807) (hy : y ≤ 9223372036854775807) (hz : ∀ i, i < n → (hv i).am ≤ 9223372036854775807) :
    Calls Try.prog 5 #[.agg C, .int .i64 h, .agg (U8 pl).toArray, .agg #[.int .i64 x, .int .i64 y, .slice ao n c]] w fun e w' => e = .returned (.bool true) ∧ Below w.heap.size w w' := by
  by_cases hok : fitsB t x y n hv = true ∧ (h = t.a ∨ h = t.b) ∧ pl ≠ ZL
  rotate_left
  · skip
    have hH0 := hH
    have E : Below w.heap.size w w := Below.refl _ _
    go_enter Try.func5, Try.ntmps5
    refine wp_seq ?_
    refine wl_in ?_
    refine wl_cap fun Q hQ => ?_
    refine st_new (fun b => .pointer (some ⟨b, 0, none⟩)) (some 4) rfl rfl (ex_box rfl rfl) ?_
    intro b1 W1 k1 g1 B
    simp only [Act.put, List.setIfInBounds_toArray, List.set_cons_zero, List.set_cons_succ]
    have ge_b1 := Nat.le_trans E.size g1
    replace E := below_next E B
    replace hH := hH.below B
    clear B
    refine st_new (fun b => .pointer (some ⟨b, 0, none⟩)) (some 6) rfl rfl (ex_box rfl rfl) ?_
    intro b2 W2 k2 g2 B
    simp only [Act.put, List.setIfInBounds_toArray, List.set_cons_zero, List.set_cons_succ]
    have ne_b2_b1 : b2 ≠ b1 := fun e => by have := lt_of k1; omega
    have ge_b2 := Nat.le_trans E.size g2
    replace E := below_next E B
    replace hH := hH.below B
    replace k1 := keep B k1
    clear B
    refine st_new (fun b => .pointer (some ⟨b, 0, none⟩)) (some 7) rfl rfl (ex_box rfl rfl) ?_
    intro b3 W3 k3 g3 B
    simp only [Act.put, List.setIfInBounds_toArray, List.set_cons_zero, List.set_cons_succ]
    have ne_b3_b1 : b3 ≠ b1 := fun e => by have := lt_of k1; omega
    have ne_b3_b2 : b3 ≠ b2 := fun e => by have := lt_of k2; omega
    have ge_b3 := Nat.le_trans E.size g3
    replace E := below_next E B
    replace hH := hH.below B
    replace k1 := keep B k1
    replace k2 := keep B k2
    clear B
    refine st_to (v := (.bool false)) (some 8) rfl rfl (ex_asg rfl rfl) ?_
    simp only [Act.put, List.setIfInBounds_toArray, List.set_cons_zero, List.set_cons_succ]
    refine st_end ?_
    subst hQ
    refine wp_seq ?_
    refine wl_in ?_
    refine wl_cap fun Q hQ => ?_
    refine st_to (v := (.agg C)) (some 15) rfl rfl (ex_load (p := (.pointer (some ⟨b1, 0, none⟩))) rfl rfl (ld_all k1 Try.underlying26 rfl (inf26.trans (congrArg some (hT.size).symm)))) ?_
    simp only [Act.put, List.setIfInBounds_toArray, List.set_cons_zero, List.set_cons_succ]
    refine st_to (v := (.int .i64 h)) (some 16) rfl rfl (ex_mv rfl rfl) ?_
    simp only [Act.put, List.setIfInBounds_toArray, List.set_cons_zero, List.set_cons_succ]
    refine st_to (v := (.agg (U8 pl).toArray)) (some 17) rfl rfl (ex_load (p := (.pointer (some ⟨b2, 0, none⟩))) rfl rfl (ld_all k2 Try.underlying22 rfl (inf22.trans (congrArg some ((U8_size _ hpl)).symm)))) ?_
    simp only [Act.put, List.setIfInBounds_toArray, List.set_cons_zero, List.set_cons_succ]
    refine st_to (v := (.agg #[.int .i64 x, .int .i64 y, .slice ao n c])) (some 18) rfl rfl (ex_load (p := (.pointer (some ⟨b3, 0, none⟩))) rfl rfl (ld_all k3 Try.underlying29 rfl inf29)) ?_
    simp only [Act.put, List.setIfInBounds_toArray, List.set_cons_zero, List.set_cons_succ]
    refine st_call (some 19) rfl rfl (commit_no W3 hT hb hpl hH hn hx hy hz hok) (ex_call (f := 8) (vs := [(.agg C), (.int .i64 h), (.agg (U8 pl).toArray), (.agg #[.int .i64 x, .int .i64 y, .slice ao n c])]) rfl (cf8 _) rfl) ?_
    rintro e W4 ⟨rfl, B⟩
    refine ⟨_, rfl, ?_⟩
    simp only [Act.put, List.setIfInBounds_toArray, List.set_cons_zero, List.set_cons_succ]
    replace E := below_next E B
    replace hH := hH.below B
    replace k1 := keep B k1
    replace k2 := keep B k2
    replace k3 := keep B k3
    refine st_to (v := (.tuple #[(.agg #[.slice none 0 0, .slice none 0 0]), (.int .i64 1)])) (some 14) rfl rfl (ex_mv rfl rfl) ?_
    simp only [Act.put, List.setIfInBounds_toArray, List.set_cons_zero, List.set_cons_succ]
    refine st_to (v := (.agg #[.slice none 0 0, .slice none 0 0])) (some 20) rfl rfl (ex_ext rfl rfl rfl) ?_
    simp only [Act.put, List.setIfInBounds_toArray, List.set_cons_zero, List.set_cons_succ]
    refine st_to (v := (.int .i64 1)) (some 21) rfl rfl (ex_ext rfl rfl rfl) ?_
    simp only [Act.put, List.setIfInBounds_toArray, List.set_cons_zero, List.set_cons_succ]
    refine st_new (fun b => .pointer (some ⟨b, 0, none⟩)) (some 9) rfl rfl (ex_alloc rfl zero34) ?_
    intro b4 W5 k4 g4 B
    simp only [Act.put, List.setIfInBounds_toArray, List.set_cons_zero, List.set_cons_succ]
    have ne_b4_b1 : b4 ≠ b1 := fun e => by have := lt_of k1; omega
    have ne_b4_b2 : b4 ≠ b2 := fun e => by have := lt_of k2; omega
    have ne_b4_b3 : b4 ≠ b3 := fun e => by have := lt_of k3; omega
    have ge_b4 := Nat.le_trans E.size g4
    replace E := below_next E B
    replace hH := hH.below B
    replace k1 := keep B k1
    replace k2 := keep B k2
    replace k3 := keep B k3
    clear B
    obtain ⟨W6, hst, kn, K⟩ := put_all (D := #[.slice none 0 0, .slice none 0 0]) k4 rfl inf34 (by kernel_rfl)
    refine st_sk rfl rfl (ex_store rfl rfl rfl hst) ?_
    replace E := below_put E ge_b4 K
    replace hH := hH0.below E
    replace k1 := keepK K k1 (fun e => ne_tag k1 k4 (by decide) e)
    replace k2 := keepK K k2 (fun e => ne_tag k2 k4 (by decide) e)
    replace k3 := keepK K k3 (fun e => ne_tag k3 k4 (by decide) e)
    replace k4 := kn
    clear kn K hst
    refine st_to (v := (.int .i64 1)) (some 10) rfl rfl (ex_asg rfl rfl) ?_
    simp only [Act.put, List.setIfInBounds_toArray, List.set_cons_zero, List.set_cons_succ]
    refine st_end ?_
    subst hQ
    refine wp_seq ?_
    refine wp_seq ?_
    refine wl_in ?_
    refine wl_cap fun Q hQ => ?_
    refine st_call (some 22) rfl rfl (lives_any W6) (ex_call (f := 10) (vs := []) rfl (cf10 _) rfl) ?_
    rintro e W7 ⟨rfl, B⟩
    refine ⟨_, rfl, ?_⟩
    simp only [Act.put, List.setIfInBounds_toArray, List.set_cons_zero, List.set_cons_succ]
    replace E := below_next E B
    replace hH := hH.below B
    replace k1 := keep B k1
    replace k2 := keep B k2
    replace k3 := keep B k3
    replace k4 := keep B k4
    refine st_to (v := (.bool false)) (some 23) rfl rfl (ex_not rfl rfl rfl) ?_
    simp only [Act.put, List.setIfInBounds_toArray, List.set_cons_zero, List.set_cons_succ]
    refine st_to (v := (.bool false)) (some 24) rfl rfl (ex_mv rfl rfl) ?_
    simp only [Act.put, List.setIfInBounds_toArray, List.set_cons_zero, List.set_cons_succ]
    refine st_to (v := (.int .i64 1)) (some 25) rfl rfl (ex_mv rfl rfl) ?_
    simp only [Act.put, List.setIfInBounds_toArray, List.set_cons_zero, List.set_cons_succ]
    refine st_to (v := (.bool true)) (some 26) rfl rfl (ex_bin (u := (.int .i64 1)) (r := (.int .i64 0)) rfl rfl rfl (eg35 _ _ _ _ _ _) (neq35 _ (by decide))) ?_
    simp only [Act.put, List.setIfInBounds_toArray, List.set_cons_zero, List.set_cons_succ]
    refine st_to (v := (.bool true)) (some 27) rfl rfl (ex_pkF rfl rfl rfl) ?_
    simp only [Act.put, List.setIfInBounds_toArray, List.set_cons_zero, List.set_cons_succ]
    refine st_end ?_
    subst hQ
    refine wp_cond_true rfl ?_
    refine wp_seq ?_
    refine wl_in ?_
    refine wl_cap fun Q hQ => ?_
    refine st_call (some 28) rfl rfl (lives_any W7) (ex_call (f := 10) (vs := []) rfl (cf10 _) rfl) ?_
    rintro e W8 ⟨rfl, B⟩
    refine ⟨_, rfl, ?_⟩
    simp only [Act.put, List.setIfInBounds_toArray, List.set_cons_zero, List.set_cons_succ]
    replace E := below_next E B
    replace hH := hH.below B
    replace k1 := keep B k1
    replace k2 := keep B k2
    replace k3 := keep B k3
    replace k4 := keep B k4
    refine st_to (v := (.bool true)) (some 8) rfl rfl (ex_asg rfl rfl) ?_
    simp only [Act.put, List.setIfInBounds_toArray, List.set_cons_zero, List.set_cons_succ]
    refine st_end ?_
    subst hQ
    refine wp_ret ?_
    refine ret_out ?_
    refine bodyPost_ret (results_tmp Try.results5 _ _ _) rfl ⟨rfl, E⟩
  obtain ⟨f1, f2, f3, f4⟩ := fits_parts hok.1
  obtain ⟨p1, p2, p3, p4⟩ := pay (h := h) hok.1
  have hM := mayT_sum f1
  have hfe := (may_parts f1).2.2.2.2.2
  have hOP := opth_ok (Cs := Cs) f1 hok.2.1 f3 hpl (fun i hi => hH.ish hi)
  by_cases hfe2 : t.sa + t.sb < t.fee
  · skip
    have hH0 := hH
    have E : Below w.heap.size w w := Below.refl _ _
    go_enter Try.func5, Try.ntmps5
    refine wp_seq ?_
    refine wl_in ?_
    refine wl_cap fun Q hQ => ?_
    refine st_new (fun b => .pointer (some ⟨b, 0, none⟩)) (some 4) rfl rfl (ex_box rfl rfl) ?_
    intro b1 W1 k1 g1 B
    simp only [Act.put, List.setIfInBounds_toArray, List.set_cons_zero, List.set_cons_succ]
    have ge_b1 := Nat.le_trans E.size g1
    replace E := below_next E B
    replace hH := hH.below B
    clear B
    refine st_new (fun b => .pointer (some ⟨b, 0, none⟩)) (some 6) rfl rfl (ex_box rfl rfl) ?_
    intro b2 W2 k2 g2 B
    simp only [Act.put, List.setIfInBounds_toArray, List.set_cons_zero, List.set_cons_succ]
    have ne_b2_b1 : b2 ≠ b1 := fun e => by have := lt_of k1; omega
    have ge_b2 := Nat.le_trans E.size g2
    replace E := below_next E B
    replace hH := hH.below B
    replace k1 := keep B k1
    clear B
    refine st_new (fun b => .pointer (some ⟨b, 0, none⟩)) (some 7) rfl rfl (ex_box rfl rfl) ?_
    intro b3 W3 k3 g3 B
    simp only [Act.put, List.setIfInBounds_toArray, List.set_cons_zero, List.set_cons_succ]
    have ne_b3_b1 : b3 ≠ b1 := fun e => by have := lt_of k1; omega
    have ne_b3_b2 : b3 ≠ b2 := fun e => by have := lt_of k2; omega
    have ge_b3 := Nat.le_trans E.size g3
    replace E := below_next E B
    replace hH := hH.below B
    replace k1 := keep B k1
    replace k2 := keep B k2
    clear B
    refine st_to (v := (.bool false)) (some 8) rfl rfl (ex_asg rfl rfl) ?_
    simp only [Act.put, List.setIfInBounds_toArray, List.set_cons_zero, List.set_cons_succ]
    refine st_end ?_
    subst hQ
    refine wp_seq ?_
    refine wl_in ?_
    refine wl_cap fun Q hQ => ?_
    refine st_to (v := (.agg C)) (some 15) rfl rfl (ex_load (p := (.pointer (some ⟨b1, 0, none⟩))) rfl rfl (ld_all k1 Try.underlying26 rfl (inf26.trans (congrArg some (hT.size).symm)))) ?_
    simp only [Act.put, List.setIfInBounds_toArray, List.set_cons_zero, List.set_cons_succ]
    refine st_to (v := (.int .i64 h)) (some 16) rfl rfl (ex_mv rfl rfl) ?_
    simp only [Act.put, List.setIfInBounds_toArray, List.set_cons_zero, List.set_cons_succ]
    refine st_to (v := (.agg (U8 pl).toArray)) (some 17) rfl rfl (ex_load (p := (.pointer (some ⟨b2, 0, none⟩))) rfl rfl (ld_all k2 Try.underlying22 rfl (inf22.trans (congrArg some ((U8_size _ hpl)).symm)))) ?_
    simp only [Act.put, List.setIfInBounds_toArray, List.set_cons_zero, List.set_cons_succ]
    refine st_to (v := (.agg #[.int .i64 x, .int .i64 y, .slice ao n c])) (some 18) rfl rfl (ex_load (p := (.pointer (some ⟨b3, 0, none⟩))) rfl rfl (ld_all k3 Try.underlying29 rfl inf29)) ?_
    simp only [Act.put, List.setIfInBounds_toArray, List.set_cons_zero, List.set_cons_succ]
    refine st_call (some 19) rfl rfl (commit_ok W3 hT hb hpl hH hn hx hy hz hok.1 hok.2.1 hok.2.2) (ex_call (f := 8) (vs := [(.agg C), (.int .i64 h), (.agg (U8 pl).toArray), (.agg #[.int .i64 x, .int .i64 y, .slice ao n c])]) rfl (cf8 _) rfl) ?_
    rintro e W4 ⟨gi, go, cap, rfl, ki, OU, B⟩
    refine ⟨_, rfl, ?_⟩
    simp only [Act.put, List.setIfInBounds_toArray, List.set_cons_zero, List.set_cons_succ]
    replace E := below_next E B
    replace hH := hH.below B
    replace k1 := keep B k1
    replace k2 := keep B k2
    replace k3 := keep B k3
    refine st_to (v := (.tuple #[(.agg #[.slice (some ⟨gi, 0, none⟩) 1 1, .slice (some ⟨go, 0, none⟩) (n + 2) cap]), (.int .i64 0)])) (some 14) rfl rfl (ex_mv rfl rfl) ?_
    simp only [Act.put, List.setIfInBounds_toArray, List.set_cons_zero, List.set_cons_succ]
    refine st_to (v := (.agg #[.slice (some ⟨gi, 0, none⟩) 1 1, .slice (some ⟨go, 0, none⟩) (n + 2) cap])) (some 20) rfl rfl (ex_ext rfl rfl rfl) ?_
    simp only [Act.put, List.setIfInBounds_toArray, List.set_cons_zero, List.set_cons_succ]
    refine st_to (v := (.int .i64 0)) (some 21) rfl rfl (ex_ext rfl rfl rfl) ?_
    simp only [Act.put, List.setIfInBounds_toArray, List.set_cons_zero, List.set_cons_succ]
    refine st_new (fun b => .pointer (some ⟨b, 0, none⟩)) (some 9) rfl rfl (ex_alloc rfl zero34) ?_
    intro b4 W5 k4 g4 B
    simp only [Act.put, List.setIfInBounds_toArray, List.set_cons_zero, List.set_cons_succ]
    have ne_b4_b1 : b4 ≠ b1 := fun e => by have := lt_of k1; omega
    have ne_b4_b2 : b4 ≠ b2 := fun e => by have := lt_of k2; omega
    have ne_b4_b3 : b4 ≠ b3 := fun e => by have := lt_of k3; omega
    have ge_b4 := Nat.le_trans E.size g4
    replace E := below_next E B
    replace hH := hH.below B
    replace k1 := keep B k1
    replace k2 := keep B k2
    replace k3 := keep B k3
    replace OU := OU.keep B
    clear B
    obtain ⟨W6, hst, kn, K⟩ := put_all (D := #[.slice (some ⟨gi, 0, none⟩) 1 1, .slice (some ⟨go, 0, none⟩) (n + 2) cap]) k4 rfl inf34 (by kernel_rfl)
    refine st_sk rfl rfl (ex_store rfl rfl rfl hst) ?_
    replace E := below_put E ge_b4 K
    replace hH := hH0.below E
    replace k1 := keepK K k1 (fun e => ne_tag k1 k4 (by decide) e)
    replace k2 := keepK K k2 (fun e => ne_tag k2 k4 (by decide) e)
    replace k3 := keepK K k3 (fun e => ne_tag k3 k4 (by decide) e)
    replace OU := OU.keepK K k4 (by decide) (by decide)
    replace k4 := kn
    clear kn K hst
    refine st_to (v := (.int .i64 0)) (some 10) rfl rfl (ex_asg rfl rfl) ?_
    simp only [Act.put, List.setIfInBounds_toArray, List.set_cons_zero, List.set_cons_succ]
    refine st_end ?_
    subst hQ
    refine wp_seq ?_
    refine wp_seq ?_
    refine wl_in ?_
    refine wl_cap fun Q hQ => ?_
    refine st_call (some 22) rfl rfl (lives_any W6) (ex_call (f := 10) (vs := []) rfl (cf10 _) rfl) ?_
    rintro e W7 ⟨rfl, B⟩
    refine ⟨_, rfl, ?_⟩
    simp only [Act.put, List.setIfInBounds_toArray, List.set_cons_zero, List.set_cons_succ]
    replace E := below_next E B
    replace hH := hH.below B
    replace k1 := keep B k1
    replace k2 := keep B k2
    replace k3 := keep B k3
    replace OU := OU.keep B
    replace k4 := keep B k4
    refine st_to (v := (.bool false)) (some 23) rfl rfl (ex_not rfl rfl rfl) ?_
    simp only [Act.put, List.setIfInBounds_toArray, List.set_cons_zero, List.set_cons_succ]
    refine st_to (v := (.bool false)) (some 24) rfl rfl (ex_mv rfl rfl) ?_
    simp only [Act.put, List.setIfInBounds_toArray, List.set_cons_zero, List.set_cons_succ]
    refine st_to (v := (.int .i64 0)) (some 25) rfl rfl (ex_mv rfl rfl) ?_
    simp only [Act.put, List.setIfInBounds_toArray, List.set_cons_zero, List.set_cons_succ]
    refine st_to (v := (.bool false)) (some 26) rfl rfl (ex_bin (u := (.int .i64 0)) (r := (.int .i64 0)) rfl rfl rfl (eg35 _ _ _ _ _ _) (neq35 _ (by decide))) ?_
    simp only [Act.put, List.setIfInBounds_toArray, List.set_cons_zero, List.set_cons_succ]
    refine st_to (v := (.bool false)) (some 27) rfl rfl (ex_pkF rfl rfl rfl) ?_
    simp only [Act.put, List.setIfInBounds_toArray, List.set_cons_zero, List.set_cons_succ]
    refine st_end ?_
    subst hQ
    refine wp_cond_false rfl ?_
    refine wp_skip ?_
    refine wp_seq ?_
    refine wl_in ?_
    refine wl_cap fun Q hQ => ?_
    refine st_to (v := (.pointer (some ⟨b4, 1, none⟩))) (some 30) rfl rfl (ex_fa (p := (.pointer (some ⟨b4, 0, none⟩))) rfl rfl (fa34_1 _ _)) ?_
    simp only [Act.put, List.setIfInBounds_toArray, List.set_cons_zero, List.set_cons_succ]
    refine st_to (v := (.slice (some ⟨go, 0, none⟩) (n + 2) cap)) (some 31) rfl rfl (ex_load (p := (.pointer (some ⟨b4, 1, none⟩))) rfl rfl (ld32 (at_cell k4 rfl))) ?_
    simp only [Act.put, List.setIfInBounds_toArray, List.set_cons_zero, List.set_cons_succ]
    refine st_call (some 32) rfl rfl (outs_ok W7 OU (by omega) (by omega) hOP p1 p2) (ex_call (f := 26) (vs := [(.int .i64 8), (.slice (some ⟨go, 0, none⟩) (n + 2) cap)]) rfl (cf26 _) rfl) ?_
    rintro e W8 ⟨rfl, B⟩
    refine ⟨_, rfl, ?_⟩
    simp only [Act.put, List.setIfInBounds_toArray, List.set_cons_zero, List.set_cons_succ]
    replace E := below_next E B
    replace hH := hH.below B
    replace k1 := keep B k1
    replace k2 := keep B k2
    replace k3 := keep B k3
    replace OU := OU.keep B
    replace k4 := keep B k4
    refine st_to (v := (.tuple #[(.int .i64 (sumP (om (ownN t x y h) (othA t x y h) hv) (n + 2))), (.bool true)])) (some 29) rfl rfl (ex_mv rfl rfl) ?_
    simp only [Act.put, List.setIfInBounds_toArray, List.set_cons_zero, List.set_cons_succ]
    refine st_to (v := (.int .i64 (sumP (om (ownN t x y h) (othA t x y h) hv) (n + 2)))) (some 33) rfl rfl (ex_ext rfl rfl rfl) ?_
    simp only [Act.put, List.setIfInBounds_toArray, List.set_cons_zero, List.set_cons_succ]
    refine st_to (v := (.bool true)) (some 34) rfl rfl (ex_ext rfl rfl rfl) ?_
    simp only [Act.put, List.setIfInBounds_toArray, List.set_cons_zero, List.set_cons_succ]
    refine st_to (v := (.int .i64 (sumP (om (ownN t x y h) (othA t x y h) hv) (n + 2)))) (some 11) rfl rfl (ex_asg rfl rfl) ?_
    simp only [Act.put, List.setIfInBounds_toArray, List.set_cons_zero, List.set_cons_succ]
    refine st_to (v := (.bool true)) (some 12) rfl rfl (ex_asg rfl rfl) ?_
    simp only [Act.put, List.setIfInBounds_toArray, List.set_cons_zero, List.set_cons_succ]
    refine st_end ?_
    subst hQ
    refine wp_seq ?_
    refine wl_in ?_
    refine wl_cap fun Q hQ => ?_
    refine st_to (v := (.pointer (some ⟨b1, 36, none⟩))) (some 35) rfl rfl (ex_fa (p := (.pointer (some ⟨b1, 0, none⟩))) rfl rfl (fa26_4 _ _)) ?_
    simp only [Act.put, List.setIfInBounds_toArray, List.set_cons_zero, List.set_cons_succ]
    refine st_to (v := (.int .i64 t.sa)) (some 36) rfl rfl (ex_load (p := (.pointer (some ⟨b1, 36, none⟩))) rfl rfl (ld3 (at_cell k1 hT.c36))) ?_
    simp only [Act.put, List.setIfInBounds_toArray, List.set_cons_zero, List.set_cons_succ]
    refine st_to (v := (.pointer (some ⟨b1, 37, none⟩))) (some 37) rfl rfl (ex_fa (p := (.pointer (some ⟨b1, 0, none⟩))) rfl rfl (fa26_5 _ _)) ?_
    simp only [Act.put, List.setIfInBounds_toArray, List.set_cons_zero, List.set_cons_succ]
    refine st_to (v := (.int .i64 t.sb)) (some 38) rfl rfl (ex_load (p := (.pointer (some ⟨b1, 37, none⟩))) rfl rfl (ld3 (at_cell k1 hT.c37))) ?_
    simp only [Act.put, List.setIfInBounds_toArray, List.set_cons_zero, List.set_cons_succ]
    refine st_to (v := (.int .i64 (t.sa + t.sb))) (some 39) rfl rfl (ex_bin rfl rfl rfl (eg3 _ _ _ _ _ _) (add3 _ rfl (by omega))) ?_
    simp only [Act.put, List.setIfInBounds_toArray, List.set_cons_zero, List.set_cons_succ]
    refine st_to (v := (.int .i64 (t.sa + t.sb))) (some 13) rfl rfl (ex_asg rfl rfl) ?_
    simp only [Act.put, List.setIfInBounds_toArray, List.set_cons_zero, List.set_cons_succ]
    refine st_end ?_
    subst hQ
    refine wp_seq ?_
    refine wl_in ?_
    refine wl_cap fun Q hQ => ?_
    refine st_to (v := (.bool true)) (some 40) rfl rfl (ex_mv rfl rfl) ?_
    simp only [Act.put, List.setIfInBounds_toArray, List.set_cons_zero, List.set_cons_succ]
    refine st_to (v := (.bool true)) (some 41) rfl rfl (ex_mv rfl rfl) ?_
    simp only [Act.put, List.setIfInBounds_toArray, List.set_cons_zero, List.set_cons_succ]
    refine st_to (v := (.pointer (some ⟨b4, 1, none⟩))) (some 42) rfl rfl (ex_fa (p := (.pointer (some ⟨b4, 0, none⟩))) rfl rfl (fa34_1 _ _)) ?_
    simp only [Act.put, List.setIfInBounds_toArray, List.set_cons_zero, List.set_cons_succ]
    refine st_to (v := (.slice (some ⟨go, 0, none⟩) (n + 2) cap)) (some 43) rfl rfl (ex_load (p := (.pointer (some ⟨b4, 1, none⟩))) rfl rfl (ld32 (at_cell k4 rfl))) ?_
    simp only [Act.put, List.setIfInBounds_toArray, List.set_cons_zero, List.set_cons_succ]
    refine st_to (v := (.int .i64 ((n + 2) : Nat))) (some 44) rfl rfl (ex_len rfl rfl (len32 _ _ _ _ _)) ?_
    simp only [Act.put, List.setIfInBounds_toArray, List.set_cons_zero, List.set_cons_succ]
    refine st_to (v := (.pointer (some ⟨b3, 2, none⟩))) (some 45) rfl rfl (ex_fa (p := (.pointer (some ⟨b3, 0, none⟩))) rfl rfl (fa29_2 _ _)) ?_
    simp only [Act.put, List.setIfInBounds_toArray, List.set_cons_zero, List.set_cons_succ]
    refine st_to (v := (.slice ao n c)) (some 46) rfl rfl (ex_load (p := (.pointer (some ⟨b3, 2, none⟩))) rfl rfl (ld27 (at_cell k3 rfl))) ?_
    simp only [Act.put, List.setIfInBounds_toArray, List.set_cons_zero, List.set_cons_succ]
    refine st_to (v := (.int .i64 (n : Nat))) (some 47) rfl rfl (ex_len rfl rfl (len27 _ _ _ _ _)) ?_
    simp only [Act.put, List.setIfInBounds_toArray, List.set_cons_zero, List.set_cons_succ]
    refine st_to (v := (.int .i64 ((n + 2 : Nat) : Int))) (some 48) rfl rfl (ex_bin rfl rfl rfl (eg3 _ _ _ _ _ _) (add3 _ (by omega) (by omega))) ?_
    simp only [Act.put, List.setIfInBounds_toArray, List.set_cons_zero, List.set_cons_succ]
    refine st_to (v := (.bool true)) (some 49) rfl rfl (ex_bin (u := (.int .i64 ((n + 2) : Nat))) (r := (.int .i64 ((n + 2 : Nat) : Int))) rfl rfl rfl (eg3 _ _ _ _ _ _) (eql3 _ (decide_eq_true rfl))) ?_
    simp only [Act.put, List.setIfInBounds_toArray, List.set_cons_zero, List.set_cons_succ]
    refine st_to (v := (.bool true)) (some 50) rfl rfl (ex_pkT rfl rfl rfl) ?_
    simp only [Act.put, List.setIfInBounds_toArray, List.set_cons_zero, List.set_cons_succ]
    refine st_to (v := (.bool true)) (some 51) rfl rfl (ex_mv rfl rfl) ?_
    simp only [Act.put, List.setIfInBounds_toArray, List.set_cons_zero, List.set_cons_succ]
    refine st_to (v := (.int .i64 (sumP (om (ownN t x y h) (othA t x y h) hv) (n + 2)))) (some 52) rfl rfl (ex_mv rfl rfl) ?_
    simp only [Act.put, List.setIfInBounds_toArray, List.set_cons_zero, List.set_cons_succ]
    refine st_to (v := (.int .i64 (t.sa + t.sb))) (some 53) rfl rfl (ex_mv rfl rfl) ?_
    simp only [Act.put, List.setIfInBounds_toArray, List.set_cons_zero, List.set_cons_succ]
    refine st_to (v := (.bool true)) (some 54) rfl rfl (ex_bin (u := (.int .i64 (sumP (om (ownN t x y h) (othA t x y h) hv) (n + 2)))) (r := (.int .i64 (t.sa + t.sb))) rfl rfl rfl (eg3 _ _ _ _ _ _) (leq3 _ (decide_eq_true p3))) ?_
    simp only [Act.put, List.setIfInBounds_toArray, List.set_cons_zero, List.set_cons_succ]
    refine st_to (v := (.bool true)) (some 55) rfl rfl (ex_pkT rfl rfl rfl) ?_
    simp only [Act.put, List.setIfInBounds_toArray, List.set_cons_zero, List.set_cons_succ]
    refine st_to (v := (.bool true)) (some 56) rfl rfl (ex_mv rfl rfl) ?_
    simp only [Act.put, List.setIfInBounds_toArray, List.set_cons_zero, List.set_cons_succ]
    refine st_to (v := (.pointer (some ⟨b1, 39, none⟩))) (some 57) rfl rfl (ex_fa (p := (.pointer (some ⟨b1, 0, none⟩))) rfl rfl (fa26_7 _ _)) ?_
    simp only [Act.put, List.setIfInBounds_toArray, List.set_cons_zero, List.set_cons_succ]
    refine st_to (v := (.int .i64 t.fee)) (some 58) rfl rfl (ex_load (p := (.pointer (some ⟨b1, 39, none⟩))) rfl rfl (ld3 (at_cell k1 hT.c39))) ?_
    simp only [Act.put, List.setIfInBounds_toArray, List.set_cons_zero, List.set_cons_succ]
    refine st_to (v := (.int .i64 (t.sa + t.sb))) (some 59) rfl rfl (ex_mv rfl rfl) ?_
    simp only [Act.put, List.setIfInBounds_toArray, List.set_cons_zero, List.set_cons_succ]
    refine st_to (v := (.bool true)) (some 60) rfl rfl (ex_bin (u := (.int .i64 t.fee)) (r := (.int .i64 (t.sa + t.sb))) rfl rfl rfl (eg3 _ _ _ _ _ _) (gtr3 _ (decide_eq_true hfe2))) ?_
    simp only [Act.put, List.setIfInBounds_toArray, List.set_cons_zero, List.set_cons_succ]
    refine st_to (v := (.bool true)) (some 61) rfl rfl (ex_mv rfl rfl) ?_
    simp only [Act.put, List.setIfInBounds_toArray, List.set_cons_zero, List.set_cons_succ]
    refine st_no (some 62) rfl rfl ?_
    simp only [Act.put, List.setIfInBounds_toArray, List.set_cons_zero, List.set_cons_succ]
    refine st_no (some 63) rfl rfl ?_
    simp only [Act.put, List.setIfInBounds_toArray, List.set_cons_zero, List.set_cons_succ]
    refine st_no (some 64) rfl rfl ?_
    simp only [Act.put, List.setIfInBounds_toArray, List.set_cons_zero, List.set_cons_succ]
    refine st_no (some 65) rfl rfl ?_
    simp only [Act.put, List.setIfInBounds_toArray, List.set_cons_zero, List.set_cons_succ]
    refine st_no (some 66) rfl rfl ?_
    simp only [Act.put, List.setIfInBounds_toArray, List.set_cons_zero, List.set_cons_succ]
    refine st_no (some 67) rfl rfl ?_
    simp only [Act.put, List.setIfInBounds_toArray, List.set_cons_zero, List.set_cons_succ]
    refine st_to (v := (.bool true)) (some 68) rfl rfl (ex_pkT rfl rfl rfl) ?_
    simp only [Act.put, List.setIfInBounds_toArray, List.set_cons_zero, List.set_cons_succ]
    refine st_to (v := (.bool true)) (some 69) rfl rfl (ex_pkT rfl rfl rfl) ?_
    simp only [Act.put, List.setIfInBounds_toArray, List.set_cons_zero, List.set_cons_succ]
    refine st_to (v := (.bool true)) (some 8) rfl rfl (ex_asg rfl rfl) ?_
    simp only [Act.put, List.setIfInBounds_toArray, List.set_cons_zero, List.set_cons_succ]
    refine st_end ?_
    subst hQ
    refine wp_ret ?_
    refine bodyPost_ret (results_tmp Try.results5 _ _ _) rfl ⟨rfl, E⟩
  · skip
    have hH0 := hH
    have E : Below w.heap.size w w := Below.refl _ _
    go_enter Try.func5, Try.ntmps5
    refine wp_seq ?_
    refine wl_in ?_
    refine wl_cap fun Q hQ => ?_
    refine st_new (fun b => .pointer (some ⟨b, 0, none⟩)) (some 4) rfl rfl (ex_box rfl rfl) ?_
    intro b1 W1 k1 g1 B
    simp only [Act.put, List.setIfInBounds_toArray, List.set_cons_zero, List.set_cons_succ]
    have ge_b1 := Nat.le_trans E.size g1
    replace E := below_next E B
    replace hH := hH.below B
    clear B
    refine st_new (fun b => .pointer (some ⟨b, 0, none⟩)) (some 6) rfl rfl (ex_box rfl rfl) ?_
    intro b2 W2 k2 g2 B
    simp only [Act.put, List.setIfInBounds_toArray, List.set_cons_zero, List.set_cons_succ]
    have ne_b2_b1 : b2 ≠ b1 := fun e => by have := lt_of k1; omega
    have ge_b2 := Nat.le_trans E.size g2
    replace E := below_next E B
    replace hH := hH.below B
    replace k1 := keep B k1
    clear B
    refine st_new (fun b => .pointer (some ⟨b, 0, none⟩)) (some 7) rfl rfl (ex_box rfl rfl) ?_
    intro b3 W3 k3 g3 B
    simp only [Act.put, List.setIfInBounds_toArray, List.set_cons_zero, List.set_cons_succ]
    have ne_b3_b1 : b3 ≠ b1 := fun e => by have := lt_of k1; omega
    have ne_b3_b2 : b3 ≠ b2 := fun e => by have := lt_of k2; omega
    have ge_b3 := Nat.le_trans E.size g3
    replace E := below_next E B
    replace hH := hH.below B
    replace k1 := keep B k1
    replace k2 := keep B k2
    clear B
    refine st_to (v := (.bool false)) (some 8) rfl rfl (ex_asg rfl rfl) ?_
    simp only [Act.put, List.setIfInBounds_toArray, List.set_cons_zero, List.set_cons_succ]
    refine st_end ?_
    subst hQ
    refine wp_seq ?_
    refine wl_in ?_
    refine wl_cap fun Q hQ => ?_
    refine st_to (v := (.agg C)) (some 15) rfl rfl (ex_load (p := (.pointer (some ⟨b1, 0, none⟩))) rfl rfl (ld_all k1 Try.underlying26 rfl (inf26.trans (congrArg some (hT.size).symm)))) ?_
    simp only [Act.put, List.setIfInBounds_toArray, List.set_cons_zero, List.set_cons_succ]
    refine st_to (v := (.int .i64 h)) (some 16) rfl rfl (ex_mv rfl rfl) ?_
    simp only [Act.put, List.setIfInBounds_toArray, List.set_cons_zero, List.set_cons_succ]
    refine st_to (v := (.agg (U8 pl).toArray)) (some 17) rfl rfl (ex_load (p := (.pointer (some ⟨b2, 0, none⟩))) rfl rfl (ld_all k2 Try.underlying22 rfl (inf22.trans (congrArg some ((U8_size _ hpl)).symm)))) ?_
    simp only [Act.put, List.setIfInBounds_toArray, List.set_cons_zero, List.set_cons_succ]
    refine st_to (v := (.agg #[.int .i64 x, .int .i64 y, .slice ao n c])) (some 18) rfl rfl (ex_load (p := (.pointer (some ⟨b3, 0, none⟩))) rfl rfl (ld_all k3 Try.underlying29 rfl inf29)) ?_
    simp only [Act.put, List.setIfInBounds_toArray, List.set_cons_zero, List.set_cons_succ]
    refine st_call (some 19) rfl rfl (commit_ok W3 hT hb hpl hH hn hx hy hz hok.1 hok.2.1 hok.2.2) (ex_call (f := 8) (vs := [(.agg C), (.int .i64 h), (.agg (U8 pl).toArray), (.agg #[.int .i64 x, .int .i64 y, .slice ao n c])]) rfl (cf8 _) rfl) ?_
    rintro e W4 ⟨gi, go, cap, rfl, ki, OU, B⟩
    refine ⟨_, rfl, ?_⟩
    simp only [Act.put, List.setIfInBounds_toArray, List.set_cons_zero, List.set_cons_succ]
    replace E := below_next E B
    replace hH := hH.below B
    replace k1 := keep B k1
    replace k2 := keep B k2
    replace k3 := keep B k3
    refine st_to (v := (.tuple #[(.agg #[.slice (some ⟨gi, 0, none⟩) 1 1, .slice (some ⟨go, 0, none⟩) (n + 2) cap]), (.int .i64 0)])) (some 14) rfl rfl (ex_mv rfl rfl) ?_
    simp only [Act.put, List.setIfInBounds_toArray, List.set_cons_zero, List.set_cons_succ]
    refine st_to (v := (.agg #[.slice (some ⟨gi, 0, none⟩) 1 1, .slice (some ⟨go, 0, none⟩) (n + 2) cap])) (some 20) rfl rfl (ex_ext rfl rfl rfl) ?_
    simp only [Act.put, List.setIfInBounds_toArray, List.set_cons_zero, List.set_cons_succ]
    refine st_to (v := (.int .i64 0)) (some 21) rfl rfl (ex_ext rfl rfl rfl) ?_
    simp only [Act.put, List.setIfInBounds_toArray, List.set_cons_zero, List.set_cons_succ]
    refine st_new (fun b => .pointer (some ⟨b, 0, none⟩)) (some 9) rfl rfl (ex_alloc rfl zero34) ?_
    intro b4 W5 k4 g4 B
    simp only [Act.put, List.setIfInBounds_toArray, List.set_cons_zero, List.set_cons_succ]
    have ne_b4_b1 : b4 ≠ b1 := fun e => by have := lt_of k1; omega
    have ne_b4_b2 : b4 ≠ b2 := fun e => by have := lt_of k2; omega
    have ne_b4_b3 : b4 ≠ b3 := fun e => by have := lt_of k3; omega
    have ge_b4 := Nat.le_trans E.size g4
    replace E := below_next E B
    replace hH := hH.below B
    replace k1 := keep B k1
    replace k2 := keep B k2
    replace k3 := keep B k3
    replace OU := OU.keep B
    clear B
    obtain ⟨W6, hst, kn, K⟩ := put_all (D := #[.slice (some ⟨gi, 0, none⟩) 1 1, .slice (some ⟨go, 0, none⟩) (n + 2) cap]) k4 rfl inf34 (by kernel_rfl)
    refine st_sk rfl rfl (ex_store rfl rfl rfl hst) ?_
    replace E := below_put E ge_b4 K
    replace hH := hH0.below E
    replace k1 := keepK K k1 (fun e => ne_tag k1 k4 (by decide) e)
    replace k2 := keepK K k2 (fun e => ne_tag k2 k4 (by decide) e)
    replace k3 := keepK K k3 (fun e => ne_tag k3 k4 (by decide) e)
    replace OU := OU.keepK K k4 (by decide) (by decide)
    replace k4 := kn
    clear kn K hst
    refine st_to (v := (.int .i64 0)) (some 10) rfl rfl (ex_asg rfl rfl) ?_
    simp only [Act.put, List.setIfInBounds_toArray, List.set_cons_zero, List.set_cons_succ]
    refine st_end ?_
    subst hQ
    refine wp_seq ?_
    refine wp_seq ?_
    refine wl_in ?_
    refine wl_cap fun Q hQ => ?_
    refine st_call (some 22) rfl rfl (lives_any W6) (ex_call (f := 10) (vs := []) rfl (cf10 _) rfl) ?_
    rintro e W7 ⟨rfl, B⟩
    refine ⟨_, rfl, ?_⟩
    simp only [Act.put, List.setIfInBounds_toArray, List.set_cons_zero, List.set_cons_succ]
    replace E := below_next E B
    replace hH := hH.below B
    replace k1 := keep B k1
    replace k2 := keep B k2
    replace k3 := keep B k3
    replace OU := OU.keep B
    replace k4 := keep B k4
    refine st_to (v := (.bool false)) (some 23) rfl rfl (ex_not rfl rfl rfl) ?_
    simp only [Act.put, List.setIfInBounds_toArray, List.set_cons_zero, List.set_cons_succ]
    refine st_to (v := (.bool false)) (some 24) rfl rfl (ex_mv rfl rfl) ?_
    simp only [Act.put, List.setIfInBounds_toArray, List.set_cons_zero, List.set_cons_succ]
    refine st_to (v := (.int .i64 0)) (some 25) rfl rfl (ex_mv rfl rfl) ?_
    simp only [Act.put, List.setIfInBounds_toArray, List.set_cons_zero, List.set_cons_succ]
    refine st_to (v := (.bool false)) (some 26) rfl rfl (ex_bin (u := (.int .i64 0)) (r := (.int .i64 0)) rfl rfl rfl (eg35 _ _ _ _ _ _) (neq35 _ (by decide))) ?_
    simp only [Act.put, List.setIfInBounds_toArray, List.set_cons_zero, List.set_cons_succ]
    refine st_to (v := (.bool false)) (some 27) rfl rfl (ex_pkF rfl rfl rfl) ?_
    simp only [Act.put, List.setIfInBounds_toArray, List.set_cons_zero, List.set_cons_succ]
    refine st_end ?_
    subst hQ
    refine wp_cond_false rfl ?_
    refine wp_skip ?_
    refine wp_seq ?_
    refine wl_in ?_
    refine wl_cap fun Q hQ => ?_
    refine st_to (v := (.pointer (some ⟨b4, 1, none⟩))) (some 30) rfl rfl (ex_fa (p := (.pointer (some ⟨b4, 0, none⟩))) rfl rfl (fa34_1 _ _)) ?_
    simp only [Act.put, List.setIfInBounds_toArray, List.set_cons_zero, List.set_cons_succ]
    refine st_to (v := (.slice (some ⟨go, 0, none⟩) (n + 2) cap)) (some 31) rfl rfl (ex_load (p := (.pointer (some ⟨b4, 1, none⟩))) rfl rfl (ld32 (at_cell k4 rfl))) ?_
    simp only [Act.put, List.setIfInBounds_toArray, List.set_cons_zero, List.set_cons_succ]
    refine st_call (some 32) rfl rfl (outs_ok W7 OU (by omega) (by omega) hOP p1 p2) (ex_call (f := 26) (vs := [(.int .i64 8), (.slice (some ⟨go, 0, none⟩) (n + 2) cap)]) rfl (cf26 _) rfl) ?_
    rintro e W8 ⟨rfl, B⟩
    refine ⟨_, rfl, ?_⟩
    simp only [Act.put, List.setIfInBounds_toArray, List.set_cons_zero, List.set_cons_succ]
    replace E := below_next E B
    replace hH := hH.below B
    replace k1 := keep B k1
    replace k2 := keep B k2
    replace k3 := keep B k3
    replace OU := OU.keep B
    replace k4 := keep B k4
    refine st_to (v := (.tuple #[(.int .i64 (sumP (om (ownN t x y h) (othA t x y h) hv) (n + 2))), (.bool true)])) (some 29) rfl rfl (ex_mv rfl rfl) ?_
    simp only [Act.put, List.setIfInBounds_toArray, List.set_cons_zero, List.set_cons_succ]
    refine st_to (v := (.int .i64 (sumP (om (ownN t x y h) (othA t x y h) hv) (n + 2)))) (some 33) rfl rfl (ex_ext rfl rfl rfl) ?_
    simp only [Act.put, List.setIfInBounds_toArray, List.set_cons_zero, List.set_cons_succ]
    refine st_to (v := (.bool true)) (some 34) rfl rfl (ex_ext rfl rfl rfl) ?_
    simp only [Act.put, List.setIfInBounds_toArray, List.set_cons_zero, List.set_cons_succ]
    refine st_to (v := (.int .i64 (sumP (om (ownN t x y h) (othA t x y h) hv) (n + 2)))) (some 11) rfl rfl (ex_asg rfl rfl) ?_
    simp only [Act.put, List.setIfInBounds_toArray, List.set_cons_zero, List.set_cons_succ]
    refine st_to (v := (.bool true)) (some 12) rfl rfl (ex_asg rfl rfl) ?_
    simp only [Act.put, List.setIfInBounds_toArray, List.set_cons_zero, List.set_cons_succ]
    refine st_end ?_
    subst hQ
    refine wp_seq ?_
    refine wl_in ?_
    refine wl_cap fun Q hQ => ?_
    refine st_to (v := (.pointer (some ⟨b1, 36, none⟩))) (some 35) rfl rfl (ex_fa (p := (.pointer (some ⟨b1, 0, none⟩))) rfl rfl (fa26_4 _ _)) ?_
    simp only [Act.put, List.setIfInBounds_toArray, List.set_cons_zero, List.set_cons_succ]
    refine st_to (v := (.int .i64 t.sa)) (some 36) rfl rfl (ex_load (p := (.pointer (some ⟨b1, 36, none⟩))) rfl rfl (ld3 (at_cell k1 hT.c36))) ?_
    simp only [Act.put, List.setIfInBounds_toArray, List.set_cons_zero, List.set_cons_succ]
    refine st_to (v := (.pointer (some ⟨b1, 37, none⟩))) (some 37) rfl rfl (ex_fa (p := (.pointer (some ⟨b1, 0, none⟩))) rfl rfl (fa26_5 _ _)) ?_
    simp only [Act.put, List.setIfInBounds_toArray, List.set_cons_zero, List.set_cons_succ]
    refine st_to (v := (.int .i64 t.sb)) (some 38) rfl rfl (ex_load (p := (.pointer (some ⟨b1, 37, none⟩))) rfl rfl (ld3 (at_cell k1 hT.c37))) ?_
    simp only [Act.put, List.setIfInBounds_toArray, List.set_cons_zero, List.set_cons_succ]
    refine st_to (v := (.int .i64 (t.sa + t.sb))) (some 39) rfl rfl (ex_bin rfl rfl rfl (eg3 _ _ _ _ _ _) (add3 _ rfl (by omega))) ?_
    simp only [Act.put, List.setIfInBounds_toArray, List.set_cons_zero, List.set_cons_succ]
    refine st_to (v := (.int .i64 (t.sa + t.sb))) (some 13) rfl rfl (ex_asg rfl rfl) ?_
    simp only [Act.put, List.setIfInBounds_toArray, List.set_cons_zero, List.set_cons_succ]
    refine st_end ?_
    subst hQ
    refine wp_seq ?_
    refine wl_in ?_
    refine wl_cap fun Q hQ => ?_
    refine st_to (v := (.bool true)) (some 40) rfl rfl (ex_mv rfl rfl) ?_
    simp only [Act.put, List.setIfInBounds_toArray, List.set_cons_zero, List.set_cons_succ]
    refine st_to (v := (.bool true)) (some 41) rfl rfl (ex_mv rfl rfl) ?_
    simp only [Act.put, List.setIfInBounds_toArray, List.set_cons_zero, List.set_cons_succ]
    refine st_to (v := (.pointer (some ⟨b4, 1, none⟩))) (some 42) rfl rfl (ex_fa (p := (.pointer (some ⟨b4, 0, none⟩))) rfl rfl (fa34_1 _ _)) ?_
    simp only [Act.put, List.setIfInBounds_toArray, List.set_cons_zero, List.set_cons_succ]
    refine st_to (v := (.slice (some ⟨go, 0, none⟩) (n + 2) cap)) (some 43) rfl rfl (ex_load (p := (.pointer (some ⟨b4, 1, none⟩))) rfl rfl (ld32 (at_cell k4 rfl))) ?_
    simp only [Act.put, List.setIfInBounds_toArray, List.set_cons_zero, List.set_cons_succ]
    refine st_to (v := (.int .i64 ((n + 2) : Nat))) (some 44) rfl rfl (ex_len rfl rfl (len32 _ _ _ _ _)) ?_
    simp only [Act.put, List.setIfInBounds_toArray, List.set_cons_zero, List.set_cons_succ]
    refine st_to (v := (.pointer (some ⟨b3, 2, none⟩))) (some 45) rfl rfl (ex_fa (p := (.pointer (some ⟨b3, 0, none⟩))) rfl rfl (fa29_2 _ _)) ?_
    simp only [Act.put, List.setIfInBounds_toArray, List.set_cons_zero, List.set_cons_succ]
    refine st_to (v := (.slice ao n c)) (some 46) rfl rfl (ex_load (p := (.pointer (some ⟨b3, 2, none⟩))) rfl rfl (ld27 (at_cell k3 rfl))) ?_
    simp only [Act.put, List.setIfInBounds_toArray, List.set_cons_zero, List.set_cons_succ]
    refine st_to (v := (.int .i64 (n : Nat))) (some 47) rfl rfl (ex_len rfl rfl (len27 _ _ _ _ _)) ?_
    simp only [Act.put, List.setIfInBounds_toArray, List.set_cons_zero, List.set_cons_succ]
    refine st_to (v := (.int .i64 ((n + 2 : Nat) : Int))) (some 48) rfl rfl (ex_bin rfl rfl rfl (eg3 _ _ _ _ _ _) (add3 _ (by omega) (by omega))) ?_
    simp only [Act.put, List.setIfInBounds_toArray, List.set_cons_zero, List.set_cons_succ]
    refine st_to (v := (.bool true)) (some 49) rfl rfl (ex_bin (u := (.int .i64 ((n + 2) : Nat))) (r := (.int .i64 ((n + 2 : Nat) : Int))) rfl rfl rfl (eg3 _ _ _ _ _ _) (eql3 _ (decide_eq_true rfl))) ?_
    simp only [Act.put, List.setIfInBounds_toArray, List.set_cons_zero, List.set_cons_succ]
    refine st_to (v := (.bool true)) (some 50) rfl rfl (ex_pkT rfl rfl rfl) ?_
    simp only [Act.put, List.setIfInBounds_toArray, List.set_cons_zero, List.set_cons_succ]
    refine st_to (v := (.bool true)) (some 51) rfl rfl (ex_mv rfl rfl) ?_
    simp only [Act.put, List.setIfInBounds_toArray, List.set_cons_zero, List.set_cons_succ]
    refine st_to (v := (.int .i64 (sumP (om (ownN t x y h) (othA t x y h) hv) (n + 2)))) (some 52) rfl rfl (ex_mv rfl rfl) ?_
    simp only [Act.put, List.setIfInBounds_toArray, List.set_cons_zero, List.set_cons_succ]
    refine st_to (v := (.int .i64 (t.sa + t.sb))) (some 53) rfl rfl (ex_mv rfl rfl) ?_
    simp only [Act.put, List.setIfInBounds_toArray, List.set_cons_zero, List.set_cons_succ]
    refine st_to (v := (.bool true)) (some 54) rfl rfl (ex_bin (u := (.int .i64 (sumP (om (ownN t x y h) (othA t x y h) hv) (n + 2)))) (r := (.int .i64 (t.sa + t.sb))) rfl rfl rfl (eg3 _ _ _ _ _ _) (leq3 _ (decide_eq_true p3))) ?_
    simp only [Act.put, List.setIfInBounds_toArray, List.set_cons_zero, List.set_cons_succ]
    refine st_to (v := (.bool true)) (some 55) rfl rfl (ex_pkT rfl rfl rfl) ?_
    simp only [Act.put, List.setIfInBounds_toArray, List.set_cons_zero, List.set_cons_succ]
    refine st_to (v := (.bool true)) (some 56) rfl rfl (ex_mv rfl rfl) ?_
    simp only [Act.put, List.setIfInBounds_toArray, List.set_cons_zero, List.set_cons_succ]
    refine st_to (v := (.pointer (some ⟨b1, 39, none⟩))) (some 57) rfl rfl (ex_fa (p := (.pointer (some ⟨b1, 0, none⟩))) rfl rfl (fa26_7 _ _)) ?_
    simp only [Act.put, List.setIfInBounds_toArray, List.set_cons_zero, List.set_cons_succ]
    refine st_to (v := (.int .i64 t.fee)) (some 58) rfl rfl (ex_load (p := (.pointer (some ⟨b1, 39, none⟩))) rfl rfl (ld3 (at_cell k1 hT.c39))) ?_
    simp only [Act.put, List.setIfInBounds_toArray, List.set_cons_zero, List.set_cons_succ]
    refine st_to (v := (.int .i64 (t.sa + t.sb))) (some 59) rfl rfl (ex_mv rfl rfl) ?_
    simp only [Act.put, List.setIfInBounds_toArray, List.set_cons_zero, List.set_cons_succ]
    refine st_to (v := (.bool false)) (some 60) rfl rfl (ex_bin (u := (.int .i64 t.fee)) (r := (.int .i64 (t.sa + t.sb))) rfl rfl rfl (eg3 _ _ _ _ _ _) (gtr3 _ (decide_eq_false hfe2))) ?_
    simp only [Act.put, List.setIfInBounds_toArray, List.set_cons_zero, List.set_cons_succ]
    refine st_to (v := (.bool false)) (some 61) rfl rfl (ex_mv rfl rfl) ?_
    simp only [Act.put, List.setIfInBounds_toArray, List.set_cons_zero, List.set_cons_succ]
    refine st_to (v := (.int .i64 (sumP (om (ownN t x y h) (othA t x y h) hv) (n + 2)))) (some 62) rfl rfl (ex_mv rfl rfl) ?_
    simp only [Act.put, List.setIfInBounds_toArray, List.set_cons_zero, List.set_cons_succ]
    refine st_to (v := (.int .i64 (t.sa + t.sb))) (some 63) rfl rfl (ex_mv rfl rfl) ?_
    simp only [Act.put, List.setIfInBounds_toArray, List.set_cons_zero, List.set_cons_succ]
    refine st_to (v := (.pointer (some ⟨b1, 39, none⟩))) (some 64) rfl rfl (ex_fa (p := (.pointer (some ⟨b1, 0, none⟩))) rfl rfl (fa26_7 _ _)) ?_
    simp only [Act.put, List.setIfInBounds_toArray, List.set_cons_zero, List.set_cons_succ]
    refine st_to (v := (.int .i64 t.fee)) (some 65) rfl rfl (ex_load (p := (.pointer (some ⟨b1, 39, none⟩))) rfl rfl (ld3 (at_cell k1 hT.c39))) ?_
    simp only [Act.put, List.setIfInBounds_toArray, List.set_cons_zero, List.set_cons_succ]
    refine st_to (v := (.int .i64 (t.sa + t.sb - t.fee))) (some 66) rfl rfl (ex_bin rfl rfl rfl (eg3 _ _ _ _ _ _) (sub3 _ rfl (by omega))) ?_
    simp only [Act.put, List.setIfInBounds_toArray, List.set_cons_zero, List.set_cons_succ]
    refine st_to (v := (.bool true)) (some 67) rfl rfl (ex_bin (u := (.int .i64 (sumP (om (ownN t x y h) (othA t x y h) hv) (n + 2)))) (r := (.int .i64 (t.sa + t.sb - t.fee))) rfl rfl rfl (eg3 _ _ _ _ _ _) (geq3 _ (decide_eq_true p4))) ?_
    simp only [Act.put, List.setIfInBounds_toArray, List.set_cons_zero, List.set_cons_succ]
    refine st_to (v := (.bool true)) (some 68) rfl rfl (ex_pkF rfl rfl rfl) ?_
    simp only [Act.put, List.setIfInBounds_toArray, List.set_cons_zero, List.set_cons_succ]
    refine st_to (v := (.bool true)) (some 69) rfl rfl (ex_pkT rfl rfl rfl) ?_
    simp only [Act.put, List.setIfInBounds_toArray, List.set_cons_zero, List.set_cons_succ]
    refine st_to (v := (.bool true)) (some 8) rfl rfl (ex_asg rfl rfl) ?_
    simp only [Act.put, List.setIfInBounds_toArray, List.set_cons_zero, List.set_cons_succ]
    refine st_end ?_
    subst hQ
    refine wp_ret ?_
    refine bodyPost_ret (results_tmp Try.results5 _ _ _) rfl ⟨rfl, E⟩
end Go.Proofs.Ytkhpbjafdamhaaa
