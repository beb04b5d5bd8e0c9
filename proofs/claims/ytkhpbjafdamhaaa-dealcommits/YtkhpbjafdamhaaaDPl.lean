/- Each Htlc has an output of its own: the statement's walk. -/
import Derived.Test.YtkhpbjafdamhaaaDLives
namespace Go.Proofs.Ytkhpbjafdamhaaa
open Go.RowKit
set_option linter.unusedVariables false
set_option linter.unusedSimpArgs false
set_option maxRecDepth 100000

theorem rises {t : TV} {n : Nat} {hv : Nat → HV} (h : mayHs t n hv = true) : ∀ (d i : Nat), i + d + 1 < n → belowB (hv i) (hv (i + d + 1)) = true
  | 0, i, hi => (of_decide_eq_true h).2 i (by omega)
  | d + 1, i, hi => by
    have h1 := rises h d i (by omega)
    have h2 := (of_decide_eq_true h).2 (i + d + 1) (by omega)
    unfold belowB at h1 h2 ⊢
    have h1 := of_decide_eq_true h1
    have h2 := of_decide_eq_true h2
    rw [show i + (d + 1) + 1 = i + d + 1 + 1 by omega]
    exact decide_eq_true (by omega)
theorem plI_at {t : TV} {n i : Nat} {hv : Nat → HV} (h : mayHs t n hv = true) (hi : i < n) : plI (hv i).by_ (hv i).id n hv = i := by
  refine idxP_some hi (decide_eq_true ⟨rfl, rfl⟩) fun j hj => decide_eq_false fun e => ?_
  have := rises h (i - j - 1) j (by omega)
  rw [show j + (i - j - 1) + 1 = i by omega] at this
  unfold belowB at this
  have := of_decide_eq_true this
  omega
theorem plN_at {t : TV} {n i : Nat} {hv : Nat → HV} (h : mayHs t n hv = true) (hi : i < n) : plN (hv i).by_ (hv i).id n hv = ((i + 2 : Nat) : Int) := by
  unfold plN
  rw [plI_at h hi, if_neg (by omega)]
  omega
theorem plB_at {t : TV} {n i : Nat} {hv : Nat → HV} (h : mayHs t n hv = true) (hi : i < n) : plB (hv i).by_ (hv i).id n hv = true := by
  unfold plB
  rw [plI_at h hi]
  exact decide_eq_true (by omega)
theorem oth_oth {t : TV} {h : Int} (hm : mayT t = true) (hh : h = t.a ∨ h = t.b) : othN t (othN t h) = h := by
  have h1 := (of_decide_eq_true hm).2.2.2.2.2.1
  have e : ¬ t.b = t.a := by omega
  unfold othN
  rcases hh with rfl | rfl
  · simp [e]
  · simp [e]
theorem am2 {W : World} {base g n cap i : Nat} {a b : Int} {hv : Nat → HV} {l : Nat → Nat} {P : Nat → Array Value} (h : Outs W base g n cap (om a b hv) l P) (hi : i + 2 < n) : W.cell? ⟨g, (i + 2) * 2, none⟩ = some (.int .i64 (hv i).am) := by
  have := h.am hi
  simpa [om] using this

set_option maxHeartbeats 8000000 in
theorem places_any {C : Array Value} {t : TV} {x y h : Int} {pl : List Int} {ao : Option Addr} {n c : Nat} {Cs : Nat → Array Value} {hv : Nat → HV} (w : World) (hT : IsT C t) (hb : TB t) (hpl : pl.length = 32) (hH : Hs w ao n Cs hv) (hn : n ≤ 140737488355328) (hx : x ≤ 9223372036854775807) (hy : y ≤ 9223372036854775807) (hz : ∀ i, i < n → (hv i).am ≤ 9223372036854775807) :
    Calls Try.prog 6 #[.agg C, .int .i64 h, .agg (U8 pl).toArray, .agg #[.int .i64 x, .int .i64 y, .slice ao n c]] w fun e w' => e = .returned (.bool true) ∧ Below w.heap.size w w' := by
  by_cases hok : fitsB t x y n hv = true ∧ (h = t.a ∨ h = t.b) ∧ pl ≠ ZL
  rotate_left
  · skip
    have hH0 := hH
    have E : Below w.heap.size w w := Below.refl _ _
    go_enter Try.func6, Try.ntmps6
    refine wp_seq ?_
    refine wl_in ?_
    refine wl_cap fun Q hQ => ?_
    refine st_new (fun b => .pointer (some ⟨b, 0, none⟩)) (some 4) rfl rfl (ex_box rfl rfl) ?_
    intro b1 W1 k1 g1 B
    simp only [Act.put, List.setIfInBounds_toArray, List.set_cons_zero, List.set_cons_succ]
    have ge_b1 := Nat.le_trans E.size g1
    replace E := below_next E B
    replace hH := hH.below B
    clear B
    refine st_new (fun b => .pointer (some ⟨b, 0, none⟩)) (some 6) rfl rfl (ex_box rfl rfl) ?_
    intro b2 W2 k2 g2 B
    simp only [Act.put, List.setIfInBounds_toArray, List.set_cons_zero, List.set_cons_succ]
    have ne_b2_b1 : b2 ≠ b1 := fun e => by have := lt_of k1; omega
    have ge_b2 := Nat.le_trans E.size g2
    replace E := below_next E B
    replace hH := hH.below B
    replace k1 := keep B k1
    clear B
    refine st_new (fun b => .pointer (some ⟨b, 0, none⟩)) (some 7) rfl rfl (ex_box rfl rfl) ?_
    intro b3 W3 k3 g3 B
    simp only [Act.put, List.setIfInBounds_toArray, List.set_cons_zero, List.set_cons_succ]
    have ne_b3_b1 : b3 ≠ b1 := fun e => by have := lt_of k1; omega
    have ne_b3_b2 : b3 ≠ b2 := fun e => by have := lt_of k2; omega
    have ge_b3 := Nat.le_trans E.size g3
    replace E := below_next E B
    replace hH := hH.below B
    replace k1 := keep B k1
    replace k2 := keep B k2
    clear B
    refine st_to (v := (.bool false)) (some 8) rfl rfl (ex_asg rfl rfl) ?_
    simp only [Act.put, List.setIfInBounds_toArray, List.set_cons_zero, List.set_cons_succ]
    refine st_end ?_
    subst hQ
    refine wp_seq ?_
    refine wl_in ?_
    refine wl_cap fun Q hQ => ?_
    refine st_to (v := (.agg C)) (some 16) rfl rfl (ex_load (p := (.pointer (some ⟨b1, 0, none⟩))) rfl rfl (ld_all k1 Try.underlying26 rfl (inf26.trans (congrArg some (hT.size).symm)))) ?_
    simp only [Act.put, List.setIfInBounds_toArray, List.set_cons_zero, List.set_cons_succ]
    refine st_to (v := (.int .i64 h)) (some 17) rfl rfl (ex_mv rfl rfl) ?_
    simp only [Act.put, List.setIfInBounds_toArray, List.set_cons_zero, List.set_cons_succ]
    refine st_to (v := (.agg (U8 pl).toArray)) (some 18) rfl rfl (ex_load (p := (.pointer (some ⟨b2, 0, none⟩))) rfl rfl (ld_all k2 Try.underlying22 rfl (inf22.trans (congrArg some ((U8_size _ hpl)).symm)))) ?_
    simp only [Act.put, List.setIfInBounds_toArray, List.set_cons_zero, List.set_cons_succ]
    refine st_to (v := (.agg #[.int .i64 x, .int .i64 y, .slice ao n c])) (some 19) rfl rfl (ex_load (p := (.pointer (some ⟨b3, 0, none⟩))) rfl rfl (ld_all k3 Try.underlying29 rfl inf29)) ?_
    simp only [Act.put, List.setIfInBounds_toArray, List.set_cons_zero, List.set_cons_succ]
    refine st_call (some 20) rfl rfl (commit_no W3 hT hb hpl hH hn hx hy hz hok) (ex_call (f := 8) (vs := [(.agg C), (.int .i64 h), (.agg (U8 pl).toArray), (.agg #[.int .i64 x, .int .i64 y, .slice ao n c])]) rfl (cf8 _) rfl) ?_
    rintro e W4 ⟨rfl, B⟩
    refine ⟨_, rfl, ?_⟩
    simp only [Act.put, List.setIfInBounds_toArray, List.set_cons_zero, List.set_cons_succ]
    replace E := below_next E B
    replace hH := hH.below B
    replace k1 := keep B k1
    replace k2 := keep B k2
    replace k3 := keep B k3
    refine st_to (v := (.tuple #[(.agg #[.slice none 0 0, .slice none 0 0]), (.int .i64 1)])) (some 15) rfl rfl (ex_mv rfl rfl) ?_
    simp only [Act.put, List.setIfInBounds_toArray, List.set_cons_zero, List.set_cons_succ]
    refine st_to (v := (.agg #[.slice none 0 0, .slice none 0 0])) (some 21) rfl rfl (ex_ext rfl rfl rfl) ?_
    simp only [Act.put, List.setIfInBounds_toArray, List.set_cons_zero, List.set_cons_succ]
    refine st_to (v := (.int .i64 1)) (some 22) rfl rfl (ex_ext rfl rfl rfl) ?_
    simp only [Act.put, List.setIfInBounds_toArray, List.set_cons_zero, List.set_cons_succ]
    refine st_new (fun b => .pointer (some ⟨b, 0, none⟩)) (some 9) rfl rfl (ex_alloc rfl zero34) ?_
    intro b4 W5 k4 g4 B
    simp only [Act.put, List.setIfInBounds_toArray, List.set_cons_zero, List.set_cons_succ]
    have ne_b4_b1 : b4 ≠ b1 := fun e => by have := lt_of k1; omega
    have ne_b4_b2 : b4 ≠ b2 := fun e => by have := lt_of k2; omega
    have ne_b4_b3 : b4 ≠ b3 := fun e => by have := lt_of k3; omega
    have ge_b4 := Nat.le_trans E.size g4
    replace E := below_next E B
    replace hH := hH.below B
    replace k1 := keep B k1
    replace k2 := keep B k2
    replace k3 := keep B k3
    clear B
    obtain ⟨W6, hst, kn, K⟩ := put_all (D := #[.slice none 0 0, .slice none 0 0]) k4 rfl inf34 (by kernel_rfl)
    refine st_sk rfl rfl (ex_store rfl rfl rfl hst) ?_
    replace E := below_put E ge_b4 K
    replace hH := hH0.below E
    replace k1 := keepK K k1 (fun e => ne_tag k1 k4 (by decide) e)
    replace k2 := keepK K k2 (fun e => ne_tag k2 k4 (by decide) e)
    replace k3 := keepK K k3 (fun e => ne_tag k3 k4 (by decide) e)
    replace k4 := kn
    clear kn K hst
    refine st_to (v := (.int .i64 1)) (some 10) rfl rfl (ex_asg rfl rfl) ?_
    simp only [Act.put, List.setIfInBounds_toArray, List.set_cons_zero, List.set_cons_succ]
    refine st_end ?_
    subst hQ
    refine wp_seq ?_
    refine wp_seq ?_
    refine wl_in ?_
    refine wl_cap fun Q hQ => ?_
    refine st_call (some 23) rfl rfl (lives_any W6) (ex_call (f := 10) (vs := []) rfl (cf10 _) rfl) ?_
    rintro e W7 ⟨rfl, B⟩
    refine ⟨_, rfl, ?_⟩
    simp only [Act.put, List.setIfInBounds_toArray, List.set_cons_zero, List.set_cons_succ]
    replace E := below_next E B
    replace hH := hH.below B
    replace k1 := keep B k1
    replace k2 := keep B k2
    replace k3 := keep B k3
    replace k4 := keep B k4
    refine st_to (v := (.bool false)) (some 24) rfl rfl (ex_not rfl rfl rfl) ?_
    simp only [Act.put, List.setIfInBounds_toArray, List.set_cons_zero, List.set_cons_succ]
    refine st_to (v := (.bool false)) (some 25) rfl rfl (ex_mv rfl rfl) ?_
    simp only [Act.put, List.setIfInBounds_toArray, List.set_cons_zero, List.set_cons_succ]
    refine st_to (v := (.int .i64 1)) (some 26) rfl rfl (ex_mv rfl rfl) ?_
    simp only [Act.put, List.setIfInBounds_toArray, List.set_cons_zero, List.set_cons_succ]
    refine st_to (v := (.bool true)) (some 27) rfl rfl (ex_bin (u := (.int .i64 1)) (r := (.int .i64 0)) rfl rfl rfl (eg35 _ _ _ _ _ _) (neq35 _ (by decide))) ?_
    simp only [Act.put, List.setIfInBounds_toArray, List.set_cons_zero, List.set_cons_succ]
    refine st_to (v := (.bool true)) (some 28) rfl rfl (ex_pkF rfl rfl rfl) ?_
    simp only [Act.put, List.setIfInBounds_toArray, List.set_cons_zero, List.set_cons_succ]
    refine st_end ?_
    subst hQ
    refine wp_cond_true rfl ?_
    refine wp_seq ?_
    refine wl_in ?_
    refine wl_cap fun Q hQ => ?_
    refine st_call (some 29) rfl rfl (lives_any W7) (ex_call (f := 10) (vs := []) rfl (cf10 _) rfl) ?_
    rintro e W8 ⟨rfl, B⟩
    refine ⟨_, rfl, ?_⟩
    simp only [Act.put, List.setIfInBounds_toArray, List.set_cons_zero, List.set_cons_succ]
    replace E := below_next E B
    replace hH := hH.below B
    replace k1 := keep B k1
    replace k2 := keep B k2
    replace k3 := keep B k3
    replace k4 := keep B k4
    refine st_to (v := (.bool true)) (some 8) rfl rfl (ex_asg rfl rfl) ?_
    simp only [Act.put, List.setIfInBounds_toArray, List.set_cons_zero, List.set_cons_succ]
    refine st_end ?_
    subst hQ
    refine wp_ret ?_
    refine ret_out ?_
    refine bodyPost_ret (results_tmp Try.results6 _ _ _) rfl ⟨rfl, E⟩
  obtain ⟨f1, f2, f3, f4⟩ := fits_parts hok.1
  have hH0 := hH
  have E : Below w.heap.size w w := Below.refl _ _
  go_enter Try.func6, Try.ntmps6
  refine wp_seq ?_
  refine wl_in ?_
  refine wl_cap fun Q hQ => ?_
  refine st_new (fun b => .pointer (some ⟨b, 0, none⟩)) (some 4) rfl rfl (ex_box rfl rfl) ?_
  intro b1 W1 k1 g1 B
  simp only [Act.put, List.setIfInBounds_toArray, List.set_cons_zero, List.set_cons_succ]
  have ge_b1 := Nat.le_trans E.size g1
  replace E := below_next E B
  replace hH := hH.below B
  clear B
  refine st_new (fun b => .pointer (some ⟨b, 0, none⟩)) (some 6) rfl rfl (ex_box rfl rfl) ?_
  intro b2 W2 k2 g2 B
  simp only [Act.put, List.setIfInBounds_toArray, List.set_cons_zero, List.set_cons_succ]
  have ne_b2_b1 : b2 ≠ b1 := fun e => by have := lt_of k1; omega
  have ge_b2 := Nat.le_trans E.size g2
  replace E := below_next E B
  replace hH := hH.below B
  replace k1 := keep B k1
  clear B
  refine st_new (fun b => .pointer (some ⟨b, 0, none⟩)) (some 7) rfl rfl (ex_box rfl rfl) ?_
  intro b3 W3 k3 g3 B
  simp only [Act.put, List.setIfInBounds_toArray, List.set_cons_zero, List.set_cons_succ]
  have ne_b3_b1 : b3 ≠ b1 := fun e => by have := lt_of k1; omega
  have ne_b3_b2 : b3 ≠ b2 := fun e => by have := lt_of k2; omega
  have ge_b3 := Nat.le_trans E.size g3
  replace E := below_next E B
  replace hH := hH.below B
  replace k1 := keep B k1
  replace k2 := keep B k2
  clear B
  refine st_to (v := (.bool false)) (some 8) rfl rfl (ex_asg rfl rfl) ?_
  simp only [Act.put, List.setIfInBounds_toArray, List.set_cons_zero, List.set_cons_succ]
  refine st_end ?_
  subst hQ
  refine wp_seq ?_
  refine wl_in ?_
  refine wl_cap fun Q hQ => ?_
  refine st_to (v := (.agg C)) (some 16) rfl rfl (ex_load (p := (.pointer (some ⟨b1, 0, none⟩))) rfl rfl (ld_all k1 Try.underlying26 rfl (inf26.trans (congrArg some (hT.size).symm)))) ?_
  simp only [Act.put, List.setIfInBounds_toArray, List.set_cons_zero, List.set_cons_succ]
  refine st_to (v := (.int .i64 h)) (some 17) rfl rfl (ex_mv rfl rfl) ?_
  simp only [Act.put, List.setIfInBounds_toArray, List.set_cons_zero, List.set_cons_succ]
  refine st_to (v := (.agg (U8 pl).toArray)) (some 18) rfl rfl (ex_load (p := (.pointer (some ⟨b2, 0, none⟩))) rfl rfl (ld_all k2 Try.underlying22 rfl (inf22.trans (congrArg some ((U8_size _ hpl)).symm)))) ?_
  simp only [Act.put, List.setIfInBounds_toArray, List.set_cons_zero, List.set_cons_succ]
  refine st_to (v := (.agg #[.int .i64 x, .int .i64 y, .slice ao n c])) (some 19) rfl rfl (ex_load (p := (.pointer (some ⟨b3, 0, none⟩))) rfl rfl (ld_all k3 Try.underlying29 rfl inf29)) ?_
  simp only [Act.put, List.setIfInBounds_toArray, List.set_cons_zero, List.set_cons_succ]
  refine st_call (some 20) rfl rfl (commit_ok W3 hT hb hpl hH hn hx hy hz hok.1 hok.2.1 hok.2.2) (ex_call (f := 8) (vs := [(.agg C), (.int .i64 h), (.agg (U8 pl).toArray), (.agg #[.int .i64 x, .int .i64 y, .slice ao n c])]) rfl (cf8 _) rfl) ?_
  rintro e W4 ⟨gi, go, cap, rfl, ki, OU, B⟩
  refine ⟨_, rfl, ?_⟩
  simp only [Act.put, List.setIfInBounds_toArray, List.set_cons_zero, List.set_cons_succ]
  replace E := below_next E B
  replace hH := hH.below B
  replace k1 := keep B k1
  replace k2 := keep B k2
  replace k3 := keep B k3
  refine st_to (v := (.tuple #[(.agg #[.slice (some ⟨gi, 0, none⟩) 1 1, .slice (some ⟨go, 0, none⟩) (n + 2) cap]), (.int .i64 0)])) (some 15) rfl rfl (ex_mv rfl rfl) ?_
  simp only [Act.put, List.setIfInBounds_toArray, List.set_cons_zero, List.set_cons_succ]
  refine st_to (v := (.agg #[.slice (some ⟨gi, 0, none⟩) 1 1, .slice (some ⟨go, 0, none⟩) (n + 2) cap])) (some 21) rfl rfl (ex_ext rfl rfl rfl) ?_
  simp only [Act.put, List.setIfInBounds_toArray, List.set_cons_zero, List.set_cons_succ]
  refine st_to (v := (.int .i64 0)) (some 22) rfl rfl (ex_ext rfl rfl rfl) ?_
  simp only [Act.put, List.setIfInBounds_toArray, List.set_cons_zero, List.set_cons_succ]
  refine st_new (fun b => .pointer (some ⟨b, 0, none⟩)) (some 9) rfl rfl (ex_alloc rfl zero34) ?_
  intro b4 W5 k4 g4 B
  simp only [Act.put, List.setIfInBounds_toArray, List.set_cons_zero, List.set_cons_succ]
  have ne_b4_b1 : b4 ≠ b1 := fun e => by have := lt_of k1; omega
  have ne_b4_b2 : b4 ≠ b2 := fun e => by have := lt_of k2; omega
  have ne_b4_b3 : b4 ≠ b3 := fun e => by have := lt_of k3; omega
  have ge_b4 := Nat.le_trans E.size g4
  replace E := below_next E B
  replace hH := hH.below B
  replace k1 := keep B k1
  replace k2 := keep B k2
  replace k3 := keep B k3
  replace OU := OU.keep B
  clear B
  obtain ⟨W6, hst, kn, K⟩ := put_all (D := #[.slice (some ⟨gi, 0, none⟩) 1 1, .slice (some ⟨go, 0, none⟩) (n + 2) cap]) k4 rfl inf34 (by kernel_rfl)
  refine st_sk rfl rfl (ex_store rfl rfl rfl hst) ?_
  replace E := below_put E ge_b4 K
  replace hH := hH0.below E
  replace k1 := keepK K k1 (fun e => ne_tag k1 k4 (by decide) e)
  replace k2 := keepK K k2 (fun e => ne_tag k2 k4 (by decide) e)
  replace k3 := keepK K k3 (fun e => ne_tag k3 k4 (by decide) e)
  replace OU := OU.keepK K k4 (by decide) (by decide)
  replace k4 := kn
  clear kn K hst
  refine st_to (v := (.int .i64 0)) (some 10) rfl rfl (ex_asg rfl rfl) ?_
  simp only [Act.put, List.setIfInBounds_toArray, List.set_cons_zero, List.set_cons_succ]
  refine st_end ?_
  subst hQ
  refine wp_seq ?_
  refine wp_seq ?_
  refine wl_in ?_
  refine wl_cap fun Q hQ => ?_
  refine st_call (some 23) rfl rfl (lives_any W6) (ex_call (f := 10) (vs := []) rfl (cf10 _) rfl) ?_
  rintro e W7 ⟨rfl, B⟩
  refine ⟨_, rfl, ?_⟩
  simp only [Act.put, List.setIfInBounds_toArray, List.set_cons_zero, List.set_cons_succ]
  replace E := below_next E B
  replace hH := hH.below B
  replace k1 := keep B k1
  replace k2 := keep B k2
  replace k3 := keep B k3
  replace OU := OU.keep B
  replace k4 := keep B k4
  refine st_to (v := (.bool false)) (some 24) rfl rfl (ex_not rfl rfl rfl) ?_
  simp only [Act.put, List.setIfInBounds_toArray, List.set_cons_zero, List.set_cons_succ]
  refine st_to (v := (.bool false)) (some 25) rfl rfl (ex_mv rfl rfl) ?_
  simp only [Act.put, List.setIfInBounds_toArray, List.set_cons_zero, List.set_cons_succ]
  refine st_to (v := (.int .i64 0)) (some 26) rfl rfl (ex_mv rfl rfl) ?_
  simp only [Act.put, List.setIfInBounds_toArray, List.set_cons_zero, List.set_cons_succ]
  refine st_to (v := (.bool false)) (some 27) rfl rfl (ex_bin (u := (.int .i64 0)) (r := (.int .i64 0)) rfl rfl rfl (eg35 _ _ _ _ _ _) (neq35 _ (by decide))) ?_
  simp only [Act.put, List.setIfInBounds_toArray, List.set_cons_zero, List.set_cons_succ]
  refine st_to (v := (.bool false)) (some 28) rfl rfl (ex_pkF rfl rfl rfl) ?_
  simp only [Act.put, List.setIfInBounds_toArray, List.set_cons_zero, List.set_cons_succ]
  refine st_end ?_
  subst hQ
  refine wp_cond_false rfl ?_
  refine wp_skip ?_
  refine wp_seq ?_
  refine wp_seq ?_
  refine wl_in ?_
  refine wl_cap fun Q hQ => ?_
  refine st_to (v := (.int .i64 0)) (some 11) rfl rfl (ex_asg rfl rfl) ?_
  simp only [Act.put, List.setIfInBounds_toArray, List.set_cons_zero, List.set_cons_succ]
  refine st_end ?_
  subst hQ
  refine wp_block ?_
  obtain ⟨OB, hOB⟩ : ∃ OB, OB = _ ∧ Outs _ OB go (n + 2) cap (om (ownN t x y h) (othA t x y h) hv) ol (opth h (othN t h) t.d (U8 pl).toArray hv) := ⟨_, rfl, OU⟩
  replace OU := hOB.2
  clear hOB
  go_loopw [11] (fun v11 wr => ∃ i : Nat, i ≤ n ∧ v11 = .int .i64 i ∧ Below w.heap.size w wr ∧ wr.heap[b1]? = some (.cells C 26) ∧ wr.heap[b3]? = some (.cells #[.int .i64 x, .int .i64 y, .slice ao n c] 29) ∧ wr.heap[b4]? = some (.cells #[.slice (some ⟨gi, 0, none⟩) 1 1, .slice (some ⟨go, 0, none⟩) (n + 2) cap] 34) ∧ Outs wr OB go (n + 2) cap (om (ownN t x y h) (othA t x y h) hv) ol (opth h (othN t h) t.d (U8 pl).toArray hv)) (fun v11 _ => n - (intOf v11).toNat)
  case atStart => exact ⟨0, Nat.zero_le _, rfl, E, k1, k3, k4, OU⟩
  case round =>
    clear E hH OU k1 k2 k3 k4
    obtain ⟨i, hi, rfl, E, k1, k3, k4, OU⟩ := hrel
    by_cases hlt : i < n
    · have hH1 := hH0
      rcases hH0 with hh | ⟨b, p, rfl, hh⟩
      · omega
      have HC := hh i hlt
      have HP := fun W => place_any (x := x) (y := y) (by_ := (hv i).by_) (id := (hv i).id) (ao := some ⟨b, p, none⟩) (n := n) (c := c) (Cs := Cs) (hv := hv) W
      have hpn := plN_at f3 hlt
      have hpb := plB_at f3 hlt
      refine wp_seq ?_
      refine wp_seq ?_
      refine wl_in ?_
      refine wl_cap fun Q hQ => ?_
      refine st_to (v := (.int .i64 (i : Nat))) (some 30) rfl rfl (ex_mv rfl rfl) ?_
      simp only [Act.put, List.setIfInBounds_toArray, List.set_cons_zero, List.set_cons_succ]
      refine st_to (v := (.pointer (some ⟨b3, 2, none⟩))) (some 31) rfl rfl (ex_fa (p := (.pointer (some ⟨b3, 0, none⟩))) rfl rfl (fa29_2 _ _)) ?_
      simp only [Act.put, List.setIfInBounds_toArray, List.set_cons_zero, List.set_cons_succ]
      refine st_to (v := (.slice (some ⟨b, p, none⟩) n c)) (some 32) rfl rfl (ex_load (p := (.pointer (some ⟨b3, 2, none⟩))) rfl rfl (ld27 (at_cell k3 rfl))) ?_
      simp only [Act.put, List.setIfInBounds_toArray, List.set_cons_zero, List.set_cons_succ]
      refine st_to (v := (.int .i64 (n : Nat))) (some 33) rfl rfl (ex_len rfl rfl (len27 _ _ _ _ _)) ?_
      simp only [Act.put, List.setIfInBounds_toArray, List.set_cons_zero, List.set_cons_succ]
      refine st_to (v := (.bool true)) (some 34) rfl rfl (ex_bin (u := (.int .i64 (i : Nat))) (r := (.int .i64 (n : Nat))) rfl rfl rfl (eg3 _ _ _ _ _ _) (lss3 _ (decide_eq_true (by omega)))) ?_
      simp only [Act.put, List.setIfInBounds_toArray, List.set_cons_zero, List.set_cons_succ]
      refine st_end ?_
      subst hQ
      refine wp_cond_true rfl ?_
      refine wp_skip ?_
      refine wp_seq ?_
      refine wp_block ?_
      refine wp_seq ?_
      refine wl_in ?_
      refine wl_cap fun Q hQ => ?_
      refine st_to (v := (.pointer (some ⟨b3, 2, none⟩))) (some 37) rfl rfl (ex_fa (p := (.pointer (some ⟨b3, 0, none⟩))) rfl rfl (fa29_2 _ _)) ?_
      simp only [Act.put, List.setIfInBounds_toArray, List.set_cons_zero, List.set_cons_succ]
      refine st_to (v := (.slice (some ⟨b, p, none⟩) n c)) (some 38) rfl rfl (ex_load (p := (.pointer (some ⟨b3, 2, none⟩))) rfl rfl (ld27 (at_cell k3 rfl))) ?_
      simp only [Act.put, List.setIfInBounds_toArray, List.set_cons_zero, List.set_cons_succ]
      refine st_to (v := (.int .i64 (i : Nat))) (some 39) rfl rfl (ex_mv rfl rfl) ?_
      simp only [Act.put, List.setIfInBounds_toArray, List.set_cons_zero, List.set_cons_succ]
      refine st_to (v := (.pointer (some ⟨b, (p + i * 36), none⟩))) (some 40) rfl rfl (ex_ix27 rfl rfl rfl hlt) ?_
      simp only [Act.put, List.setIfInBounds_toArray, List.set_cons_zero, List.set_cons_succ]
      refine st_to (v := (.agg (Cs i))) (some 41) rfl rfl (ex_load rfl rfl (ld_range (range_below HC.2 E) Try.underlying49 rfl (inf49.trans (congrArg some HC.1.size.symm)))) ?_
      simp only [Act.put, List.setIfInBounds_toArray, List.set_cons_zero, List.set_cons_succ]
      refine st_new (fun b => .pointer (some ⟨b, 0, none⟩)) (some 12) rfl rfl (ex_alloc rfl zero49) ?_
      intro b5 W8 k5 g5 B
      simp only [Act.put, List.setIfInBounds_toArray, List.set_cons_zero, List.set_cons_succ]
      have ne_b5_b1 : b5 ≠ b1 := fun e => by have := lt_of k1; omega
      have ne_b5_b3 : b5 ≠ b3 := fun e => by have := lt_of k3; omega
      have ne_b5_b4 : b5 ≠ b4 := fun e => by have := lt_of k4; omega
      have ge_b5 := Nat.le_trans E.size g5
      replace E := below_next E B
      replace OU := OU.keep B
      replace k1 := keep B k1
      replace k3 := keep B k3
      replace k4 := keep B k4
      clear B
      obtain ⟨W9, hst, kn, K⟩ := put_all (D := (Cs i)) k5 (((show ((#[.int .i64 0, .int .i64 0, .int .i64 0] ++ Z32 ++ #[.int .i64 0]) : Array Value).size = 36 from rfl)).trans (HC.1.size).symm) (inf49.trans (congrArg some (HC.1.size).symm)) HC.1.one
      refine st_sk rfl rfl (ex_store rfl rfl rfl hst) ?_
      replace E := below_put E ge_b5 K
      replace OU := OU.keepK K k5 (by decide) (by decide)
      replace k1 := keepK K k1 (fun e => ne_tag k1 k5 (by decide) e)
      replace k3 := keepK K k3 (fun e => ne_tag k3 k5 (by decide) e)
      replace k4 := keepK K k4 (fun e => ne_tag k4 k5 (by decide) e)
      replace k5 := kn
      clear kn K hst
      refine st_end ?_
      subst hQ
      refine wp_seq ?_
      refine wl_in ?_
      refine wl_cap fun Q hQ => ?_
      refine st_to (v := (.agg #[.int .i64 x, .int .i64 y, .slice (some ⟨b, p, none⟩) n c])) (some 43) rfl rfl (ex_load (p := (.pointer (some ⟨b3, 0, none⟩))) rfl rfl (ld_all k3 Try.underlying29 rfl inf29)) ?_
      simp only [Act.put, List.setIfInBounds_toArray, List.set_cons_zero, List.set_cons_succ]
      refine st_to (v := (.pointer (some ⟨b5, 0, none⟩))) (some 44) rfl rfl (ex_fa (p := (.pointer (some ⟨b5, 0, none⟩))) rfl rfl (fa49_0 _ _)) ?_
      simp only [Act.put, List.setIfInBounds_toArray, List.set_cons_zero, List.set_cons_succ]
      refine st_to (v := (.int .i64 (hv i).by_)) (some 45) rfl rfl (ex_load (p := (.pointer (some ⟨b5, 0, none⟩))) rfl rfl (ld3 (at_cell k5 HC.1.c0))) ?_
      simp only [Act.put, List.setIfInBounds_toArray, List.set_cons_zero, List.set_cons_succ]
      refine st_to (v := (.pointer (some ⟨b5, 1, none⟩))) (some 46) rfl rfl (ex_fa (p := (.pointer (some ⟨b5, 0, none⟩))) rfl rfl (fa49_1 _ _)) ?_
      simp only [Act.put, List.setIfInBounds_toArray, List.set_cons_zero, List.set_cons_succ]
      refine st_to (v := (.int .i64 (hv i).id)) (some 47) rfl rfl (ex_load (p := (.pointer (some ⟨b5, 1, none⟩))) rfl rfl (ld3 (at_cell k5 HC.1.c1))) ?_
      simp only [Act.put, List.setIfInBounds_toArray, List.set_cons_zero, List.set_cons_succ]
      refine st_call (some 48) rfl rfl (by have := HP W9 (hH1.below E) hn; rw [hpn, hpb] at this; exact this) (ex_call (f := 24) (vs := [(.agg #[.int .i64 x, .int .i64 y, .slice (some ⟨b, p, none⟩) n c]), (.int .i64 (hv i).by_), (.int .i64 (hv i).id)]) rfl (cf24 _) rfl) ?_
      rintro e W10 ⟨rfl, B⟩
      refine ⟨_, rfl, ?_⟩
      simp only [Act.put, List.setIfInBounds_toArray, List.set_cons_zero, List.set_cons_succ]
      replace E := below_next E B
      replace OU := OU.keep B
      replace k1 := keep B k1
      replace k3 := keep B k3
      replace k4 := keep B k4
      replace k5 := keep B k5
      refine st_to (v := (.tuple #[(.int .i64 ((i + 2 : Nat) : Int)), (.bool true)])) (some 42) rfl rfl (ex_mv rfl rfl) ?_
      simp only [Act.put, List.setIfInBounds_toArray, List.set_cons_zero, List.set_cons_succ]
      refine st_to (v := (.int .i64 ((i + 2 : Nat) : Int))) (some 49) rfl rfl (ex_ext rfl rfl rfl) ?_
      simp only [Act.put, List.setIfInBounds_toArray, List.set_cons_zero, List.set_cons_succ]
      refine st_to (v := (.bool true)) (some 50) rfl rfl (ex_ext rfl rfl rfl) ?_
      simp only [Act.put, List.setIfInBounds_toArray, List.set_cons_zero, List.set_cons_succ]
      refine st_to (v := (.int .i64 ((i + 2 : Nat) : Int))) (some 13) rfl rfl (ex_asg rfl rfl) ?_
      simp only [Act.put, List.setIfInBounds_toArray, List.set_cons_zero, List.set_cons_succ]
      refine st_to (v := (.bool true)) (some 14) rfl rfl (ex_asg rfl rfl) ?_
      simp only [Act.put, List.setIfInBounds_toArray, List.set_cons_zero, List.set_cons_succ]
      refine st_end ?_
      subst hQ
      refine wp_seq ?_
      obtain ⟨W11, hwd⟩ : ∃ wd, W10.drew = wd := ⟨_, rfl⟩
      refine wp_region_held (S := fun W => Kept Nil W11 W) (by kernel_rfl) ?_
      show wpAnyH _ _ _ _ _ _ _ _ W10.drew
      rw [hwd]
      refine capQ fun Q hQ => ?_
      have hQP : ∀ c (a : Act) (d : Nat) v w, Q (.panic c) (a.put (some d) v) w → Q (.panic c) a w := by
        subst hQ
        exact fun _ _ _ _ _ h => h
      have BD : Below W10.heap.size W10 W11 := by rw [← hwd]; exact below_drew (Below.refl _ _)
      clear hwd
      replace E := below_next E BD
      replace OU := OU.keep BD
      replace k1 := keep BD k1
      replace k3 := keep BD k3
      replace k4 := keep BD k4
      replace k5 := keep BD k5
      clear BD
      have S : Kept Nil W11 W11 := Kept.refl _ _
      have d_k1 := k1
      have d_k3 := k3
      have d_k4 := k4
      have d_k5 := k5
      have d_OU := OU
      obtain ⟨gp, hgp, _⟩ := d_OU.sl (j := i + 2) (by omega)
      rw [show ol (i + 2) = 3 from by simp [ol]] at hgp
      refine ah_take (v := (.bool true)) (i := 0) (some 51) rfl rfl (by kernel_rfl) (by kernel_rfl) (by kernel_rfl) rfl (fun W hK => ex_mv rfl rfl) S (fun c a w h => hQP c a _ _ w h) ?_
      simp only [Act.put, List.setIfInBounds_toArray, List.set_cons_zero, List.set_cons_succ]
      refine ah_take (v := (.bool false)) (i := 1) (some 52) rfl rfl (by kernel_rfl) (by kernel_rfl) (by kernel_rfl) rfl (fun W hK => ex_not rfl rfl rfl) S (fun c a w h => hQP c a _ _ w h) ?_
      simp only [Act.put, List.setIfInBounds_toArray, List.set_cons_zero, List.set_cons_succ]
      refine ah_take (v := (.bool false)) (i := 2) (some 53) rfl rfl (by kernel_rfl) (by kernel_rfl) (by kernel_rfl) rfl (fun W hK => ex_mv rfl rfl) S (fun c a w h => hQP c a _ _ w h) ?_
      simp only [Act.put, List.setIfInBounds_toArray, List.set_cons_zero, List.set_cons_succ]
      refine ah_take (v := (.int .i64 ((i + 2 : Nat) : Int))) (i := 3) (some 54) rfl rfl (by kernel_rfl) (by kernel_rfl) (by kernel_rfl) rfl (fun W hK => ex_mv rfl rfl) S (fun c a w h => hQP c a _ _ w h) ?_
      simp only [Act.put, List.setIfInBounds_toArray, List.set_cons_zero, List.set_cons_succ]
      refine ah_take (v := (.int .i64 (i : Nat))) (i := 4) (some 55) rfl rfl (by kernel_rfl) (by kernel_rfl) (by kernel_rfl) rfl (fun W hK => ex_mv rfl rfl) S (fun c a w h => hQP c a _ _ w h) ?_
      simp only [Act.put, List.setIfInBounds_toArray, List.set_cons_zero, List.set_cons_succ]
      refine ah_take (v := (.int .i64 ((i + 2 : Nat) : Int))) (i := 5) (some 56) rfl rfl (by kernel_rfl) (by kernel_rfl) (by kernel_rfl) rfl (fun W hK => ex_bin rfl rfl rfl (eg3 _ _ _ _ _ _) (add3 _ (by omega) (by omega))) S (fun c a w h => hQP c a _ _ w h) ?_
      simp only [Act.put, List.setIfInBounds_toArray, List.set_cons_zero, List.set_cons_succ]
      refine ah_take (v := (.bool false)) (i := 6) (some 57) rfl rfl (by kernel_rfl) (by kernel_rfl) (by kernel_rfl) rfl (fun W hK => ex_bin (u := (.int .i64 ((i + 2 : Nat) : Int))) (r := (.int .i64 ((i + 2 : Nat) : Int))) rfl rfl rfl (eg3 _ _ _ _ _ _) (neq3 _ (decide_eq_false (fun e => e rfl)))) S (fun c a w h => hQP c a _ _ w h) ?_
      simp only [Act.put, List.setIfInBounds_toArray, List.set_cons_zero, List.set_cons_succ]
      refine ah_take (v := (.bool false)) (i := 7) (some 58) rfl rfl (by kernel_rfl) (by kernel_rfl) (by kernel_rfl) rfl (fun W hK => ex_pkF rfl rfl rfl) S (fun c a w h => hQP c a _ _ w h) ?_
      simp only [Act.put, List.setIfInBounds_toArray, List.set_cons_zero, List.set_cons_succ]
      refine ah_take (v := (.bool false)) (i := 8) (some 59) rfl rfl (by kernel_rfl) (by kernel_rfl) (by kernel_rfl) rfl (fun W hK => ex_mv rfl rfl) S (fun c a w h => hQP c a _ _ w h) ?_
      simp only [Act.put, List.setIfInBounds_toArray, List.set_cons_zero, List.set_cons_succ]
      refine ah_take (v := (.int .i64 ((i + 2 : Nat) : Int))) (i := 9) (some 60) rfl rfl (by kernel_rfl) (by kernel_rfl) (by kernel_rfl) rfl (fun W hK => ex_mv rfl rfl) S (fun c a w h => hQP c a _ _ w h) ?_
      simp only [Act.put, List.setIfInBounds_toArray, List.set_cons_zero, List.set_cons_succ]
      refine ah_take (v := (.pointer (some ⟨b4, 1, none⟩))) (i := 10) (some 61) rfl rfl (by kernel_rfl) (by kernel_rfl) (by kernel_rfl) rfl (fun W hK => ex_fa (p := (.pointer (some ⟨b4, 0, none⟩))) rfl rfl (fa34_1 _ _)) S (fun c a w h => hQP c a _ _ w h) ?_
      simp only [Act.put, List.setIfInBounds_toArray, List.set_cons_zero, List.set_cons_succ]
      refine ah_take (v := (.slice (some ⟨go, 0, none⟩) (n + 2) cap)) (i := 11) (some 62) rfl rfl (by kernel_rfl) (by kernel_rfl) (by kernel_rfl) rfl (fun W hK => ex_load (p := (.pointer (some ⟨b4, 1, none⟩))) rfl rfl (ld32 (at_cell (keepK hK d_k4 (nilN _)) rfl))) S (fun c a w h => hQP c a _ _ w h) ?_
      simp only [Act.put, List.setIfInBounds_toArray, List.set_cons_zero, List.set_cons_succ]
      refine ah_take (v := (.int .i64 ((n + 2) : Nat))) (i := 12) (some 63) rfl rfl (by kernel_rfl) (by kernel_rfl) (by kernel_rfl) rfl (fun W hK => ex_len rfl rfl (len32 _ _ _ _ _)) S (fun c a w h => hQP c a _ _ w h) ?_
      simp only [Act.put, List.setIfInBounds_toArray, List.set_cons_zero, List.set_cons_succ]
      refine ah_take (v := (.bool false)) (i := 13) (some 64) rfl rfl (by kernel_rfl) (by kernel_rfl) (by kernel_rfl) rfl (fun W hK => ex_bin (u := (.int .i64 ((i + 2 : Nat) : Int))) (r := (.int .i64 ((n + 2) : Nat))) rfl rfl rfl (eg3 _ _ _ _ _ _) (geq3 _ (decide_eq_false (by omega)))) S (fun c a w h => hQP c a _ _ w h) ?_
      simp only [Act.put, List.setIfInBounds_toArray, List.set_cons_zero, List.set_cons_succ]
      refine ah_take (v := (.bool false)) (i := 14) (some 65) rfl rfl (by kernel_rfl) (by kernel_rfl) (by kernel_rfl) rfl (fun W hK => ex_pkF rfl rfl rfl) S (fun c a w h => hQP c a _ _ w h) ?_
      simp only [Act.put, List.setIfInBounds_toArray, List.set_cons_zero, List.set_cons_succ]
      refine ah_take (v := (.bool false)) (i := 15) (some 66) rfl rfl (by kernel_rfl) (by kernel_rfl) (by kernel_rfl) rfl (fun W hK => ex_mv rfl rfl) S (fun c a w h => hQP c a _ _ w h) ?_
      simp only [Act.put, List.setIfInBounds_toArray, List.set_cons_zero, List.set_cons_succ]
      refine ah_take (v := (.pointer (some ⟨b4, 1, none⟩))) (i := 16) (some 67) rfl rfl (by kernel_rfl) (by kernel_rfl) (by kernel_rfl) rfl (fun W hK => ex_fa (p := (.pointer (some ⟨b4, 0, none⟩))) rfl rfl (fa34_1 _ _)) S (fun c a w h => hQP c a _ _ w h) ?_
      simp only [Act.put, List.setIfInBounds_toArray, List.set_cons_zero, List.set_cons_succ]
      refine ah_take (v := (.slice (some ⟨go, 0, none⟩) (n + 2) cap)) (i := 17) (some 68) rfl rfl (by kernel_rfl) (by kernel_rfl) (by kernel_rfl) rfl (fun W hK => ex_load (p := (.pointer (some ⟨b4, 1, none⟩))) rfl rfl (ld32 (at_cell (keepK hK d_k4 (nilN _)) rfl))) S (fun c a w h => hQP c a _ _ w h) ?_
      simp only [Act.put, List.setIfInBounds_toArray, List.set_cons_zero, List.set_cons_succ]
      refine ah_take (v := (.int .i64 ((i + 2 : Nat) : Int))) (i := 18) (some 69) rfl rfl (by kernel_rfl) (by kernel_rfl) (by kernel_rfl) rfl (fun W hK => ex_mv rfl rfl) S (fun c a w h => hQP c a _ _ w h) ?_
      simp only [Act.put, List.setIfInBounds_toArray, List.set_cons_zero, List.set_cons_succ]
      refine ah_take (v := (.pointer (some ⟨go, ((i + 2) * 2), none⟩))) (i := 19) (some 70) rfl rfl (by kernel_rfl) (by kernel_rfl) (by kernel_rfl) rfl (fun W hK => ex_ix32 (k := i + 2) rfl rfl rfl (by omega)) S (fun c a w h => hQP c a _ _ w h) ?_
      simp only [Act.put, List.setIfInBounds_toArray, List.set_cons_zero, List.set_cons_succ]
      refine ah_take (v := (.pointer (some ⟨go, ((i + 2) * 2), none⟩))) (i := 20) (some 71) rfl rfl (by kernel_rfl) (by kernel_rfl) (by kernel_rfl) rfl (fun W hK => ex_fa rfl rfl (faO0 _ _ _)) S (fun c a w h => hQP c a _ _ w h) ?_
      simp only [Act.put, List.setIfInBounds_toArray, List.set_cons_zero, List.set_cons_succ]
      refine ah_take (v := (.int .i64 (hv i).am)) (i := 21) (some 72) rfl rfl (by kernel_rfl) (by kernel_rfl) (by kernel_rfl) rfl (fun W hK => ex_load rfl rfl (ld3 (cell_kept hK (am2 d_OU (by omega))))) S (fun c a w h => hQP c a _ _ w h) ?_
      simp only [Act.put, List.setIfInBounds_toArray, List.set_cons_zero, List.set_cons_succ]
      refine ah_take (v := (.pointer (some ⟨b5, 2, none⟩))) (i := 22) (some 73) rfl rfl (by kernel_rfl) (by kernel_rfl) (by kernel_rfl) rfl (fun W hK => ex_fa (p := (.pointer (some ⟨b5, 0, none⟩))) rfl rfl (fa49_2 _ _)) S (fun c a w h => hQP c a _ _ w h) ?_
      simp only [Act.put, List.setIfInBounds_toArray, List.set_cons_zero, List.set_cons_succ]
      refine ah_take (v := (.int .i64 (hv i).am)) (i := 23) (some 74) rfl rfl (by kernel_rfl) (by kernel_rfl) (by kernel_rfl) rfl (fun W hK => ex_load (p := (.pointer (some ⟨b5, 2, none⟩))) rfl rfl (ld3 (at_cell (keepK hK d_k5 (nilN _)) HC.1.c2))) S (fun c a w h => hQP c a _ _ w h) ?_
      simp only [Act.put, List.setIfInBounds_toArray, List.set_cons_zero, List.set_cons_succ]
      refine ah_take (v := (.bool false)) (i := 24) (some 75) rfl rfl (by kernel_rfl) (by kernel_rfl) (by kernel_rfl) rfl (fun W hK => ex_bin (u := (.int .i64 (hv i).am)) (r := (.int .i64 (hv i).am)) rfl rfl rfl (eg3 _ _ _ _ _ _) (neq3 _ (decide_eq_false (fun e => e rfl)))) S (fun c a w h => hQP c a _ _ w h) ?_
      simp only [Act.put, List.setIfInBounds_toArray, List.set_cons_zero, List.set_cons_succ]
      refine ah_take (v := (.bool false)) (i := 25) (some 76) rfl rfl (by kernel_rfl) (by kernel_rfl) (by kernel_rfl) rfl (fun W hK => ex_pkF rfl rfl rfl) S (fun c a w h => hQP c a _ _ w h) ?_
      simp only [Act.put, List.setIfInBounds_toArray, List.set_cons_zero, List.set_cons_succ]
      refine ah_take (v := (.bool false)) (i := 26) (some 77) rfl rfl (by kernel_rfl) (by kernel_rfl) (by kernel_rfl) rfl (fun W hK => ex_mv rfl rfl) S (fun c a w h => hQP c a _ _ w h) ?_
      simp only [Act.put, List.setIfInBounds_toArray, List.set_cons_zero, List.set_cons_succ]
      refine ah_take (v := (.pointer (some ⟨b4, 1, none⟩))) (i := 27) (some 78) rfl rfl (by kernel_rfl) (by kernel_rfl) (by kernel_rfl) rfl (fun W hK => ex_fa (p := (.pointer (some ⟨b4, 0, none⟩))) rfl rfl (fa34_1 _ _)) S (fun c a w h => hQP c a _ _ w h) ?_
      simp only [Act.put, List.setIfInBounds_toArray, List.set_cons_zero, List.set_cons_succ]
      refine ah_take (v := (.slice (some ⟨go, 0, none⟩) (n + 2) cap)) (i := 28) (some 79) rfl rfl (by kernel_rfl) (by kernel_rfl) (by kernel_rfl) rfl (fun W hK => ex_load (p := (.pointer (some ⟨b4, 1, none⟩))) rfl rfl (ld32 (at_cell (keepK hK d_k4 (nilN _)) rfl))) S (fun c a w h => hQP c a _ _ w h) ?_
      simp only [Act.put, List.setIfInBounds_toArray, List.set_cons_zero, List.set_cons_succ]
      refine ah_take (v := (.int .i64 ((i + 2 : Nat) : Int))) (i := 29) (some 80) rfl rfl (by kernel_rfl) (by kernel_rfl) (by kernel_rfl) rfl (fun W hK => ex_mv rfl rfl) S (fun c a w h => hQP c a _ _ w h) ?_
      simp only [Act.put, List.setIfInBounds_toArray, List.set_cons_zero, List.set_cons_succ]
      refine ah_take (v := (.pointer (some ⟨go, ((i + 2) * 2), none⟩))) (i := 30) (some 81) rfl rfl (by kernel_rfl) (by kernel_rfl) (by kernel_rfl) rfl (fun W hK => ex_ix32 (k := i + 2) rfl rfl rfl (by omega)) S (fun c a w h => hQP c a _ _ w h) ?_
      simp only [Act.put, List.setIfInBounds_toArray, List.set_cons_zero, List.set_cons_succ]
      refine ah_take (v := (.pointer (some ⟨go, ((i + 2) * 2 + 1), none⟩))) (i := 31) (some 82) rfl rfl (by kernel_rfl) (by kernel_rfl) (by kernel_rfl) rfl (fun W hK => ex_fa rfl rfl (faO1 _ _ _)) S (fun c a w h => hQP c a _ _ w h) ?_
      simp only [Act.put, List.setIfInBounds_toArray, List.set_cons_zero, List.set_cons_succ]
      refine ah_take (v := (.slice (some ⟨gp, 0, none⟩) 3 3)) (i := 32) (some 83) rfl rfl (by kernel_rfl) (by kernel_rfl) (by kernel_rfl) rfl (fun W hK => ex_load rfl rfl (ld44 (cell_kept hK hgp))) S (fun c a w h => hQP c a _ _ w h) ?_
      simp only [Act.put, List.setIfInBounds_toArray, List.set_cons_zero, List.set_cons_succ]
      refine ah_take (v := (.int .i64 (3 : Nat))) (i := 33) (some 84) rfl rfl (by kernel_rfl) (by kernel_rfl) (by kernel_rfl) rfl (fun W hK => ex_len rfl rfl (len44 _ _ _ _ _)) S (fun c a w h => hQP c a _ _ w h) ?_
      simp only [Act.put, List.setIfInBounds_toArray, List.set_cons_zero, List.set_cons_succ]
      refine ah_take (v := (.bool false)) (i := 34) (some 85) rfl rfl (by kernel_rfl) (by kernel_rfl) (by kernel_rfl) rfl (fun W hK => ex_bin (u := (.int .i64 (3 : Nat))) (r := (.int .i64 3)) rfl rfl rfl (eg3 _ _ _ _ _ _) (neq3 _ (by decide))) S (fun c a w h => hQP c a _ _ w h) ?_
      simp only [Act.put, List.setIfInBounds_toArray, List.set_cons_zero, List.set_cons_succ]
      refine ah_take (v := (.bool false)) (i := 35) (some 86) rfl rfl (by kernel_rfl) (by kernel_rfl) (by kernel_rfl) rfl (fun W hK => ex_pkF rfl rfl rfl) S (fun c a w h => hQP c a _ _ w h) ?_
      simp only [Act.put, List.setIfInBounds_toArray, List.set_cons_zero, List.set_cons_succ]
      refine ah_done (by kernel_rfl) ?_
      clear hQP
      subst hQ
      clear S d_k1 d_k3 d_k4 d_k5 d_OU
      refine wp_cond_false rfl ?_
      refine wp_skip ?_
      refine wl_in ?_
      refine wl_cap fun Q hQ => ?_
      refine st_to (v := (.int .i64 (i : Nat))) (some 35) rfl rfl (ex_mv rfl rfl) ?_
      simp only [Act.put, List.setIfInBounds_toArray, List.set_cons_zero, List.set_cons_succ]
      refine st_to (v := (.int .i64 ((i + 1 : Nat) : Int))) (some 36) rfl rfl (ex_bin rfl rfl rfl (eg3 _ _ _ _ _ _) (add3 _ (by omega) (by omega))) ?_
      simp only [Act.put, List.setIfInBounds_toArray, List.set_cons_zero, List.set_cons_succ]
      refine st_to (v := (.int .i64 ((i + 1 : Nat) : Int))) (some 11) rfl rfl (ex_asg rfl rfl) ?_
      simp only [Act.put, List.setIfInBounds_toArray, List.set_cons_zero, List.set_cons_succ]
      refine st_end ?_
      subst hQ
      refine then_go ?_
      go_roundw
      case rel => exact ⟨i + 1, by omega, rfl, E, k1, k3, k4, OU⟩
      case measure => simp [intOf]; omega
    · skip
      refine wp_seq ?_
      refine wp_seq ?_
      refine wl_in ?_
      refine wl_cap fun Q hQ => ?_
      refine st_to (v := (.int .i64 (i : Nat))) (some 30) rfl rfl (ex_mv rfl rfl) ?_
      simp only [Act.put, List.setIfInBounds_toArray, List.set_cons_zero, List.set_cons_succ]
      refine st_to (v := (.pointer (some ⟨b3, 2, none⟩))) (some 31) rfl rfl (ex_fa (p := (.pointer (some ⟨b3, 0, none⟩))) rfl rfl (fa29_2 _ _)) ?_
      simp only [Act.put, List.setIfInBounds_toArray, List.set_cons_zero, List.set_cons_succ]
      refine st_to (v := (.slice ao n c)) (some 32) rfl rfl (ex_load (p := (.pointer (some ⟨b3, 2, none⟩))) rfl rfl (ld27 (at_cell k3 rfl))) ?_
      simp only [Act.put, List.setIfInBounds_toArray, List.set_cons_zero, List.set_cons_succ]
      refine st_to (v := (.int .i64 (n : Nat))) (some 33) rfl rfl (ex_len rfl rfl (len27 _ _ _ _ _)) ?_
      simp only [Act.put, List.setIfInBounds_toArray, List.set_cons_zero, List.set_cons_succ]
      refine st_to (v := (.bool false)) (some 34) rfl rfl (ex_bin (u := (.int .i64 (i : Nat))) (r := (.int .i64 (n : Nat))) rfl rfl rfl (eg3 _ _ _ _ _ _) (lss3 _ (decide_eq_false (by omega)))) ?_
      simp only [Act.put, List.setIfInBounds_toArray, List.set_cons_zero, List.set_cons_succ]
      refine st_end ?_
      subst hQ
      refine wp_cond_false rfl ?_
      refine wp_exit ?_
      refine ex_then ?_
      refine ex_then ?_
      refine ex_blk ?_
      refine wp_seq ?_
      obtain ⟨W12, hwd⟩ : ∃ wd, wr.drew = wd := ⟨_, rfl⟩
      refine wp_region_held (S := fun W => Kept Nil W12 W) (by kernel_rfl) ?_
      show wpAnyH _ _ _ _ _ _ _ _ wr.drew
      rw [hwd]
      refine capQ fun Q hQ => ?_
      have hQP : ∀ c (a : Act) (d : Nat) v w, Q (.panic c) (a.put (some d) v) w → Q (.panic c) a w := by
        subst hQ
        exact fun _ _ _ _ _ h => h
      have BD : Below wr.heap.size wr W12 := by rw [← hwd]; exact below_drew (Below.refl _ _)
      clear hwd
      replace E := below_next E BD
      replace OU := OU.keep BD
      replace k1 := keep BD k1
      replace k3 := keep BD k3
      replace k4 := keep BD k4
      clear BD
      have S : Kept Nil W12 W12 := Kept.refl _ _
      have d_k1 := k1
      have d_k3 := k3
      have d_k4 := k4
      have d_OU := OU
      refine ah_take (v := (.agg C)) (i := 0) (some 87) rfl rfl (by kernel_rfl) (by kernel_rfl) (by kernel_rfl) rfl (fun W hK => ex_load (p := (.pointer (some ⟨b1, 0, none⟩))) rfl rfl (ld_all (keepK hK d_k1 (nilN _)) Try.underlying26 rfl (inf26.trans (congrArg some (hT.size).symm)))) S (fun c a w h => hQP c a _ _ w h) ?_
      simp only [Act.put, List.setIfInBounds_toArray, List.set_cons_zero, List.set_cons_succ]
      refine ah_take (v := (.agg C)) (i := 1) (some 88) rfl rfl (by kernel_rfl) (by kernel_rfl) (by kernel_rfl) rfl (fun W hK => ex_load (p := (.pointer (some ⟨b1, 0, none⟩))) rfl rfl (ld_all (keepK hK d_k1 (nilN _)) Try.underlying26 rfl (inf26.trans (congrArg some (hT.size).symm)))) S (fun c a w h => hQP c a _ _ w h) ?_
      simp only [Act.put, List.setIfInBounds_toArray, List.set_cons_zero, List.set_cons_succ]
      refine ah_take (v := (.int .i64 h)) (i := 2) (some 89) rfl rfl (by kernel_rfl) (by kernel_rfl) (by kernel_rfl) rfl (fun W hK => ex_mv rfl rfl) S (fun c a w h => hQP c a _ _ w h) ?_
      simp only [Act.put, List.setIfInBounds_toArray, List.set_cons_zero, List.set_cons_succ]
      refine ah_take (v := (.int .i64 h)) (i := 5) (some 92) rfl rfl (by kernel_rfl) (by kernel_rfl) (by kernel_rfl) rfl (fun W hK => ex_mv rfl rfl) S (fun c a w h => hQP c a _ _ w h) ?_
      simp only [Act.put, List.setIfInBounds_toArray, List.set_cons_zero, List.set_cons_succ]
      refine ah_or1 (i := 3) (by kernel_rfl) ?_
      refine nx_call (some 90) rfl rfl rfl (other_any h W12 hT) (ex_call (f := 16) (vs := [(.agg C), (.int .i64 h)]) rfl (cf16 _) rfl) ?_
      rintro e W13 ⟨rfl, B⟩
      refine ⟨_, rfl, S.next B, ?_⟩
      simp only [Act.put, List.setIfInBounds_toArray, List.set_cons_zero, List.set_cons_succ]
      replace E := below_next E B
      replace OU := OU.keep B
      replace k1 := keep B k1
      replace k3 := keep B k3
      replace k4 := keep B k4
      replace S := S.next B
      refine ah_or1 (i := 4) (by kernel_rfl) ?_
      refine nx_call (some 91) rfl rfl rfl (by have := other_any (othN t h) W13 hT; rw [oth_oth f1 hok.2.1] at this; exact this) (ex_call (f := 16) (vs := [(.agg C), (.int .i64 (othN t h))]) rfl (cf16 _) rfl) ?_
      rintro e W14 ⟨rfl, B⟩
      refine ⟨_, rfl, S.next B, ?_⟩
      simp only [Act.put, List.setIfInBounds_toArray, List.set_cons_zero, List.set_cons_succ]
      replace E := below_next E B
      replace OU := OU.keep B
      replace k1 := keep B k1
      replace k3 := keep B k3
      replace k4 := keep B k4
      replace S := S.next B
      refine ah_take (v := (.bool true)) (i := 6) (some 93) rfl rfl (by kernel_rfl) (by kernel_rfl) (by kernel_rfl) rfl (fun W hK => ex_bin (u := (.int .i64 h)) (r := (.int .i64 h)) rfl rfl rfl (eg3 _ _ _ _ _ _) (eql3 _ (decide_eq_true rfl))) S (fun c a w h => hQP c a _ _ w h) ?_
      simp only [Act.put, List.setIfInBounds_toArray, List.set_cons_zero, List.set_cons_succ]
      refine ah_take (v := (.bool true)) (i := 7) (some 8) rfl rfl (by kernel_rfl) (by kernel_rfl) (by kernel_rfl) rfl (fun W hK => ex_asg rfl rfl) S (fun c a w h => hQP c a _ _ w h) ?_
      simp only [Act.put, List.setIfInBounds_toArray, List.set_cons_zero, List.set_cons_succ]
      refine ah_done (by kernel_rfl) ?_
      clear hQP
      subst hQ
      clear S d_k1 d_k3 d_k4 d_OU
      refine wp_ret ?_
      refine bodyPost_ret (results_tmp Try.results6 _ _ _) rfl ⟨rfl, E⟩

end Go.Proofs.Ytkhpbjafdamhaaa
