/- Commitments: the statement's walk. -/
import Derived.Test.YtkhpbjafdamhaaaDChT
namespace Go.Proofs.Ytkhpbjafdamhaaa
open Go.RowKit
set_option linter.unusedVariables false
set_option linter.unusedSimpArgs false
set_option maxRecDepth 100000
theorem insr1 {W : World} {g : Nat} {X : Array Value} (k : W.heap[g]? = some (.cells X 61)) : InsR W g 1 (fun _ => X) := fun i hi j v hv => by
  have : i = 0 := by omega
  subst this
  exact at_cell k (by rw [show 0 * 130 + j = j by omega]; simpa using hv)

set_option maxHeartbeats 16000000 in
theorem commits_ok {C : Array Value} {t : TV} {x y h : Int} {pl : List Int} {ao : Option Addr} {n c : Nat} {Cs : Nat → Array Value} {hv : Nat → HV} (w : World) (hT : IsT C t) (hb : TB t) (hpl : pl.length = 32) (hH : Hs w ao n Cs hv) (hnil : ao = none → n = 0 ∧ c = 0) (hn : n * 64 ≤ 140737488355328) (hx : x ≤ 9223372036854775807) (hy : y ≤ 9223372036854775807) (hz : ∀ i, i < n → (hv i).am ≤ 9223372036854775807) (hI : IsI (C.extract 3 36 ++ inRest)) (hR : Refl 24 10000 (.agg (C.extract 3 36))) (hok : fitsB t x y n hv = true ∧ (h = t.a ∨ h = t.b) ∧ pl ≠ ZL) (hm : mayT t = true) :
    Calls Try.prog 3 #[.agg C, .int .i64 h, .agg (U8 pl).toArray, .agg #[.int .i64 x, .int .i64 y, .slice ao n c]] w fun e w' => e = .returned (.bool true) ∧ Below w.heap.size w w' := by
  have hsh : ∀ i, i < n → IsH (Cs i) (hv i) := fun i hi => hH.ish hi
  have hn' : n ≤ 140737488355328 := by omega
  have hn32 : n ≤ 32 := (fits_parts hok.1).2.1
  have E : Below w.heap.size w w := Below.refl _ _
  go_enter Try.func3, Try.ntmps3
  refine wp_seq ?_
  refine wl_in ?_
  refine wl_cap fun Q hQ => ?_
  refine st_new (fun b => .pointer (some ⟨b, 0, none⟩)) (some 4) rfl rfl (ex_box rfl rfl) ?_
  intro b1 W1 k1 g1 B
  simp only [Act.put, List.setIfInBounds_toArray, List.set_cons_zero, List.set_cons_succ]
  have ge_b1 := Nat.le_trans E.size g1
  replace E := below_next E B
  clear B
  refine st_new (fun b => .pointer (some ⟨b, 0, none⟩)) (some 6) rfl rfl (ex_box rfl rfl) ?_
  intro b2 W2 k2 g2 B
  simp only [Act.put, List.setIfInBounds_toArray, List.set_cons_zero, List.set_cons_succ]
  have ne_b2_b1 : b2 ≠ b1 := fun e => by have := lt_of k1; omega
  have ge_b2 := Nat.le_trans E.size g2
  replace E := below_next E B
  replace k1 := keep B k1
  clear B
  refine st_new (fun b => .pointer (some ⟨b, 0, none⟩)) (some 7) rfl rfl (ex_box rfl rfl) ?_
  intro b3 W3 k3 g3 B
  simp only [Act.put, List.setIfInBounds_toArray, List.set_cons_zero, List.set_cons_succ]
  have ne_b3_b1 : b3 ≠ b1 := fun e => by have := lt_of k1; omega
  have ne_b3_b2 : b3 ≠ b2 := fun e => by have := lt_of k2; omega
  have ge_b3 := Nat.le_trans E.size g3
  replace E := below_next E B
  replace k1 := keep B k1
  replace k2 := keep B k2
  clear B
  refine st_to (v := (.bool false)) (some 8) rfl rfl (ex_asg rfl rfl) ?_
  simp only [Act.put, List.setIfInBounds_toArray, List.set_cons_zero, List.set_cons_succ]
  refine st_end ?_
  subst hQ
  refine wp_seq ?_
  refine wl_in ?_
  refine wl_cap fun Q hQ => ?_
  refine st_to (v := (.agg #[.int .i64 x, .int .i64 y, .slice ao n c])) (some 15) rfl rfl (ex_load (p := (.pointer (some ⟨b3, 0, none⟩))) rfl rfl (ld_all k3 Try.underlying29 rfl inf29)) ?_
  simp only [Act.put, List.setIfInBounds_toArray, List.set_cons_zero, List.set_cons_succ]
  refine st_call (some 16) rfl rfl (copied_ok (x := x) (y := y) (c := c) W3 (hH.below E) hnil hn) (ex_call (f := 7) (vs := [(.agg #[.int .i64 x, .int .i64 y, .slice ao n c])]) rfl (cf7 _) rfl) ?_
  rintro e W4 ⟨g7, cap7, rfl, R7, B⟩
  refine ⟨_, rfl, ?_⟩
  simp only [Act.put, List.setIfInBounds_toArray, List.set_cons_zero, List.set_cons_succ]
  replace E := below_next E B
  replace k1 := keep B k1
  replace k2 := keep B k2
  replace k3 := keep B k3
  refine st_new (fun b => .pointer (some ⟨b, 0, none⟩)) (some 9) rfl rfl (ex_alloc rfl zero29) ?_
  intro b4 W5 k4 g4 B
  simp only [Act.put, List.setIfInBounds_toArray, List.set_cons_zero, List.set_cons_succ]
  have ne_b4_b1 : b4 ≠ b1 := fun e => by have := lt_of k1; omega
  have ne_b4_b2 : b4 ≠ b2 := fun e => by have := lt_of k2; omega
  have ne_b4_b3 : b4 ≠ b3 := fun e => by have := lt_of k3; omega
  have ge_b4 := Nat.le_trans E.size g4
  replace E := below_next E B
  replace k1 := keep B k1
  replace k2 := keep B k2
  replace k3 := keep B k3
  replace R7 := R7.keep B
  clear B
  obtain ⟨W6, hst, kn, K⟩ := put_all (D := #[.int .i64 x, .int .i64 y, .slice (some ⟨g7, 0, none⟩) n cap7]) k4 rfl inf29 (by kernel_rfl)
  refine st_sk rfl rfl (ex_store rfl rfl rfl hst) ?_
  replace E := below_put E ge_b4 K
  replace k1 := keepK K k1 (fun e => ne_tag k1 k4 (by decide) e)
  replace k2 := keepK K k2 (fun e => ne_tag k2 k4 (by decide) e)
  replace k3 := keepK K k3 (fun e => by first | exact ne_b3_b4 e | exact ne_b4_b3 e.symm)
  replace R7 := R7.keepK K (fun e => R7.ne k4 (by decide) e)
  replace k4 := kn
  clear kn K hst
  refine st_end ?_
  subst hQ
  refine wp_seq ?_
  refine wl_in ?_
  refine wl_cap fun Q hQ => ?_
  refine st_to (v := (.agg C)) (some 18) rfl rfl (ex_load (p := (.pointer (some ⟨b1, 0, none⟩))) rfl rfl (ld_all k1 Try.underlying26 rfl (inf26.trans (congrArg some (hT.size).symm)))) ?_
  simp only [Act.put, List.setIfInBounds_toArray, List.set_cons_zero, List.set_cons_succ]
  refine st_to (v := (.int .i64 h)) (some 19) rfl rfl (ex_mv rfl rfl) ?_
  simp only [Act.put, List.setIfInBounds_toArray, List.set_cons_zero, List.set_cons_succ]
  refine st_to (v := (.agg (U8 pl).toArray)) (some 20) rfl rfl (ex_load (p := (.pointer (some ⟨b2, 0, none⟩))) rfl rfl (ld_all k2 Try.underlying22 rfl (inf22.trans (congrArg some ((U8_size _ hpl)).symm)))) ?_
  simp only [Act.put, List.setIfInBounds_toArray, List.set_cons_zero, List.set_cons_succ]
  refine st_to (v := (.agg #[.int .i64 x, .int .i64 y, .slice (some ⟨g7, 0, none⟩) n cap7])) (some 21) rfl rfl (ex_load (p := (.pointer (some ⟨b4, 0, none⟩))) rfl rfl (ld_all k4 Try.underlying29 rfl inf29)) ?_
  simp only [Act.put, List.setIfInBounds_toArray, List.set_cons_zero, List.set_cons_succ]
  refine st_call (some 22) rfl rfl (commit_ok W6 hT hb hpl (R7.hs hsh) hn' hx hy hz hok.1 hok.2.1 hok.2.2) (ex_call (f := 8) (vs := [(.agg C), (.int .i64 h), (.agg (U8 pl).toArray), (.agg #[.int .i64 x, .int .i64 y, .slice (some ⟨g7, 0, none⟩) n cap7])]) rfl (cf8 _) rfl) ?_
  rintro e W7 ⟨gi8, go8, cap8, rfl, ki8, O8, B⟩
  refine ⟨_, rfl, ?_⟩
  simp only [Act.put, List.setIfInBounds_toArray, List.set_cons_zero, List.set_cons_succ]
  replace E := below_next E B
  replace k1 := keep B k1
  replace k2 := keep B k2
  replace k3 := keep B k3
  replace R7 := R7.keep B
  replace k4 := keep B k4
  refine st_to (v := (.tuple #[(.agg #[.slice (some ⟨gi8, 0, none⟩) 1 1, .slice (some ⟨go8, 0, none⟩) (n + 2) cap8]), (.int .i64 0)])) (some 17) rfl rfl (ex_mv rfl rfl) ?_
  simp only [Act.put, List.setIfInBounds_toArray, List.set_cons_zero, List.set_cons_succ]
  refine st_to (v := (.agg #[.slice (some ⟨gi8, 0, none⟩) 1 1, .slice (some ⟨go8, 0, none⟩) (n + 2) cap8])) (some 23) rfl rfl (ex_ext rfl rfl rfl) ?_
  simp only [Act.put, List.setIfInBounds_toArray, List.set_cons_zero, List.set_cons_succ]
  refine st_to (v := (.int .i64 0)) (some 24) rfl rfl (ex_ext rfl rfl rfl) ?_
  simp only [Act.put, List.setIfInBounds_toArray, List.set_cons_zero, List.set_cons_succ]
  refine st_new (fun b => .pointer (some ⟨b, 0, none⟩)) (some 10) rfl rfl (ex_alloc rfl zero34) ?_
  intro b5 W8 k5 g5 B
  simp only [Act.put, List.setIfInBounds_toArray, List.set_cons_zero, List.set_cons_succ]
  have ne_b5_b1 : b5 ≠ b1 := fun e => by have := lt_of k1; omega
  have ne_b5_b2 : b5 ≠ b2 := fun e => by have := lt_of k2; omega
  have ne_b5_b3 : b5 ≠ b3 := fun e => by have := lt_of k3; omega
  have ne_b5_b4 : b5 ≠ b4 := fun e => by have := lt_of k4; omega
  have ge_b5 := Nat.le_trans E.size g5
  replace E := below_next E B
  replace k1 := keep B k1
  replace k2 := keep B k2
  replace k3 := keep B k3
  replace R7 := R7.keep B
  replace k4 := keep B k4
  replace ki8 := keep B ki8
  replace O8 := O8.keep B
  clear B
  obtain ⟨W9, hst, kn, K⟩ := put_all (D := #[.slice (some ⟨gi8, 0, none⟩) 1 1, .slice (some ⟨go8, 0, none⟩) (n + 2) cap8]) k5 rfl inf34 (by kernel_rfl)
  refine st_sk rfl rfl (ex_store rfl rfl rfl hst) ?_
  replace E := below_put E ge_b5 K
  replace k1 := keepK K k1 (fun e => ne_tag k1 k5 (by decide) e)
  replace k2 := keepK K k2 (fun e => ne_tag k2 k5 (by decide) e)
  replace k3 := keepK K k3 (fun e => ne_tag k3 k5 (by decide) e)
  replace R7 := R7.keepK K (fun e => R7.ne k5 (by decide) e)
  replace k4 := keepK K k4 (fun e => ne_tag k4 k5 (by decide) e)
  replace ki8 := keepK K ki8 (fun e => ne_tag ki8 k5 (by decide) e)
  replace O8 := O8.keepK K k5 (by decide) (by decide)
  replace k5 := kn
  clear kn K hst
  refine st_to (v := (.int .i64 0)) (some 11) rfl rfl (ex_asg rfl rfl) ?_
  simp only [Act.put, List.setIfInBounds_toArray, List.set_cons_zero, List.set_cons_succ]
  refine st_end ?_
  subst hQ
  refine wp_seq ?_
  refine wl_in ?_
  refine wl_cap fun Q hQ => ?_
  refine st_to (v := (.agg C)) (some 26) rfl rfl (ex_load (p := (.pointer (some ⟨b1, 0, none⟩))) rfl rfl (ld_all k1 Try.underlying26 rfl (inf26.trans (congrArg some (hT.size).symm)))) ?_
  simp only [Act.put, List.setIfInBounds_toArray, List.set_cons_zero, List.set_cons_succ]
  refine st_to (v := (.int .i64 h)) (some 27) rfl rfl (ex_mv rfl rfl) ?_
  simp only [Act.put, List.setIfInBounds_toArray, List.set_cons_zero, List.set_cons_succ]
  refine st_to (v := (.agg (U8 pl).toArray)) (some 28) rfl rfl (ex_load (p := (.pointer (some ⟨b2, 0, none⟩))) rfl rfl (ld_all k2 Try.underlying22 rfl (inf22.trans (congrArg some ((U8_size _ hpl)).symm)))) ?_
  simp only [Act.put, List.setIfInBounds_toArray, List.set_cons_zero, List.set_cons_succ]
  refine st_to (v := (.agg #[.int .i64 x, .int .i64 y, .slice ao n c])) (some 29) rfl rfl (ex_load (p := (.pointer (some ⟨b3, 0, none⟩))) rfl rfl (ld_all k3 Try.underlying29 rfl inf29)) ?_
  simp only [Act.put, List.setIfInBounds_toArray, List.set_cons_zero, List.set_cons_succ]
  refine st_call (some 30) rfl rfl (rcommit_ok W9 hT hb hpl (hH.below E) hn' hx hy hz hok) (ex_call (f := 9) (vs := [(.agg C), (.int .i64 h), (.agg (U8 pl).toArray), (.agg #[.int .i64 x, .int .i64 y, .slice ao n c])]) rfl (cf9 _) rfl) ?_
  rintro e W10 ⟨gi9, go9, cap9, rfl, ki9, O9, B⟩
  refine ⟨_, rfl, ?_⟩
  simp only [Act.put, List.setIfInBounds_toArray, List.set_cons_zero, List.set_cons_succ]
  replace E := below_next E B
  replace k1 := keep B k1
  replace k2 := keep B k2
  replace k3 := keep B k3
  replace R7 := R7.keep B
  replace k4 := keep B k4
  replace ki8 := keep B ki8
  replace O8 := O8.keep B
  replace k5 := keep B k5
  refine st_to (v := (.tuple #[(.agg #[.slice (some ⟨gi9, 0, none⟩) 1 1, .slice (some ⟨go9, 0, none⟩) (n + 2) cap9]), (.int .i64 0)])) (some 25) rfl rfl (ex_mv rfl rfl) ?_
  simp only [Act.put, List.setIfInBounds_toArray, List.set_cons_zero, List.set_cons_succ]
  refine st_to (v := (.agg #[.slice (some ⟨gi9, 0, none⟩) 1 1, .slice (some ⟨go9, 0, none⟩) (n + 2) cap9])) (some 31) rfl rfl (ex_ext rfl rfl rfl) ?_
  simp only [Act.put, List.setIfInBounds_toArray, List.set_cons_zero, List.set_cons_succ]
  refine st_to (v := (.int .i64 0)) (some 32) rfl rfl (ex_ext rfl rfl rfl) ?_
  simp only [Act.put, List.setIfInBounds_toArray, List.set_cons_zero, List.set_cons_succ]
  refine st_new (fun b => .pointer (some ⟨b, 0, none⟩)) (some 12) rfl rfl (ex_alloc rfl zero34) ?_
  intro b6 W11 k6 g6 B
  simp only [Act.put, List.setIfInBounds_toArray, List.set_cons_zero, List.set_cons_succ]
  have ne_b6_b1 : b6 ≠ b1 := fun e => by have := lt_of k1; omega
  have ne_b6_b2 : b6 ≠ b2 := fun e => by have := lt_of k2; omega
  have ne_b6_b3 : b6 ≠ b3 := fun e => by have := lt_of k3; omega
  have ne_b6_b4 : b6 ≠ b4 := fun e => by have := lt_of k4; omega
  have ne_b6_b5 : b6 ≠ b5 := fun e => by have := lt_of k5; omega
  have ge_b6 := Nat.le_trans E.size g6
  replace E := below_next E B
  replace k1 := keep B k1
  replace k2 := keep B k2
  replace k3 := keep B k3
  replace R7 := R7.keep B
  replace k4 := keep B k4
  replace ki8 := keep B ki8
  replace O8 := O8.keep B
  replace k5 := keep B k5
  replace ki9 := keep B ki9
  replace O9 := O9.keep B
  clear B
  obtain ⟨W12, hst, kn, K⟩ := put_all (D := #[.slice (some ⟨gi9, 0, none⟩) 1 1, .slice (some ⟨go9, 0, none⟩) (n + 2) cap9]) k6 rfl inf34 (by kernel_rfl)
  refine st_sk rfl rfl (ex_store rfl rfl rfl hst) ?_
  replace E := below_put E ge_b6 K
  replace k1 := keepK K k1 (fun e => ne_tag k1 k6 (by decide) e)
  replace k2 := keepK K k2 (fun e => ne_tag k2 k6 (by decide) e)
  replace k3 := keepK K k3 (fun e => ne_tag k3 k6 (by decide) e)
  replace R7 := R7.keepK K (fun e => R7.ne k6 (by decide) e)
  replace k4 := keepK K k4 (fun e => ne_tag k4 k6 (by decide) e)
  replace ki8 := keepK K ki8 (fun e => ne_tag ki8 k6 (by decide) e)
  replace O8 := O8.keepK K k6 (by decide) (by decide)
  replace k5 := keepK K k5 (fun e => by first | exact ne_b5_b6 e | exact ne_b6_b5 e.symm)
  replace ki9 := keepK K ki9 (fun e => ne_tag ki9 k6 (by decide) e)
  replace O9 := O9.keepK K k6 (by decide) (by decide)
  replace k6 := kn
  clear kn K hst
  refine st_to (v := (.int .i64 0)) (some 13) rfl rfl (ex_asg rfl rfl) ?_
  simp only [Act.put, List.setIfInBounds_toArray, List.set_cons_zero, List.set_cons_succ]
  refine st_end ?_
  subst hQ
  refine wp_seq ?_
  refine wp_seq ?_
  obtain ⟨W13, hwd⟩ : ∃ wd, W12.drew = wd := ⟨_, rfl⟩
  refine wp_region_held (S := fun W => Kept Nil W13 W) (by kernel_rfl) ?_
  show wpAnyH _ _ _ _ _ _ _ _ W12.drew
  rw [hwd]
  refine capQ fun Q hQ => ?_
  have hQP : ∀ c (a : Act) (d : Nat) v w, Q (.panic c) (a.put (some d) v) w → Q (.panic c) a w := by
    subst hQ
    exact fun _ _ _ _ _ h => h
  have BD : Below W12.heap.size W12 W13 := by rw [← hwd]; exact below_drew (Below.refl _ _)
  clear hwd
  replace E := below_next E BD
  replace k1 := keep BD k1
  replace k2 := keep BD k2
  replace k3 := keep BD k3
  replace R7 := R7.keep BD
  replace k4 := keep BD k4
  replace ki8 := keep BD ki8
  replace O8 := O8.keep BD
  replace k5 := keep BD k5
  replace ki9 := keep BD ki9
  replace O9 := O9.keep BD
  replace k6 := keep BD k6
  clear BD
  have S : Kept Nil W13 W13 := Kept.refl _ _
  have d_k1 := k1
  have d_k2 := k2
  have d_k3 := k3
  have d_k4 := k4
  have d_k5 := k5
  have d_k6 := k6
  have d_R7 := R7
  have d_ki8 := ki8
  have d_O8 := O8
  have d_ki9 := ki9
  have d_O9 := O9
  refine ah_or1 (i := 0) (by kernel_rfl) ?_
  refine nx_call (some 33) rfl rfl rfl (lives_any W13) (ex_call (f := 10) (vs := []) rfl (cf10 _) rfl) ?_
  rintro e W14 ⟨rfl, B⟩
  refine ⟨_, rfl, S.next B, ?_⟩
  simp only [Act.put, List.setIfInBounds_toArray, List.set_cons_zero, List.set_cons_succ]
  replace E := below_next E B
  replace k1 := keep B k1
  replace k2 := keep B k2
  replace k3 := keep B k3
  replace R7 := R7.keep B
  replace k4 := keep B k4
  replace ki8 := keep B ki8
  replace O8 := O8.keep B
  replace k5 := keep B k5
  replace ki9 := keep B ki9
  replace O9 := O9.keep B
  replace k6 := keep B k6
  replace S := S.next B
  refine ah_take (v := (.bool false)) (i := 1) (some 34) rfl rfl (by kernel_rfl) (by kernel_rfl) (by kernel_rfl) rfl (fun W hK => ex_not rfl rfl rfl) S (fun c a w h => hQP c a _ _ w h) ?_
  simp only [Act.put, List.setIfInBounds_toArray, List.set_cons_zero, List.set_cons_succ]
  refine ah_take (v := (.bool false)) (i := 2) (some 35) rfl rfl (by kernel_rfl) (by kernel_rfl) (by kernel_rfl) rfl (fun W hK => ex_mv rfl rfl) S (fun c a w h => hQP c a _ _ w h) ?_
  simp only [Act.put, List.setIfInBounds_toArray, List.set_cons_zero, List.set_cons_succ]
  refine ah_take (v := (.agg #[.slice (some ⟨gi8, 0, none⟩) 1 1, .slice (some ⟨go8, 0, none⟩) (n + 2) cap8])) (i := 3) (some 36) rfl rfl (by kernel_rfl) (by kernel_rfl) (by kernel_rfl) rfl (fun W hK => ex_load (p := (.pointer (some ⟨b5, 0, none⟩))) rfl rfl (ld_all (keepK hK d_k5 (nilN _)) Try.underlying34 rfl inf34)) S (fun c a w h => hQP c a _ _ w h) ?_
  simp only [Act.put, List.setIfInBounds_toArray, List.set_cons_zero, List.set_cons_succ]
  refine ah_take (v := (.agg #[.slice (some ⟨gi9, 0, none⟩) 1 1, .slice (some ⟨go9, 0, none⟩) (n + 2) cap9])) (i := 4) (some 37) rfl rfl (by kernel_rfl) (by kernel_rfl) (by kernel_rfl) rfl (fun W hK => ex_load (p := (.pointer (some ⟨b6, 0, none⟩))) rfl rfl (ld_all (keepK hK d_k6 (nilN _)) Try.underlying34 rfl inf34)) S (fun c a w h => hQP c a _ _ w h) ?_
  simp only [Act.put, List.setIfInBounds_toArray, List.set_cons_zero, List.set_cons_succ]
  refine ah_or1 (i := 5) (by kernel_rfl) ?_
  refine nx_call (some 38) rfl rfl rfl (same_ok W14 (by decide) (by omega) ⟨.inr ⟨gi8, gi9, _, rfl, rfl, insr1 ki8, insr1 ki9, fun _ _ => hI⟩, .inr ⟨go8, go9, _, _, cap8, cap9, _, _, _, rfl, rfl, O8, O9, self_opth hpl (fun i hi => (hsh i hi).len)⟩⟩) (ex_call (f := 11) (vs := [(.agg #[.slice (some ⟨gi8, 0, none⟩) 1 1, .slice (some ⟨go8, 0, none⟩) (n + 2) cap8]), (.agg #[.slice (some ⟨gi9, 0, none⟩) 1 1, .slice (some ⟨go9, 0, none⟩) (n + 2) cap9])]) rfl (cf11 _) rfl) ?_
  rintro e W15 ⟨rfl, B⟩
  refine ⟨_, rfl, S.next B, ?_⟩
  simp only [Act.put, List.setIfInBounds_toArray, List.set_cons_zero, List.set_cons_succ]
  replace E := below_next E B
  replace k1 := keep B k1
  replace k2 := keep B k2
  replace k3 := keep B k3
  replace R7 := R7.keep B
  replace k4 := keep B k4
  replace ki8 := keep B ki8
  replace O8 := O8.keep B
  replace k5 := keep B k5
  replace ki9 := keep B ki9
  replace O9 := O9.keep B
  replace k6 := keep B k6
  replace S := S.next B
  refine ah_take (v := (.bool false)) (i := 6) (some 39) rfl rfl (by kernel_rfl) (by kernel_rfl) (by kernel_rfl) rfl (fun W hK => ex_not rfl rfl rfl) S (fun c a w h => hQP c a _ _ w h) ?_
  simp only [Act.put, List.setIfInBounds_toArray, List.set_cons_zero, List.set_cons_succ]
  refine ah_take (v := (.bool false)) (i := 7) (some 40) rfl rfl (by kernel_rfl) (by kernel_rfl) (by kernel_rfl) rfl (fun W hK => ex_pkF rfl rfl rfl) S (fun c a w h => hQP c a _ _ w h) ?_
  simp only [Act.put, List.setIfInBounds_toArray, List.set_cons_zero, List.set_cons_succ]
  refine ah_take (v := (.bool false)) (i := 8) (some 41) rfl rfl (by kernel_rfl) (by kernel_rfl) (by kernel_rfl) rfl (fun W hK => ex_mv rfl rfl) S (fun c a w h => hQP c a _ _ w h) ?_
  simp only [Act.put, List.setIfInBounds_toArray, List.set_cons_zero, List.set_cons_succ]
  refine ah_take (v := (.int .i64 0)) (i := 9) (some 42) rfl rfl (by kernel_rfl) (by kernel_rfl) (by kernel_rfl) rfl (fun W hK => ex_mv rfl rfl) S (fun c a w h => hQP c a _ _ w h) ?_
  simp only [Act.put, List.setIfInBounds_toArray, List.set_cons_zero, List.set_cons_succ]
  refine ah_take (v := (.int .i64 0)) (i := 10) (some 43) rfl rfl (by kernel_rfl) (by kernel_rfl) (by kernel_rfl) rfl (fun W hK => ex_mv rfl rfl) S (fun c a w h => hQP c a _ _ w h) ?_
  simp only [Act.put, List.setIfInBounds_toArray, List.set_cons_zero, List.set_cons_succ]
  refine ah_take (v := (.bool false)) (i := 11) (some 44) rfl rfl (by kernel_rfl) (by kernel_rfl) (by kernel_rfl) rfl (fun W hK => ex_bin (u := (.int .i64 0)) (r := (.int .i64 0)) rfl rfl rfl (eg35 _ _ _ _ _ _) (neq35 _ (by decide))) S (fun c a w h => hQP c a _ _ w h) ?_
  simp only [Act.put, List.setIfInBounds_toArray, List.set_cons_zero, List.set_cons_succ]
  refine ah_take (v := (.bool false)) (i := 12) (some 45) rfl rfl (by kernel_rfl) (by kernel_rfl) (by kernel_rfl) rfl (fun W hK => ex_pkF rfl rfl rfl) S (fun c a w h => hQP c a _ _ w h) ?_
  simp only [Act.put, List.setIfInBounds_toArray, List.set_cons_zero, List.set_cons_succ]
  refine ah_take (v := (.bool false)) (i := 13) (some 46) rfl rfl (by kernel_rfl) (by kernel_rfl) (by kernel_rfl) rfl (fun W hK => ex_mv rfl rfl) S (fun c a w h => hQP c a _ _ w h) ?_
  simp only [Act.put, List.setIfInBounds_toArray, List.set_cons_zero, List.set_cons_succ]
  refine ah_take (v := (.agg C)) (i := 14) (some 47) rfl rfl (by kernel_rfl) (by kernel_rfl) (by kernel_rfl) rfl (fun W hK => ex_load (p := (.pointer (some ⟨b1, 0, none⟩))) rfl rfl (ld_all (keepK hK d_k1 (nilN _)) Try.underlying26 rfl (inf26.trans (congrArg some (hT.size).symm)))) S (fun c a w h => hQP c a _ _ w h) ?_
  simp only [Act.put, List.setIfInBounds_toArray, List.set_cons_zero, List.set_cons_succ]
  refine ah_take (v := (.agg C)) (i := 16) (some 49) rfl rfl (by kernel_rfl) (by kernel_rfl) (by kernel_rfl) rfl (fun W hK => ex_load (p := (.pointer (some ⟨b1, 0, none⟩))) rfl rfl (ld_all (keepK hK d_k1 (nilN _)) Try.underlying26 rfl (inf26.trans (congrArg some (hT.size).symm)))) S (fun c a w h => hQP c a _ _ w h) ?_
  simp only [Act.put, List.setIfInBounds_toArray, List.set_cons_zero, List.set_cons_succ]
  refine ah_or1 (i := 15) (by kernel_rfl) ?_
  refine nx_call (some 48) rfl rfl rfl (may_any W15 hT hb rfl) (ex_call (f := 12) (vs := [(.agg C)]) rfl (cf12 _) rfl) ?_
  rintro e W16 ⟨rfl, B⟩
  refine ⟨_, rfl, S.next B, ?_⟩
  simp only [Act.put, List.setIfInBounds_toArray, List.set_cons_zero, List.set_cons_succ]
  replace E := below_next E B
  replace k1 := keep B k1
  replace k2 := keep B k2
  replace k3 := keep B k3
  replace R7 := R7.keep B
  replace k4 := keep B k4
  replace ki8 := keep B ki8
  replace O8 := O8.keep B
  replace k5 := keep B k5
  replace ki9 := keep B ki9
  replace O9 := O9.keep B
  replace k6 := keep B k6
  replace S := S.next B
  refine ah_or1 (i := 17) (by kernel_rfl) ?_
  refine nx_call (some 50) rfl rfl rfl (rmay_any W16 hT hb rfl) (ex_call (f := 13) (vs := [(.agg C)]) rfl (cf13 _) rfl) ?_
  rintro e W17 ⟨rfl, B⟩
  refine ⟨_, rfl, S.next B, ?_⟩
  simp only [Act.put, List.setIfInBounds_toArray, List.set_cons_zero, List.set_cons_succ]
  replace E := below_next E B
  replace k1 := keep B k1
  replace k2 := keep B k2
  replace k3 := keep B k3
  replace R7 := R7.keep B
  replace k4 := keep B k4
  replace ki8 := keep B ki8
  replace O8 := O8.keep B
  replace k5 := keep B k5
  replace ki9 := keep B ki9
  replace O9 := O9.keep B
  replace k6 := keep B k6
  replace S := S.next B
  refine ah_take (v := (.bool false)) (i := 18) (some 51) rfl rfl (by kernel_rfl) (by kernel_rfl) (by kernel_rfl) rfl (fun W hK => ex_bin (u := .bool (mayT t)) (r := .bool (mayT t)) rfl rfl rfl (eg4 _ _ _ _ _ _) (neqB _ _)) S (fun c a w h => hQP c a _ _ w h) ?_
  simp only [Act.put, List.setIfInBounds_toArray, List.set_cons_zero, List.set_cons_succ]
  refine ah_take (v := (.bool false)) (i := 19) (some 52) rfl rfl (by kernel_rfl) (by kernel_rfl) (by kernel_rfl) rfl (fun W hK => ex_pkF rfl rfl rfl) S (fun c a w h => hQP c a _ _ w h) ?_
  simp only [Act.put, List.setIfInBounds_toArray, List.set_cons_zero, List.set_cons_succ]
  refine ah_take (v := (.bool false)) (i := 20) (some 53) rfl rfl (by kernel_rfl) (by kernel_rfl) (by kernel_rfl) rfl (fun W hK => ex_mv rfl rfl) S (fun c a w h => hQP c a _ _ w h) ?_
  simp only [Act.put, List.setIfInBounds_toArray, List.set_cons_zero, List.set_cons_succ]
  refine ah_take (v := (.agg C)) (i := 21) (some 54) rfl rfl (by kernel_rfl) (by kernel_rfl) (by kernel_rfl) rfl (fun W hK => ex_load (p := (.pointer (some ⟨b1, 0, none⟩))) rfl rfl (ld_all (keepK hK d_k1 (nilN _)) Try.underlying26 rfl (inf26.trans (congrArg some (hT.size).symm)))) S (fun c a w h => hQP c a _ _ w h) ?_
  simp only [Act.put, List.setIfInBounds_toArray, List.set_cons_zero, List.set_cons_succ]
  refine ah_take (v := (.agg #[.int .i64 x, .int .i64 y, .slice (some ⟨g7, 0, none⟩) n cap7])) (i := 22) (some 55) rfl rfl (by kernel_rfl) (by kernel_rfl) (by kernel_rfl) rfl (fun W hK => ex_load (p := (.pointer (some ⟨b4, 0, none⟩))) rfl rfl (ld_all (keepK hK d_k4 (nilN _)) Try.underlying29 rfl inf29)) S (fun c a w h => hQP c a _ _ w h) ?_
  simp only [Act.put, List.setIfInBounds_toArray, List.set_cons_zero, List.set_cons_succ]
  refine ah_take (v := (.agg C)) (i := 24) (some 57) rfl rfl (by kernel_rfl) (by kernel_rfl) (by kernel_rfl) rfl (fun W hK => ex_load (p := (.pointer (some ⟨b1, 0, none⟩))) rfl rfl (ld_all (keepK hK d_k1 (nilN _)) Try.underlying26 rfl (inf26.trans (congrArg some (hT.size).symm)))) S (fun c a w h => hQP c a _ _ w h) ?_
  simp only [Act.put, List.setIfInBounds_toArray, List.set_cons_zero, List.set_cons_succ]
  refine ah_take (v := (.agg #[.int .i64 x, .int .i64 y, .slice ao n c])) (i := 25) (some 58) rfl rfl (by kernel_rfl) (by kernel_rfl) (by kernel_rfl) rfl (fun W hK => ex_load (p := (.pointer (some ⟨b3, 0, none⟩))) rfl rfl (ld_all (keepK hK d_k3 (nilN _)) Try.underlying29 rfl inf29)) S (fun c a w h => hQP c a _ _ w h) ?_
  simp only [Act.put, List.setIfInBounds_toArray, List.set_cons_zero, List.set_cons_succ]
  refine ah_or1 (i := 23) (by kernel_rfl) ?_
  refine nx_call (some 56) rfl rfl rfl (fits_any W17 hT hb (R7.hs hsh) hn' hx hy hz rfl) (ex_call (f := 14) (vs := [(.agg C), (.agg #[.int .i64 x, .int .i64 y, .slice (some ⟨g7, 0, none⟩) n cap7])]) rfl (cf14 _) rfl) ?_
  rintro e W18 ⟨rfl, B⟩
  refine ⟨_, rfl, S.next B, ?_⟩
  simp only [Act.put, List.setIfInBounds_toArray, List.set_cons_zero, List.set_cons_succ]
  replace E := below_next E B
  replace k1 := keep B k1
  replace k2 := keep B k2
  replace k3 := keep B k3
  replace R7 := R7.keep B
  replace k4 := keep B k4
  replace ki8 := keep B ki8
  replace O8 := O8.keep B
  replace k5 := keep B k5
  replace ki9 := keep B ki9
  replace O9 := O9.keep B
  replace k6 := keep B k6
  replace S := S.next B
  refine ah_or1 (i := 26) (by kernel_rfl) ?_
  refine nx_call (some 59) rfl rfl rfl (rfits_any (c := c) W18 hT hb (hH.below E) hn' hx hy hz rfl) (ex_call (f := 15) (vs := [(.agg C), (.agg #[.int .i64 x, .int .i64 y, .slice ao n c])]) rfl (cf15 _) rfl) ?_
  rintro e W19 ⟨rfl, B⟩
  refine ⟨_, rfl, S.next B, ?_⟩
  simp only [Act.put, List.setIfInBounds_toArray, List.set_cons_zero, List.set_cons_succ]
  replace E := below_next E B
  replace k1 := keep B k1
  replace k2 := keep B k2
  replace k3 := keep B k3
  replace R7 := R7.keep B
  replace k4 := keep B k4
  replace ki8 := keep B ki8
  replace O8 := O8.keep B
  replace k5 := keep B k5
  replace ki9 := keep B ki9
  replace O9 := O9.keep B
  replace k6 := keep B k6
  replace S := S.next B
  refine ah_take (v := (.bool false)) (i := 27) (some 60) rfl rfl (by kernel_rfl) (by kernel_rfl) (by kernel_rfl) rfl (fun W hK => ex_bin (u := .bool (fitsB t x y n hv)) (r := .bool (fitsB t x y n hv)) rfl rfl rfl (eg4 _ _ _ _ _ _) (neqB _ _)) S (fun c a w h => hQP c a _ _ w h) ?_
  simp only [Act.put, List.setIfInBounds_toArray, List.set_cons_zero, List.set_cons_succ]
  refine ah_take (v := (.bool false)) (i := 28) (some 61) rfl rfl (by kernel_rfl) (by kernel_rfl) (by kernel_rfl) rfl (fun W hK => ex_pkF rfl rfl rfl) S (fun c a w h => hQP c a _ _ w h) ?_
  simp only [Act.put, List.setIfInBounds_toArray, List.set_cons_zero, List.set_cons_succ]
  refine ah_take (v := (.bool false)) (i := 29) (some 62) rfl rfl (by kernel_rfl) (by kernel_rfl) (by kernel_rfl) rfl (fun W hK => ex_mv rfl rfl) S (fun c a w h => hQP c a _ _ w h) ?_
  simp only [Act.put, List.setIfInBounds_toArray, List.set_cons_zero, List.set_cons_succ]
  refine ah_take (v := (.agg C)) (i := 30) (some 63) rfl rfl (by kernel_rfl) (by kernel_rfl) (by kernel_rfl) rfl (fun W hK => ex_load (p := (.pointer (some ⟨b1, 0, none⟩))) rfl rfl (ld_all (keepK hK d_k1 (nilN _)) Try.underlying26 rfl (inf26.trans (congrArg some (hT.size).symm)))) S (fun c a w h => hQP c a _ _ w h) ?_
  simp only [Act.put, List.setIfInBounds_toArray, List.set_cons_zero, List.set_cons_succ]
  refine ah_take (v := (.int .i64 h)) (i := 31) (some 64) rfl rfl (by kernel_rfl) (by kernel_rfl) (by kernel_rfl) rfl (fun W hK => ex_mv rfl rfl) S (fun c a w h => hQP c a _ _ w h) ?_
  simp only [Act.put, List.setIfInBounds_toArray, List.set_cons_zero, List.set_cons_succ]
  refine ah_take (v := (.agg C)) (i := 33) (some 66) rfl rfl (by kernel_rfl) (by kernel_rfl) (by kernel_rfl) rfl (fun W hK => ex_load (p := (.pointer (some ⟨b1, 0, none⟩))) rfl rfl (ld_all (keepK hK d_k1 (nilN _)) Try.underlying26 rfl (inf26.trans (congrArg some (hT.size).symm)))) S (fun c a w h => hQP c a _ _ w h) ?_
  simp only [Act.put, List.setIfInBounds_toArray, List.set_cons_zero, List.set_cons_succ]
  refine ah_take (v := (.int .i64 h)) (i := 34) (some 67) rfl rfl (by kernel_rfl) (by kernel_rfl) (by kernel_rfl) rfl (fun W hK => ex_mv rfl rfl) S (fun c a w h => hQP c a _ _ w h) ?_
  simp only [Act.put, List.setIfInBounds_toArray, List.set_cons_zero, List.set_cons_succ]
  refine ah_or1 (i := 32) (by kernel_rfl) ?_
  refine nx_call (some 65) rfl rfl rfl (other_any h W19 hT) (ex_call (f := 16) (vs := [(.agg C), (.int .i64 h)]) rfl (cf16 _) rfl) ?_
  rintro e W20 ⟨rfl, B⟩
  refine ⟨_, rfl, S.next B, ?_⟩
  simp only [Act.put, List.setIfInBounds_toArray, List.set_cons_zero, List.set_cons_succ]
  replace E := below_next E B
  replace k1 := keep B k1
  replace k2 := keep B k2
  replace k3 := keep B k3
  replace R7 := R7.keep B
  replace k4 := keep B k4
  replace ki8 := keep B ki8
  replace O8 := O8.keep B
  replace k5 := keep B k5
  replace ki9 := keep B ki9
  replace O9 := O9.keep B
  replace k6 := keep B k6
  replace S := S.next B
  refine ah_or1 (i := 35) (by kernel_rfl) ?_
  refine nx_call (some 68) rfl rfl rfl (rother_any h W20 hT) (ex_call (f := 17) (vs := [(.agg C), (.int .i64 h)]) rfl (cf17 _) rfl) ?_
  rintro e W21 ⟨rfl, B⟩
  refine ⟨_, rfl, S.next B, ?_⟩
  simp only [Act.put, List.setIfInBounds_toArray, List.set_cons_zero, List.set_cons_succ]
  replace E := below_next E B
  replace k1 := keep B k1
  replace k2 := keep B k2
  replace k3 := keep B k3
  replace R7 := R7.keep B
  replace k4 := keep B k4
  replace ki8 := keep B ki8
  replace O8 := O8.keep B
  replace k5 := keep B k5
  replace ki9 := keep B ki9
  replace O9 := O9.keep B
  replace k6 := keep B k6
  replace S := S.next B
  refine ah_take (v := (.bool false)) (i := 36) (some 69) rfl rfl (by kernel_rfl) (by kernel_rfl) (by kernel_rfl) rfl (fun W hK => ex_bin (u := (.int .i64 (othN t h))) (r := (.int .i64 (othN t h))) rfl rfl rfl (eg3 _ _ _ _ _ _) (neq3 _ (decide_eq_false (fun e => e rfl)))) S (fun c a w h => hQP c a _ _ w h) ?_
  simp only [Act.put, List.setIfInBounds_toArray, List.set_cons_zero, List.set_cons_succ]
  refine ah_take (v := (.bool false)) (i := 37) (some 70) rfl rfl (by kernel_rfl) (by kernel_rfl) (by kernel_rfl) rfl (fun W hK => ex_pkF rfl rfl rfl) S (fun c a w h => hQP c a _ _ w h) ?_
  simp only [Act.put, List.setIfInBounds_toArray, List.set_cons_zero, List.set_cons_succ]
  refine ah_take (v := (.bool false)) (i := 38) (some 71) rfl rfl (by kernel_rfl) (by kernel_rfl) (by kernel_rfl) rfl (fun W hK => ex_mv rfl rfl) S (fun c a w h => hQP c a _ _ w h) ?_
  simp only [Act.put, List.setIfInBounds_toArray, List.set_cons_zero, List.set_cons_succ]
  refine ah_take (v := (.agg C)) (i := 39) (some 72) rfl rfl (by kernel_rfl) (by kernel_rfl) (by kernel_rfl) rfl (fun W hK => ex_load (p := (.pointer (some ⟨b1, 0, none⟩))) rfl rfl (ld_all (keepK hK d_k1 (nilN _)) Try.underlying26 rfl (inf26.trans (congrArg some (hT.size).symm)))) S (fun c a w h => hQP c a _ _ w h) ?_
  simp only [Act.put, List.setIfInBounds_toArray, List.set_cons_zero, List.set_cons_succ]
  refine ah_take (v := (.agg C)) (i := 41) (some 74) rfl rfl (by kernel_rfl) (by kernel_rfl) (by kernel_rfl) rfl (fun W hK => ex_load (p := (.pointer (some ⟨b1, 0, none⟩))) rfl rfl (ld_all (keepK hK d_k1 (nilN _)) Try.underlying26 rfl (inf26.trans (congrArg some (hT.size).symm)))) S (fun c a w h => hQP c a _ _ w h) ?_
  simp only [Act.put, List.setIfInBounds_toArray, List.set_cons_zero, List.set_cons_succ]
  refine ah_or1 (i := 40) (by kernel_rfl) ?_
  refine nx_call (some 73) rfl rfl rfl (fund_ok W21 hT hb hm) (ex_call (f := 19) (vs := [(.agg C)]) rfl (cf19 _) rfl) ?_
  rintro e W22 ⟨f19, rfl, kf19, B⟩
  refine ⟨_, rfl, S.next B, ?_⟩
  simp only [Act.put, List.setIfInBounds_toArray, List.set_cons_zero, List.set_cons_succ]
  replace E := below_next E B
  replace k1 := keep B k1
  replace k2 := keep B k2
  replace k3 := keep B k3
  replace R7 := R7.keep B
  replace k4 := keep B k4
  replace ki8 := keep B ki8
  replace O8 := O8.keep B
  replace k5 := keep B k5
  replace ki9 := keep B ki9
  replace O9 := O9.keep B
  replace k6 := keep B k6
  replace S := S.next B
  refine ah_or1 (i := 42) (by kernel_rfl) ?_
  refine nx_call (some 75) rfl rfl rfl (rfund_ok W22 hT hb hm) (ex_call (f := 20) (vs := [(.agg C)]) rfl (cf20 _) rfl) ?_
  rintro e W23 ⟨f20, rfl, kf20, B⟩
  refine ⟨_, rfl, S.next B, ?_⟩
  simp only [Act.put, List.setIfInBounds_toArray, List.set_cons_zero, List.set_cons_succ]
  replace E := below_next E B
  replace k1 := keep B k1
  replace k2 := keep B k2
  replace k3 := keep B k3
  replace R7 := R7.keep B
  replace k4 := keep B k4
  replace ki8 := keep B ki8
  replace O8 := O8.keep B
  replace k5 := keep B k5
  replace ki9 := keep B ki9
  replace O9 := O9.keep B
  replace k6 := keep B k6
  replace S := S.next B
  replace kf19 := keep B kf19
  refine ah_or1 (i := 43) (by kernel_rfl) ?_
  refine nx_call (some 76) rfl rfl rfl (sameout_ok W23 (by decide) (self_fund _ _) (.inr ⟨f19, f20, rfl, rfl, kf19, kf20⟩)) (ex_call (f := 18) (vs := [(.agg #[.int .i64 (t.sa + t.sb), .slice (some ⟨f19, 0, none⟩) 1 1]), (.agg #[.int .i64 (t.sa + t.sb), .slice (some ⟨f20, 0, none⟩) 1 1])]) rfl (cf18 _) rfl) ?_
  rintro e W24 ⟨rfl, B⟩
  refine ⟨_, rfl, S.next B, ?_⟩
  simp only [Act.put, List.setIfInBounds_toArray, List.set_cons_zero, List.set_cons_succ]
  replace E := below_next E B
  replace k1 := keep B k1
  replace k2 := keep B k2
  replace k3 := keep B k3
  replace R7 := R7.keep B
  replace k4 := keep B k4
  replace ki8 := keep B ki8
  replace O8 := O8.keep B
  replace k5 := keep B k5
  replace ki9 := keep B ki9
  replace O9 := O9.keep B
  replace k6 := keep B k6
  replace S := S.next B
  replace kf19 := keep B kf19
  replace kf20 := keep B kf20
  refine ah_take (v := (.bool false)) (i := 44) (some 77) rfl rfl (by kernel_rfl) (by kernel_rfl) (by kernel_rfl) rfl (fun W hK => ex_not rfl rfl rfl) S (fun c a w h => hQP c a _ _ w h) ?_
  simp only [Act.put, List.setIfInBounds_toArray, List.set_cons_zero, List.set_cons_succ]
  refine ah_take (v := (.bool false)) (i := 45) (some 78) rfl rfl (by kernel_rfl) (by kernel_rfl) (by kernel_rfl) rfl (fun W hK => ex_pkF rfl rfl rfl) S (fun c a w h => hQP c a _ _ w h) ?_
  simp only [Act.put, List.setIfInBounds_toArray, List.set_cons_zero, List.set_cons_succ]
  refine ah_done (by kernel_rfl) ?_
  clear hQP
  subst hQ
  clear S d_k1 d_k2 d_k3 d_k4 d_k5 d_k6 d_R7 d_ki8 d_O8 d_ki9 d_O9
  refine wp_cond_false rfl ?_
  refine wp_skip ?_
  refine wp_seq ?_
  refine wp_seq ?_
  refine wl_in ?_
  refine wl_cap fun Q hQ => ?_
  refine st_to (v := (.int .i64 0)) (some 14) rfl rfl (ex_asg rfl rfl) ?_
  simp only [Act.put, List.setIfInBounds_toArray, List.set_cons_zero, List.set_cons_succ]
  refine st_end ?_
  subst hQ
  refine wp_block ?_
  go_loopw [14] (fun v14 wr => ∃ i : Nat, i ≤ n ∧ v14 = .int .i64 i ∧ Below w.heap.size w wr ∧ Rw wr W3.heap.size 49 36 g7 n cap7 (flatI Cs n) ∧ wr.heap[b3]? = some (.cells #[.int .i64 x, .int .i64 y, .slice ao n c] 29) ∧ wr.heap[b4]? = some (.cells #[.int .i64 x, .int .i64 y, .slice (some ⟨g7, 0, none⟩) n cap7] 29) ∧ wr.heap[b5]? = some (.cells #[.slice (some ⟨gi8, 0, none⟩) 1 1, .slice (some ⟨go8, 0, none⟩) (n + 2) cap8] 34) ∧ wr.heap[gi8]? = some (.cells (C.extract 3 36 ++ inRest) 61) ∧ Outs wr W6.heap.size go8 (n + 2) cap8 (om (ownN t x y h) (othA t x y h) hv) ol (opth h (othN t h) t.d (U8 pl).toArray hv)) (fun v14 _ => n - (intOf v14).toNat)
  case atStart => exact ⟨0, Nat.zero_le _, rfl, E, R7, k3, k4, k5, ki8, O8⟩
  case round =>
    clear E R7 k3 k4 k5 ki8 O8
    obtain ⟨i, hi, rfl, E, R7, k3, k4, k5, ki8, O8⟩ := hrel
    by_cases hlt : i < n
    · have hH1 := hH
      rcases hH with hh | ⟨b, p, rfl, hh⟩
      · omega
      have HC := hh i hlt
      have Q1 := range_below HC.2 E
      have Q0 : wr.rangeAt g7 (0 + i * 36) (Cs i).toList := fun j v hv => by
        rw [Nat.zero_add]
        exact R7.cell (flatH_at hsh hlt hv)
      refine wp_seq ?_
      refine wp_seq ?_
      refine wl_in ?_
      refine wl_cap fun Q hQ => ?_
      refine st_to (v := (.int .i64 (i : Nat))) (some 79) rfl rfl (ex_mv rfl rfl) ?_
      simp only [Act.put, List.setIfInBounds_toArray, List.set_cons_zero, List.set_cons_succ]
      refine st_to (v := (.pointer (some ⟨b3, 2, none⟩))) (some 80) rfl rfl (ex_fa (p := (.pointer (some ⟨b3, 0, none⟩))) rfl rfl (fa29_2 _ _)) ?_
      simp only [Act.put, List.setIfInBounds_toArray, List.set_cons_zero, List.set_cons_succ]
      refine st_to (v := (.slice (some ⟨b, p, none⟩) n c)) (some 81) rfl rfl (ex_load (p := (.pointer (some ⟨b3, 2, none⟩))) rfl rfl (ld27 (at_cell k3 rfl))) ?_
      simp only [Act.put, List.setIfInBounds_toArray, List.set_cons_zero, List.set_cons_succ]
      refine st_to (v := (.int .i64 (n : Nat))) (some 82) rfl rfl (ex_len rfl rfl (len27 _ _ _ _ _)) ?_
      simp only [Act.put, List.setIfInBounds_toArray, List.set_cons_zero, List.set_cons_succ]
      refine st_to (v := (.bool true)) (some 83) rfl rfl (ex_bin (u := (.int .i64 (i : Nat))) (r := (.int .i64 (n : Nat))) rfl rfl rfl (eg3 _ _ _ _ _ _) (lss3 _ (decide_eq_true (by omega)))) ?_
      simp only [Act.put, List.setIfInBounds_toArray, List.set_cons_zero, List.set_cons_succ]
      refine st_end ?_
      subst hQ
      refine wp_cond_true rfl ?_
      refine wp_skip ?_
      refine wp_seq ?_
      refine wp_block ?_
      refine wp_seq ?_
      obtain ⟨W25, hwd⟩ : ∃ wd, wr.drew = wd := ⟨_, rfl⟩
      refine wp_region_held (S := fun W => Kept Nil W25 W) (by kernel_rfl) ?_
      show wpAnyH _ _ _ _ _ _ _ _ wr.drew
      rw [hwd]
      refine capQ fun Q hQ => ?_
      have hQP : ∀ c (a : Act) (d : Nat) v w, Q (.panic c) (a.put (some d) v) w → Q (.panic c) a w := by
        subst hQ
        exact fun _ _ _ _ _ h => h
      have BD : Below wr.heap.size wr W25 := by rw [← hwd]; exact below_drew (Below.refl _ _)
      clear hwd
      replace E := below_next E BD
      replace R7 := R7.keep BD
      replace k3 := keep BD k3
      replace k4 := keep BD k4
      replace k5 := keep BD k5
      replace ki8 := keep BD ki8
      replace O8 := O8.keep BD
      replace Q0 := range_below Q0 BD
      replace Q1 := range_below Q1 BD
      clear BD
      have S : Kept Nil W25 W25 := Kept.refl _ _
      have d_k3 := k3
      have d_k4 := k4
      have d_k5 := k5
      have d_R7 := R7
      have d_ki8 := ki8
      have d_O8 := O8
      have d_Q0 := Q0
      have d_Q1 := Q1
      refine ah_take (v := (.pointer (some ⟨b4, 2, none⟩))) (i := 0) (some 86) rfl rfl (by kernel_rfl) (by kernel_rfl) (by kernel_rfl) rfl (fun W hK => ex_fa (p := (.pointer (some ⟨b4, 0, none⟩))) rfl rfl (fa29_2 _ _)) S (fun c a w h => hQP c a _ _ w h) ?_
      simp only [Act.put, List.setIfInBounds_toArray, List.set_cons_zero, List.set_cons_succ]
      refine ah_take (v := (.slice (some ⟨g7, 0, none⟩) n cap7)) (i := 1) (some 87) rfl rfl (by kernel_rfl) (by kernel_rfl) (by kernel_rfl) rfl (fun W hK => ex_load (p := (.pointer (some ⟨b4, 2, none⟩))) rfl rfl (ld27 (at_cell (keepK hK d_k4 (nilN _)) rfl))) S (fun c a w h => hQP c a _ _ w h) ?_
      simp only [Act.put, List.setIfInBounds_toArray, List.set_cons_zero, List.set_cons_succ]
      refine ah_take (v := (.int .i64 (i : Nat))) (i := 2) (some 88) rfl rfl (by kernel_rfl) (by kernel_rfl) (by kernel_rfl) rfl (fun W hK => ex_mv rfl rfl) S (fun c a w h => hQP c a _ _ w h) ?_
      simp only [Act.put, List.setIfInBounds_toArray, List.set_cons_zero, List.set_cons_succ]
      refine ah_take (v := (.pointer (some ⟨g7, (0 + i * 36), none⟩))) (i := 3) (some 89) rfl rfl (by kernel_rfl) (by kernel_rfl) (by kernel_rfl) rfl (fun W hK => ex_ix27 rfl rfl rfl hlt) S (fun c a w h => hQP c a _ _ w h) ?_
      simp only [Act.put, List.setIfInBounds_toArray, List.set_cons_zero, List.set_cons_succ]
      refine ah_take (v := (.agg (Cs i))) (i := 4) (some 90) rfl rfl (by kernel_rfl) (by kernel_rfl) (by kernel_rfl) rfl (fun W hK => ex_load rfl rfl (ld_range (range_kept hK d_Q0) Try.underlying49 rfl (inf49.trans (congrArg some HC.1.size.symm)))) S (fun c a w h => hQP c a _ _ w h) ?_
      simp only [Act.put, List.setIfInBounds_toArray, List.set_cons_zero, List.set_cons_succ]
      refine ah_take (v := (.pointer (some ⟨b3, 2, none⟩))) (i := 5) (some 91) rfl rfl (by kernel_rfl) (by kernel_rfl) (by kernel_rfl) rfl (fun W hK => ex_fa (p := (.pointer (some ⟨b3, 0, none⟩))) rfl rfl (fa29_2 _ _)) S (fun c a w h => hQP c a _ _ w h) ?_
      simp only [Act.put, List.setIfInBounds_toArray, List.set_cons_zero, List.set_cons_succ]
      refine ah_take (v := (.slice (some ⟨b, p, none⟩) n c)) (i := 6) (some 92) rfl rfl (by kernel_rfl) (by kernel_rfl) (by kernel_rfl) rfl (fun W hK => ex_load (p := (.pointer (some ⟨b3, 2, none⟩))) rfl rfl (ld27 (at_cell (keepK hK d_k3 (nilN _)) rfl))) S (fun c a w h => hQP c a _ _ w h) ?_
      simp only [Act.put, List.setIfInBounds_toArray, List.set_cons_zero, List.set_cons_succ]
      refine ah_take (v := (.int .i64 (i : Nat))) (i := 7) (some 93) rfl rfl (by kernel_rfl) (by kernel_rfl) (by kernel_rfl) rfl (fun W hK => ex_mv rfl rfl) S (fun c a w h => hQP c a _ _ w h) ?_
      simp only [Act.put, List.setIfInBounds_toArray, List.set_cons_zero, List.set_cons_succ]
      refine ah_take (v := (.pointer (some ⟨b, (p + i * 36), none⟩))) (i := 8) (some 94) rfl rfl (by kernel_rfl) (by kernel_rfl) (by kernel_rfl) rfl (fun W hK => ex_ix27 rfl rfl rfl hlt) S (fun c a w h => hQP c a _ _ w h) ?_
      simp only [Act.put, List.setIfInBounds_toArray, List.set_cons_zero, List.set_cons_succ]
      refine ah_take (v := (.agg (Cs i))) (i := 9) (some 95) rfl rfl (by kernel_rfl) (by kernel_rfl) (by kernel_rfl) rfl (fun W hK => ex_load rfl rfl (ld_range (range_kept hK d_Q1) Try.underlying49 rfl (inf49.trans (congrArg some HC.1.size.symm)))) S (fun c a w h => hQP c a _ _ w h) ?_
      simp only [Act.put, List.setIfInBounds_toArray, List.set_cons_zero, List.set_cons_succ]
      refine ah_take (v := (.bool false)) (i := 10) (some 96) rfl rfl (by kernel_rfl) (by kernel_rfl) (by kernel_rfl) rfl (fun W hK => ex_bin (u := .agg (Cs i)) (r := .agg (Cs i)) rfl rfl rfl (eg49 _ _ _ _ _) (neq_refl HC.1.self _)) S (fun c a w h => hQP c a _ _ w h) ?_
      simp only [Act.put, List.setIfInBounds_toArray, List.set_cons_zero, List.set_cons_succ]
      refine ah_done (by kernel_rfl) ?_
      clear hQP
      subst hQ
      clear S d_k3 d_k4 d_k5 d_R7 d_ki8 d_O8 d_Q0 d_Q1
      refine wp_cond_false rfl ?_
      refine wp_skip ?_
      refine wl_in ?_
      refine wl_cap fun Q hQ => ?_
      refine st_to (v := (.int .i64 (i : Nat))) (some 84) rfl rfl (ex_mv rfl rfl) ?_
      simp only [Act.put, List.setIfInBounds_toArray, List.set_cons_zero, List.set_cons_succ]
      refine st_to (v := (.int .i64 ((i + 1 : Nat) : Int))) (some 85) rfl rfl (ex_bin rfl rfl rfl (eg3 _ _ _ _ _ _) (add3 _ (by omega) (by omega))) ?_
      simp only [Act.put, List.setIfInBounds_toArray, List.set_cons_zero, List.set_cons_succ]
      refine st_to (v := (.int .i64 ((i + 1 : Nat) : Int))) (some 14) rfl rfl (ex_asg rfl rfl) ?_
      simp only [Act.put, List.setIfInBounds_toArray, List.set_cons_zero, List.set_cons_succ]
      refine st_end ?_
      subst hQ
      refine then_go ?_
      go_roundw
      case rel => exact ⟨i + 1, by omega, rfl, E, R7, k3, k4, k5, ki8, O8⟩
      case measure => simp [intOf]; omega
    · skip
      refine wp_seq ?_
      refine wp_seq ?_
      refine wl_in ?_
      refine wl_cap fun Q hQ => ?_
      refine st_to (v := (.int .i64 (i : Nat))) (some 79) rfl rfl (ex_mv rfl rfl) ?_
      simp only [Act.put, List.setIfInBounds_toArray, List.set_cons_zero, List.set_cons_succ]
      refine st_to (v := (.pointer (some ⟨b3, 2, none⟩))) (some 80) rfl rfl (ex_fa (p := (.pointer (some ⟨b3, 0, none⟩))) rfl rfl (fa29_2 _ _)) ?_
      simp only [Act.put, List.setIfInBounds_toArray, List.set_cons_zero, List.set_cons_succ]
      refine st_to (v := (.slice ao n c)) (some 81) rfl rfl (ex_load (p := (.pointer (some ⟨b3, 2, none⟩))) rfl rfl (ld27 (at_cell k3 rfl))) ?_
      simp only [Act.put, List.setIfInBounds_toArray, List.set_cons_zero, List.set_cons_succ]
      refine st_to (v := (.int .i64 (n : Nat))) (some 82) rfl rfl (ex_len rfl rfl (len27 _ _ _ _ _)) ?_
      simp only [Act.put, List.setIfInBounds_toArray, List.set_cons_zero, List.set_cons_succ]
      refine st_to (v := (.bool false)) (some 83) rfl rfl (ex_bin (u := (.int .i64 (i : Nat))) (r := (.int .i64 (n : Nat))) rfl rfl rfl (eg3 _ _ _ _ _ _) (lss3 _ (decide_eq_false (by omega)))) ?_
      simp only [Act.put, List.setIfInBounds_toArray, List.set_cons_zero, List.set_cons_succ]
      refine st_end ?_
      subst hQ
      refine wp_cond_false rfl ?_
      refine wp_exit ?_
      refine ex_then ?_
      refine ex_then ?_
      refine ex_blk ?_
      refine wp_seq ?_
      refine wl_in ?_
      refine wl_cap fun Q hQ => ?_
      refine st_to (v := (.int .i64 0)) (some 97) rfl rfl (ex_mv rfl rfl) ?_
      simp only [Act.put, List.setIfInBounds_toArray, List.set_cons_zero, List.set_cons_succ]
      refine st_to (v := (.bool false)) (some 98) rfl rfl (ex_bin (u := (.int .i64 0)) (r := (.int .i64 0)) rfl rfl rfl (eg35 _ _ _ _ _ _) (neq35 _ (by decide))) ?_
      simp only [Act.put, List.setIfInBounds_toArray, List.set_cons_zero, List.set_cons_succ]
      refine st_to (v := (.bool false)) (some 99) rfl rfl (ex_mv rfl rfl) ?_
      simp only [Act.put, List.setIfInBounds_toArray, List.set_cons_zero, List.set_cons_succ]
      refine st_to (v := (.agg #[.slice (some ⟨gi8, 0, none⟩) 1 1, .slice (some ⟨go8, 0, none⟩) (n + 2) cap8])) (some 100) rfl rfl (ex_load (p := (.pointer (some ⟨b5, 0, none⟩))) rfl rfl (ld_all k5 Try.underlying34 rfl inf34)) ?_
      simp only [Act.put, List.setIfInBounds_toArray, List.set_cons_zero, List.set_cons_succ]
      refine st_call (some 101) rfl rfl (commit_may wr hT hpl hok hR (fun i hi => (hsh i hi).hs) ki8 O8) (ex_call (f := 21) (vs := [(.int .i64 8), (.agg #[.slice (some ⟨gi8, 0, none⟩) 1 1, .slice (some ⟨go8, 0, none⟩) (n + 2) cap8])]) rfl (cf21 _) rfl) ?_
      rintro e W26 ⟨rfl, B⟩
      refine ⟨_, rfl, ?_⟩
      simp only [Act.put, List.setIfInBounds_toArray, List.set_cons_zero, List.set_cons_succ]
      replace E := below_next E B
      replace R7 := R7.keep B
      replace k3 := keep B k3
      replace k4 := keep B k4
      replace k5 := keep B k5
      replace ki8 := keep B ki8
      replace O8 := O8.keep B
      refine st_to (v := (.bool true)) (some 102) rfl rfl (ex_pkF rfl rfl rfl) ?_
      simp only [Act.put, List.setIfInBounds_toArray, List.set_cons_zero, List.set_cons_succ]
      refine st_to (v := (.bool true)) (some 8) rfl rfl (ex_asg rfl rfl) ?_
      simp only [Act.put, List.setIfInBounds_toArray, List.set_cons_zero, List.set_cons_succ]
      refine st_end ?_
      subst hQ
      refine wp_ret ?_
      refine bodyPost_ret (results_tmp Try.results3 _ _ _) rfl ⟨rfl, E⟩
set_option maxHeartbeats 16000000 in
theorem commits_noT {C : Array Value} {t : TV} {x y h : Int} {pl : List Int} {ao : Option Addr} {n c : Nat} {Cs : Nat → Array Value} {hv : Nat → HV} (w : World) (hT : IsT C t) (hb : TB t) (hpl : pl.length = 32) (hH : Hs w ao n Cs hv) (hnil : ao = none → n = 0 ∧ c = 0) (hn : n * 64 ≤ 140737488355328) (hx : x ≤ 9223372036854775807) (hy : y ≤ 9223372036854775807) (hz : ∀ i, i < n → (hv i).am ≤ 9223372036854775807) (hI : IsI (C.extract 3 36 ++ inRest)) (hR : Refl 24 10000 (.agg (C.extract 3 36))) (hok : ¬ (fitsB t x y n hv = true ∧ (h = t.a ∨ h = t.b) ∧ pl ≠ ZL)) (hm : mayT t = true) :
    Calls Try.prog 3 #[.agg C, .int .i64 h, .agg (U8 pl).toArray, .agg #[.int .i64 x, .int .i64 y, .slice ao n c]] w fun e w' => e = .returned (.bool true) ∧ Below w.heap.size w w' := by
  have hsh : ∀ i, i < n → IsH (Cs i) (hv i) := fun i hi => hH.ish hi
  have hn' : n ≤ 140737488355328 := by omega
  have E : Below w.heap.size w w := Below.refl _ _
  go_enter Try.func3, Try.ntmps3
  refine wp_seq ?_
  refine wl_in ?_
  refine wl_cap fun Q hQ => ?_
  refine st_new (fun b => .pointer (some ⟨b, 0, none⟩)) (some 4) rfl rfl (ex_box rfl rfl) ?_
  intro b1 W1 k1 g1 B
  simp only [Act.put, List.setIfInBounds_toArray, List.set_cons_zero, List.set_cons_succ]
  have ge_b1 := Nat.le_trans E.size g1
  replace E := below_next E B
  clear B
  refine st_new (fun b => .pointer (some ⟨b, 0, none⟩)) (some 6) rfl rfl (ex_box rfl rfl) ?_
  intro b2 W2 k2 g2 B
  simp only [Act.put, List.setIfInBounds_toArray, List.set_cons_zero, List.set_cons_succ]
  have ne_b2_b1 : b2 ≠ b1 := fun e => by have := lt_of k1; omega
  have ge_b2 := Nat.le_trans E.size g2
  replace E := below_next E B
  replace k1 := keep B k1
  clear B
  refine st_new (fun b => .pointer (some ⟨b, 0, none⟩)) (some 7) rfl rfl (ex_box rfl rfl) ?_
  intro b3 W3 k3 g3 B
  simp only [Act.put, List.setIfInBounds_toArray, List.set_cons_zero, List.set_cons_succ]
  have ne_b3_b1 : b3 ≠ b1 := fun e => by have := lt_of k1; omega
  have ne_b3_b2 : b3 ≠ b2 := fun e => by have := lt_of k2; omega
  have ge_b3 := Nat.le_trans E.size g3
  replace E := below_next E B
  replace k1 := keep B k1
  replace k2 := keep B k2
  clear B
  refine st_to (v := (.bool false)) (some 8) rfl rfl (ex_asg rfl rfl) ?_
  simp only [Act.put, List.setIfInBounds_toArray, List.set_cons_zero, List.set_cons_succ]
  refine st_end ?_
  subst hQ
  refine wp_seq ?_
  refine wl_in ?_
  refine wl_cap fun Q hQ => ?_
  refine st_to (v := (.agg #[.int .i64 x, .int .i64 y, .slice ao n c])) (some 15) rfl rfl (ex_load (p := (.pointer (some ⟨b3, 0, none⟩))) rfl rfl (ld_all k3 Try.underlying29 rfl inf29)) ?_
  simp only [Act.put, List.setIfInBounds_toArray, List.set_cons_zero, List.set_cons_succ]
  refine st_call (some 16) rfl rfl (copied_ok (x := x) (y := y) (c := c) W3 (hH.below E) hnil hn) (ex_call (f := 7) (vs := [(.agg #[.int .i64 x, .int .i64 y, .slice ao n c])]) rfl (cf7 _) rfl) ?_
  rintro e W4 ⟨g7, cap7, rfl, R7, B⟩
  refine ⟨_, rfl, ?_⟩
  simp only [Act.put, List.setIfInBounds_toArray, List.set_cons_zero, List.set_cons_succ]
  replace E := below_next E B
  replace k1 := keep B k1
  replace k2 := keep B k2
  replace k3 := keep B k3
  refine st_new (fun b => .pointer (some ⟨b, 0, none⟩)) (some 9) rfl rfl (ex_alloc rfl zero29) ?_
  intro b4 W5 k4 g4 B
  simp only [Act.put, List.setIfInBounds_toArray, List.set_cons_zero, List.set_cons_succ]
  have ne_b4_b1 : b4 ≠ b1 := fun e => by have := lt_of k1; omega
  have ne_b4_b2 : b4 ≠ b2 := fun e => by have := lt_of k2; omega
  have ne_b4_b3 : b4 ≠ b3 := fun e => by have := lt_of k3; omega
  have ge_b4 := Nat.le_trans E.size g4
  replace E := below_next E B
  replace k1 := keep B k1
  replace k2 := keep B k2
  replace k3 := keep B k3
  replace R7 := R7.keep B
  clear B
  obtain ⟨W6, hst, kn, K⟩ := put_all (D := #[.int .i64 x, .int .i64 y, .slice (some ⟨g7, 0, none⟩) n cap7]) k4 rfl inf29 (by kernel_rfl)
  refine st_sk rfl rfl (ex_store rfl rfl rfl hst) ?_
  replace E := below_put E ge_b4 K
  replace k1 := keepK K k1 (fun e => ne_tag k1 k4 (by decide) e)
  replace k2 := keepK K k2 (fun e => ne_tag k2 k4 (by decide) e)
  replace k3 := keepK K k3 (fun e => by first | exact ne_b3_b4 e | exact ne_b4_b3 e.symm)
  replace R7 := R7.keepK K (fun e => R7.ne k4 (by decide) e)
  replace k4 := kn
  clear kn K hst
  refine st_end ?_
  subst hQ
  refine wp_seq ?_
  refine wl_in ?_
  refine wl_cap fun Q hQ => ?_
  refine st_to (v := (.agg C)) (some 18) rfl rfl (ex_load (p := (.pointer (some ⟨b1, 0, none⟩))) rfl rfl (ld_all k1 Try.underlying26 rfl (inf26.trans (congrArg some (hT.size).symm)))) ?_
  simp only [Act.put, List.setIfInBounds_toArray, List.set_cons_zero, List.set_cons_succ]
  refine st_to (v := (.int .i64 h)) (some 19) rfl rfl (ex_mv rfl rfl) ?_
  simp only [Act.put, List.setIfInBounds_toArray, List.set_cons_zero, List.set_cons_succ]
  refine st_to (v := (.agg (U8 pl).toArray)) (some 20) rfl rfl (ex_load (p := (.pointer (some ⟨b2, 0, none⟩))) rfl rfl (ld_all k2 Try.underlying22 rfl (inf22.trans (congrArg some ((U8_size _ hpl)).symm)))) ?_
  simp only [Act.put, List.setIfInBounds_toArray, List.set_cons_zero, List.set_cons_succ]
  refine st_to (v := (.agg #[.int .i64 x, .int .i64 y, .slice (some ⟨g7, 0, none⟩) n cap7])) (some 21) rfl rfl (ex_load (p := (.pointer (some ⟨b4, 0, none⟩))) rfl rfl (ld_all k4 Try.underlying29 rfl inf29)) ?_
  simp only [Act.put, List.setIfInBounds_toArray, List.set_cons_zero, List.set_cons_succ]
  refine st_call (some 22) rfl rfl (commit_no W6 hT hb hpl (R7.hs hsh) hn' hx hy hz hok) (ex_call (f := 8) (vs := [(.agg C), (.int .i64 h), (.agg (U8 pl).toArray), (.agg #[.int .i64 x, .int .i64 y, .slice (some ⟨g7, 0, none⟩) n cap7])]) rfl (cf8 _) rfl) ?_
  rintro e W7 ⟨rfl, B⟩
  refine ⟨_, rfl, ?_⟩
  simp only [Act.put, List.setIfInBounds_toArray, List.set_cons_zero, List.set_cons_succ]
  replace E := below_next E B
  replace k1 := keep B k1
  replace k2 := keep B k2
  replace k3 := keep B k3
  replace R7 := R7.keep B
  replace k4 := keep B k4
  refine st_to (v := (.tuple #[(.agg #[.slice none 0 0, .slice none 0 0]), (.int .i64 1)])) (some 17) rfl rfl (ex_mv rfl rfl) ?_
  simp only [Act.put, List.setIfInBounds_toArray, List.set_cons_zero, List.set_cons_succ]
  refine st_to (v := (.agg #[.slice none 0 0, .slice none 0 0])) (some 23) rfl rfl (ex_ext rfl rfl rfl) ?_
  simp only [Act.put, List.setIfInBounds_toArray, List.set_cons_zero, List.set_cons_succ]
  refine st_to (v := (.int .i64 1)) (some 24) rfl rfl (ex_ext rfl rfl rfl) ?_
  simp only [Act.put, List.setIfInBounds_toArray, List.set_cons_zero, List.set_cons_succ]
  refine st_new (fun b => .pointer (some ⟨b, 0, none⟩)) (some 10) rfl rfl (ex_alloc rfl zero34) ?_
  intro b5 W8 k5 g5 B
  simp only [Act.put, List.setIfInBounds_toArray, List.set_cons_zero, List.set_cons_succ]
  have ne_b5_b1 : b5 ≠ b1 := fun e => by have := lt_of k1; omega
  have ne_b5_b2 : b5 ≠ b2 := fun e => by have := lt_of k2; omega
  have ne_b5_b3 : b5 ≠ b3 := fun e => by have := lt_of k3; omega
  have ne_b5_b4 : b5 ≠ b4 := fun e => by have := lt_of k4; omega
  have ge_b5 := Nat.le_trans E.size g5
  replace E := below_next E B
  replace k1 := keep B k1
  replace k2 := keep B k2
  replace k3 := keep B k3
  replace R7 := R7.keep B
  replace k4 := keep B k4
  clear B
  obtain ⟨W9, hst, kn, K⟩ := put_all (D := #[.slice none 0 0, .slice none 0 0]) k5 rfl inf34 (by kernel_rfl)
  refine st_sk rfl rfl (ex_store rfl rfl rfl hst) ?_
  replace E := below_put E ge_b5 K
  replace k1 := keepK K k1 (fun e => ne_tag k1 k5 (by decide) e)
  replace k2 := keepK K k2 (fun e => ne_tag k2 k5 (by decide) e)
  replace k3 := keepK K k3 (fun e => ne_tag k3 k5 (by decide) e)
  replace R7 := R7.keepK K (fun e => R7.ne k5 (by decide) e)
  replace k4 := keepK K k4 (fun e => ne_tag k4 k5 (by decide) e)
  replace k5 := kn
  clear kn K hst
  refine st_to (v := (.int .i64 1)) (some 11) rfl rfl (ex_asg rfl rfl) ?_
  simp only [Act.put, List.setIfInBounds_toArray, List.set_cons_zero, List.set_cons_succ]
  refine st_end ?_
  subst hQ
  refine wp_seq ?_
  refine wl_in ?_
  refine wl_cap fun Q hQ => ?_
  refine st_to (v := (.agg C)) (some 26) rfl rfl (ex_load (p := (.pointer (some ⟨b1, 0, none⟩))) rfl rfl (ld_all k1 Try.underlying26 rfl (inf26.trans (congrArg some (hT.size).symm)))) ?_
  simp only [Act.put, List.setIfInBounds_toArray, List.set_cons_zero, List.set_cons_succ]
  refine st_to (v := (.int .i64 h)) (some 27) rfl rfl (ex_mv rfl rfl) ?_
  simp only [Act.put, List.setIfInBounds_toArray, List.set_cons_zero, List.set_cons_succ]
  refine st_to (v := (.agg (U8 pl).toArray)) (some 28) rfl rfl (ex_load (p := (.pointer (some ⟨b2, 0, none⟩))) rfl rfl (ld_all k2 Try.underlying22 rfl (inf22.trans (congrArg some ((U8_size _ hpl)).symm)))) ?_
  simp only [Act.put, List.setIfInBounds_toArray, List.set_cons_zero, List.set_cons_succ]
  refine st_to (v := (.agg #[.int .i64 x, .int .i64 y, .slice ao n c])) (some 29) rfl rfl (ex_load (p := (.pointer (some ⟨b3, 0, none⟩))) rfl rfl (ld_all k3 Try.underlying29 rfl inf29)) ?_
  simp only [Act.put, List.setIfInBounds_toArray, List.set_cons_zero, List.set_cons_succ]
  refine st_call (some 30) rfl rfl (rcommit_no W9 hT hb hpl (hH.below E) hn' hx hy hz hok) (ex_call (f := 9) (vs := [(.agg C), (.int .i64 h), (.agg (U8 pl).toArray), (.agg #[.int .i64 x, .int .i64 y, .slice ao n c])]) rfl (cf9 _) rfl) ?_
  rintro e W10 ⟨rfl, B⟩
  refine ⟨_, rfl, ?_⟩
  simp only [Act.put, List.setIfInBounds_toArray, List.set_cons_zero, List.set_cons_succ]
  replace E := below_next E B
  replace k1 := keep B k1
  replace k2 := keep B k2
  replace k3 := keep B k3
  replace R7 := R7.keep B
  replace k4 := keep B k4
  replace k5 := keep B k5
  refine st_to (v := (.tuple #[(.agg #[.slice none 0 0, .slice none 0 0]), (.int .i64 1)])) (some 25) rfl rfl (ex_mv rfl rfl) ?_
  simp only [Act.put, List.setIfInBounds_toArray, List.set_cons_zero, List.set_cons_succ]
  refine st_to (v := (.agg #[.slice none 0 0, .slice none 0 0])) (some 31) rfl rfl (ex_ext rfl rfl rfl) ?_
  simp only [Act.put, List.setIfInBounds_toArray, List.set_cons_zero, List.set_cons_succ]
  refine st_to (v := (.int .i64 1)) (some 32) rfl rfl (ex_ext rfl rfl rfl) ?_
  simp only [Act.put, List.setIfInBounds_toArray, List.set_cons_zero, List.set_cons_succ]
  refine st_new (fun b => .pointer (some ⟨b, 0, none⟩)) (some 12) rfl rfl (ex_alloc rfl zero34) ?_
  intro b6 W11 k6 g6 B
  simp only [Act.put, List.setIfInBounds_toArray, List.set_cons_zero, List.set_cons_succ]
  have ne_b6_b1 : b6 ≠ b1 := fun e => by have := lt_of k1; omega
  have ne_b6_b2 : b6 ≠ b2 := fun e => by have := lt_of k2; omega
  have ne_b6_b3 : b6 ≠ b3 := fun e => by have := lt_of k3; omega
  have ne_b6_b4 : b6 ≠ b4 := fun e => by have := lt_of k4; omega
  have ne_b6_b5 : b6 ≠ b5 := fun e => by have := lt_of k5; omega
  have ge_b6 := Nat.le_trans E.size g6
  replace E := below_next E B
  replace k1 := keep B k1
  replace k2 := keep B k2
  replace k3 := keep B k3
  replace R7 := R7.keep B
  replace k4 := keep B k4
  replace k5 := keep B k5
  clear B
  obtain ⟨W12, hst, kn, K⟩ := put_all (D := #[.slice none 0 0, .slice none 0 0]) k6 rfl inf34 (by kernel_rfl)
  refine st_sk rfl rfl (ex_store rfl rfl rfl hst) ?_
  replace E := below_put E ge_b6 K
  replace k1 := keepK K k1 (fun e => ne_tag k1 k6 (by decide) e)
  replace k2 := keepK K k2 (fun e => ne_tag k2 k6 (by decide) e)
  replace k3 := keepK K k3 (fun e => ne_tag k3 k6 (by decide) e)
  replace R7 := R7.keepK K (fun e => R7.ne k6 (by decide) e)
  replace k4 := keepK K k4 (fun e => ne_tag k4 k6 (by decide) e)
  replace k5 := keepK K k5 (fun e => by first | exact ne_b5_b6 e | exact ne_b6_b5 e.symm)
  replace k6 := kn
  clear kn K hst
  refine st_to (v := (.int .i64 1)) (some 13) rfl rfl (ex_asg rfl rfl) ?_
  simp only [Act.put, List.setIfInBounds_toArray, List.set_cons_zero, List.set_cons_succ]
  refine st_end ?_
  subst hQ
  refine wp_seq ?_
  refine wp_seq ?_
  obtain ⟨W13, hwd⟩ : ∃ wd, W12.drew = wd := ⟨_, rfl⟩
  refine wp_region_held (S := fun W => Kept Nil W13 W) (by kernel_rfl) ?_
  show wpAnyH _ _ _ _ _ _ _ _ W12.drew
  rw [hwd]
  refine capQ fun Q hQ => ?_
  have hQP : ∀ c (a : Act) (d : Nat) v w, Q (.panic c) (a.put (some d) v) w → Q (.panic c) a w := by
    subst hQ
    exact fun _ _ _ _ _ h => h
  have BD : Below W12.heap.size W12 W13 := by rw [← hwd]; exact below_drew (Below.refl _ _)
  clear hwd
  replace E := below_next E BD
  replace k1 := keep BD k1
  replace k2 := keep BD k2
  replace k3 := keep BD k3
  replace R7 := R7.keep BD
  replace k4 := keep BD k4
  replace k5 := keep BD k5
  replace k6 := keep BD k6
  clear BD
  have S : Kept Nil W13 W13 := Kept.refl _ _
  have d_k1 := k1
  have d_k2 := k2
  have d_k3 := k3
  have d_k4 := k4
  have d_k5 := k5
  have d_k6 := k6
  have d_R7 := R7
  refine ah_or1 (i := 0) (by kernel_rfl) ?_
  refine nx_call (some 33) rfl rfl rfl (lives_any W13) (ex_call (f := 10) (vs := []) rfl (cf10 _) rfl) ?_
  rintro e W14 ⟨rfl, B⟩
  refine ⟨_, rfl, S.next B, ?_⟩
  simp only [Act.put, List.setIfInBounds_toArray, List.set_cons_zero, List.set_cons_succ]
  replace E := below_next E B
  replace k1 := keep B k1
  replace k2 := keep B k2
  replace k3 := keep B k3
  replace R7 := R7.keep B
  replace k4 := keep B k4
  replace k5 := keep B k5
  replace k6 := keep B k6
  replace S := S.next B
  refine ah_take (v := (.bool false)) (i := 1) (some 34) rfl rfl (by kernel_rfl) (by kernel_rfl) (by kernel_rfl) rfl (fun W hK => ex_not rfl rfl rfl) S (fun c a w h => hQP c a _ _ w h) ?_
  simp only [Act.put, List.setIfInBounds_toArray, List.set_cons_zero, List.set_cons_succ]
  refine ah_take (v := (.bool false)) (i := 2) (some 35) rfl rfl (by kernel_rfl) (by kernel_rfl) (by kernel_rfl) rfl (fun W hK => ex_mv rfl rfl) S (fun c a w h => hQP c a _ _ w h) ?_
  simp only [Act.put, List.setIfInBounds_toArray, List.set_cons_zero, List.set_cons_succ]
  refine ah_take (v := (.agg #[.slice none 0 0, .slice none 0 0])) (i := 3) (some 36) rfl rfl (by kernel_rfl) (by kernel_rfl) (by kernel_rfl) rfl (fun W hK => ex_load (p := (.pointer (some ⟨b5, 0, none⟩))) rfl rfl (ld_all (keepK hK d_k5 (nilN _)) Try.underlying34 rfl inf34)) S (fun c a w h => hQP c a _ _ w h) ?_
  simp only [Act.put, List.setIfInBounds_toArray, List.set_cons_zero, List.set_cons_succ]
  refine ah_take (v := (.agg #[.slice none 0 0, .slice none 0 0])) (i := 4) (some 37) rfl rfl (by kernel_rfl) (by kernel_rfl) (by kernel_rfl) rfl (fun W hK => ex_load (p := (.pointer (some ⟨b6, 0, none⟩))) rfl rfl (ld_all (keepK hK d_k6 (nilN _)) Try.underlying34 rfl inf34)) S (fun c a w h => hQP c a _ _ w h) ?_
  simp only [Act.put, List.setIfInBounds_toArray, List.set_cons_zero, List.set_cons_succ]
  refine ah_or1 (i := 5) (by kernel_rfl) ?_
  refine nx_call (some 38) rfl rfl rfl (same_ok W14 (by decide) (by decide) ⟨.inl rfl, .inl rfl⟩) (ex_call (f := 11) (vs := [(.agg #[.slice none 0 0, .slice none 0 0]), (.agg #[.slice none 0 0, .slice none 0 0])]) rfl (cf11 _) rfl) ?_
  rintro e W15 ⟨rfl, B⟩
  refine ⟨_, rfl, S.next B, ?_⟩
  simp only [Act.put, List.setIfInBounds_toArray, List.set_cons_zero, List.set_cons_succ]
  replace E := below_next E B
  replace k1 := keep B k1
  replace k2 := keep B k2
  replace k3 := keep B k3
  replace R7 := R7.keep B
  replace k4 := keep B k4
  replace k5 := keep B k5
  replace k6 := keep B k6
  replace S := S.next B
  refine ah_take (v := (.bool false)) (i := 6) (some 39) rfl rfl (by kernel_rfl) (by kernel_rfl) (by kernel_rfl) rfl (fun W hK => ex_not rfl rfl rfl) S (fun c a w h => hQP c a _ _ w h) ?_
  simp only [Act.put, List.setIfInBounds_toArray, List.set_cons_zero, List.set_cons_succ]
  refine ah_take (v := (.bool false)) (i := 7) (some 40) rfl rfl (by kernel_rfl) (by kernel_rfl) (by kernel_rfl) rfl (fun W hK => ex_pkF rfl rfl rfl) S (fun c a w h => hQP c a _ _ w h) ?_
  simp only [Act.put, List.setIfInBounds_toArray, List.set_cons_zero, List.set_cons_succ]
  refine ah_take (v := (.bool false)) (i := 8) (some 41) rfl rfl (by kernel_rfl) (by kernel_rfl) (by kernel_rfl) rfl (fun W hK => ex_mv rfl rfl) S (fun c a w h => hQP c a _ _ w h) ?_
  simp only [Act.put, List.setIfInBounds_toArray, List.set_cons_zero, List.set_cons_succ]
  refine ah_take (v := (.int .i64 1)) (i := 9) (some 42) rfl rfl (by kernel_rfl) (by kernel_rfl) (by kernel_rfl) rfl (fun W hK => ex_mv rfl rfl) S (fun c a w h => hQP c a _ _ w h) ?_
  simp only [Act.put, List.setIfInBounds_toArray, List.set_cons_zero, List.set_cons_succ]
  refine ah_take (v := (.int .i64 1)) (i := 10) (some 43) rfl rfl (by kernel_rfl) (by kernel_rfl) (by kernel_rfl) rfl (fun W hK => ex_mv rfl rfl) S (fun c a w h => hQP c a _ _ w h) ?_
  simp only [Act.put, List.setIfInBounds_toArray, List.set_cons_zero, List.set_cons_succ]
  refine ah_take (v := (.bool false)) (i := 11) (some 44) rfl rfl (by kernel_rfl) (by kernel_rfl) (by kernel_rfl) rfl (fun W hK => ex_bin (u := (.int .i64 1)) (r := (.int .i64 1)) rfl rfl rfl (eg35 _ _ _ _ _ _) (neq35 _ (by decide))) S (fun c a w h => hQP c a _ _ w h) ?_
  simp only [Act.put, List.setIfInBounds_toArray, List.set_cons_zero, List.set_cons_succ]
  refine ah_take (v := (.bool false)) (i := 12) (some 45) rfl rfl (by kernel_rfl) (by kernel_rfl) (by kernel_rfl) rfl (fun W hK => ex_pkF rfl rfl rfl) S (fun c a w h => hQP c a _ _ w h) ?_
  simp only [Act.put, List.setIfInBounds_toArray, List.set_cons_zero, List.set_cons_succ]
  refine ah_take (v := (.bool false)) (i := 13) (some 46) rfl rfl (by kernel_rfl) (by kernel_rfl) (by kernel_rfl) rfl (fun W hK => ex_mv rfl rfl) S (fun c a w h => hQP c a _ _ w h) ?_
  simp only [Act.put, List.setIfInBounds_toArray, List.set_cons_zero, List.set_cons_succ]
  refine ah_take (v := (.agg C)) (i := 14) (some 47) rfl rfl (by kernel_rfl) (by kernel_rfl) (by kernel_rfl) rfl (fun W hK => ex_load (p := (.pointer (some ⟨b1, 0, none⟩))) rfl rfl (ld_all (keepK hK d_k1 (nilN _)) Try.underlying26 rfl (inf26.trans (congrArg some (hT.size).symm)))) S (fun c a w h => hQP c a _ _ w h) ?_
  simp only [Act.put, List.setIfInBounds_toArray, List.set_cons_zero, List.set_cons_succ]
  refine ah_take (v := (.agg C)) (i := 16) (some 49) rfl rfl (by kernel_rfl) (by kernel_rfl) (by kernel_rfl) rfl (fun W hK => ex_load (p := (.pointer (some ⟨b1, 0, none⟩))) rfl rfl (ld_all (keepK hK d_k1 (nilN _)) Try.underlying26 rfl (inf26.trans (congrArg some (hT.size).symm)))) S (fun c a w h => hQP c a _ _ w h) ?_
  simp only [Act.put, List.setIfInBounds_toArray, List.set_cons_zero, List.set_cons_succ]
  refine ah_or1 (i := 15) (by kernel_rfl) ?_
  refine nx_call (some 48) rfl rfl rfl (may_any W15 hT hb rfl) (ex_call (f := 12) (vs := [(.agg C)]) rfl (cf12 _) rfl) ?_
  rintro e W16 ⟨rfl, B⟩
  refine ⟨_, rfl, S.next B, ?_⟩
  simp only [Act.put, List.setIfInBounds_toArray, List.set_cons_zero, List.set_cons_succ]
  replace E := below_next E B
  replace k1 := keep B k1
  replace k2 := keep B k2
  replace k3 := keep B k3
  replace R7 := R7.keep B
  replace k4 := keep B k4
  replace k5 := keep B k5
  replace k6 := keep B k6
  replace S := S.next B
  refine ah_or1 (i := 17) (by kernel_rfl) ?_
  refine nx_call (some 50) rfl rfl rfl (rmay_any W16 hT hb rfl) (ex_call (f := 13) (vs := [(.agg C)]) rfl (cf13 _) rfl) ?_
  rintro e W17 ⟨rfl, B⟩
  refine ⟨_, rfl, S.next B, ?_⟩
  simp only [Act.put, List.setIfInBounds_toArray, List.set_cons_zero, List.set_cons_succ]
  replace E := below_next E B
  replace k1 := keep B k1
  replace k2 := keep B k2
  replace k3 := keep B k3
  replace R7 := R7.keep B
  replace k4 := keep B k4
  replace k5 := keep B k5
  replace k6 := keep B k6
  replace S := S.next B
  refine ah_take (v := (.bool false)) (i := 18) (some 51) rfl rfl (by kernel_rfl) (by kernel_rfl) (by kernel_rfl) rfl (fun W hK => ex_bin (u := .bool (mayT t)) (r := .bool (mayT t)) rfl rfl rfl (eg4 _ _ _ _ _ _) (neqB _ _)) S (fun c a w h => hQP c a _ _ w h) ?_
  simp only [Act.put, List.setIfInBounds_toArray, List.set_cons_zero, List.set_cons_succ]
  refine ah_take (v := (.bool false)) (i := 19) (some 52) rfl rfl (by kernel_rfl) (by kernel_rfl) (by kernel_rfl) rfl (fun W hK => ex_pkF rfl rfl rfl) S (fun c a w h => hQP c a _ _ w h) ?_
  simp only [Act.put, List.setIfInBounds_toArray, List.set_cons_zero, List.set_cons_succ]
  refine ah_take (v := (.bool false)) (i := 20) (some 53) rfl rfl (by kernel_rfl) (by kernel_rfl) (by kernel_rfl) rfl (fun W hK => ex_mv rfl rfl) S (fun c a w h => hQP c a _ _ w h) ?_
  simp only [Act.put, List.setIfInBounds_toArray, List.set_cons_zero, List.set_cons_succ]
  refine ah_take (v := (.agg C)) (i := 21) (some 54) rfl rfl (by kernel_rfl) (by kernel_rfl) (by kernel_rfl) rfl (fun W hK => ex_load (p := (.pointer (some ⟨b1, 0, none⟩))) rfl rfl (ld_all (keepK hK d_k1 (nilN _)) Try.underlying26 rfl (inf26.trans (congrArg some (hT.size).symm)))) S (fun c a w h => hQP c a _ _ w h) ?_
  simp only [Act.put, List.setIfInBounds_toArray, List.set_cons_zero, List.set_cons_succ]
  refine ah_take (v := (.agg #[.int .i64 x, .int .i64 y, .slice (some ⟨g7, 0, none⟩) n cap7])) (i := 22) (some 55) rfl rfl (by kernel_rfl) (by kernel_rfl) (by kernel_rfl) rfl (fun W hK => ex_load (p := (.pointer (some ⟨b4, 0, none⟩))) rfl rfl (ld_all (keepK hK d_k4 (nilN _)) Try.underlying29 rfl inf29)) S (fun c a w h => hQP c a _ _ w h) ?_
  simp only [Act.put, List.setIfInBounds_toArray, List.set_cons_zero, List.set_cons_succ]
  refine ah_take (v := (.agg C)) (i := 24) (some 57) rfl rfl (by kernel_rfl) (by kernel_rfl) (by kernel_rfl) rfl (fun W hK => ex_load (p := (.pointer (some ⟨b1, 0, none⟩))) rfl rfl (ld_all (keepK hK d_k1 (nilN _)) Try.underlying26 rfl (inf26.trans (congrArg some (hT.size).symm)))) S (fun c a w h => hQP c a _ _ w h) ?_
  simp only [Act.put, List.setIfInBounds_toArray, List.set_cons_zero, List.set_cons_succ]
  refine ah_take (v := (.agg #[.int .i64 x, .int .i64 y, .slice ao n c])) (i := 25) (some 58) rfl rfl (by kernel_rfl) (by kernel_rfl) (by kernel_rfl) rfl (fun W hK => ex_load (p := (.pointer (some ⟨b3, 0, none⟩))) rfl rfl (ld_all (keepK hK d_k3 (nilN _)) Try.underlying29 rfl inf29)) S (fun c a w h => hQP c a _ _ w h) ?_
  simp only [Act.put, List.setIfInBounds_toArray, List.set_cons_zero, List.set_cons_succ]
  refine ah_or1 (i := 23) (by kernel_rfl) ?_
  refine nx_call (some 56) rfl rfl rfl (fits_any W17 hT hb (R7.hs hsh) hn' hx hy hz rfl) (ex_call (f := 14) (vs := [(.agg C), (.agg #[.int .i64 x, .int .i64 y, .slice (some ⟨g7, 0, none⟩) n cap7])]) rfl (cf14 _) rfl) ?_
  rintro e W18 ⟨rfl, B⟩
  refine ⟨_, rfl, S.next B, ?_⟩
  simp only [Act.put, List.setIfInBounds_toArray, List.set_cons_zero, List.set_cons_succ]
  replace E := below_next E B
  replace k1 := keep B k1
  replace k2 := keep B k2
  replace k3 := keep B k3
  replace R7 := R7.keep B
  replace k4 := keep B k4
  replace k5 := keep B k5
  replace k6 := keep B k6
  replace S := S.next B
  refine ah_or1 (i := 26) (by kernel_rfl) ?_
  refine nx_call (some 59) rfl rfl rfl (rfits_any (c := c) W18 hT hb (hH.below E) hn' hx hy hz rfl) (ex_call (f := 15) (vs := [(.agg C), (.agg #[.int .i64 x, .int .i64 y, .slice ao n c])]) rfl (cf15 _) rfl) ?_
  rintro e W19 ⟨rfl, B⟩
  refine ⟨_, rfl, S.next B, ?_⟩
  simp only [Act.put, List.setIfInBounds_toArray, List.set_cons_zero, List.set_cons_succ]
  replace E := below_next E B
  replace k1 := keep B k1
  replace k2 := keep B k2
  replace k3 := keep B k3
  replace R7 := R7.keep B
  replace k4 := keep B k4
  replace k5 := keep B k5
  replace k6 := keep B k6
  replace S := S.next B
  refine ah_take (v := (.bool false)) (i := 27) (some 60) rfl rfl (by kernel_rfl) (by kernel_rfl) (by kernel_rfl) rfl (fun W hK => ex_bin (u := .bool (fitsB t x y n hv)) (r := .bool (fitsB t x y n hv)) rfl rfl rfl (eg4 _ _ _ _ _ _) (neqB _ _)) S (fun c a w h => hQP c a _ _ w h) ?_
  simp only [Act.put, List.setIfInBounds_toArray, List.set_cons_zero, List.set_cons_succ]
  refine ah_take (v := (.bool false)) (i := 28) (some 61) rfl rfl (by kernel_rfl) (by kernel_rfl) (by kernel_rfl) rfl (fun W hK => ex_pkF rfl rfl rfl) S (fun c a w h => hQP c a _ _ w h) ?_
  simp only [Act.put, List.setIfInBounds_toArray, List.set_cons_zero, List.set_cons_succ]
  refine ah_take (v := (.bool false)) (i := 29) (some 62) rfl rfl (by kernel_rfl) (by kernel_rfl) (by kernel_rfl) rfl (fun W hK => ex_mv rfl rfl) S (fun c a w h => hQP c a _ _ w h) ?_
  simp only [Act.put, List.setIfInBounds_toArray, List.set_cons_zero, List.set_cons_succ]
  refine ah_take (v := (.agg C)) (i := 30) (some 63) rfl rfl (by kernel_rfl) (by kernel_rfl) (by kernel_rfl) rfl (fun W hK => ex_load (p := (.pointer (some ⟨b1, 0, none⟩))) rfl rfl (ld_all (keepK hK d_k1 (nilN _)) Try.underlying26 rfl (inf26.trans (congrArg some (hT.size).symm)))) S (fun c a w h => hQP c a _ _ w h) ?_
  simp only [Act.put, List.setIfInBounds_toArray, List.set_cons_zero, List.set_cons_succ]
  refine ah_take (v := (.int .i64 h)) (i := 31) (some 64) rfl rfl (by kernel_rfl) (by kernel_rfl) (by kernel_rfl) rfl (fun W hK => ex_mv rfl rfl) S (fun c a w h => hQP c a _ _ w h) ?_
  simp only [Act.put, List.setIfInBounds_toArray, List.set_cons_zero, List.set_cons_succ]
  refine ah_take (v := (.agg C)) (i := 33) (some 66) rfl rfl (by kernel_rfl) (by kernel_rfl) (by kernel_rfl) rfl (fun W hK => ex_load (p := (.pointer (some ⟨b1, 0, none⟩))) rfl rfl (ld_all (keepK hK d_k1 (nilN _)) Try.underlying26 rfl (inf26.trans (congrArg some (hT.size).symm)))) S (fun c a w h => hQP c a _ _ w h) ?_
  simp only [Act.put, List.setIfInBounds_toArray, List.set_cons_zero, List.set_cons_succ]
  refine ah_take (v := (.int .i64 h)) (i := 34) (some 67) rfl rfl (by kernel_rfl) (by kernel_rfl) (by kernel_rfl) rfl (fun W hK => ex_mv rfl rfl) S (fun c a w h => hQP c a _ _ w h) ?_
  simp only [Act.put, List.setIfInBounds_toArray, List.set_cons_zero, List.set_cons_succ]
  refine ah_or1 (i := 32) (by kernel_rfl) ?_
  refine nx_call (some 65) rfl rfl rfl (other_any h W19 hT) (ex_call (f := 16) (vs := [(.agg C), (.int .i64 h)]) rfl (cf16 _) rfl) ?_
  rintro e W20 ⟨rfl, B⟩
  refine ⟨_, rfl, S.next B, ?_⟩
  simp only [Act.put, List.setIfInBounds_toArray, List.set_cons_zero, List.set_cons_succ]
  replace E := below_next E B
  replace k1 := keep B k1
  replace k2 := keep B k2
  replace k3 := keep B k3
  replace R7 := R7.keep B
  replace k4 := keep B k4
  replace k5 := keep B k5
  replace k6 := keep B k6
  replace S := S.next B
  refine ah_or1 (i := 35) (by kernel_rfl) ?_
  refine nx_call (some 68) rfl rfl rfl (rother_any h W20 hT) (ex_call (f := 17) (vs := [(.agg C), (.int .i64 h)]) rfl (cf17 _) rfl) ?_
  rintro e W21 ⟨rfl, B⟩
  refine ⟨_, rfl, S.next B, ?_⟩
  simp only [Act.put, List.setIfInBounds_toArray, List.set_cons_zero, List.set_cons_succ]
  replace E := below_next E B
  replace k1 := keep B k1
  replace k2 := keep B k2
  replace k3 := keep B k3
  replace R7 := R7.keep B
  replace k4 := keep B k4
  replace k5 := keep B k5
  replace k6 := keep B k6
  replace S := S.next B
  refine ah_take (v := (.bool false)) (i := 36) (some 69) rfl rfl (by kernel_rfl) (by kernel_rfl) (by kernel_rfl) rfl (fun W hK => ex_bin (u := (.int .i64 (othN t h))) (r := (.int .i64 (othN t h))) rfl rfl rfl (eg3 _ _ _ _ _ _) (neq3 _ (decide_eq_false (fun e => e rfl)))) S (fun c a w h => hQP c a _ _ w h) ?_
  simp only [Act.put, List.setIfInBounds_toArray, List.set_cons_zero, List.set_cons_succ]
  refine ah_take (v := (.bool false)) (i := 37) (some 70) rfl rfl (by kernel_rfl) (by kernel_rfl) (by kernel_rfl) rfl (fun W hK => ex_pkF rfl rfl rfl) S (fun c a w h => hQP c a _ _ w h) ?_
  simp only [Act.put, List.setIfInBounds_toArray, List.set_cons_zero, List.set_cons_succ]
  refine ah_take (v := (.bool false)) (i := 38) (some 71) rfl rfl (by kernel_rfl) (by kernel_rfl) (by kernel_rfl) rfl (fun W hK => ex_mv rfl rfl) S (fun c a w h => hQP c a _ _ w h) ?_
  simp only [Act.put, List.setIfInBounds_toArray, List.set_cons_zero, List.set_cons_succ]
  refine ah_take (v := (.agg C)) (i := 39) (some 72) rfl rfl (by kernel_rfl) (by kernel_rfl) (by kernel_rfl) rfl (fun W hK => ex_load (p := (.pointer (some ⟨b1, 0, none⟩))) rfl rfl (ld_all (keepK hK d_k1 (nilN _)) Try.underlying26 rfl (inf26.trans (congrArg some (hT.size).symm)))) S (fun c a w h => hQP c a _ _ w h) ?_
  simp only [Act.put, List.setIfInBounds_toArray, List.set_cons_zero, List.set_cons_succ]
  refine ah_take (v := (.agg C)) (i := 41) (some 74) rfl rfl (by kernel_rfl) (by kernel_rfl) (by kernel_rfl) rfl (fun W hK => ex_load (p := (.pointer (some ⟨b1, 0, none⟩))) rfl rfl (ld_all (keepK hK d_k1 (nilN _)) Try.underlying26 rfl (inf26.trans (congrArg some (hT.size).symm)))) S (fun c a w h => hQP c a _ _ w h) ?_
  simp only [Act.put, List.setIfInBounds_toArray, List.set_cons_zero, List.set_cons_succ]
  refine ah_or1 (i := 40) (by kernel_rfl) ?_
  refine nx_call (some 73) rfl rfl rfl (fund_ok W21 hT hb hm) (ex_call (f := 19) (vs := [(.agg C)]) rfl (cf19 _) rfl) ?_
  rintro e W22 ⟨f19, rfl, kf19, B⟩
  refine ⟨_, rfl, S.next B, ?_⟩
  simp only [Act.put, List.setIfInBounds_toArray, List.set_cons_zero, List.set_cons_succ]
  replace E := below_next E B
  replace k1 := keep B k1
  replace k2 := keep B k2
  replace k3 := keep B k3
  replace R7 := R7.keep B
  replace k4 := keep B k4
  replace k5 := keep B k5
  replace k6 := keep B k6
  replace S := S.next B
  refine ah_or1 (i := 42) (by kernel_rfl) ?_
  refine nx_call (some 75) rfl rfl rfl (rfund_ok W22 hT hb hm) (ex_call (f := 20) (vs := [(.agg C)]) rfl (cf20 _) rfl) ?_
  rintro e W23 ⟨f20, rfl, kf20, B⟩
  refine ⟨_, rfl, S.next B, ?_⟩
  simp only [Act.put, List.setIfInBounds_toArray, List.set_cons_zero, List.set_cons_succ]
  replace E := below_next E B
  replace k1 := keep B k1
  replace k2 := keep B k2
  replace k3 := keep B k3
  replace R7 := R7.keep B
  replace k4 := keep B k4
  replace k5 := keep B k5
  replace k6 := keep B k6
  replace S := S.next B
  replace kf19 := keep B kf19
  refine ah_or1 (i := 43) (by kernel_rfl) ?_
  refine nx_call (some 76) rfl rfl rfl (sameout_ok W23 (by decide) (self_fund _ _) (.inr ⟨f19, f20, rfl, rfl, kf19, kf20⟩)) (ex_call (f := 18) (vs := [(.agg #[.int .i64 (t.sa + t.sb), .slice (some ⟨f19, 0, none⟩) 1 1]), (.agg #[.int .i64 (t.sa + t.sb), .slice (some ⟨f20, 0, none⟩) 1 1])]) rfl (cf18 _) rfl) ?_
  rintro e W24 ⟨rfl, B⟩
  refine ⟨_, rfl, S.next B, ?_⟩
  simp only [Act.put, List.setIfInBounds_toArray, List.set_cons_zero, List.set_cons_succ]
  replace E := below_next E B
  replace k1 := keep B k1
  replace k2 := keep B k2
  replace k3 := keep B k3
  replace R7 := R7.keep B
  replace k4 := keep B k4
  replace k5 := keep B k5
  replace k6 := keep B k6
  replace S := S.next B
  replace kf19 := keep B kf19
  replace kf20 := keep B kf20
  refine ah_take (v := (.bool false)) (i := 44) (some 77) rfl rfl (by kernel_rfl) (by kernel_rfl) (by kernel_rfl) rfl (fun W hK => ex_not rfl rfl rfl) S (fun c a w h => hQP c a _ _ w h) ?_
  simp only [Act.put, List.setIfInBounds_toArray, List.set_cons_zero, List.set_cons_succ]
  refine ah_take (v := (.bool false)) (i := 45) (some 78) rfl rfl (by kernel_rfl) (by kernel_rfl) (by kernel_rfl) rfl (fun W hK => ex_pkF rfl rfl rfl) S (fun c a w h => hQP c a _ _ w h) ?_
  simp only [Act.put, List.setIfInBounds_toArray, List.set_cons_zero, List.set_cons_succ]
  refine ah_done (by kernel_rfl) ?_
  clear hQP
  subst hQ
  clear S d_k1 d_k2 d_k3 d_k4 d_k5 d_k6 d_R7
  refine wp_cond_false rfl ?_
  refine wp_skip ?_
  refine wp_seq ?_
  refine wp_seq ?_
  refine wl_in ?_
  refine wl_cap fun Q hQ => ?_
  refine st_to (v := (.int .i64 0)) (some 14) rfl rfl (ex_asg rfl rfl) ?_
  simp only [Act.put, List.setIfInBounds_toArray, List.set_cons_zero, List.set_cons_succ]
  refine st_end ?_
  subst hQ
  refine wp_block ?_
  go_loopw [14] (fun v14 wr => ∃ i : Nat, i ≤ n ∧ v14 = .int .i64 i ∧ Below w.heap.size w wr ∧ Rw wr W3.heap.size 49 36 g7 n cap7 (flatI Cs n) ∧ wr.heap[b3]? = some (.cells #[.int .i64 x, .int .i64 y, .slice ao n c] 29) ∧ wr.heap[b4]? = some (.cells #[.int .i64 x, .int .i64 y, .slice (some ⟨g7, 0, none⟩) n cap7] 29) ∧ wr.heap[b5]? = some (.cells #[.slice none 0 0, .slice none 0 0] 34)) (fun v14 _ => n - (intOf v14).toNat)
  case atStart => exact ⟨0, Nat.zero_le _, rfl, E, R7, k3, k4, k5⟩
  case round =>
    clear E R7 k3 k4 k5
    obtain ⟨i, hi, rfl, E, R7, k3, k4, k5⟩ := hrel
    by_cases hlt : i < n
    · have hH1 := hH
      rcases hH with hh | ⟨b, p, rfl, hh⟩
      · omega
      have HC := hh i hlt
      have Q1 := range_below HC.2 E
      have Q0 : wr.rangeAt g7 (0 + i * 36) (Cs i).toList := fun j v hv => by
        rw [Nat.zero_add]
        exact R7.cell (flatH_at hsh hlt hv)
      refine wp_seq ?_
      refine wp_seq ?_
      refine wl_in ?_
      refine wl_cap fun Q hQ => ?_
      refine st_to (v := (.int .i64 (i : Nat))) (some 79) rfl rfl (ex_mv rfl rfl) ?_
      simp only [Act.put, List.setIfInBounds_toArray, List.set_cons_zero, List.set_cons_succ]
      refine st_to (v := (.pointer (some ⟨b3, 2, none⟩))) (some 80) rfl rfl (ex_fa (p := (.pointer (some ⟨b3, 0, none⟩))) rfl rfl (fa29_2 _ _)) ?_
      simp only [Act.put, List.setIfInBounds_toArray, List.set_cons_zero, List.set_cons_succ]
      refine st_to (v := (.slice (some ⟨b, p, none⟩) n c)) (some 81) rfl rfl (ex_load (p := (.pointer (some ⟨b3, 2, none⟩))) rfl rfl (ld27 (at_cell k3 rfl))) ?_
      simp only [Act.put, List.setIfInBounds_toArray, List.set_cons_zero, List.set_cons_succ]
      refine st_to (v := (.int .i64 (n : Nat))) (some 82) rfl rfl (ex_len rfl rfl (len27 _ _ _ _ _)) ?_
      simp only [Act.put, List.setIfInBounds_toArray, List.set_cons_zero, List.set_cons_succ]
      refine st_to (v := (.bool true)) (some 83) rfl rfl (ex_bin (u := (.int .i64 (i : Nat))) (r := (.int .i64 (n : Nat))) rfl rfl rfl (eg3 _ _ _ _ _ _) (lss3 _ (decide_eq_true (by omega)))) ?_
      simp only [Act.put, List.setIfInBounds_toArray, List.set_cons_zero, List.set_cons_succ]
      refine st_end ?_
      subst hQ
      refine wp_cond_true rfl ?_
      refine wp_skip ?_
      refine wp_seq ?_
      refine wp_block ?_
      refine wp_seq ?_
      obtain ⟨W25, hwd⟩ : ∃ wd, wr.drew = wd := ⟨_, rfl⟩
      refine wp_region_held (S := fun W => Kept Nil W25 W) (by kernel_rfl) ?_
      show wpAnyH _ _ _ _ _ _ _ _ wr.drew
      rw [hwd]
      refine capQ fun Q hQ => ?_
      have hQP : ∀ c (a : Act) (d : Nat) v w, Q (.panic c) (a.put (some d) v) w → Q (.panic c) a w := by
        subst hQ
        exact fun _ _ _ _ _ h => h
      have BD : Below wr.heap.size wr W25 := by rw [← hwd]; exact below_drew (Below.refl _ _)
      clear hwd
      replace E := below_next E BD
      replace R7 := R7.keep BD
      replace k3 := keep BD k3
      replace k4 := keep BD k4
      replace k5 := keep BD k5
      replace Q0 := range_below Q0 BD
      replace Q1 := range_below Q1 BD
      clear BD
      have S : Kept Nil W25 W25 := Kept.refl _ _
      have d_k3 := k3
      have d_k4 := k4
      have d_k5 := k5
      have d_R7 := R7
      have d_Q0 := Q0
      have d_Q1 := Q1
      refine ah_take (v := (.pointer (some ⟨b4, 2, none⟩))) (i := 0) (some 86) rfl rfl (by kernel_rfl) (by kernel_rfl) (by kernel_rfl) rfl (fun W hK => ex_fa (p := (.pointer (some ⟨b4, 0, none⟩))) rfl rfl (fa29_2 _ _)) S (fun c a w h => hQP c a _ _ w h) ?_
      simp only [Act.put, List.setIfInBounds_toArray, List.set_cons_zero, List.set_cons_succ]
      refine ah_take (v := (.slice (some ⟨g7, 0, none⟩) n cap7)) (i := 1) (some 87) rfl rfl (by kernel_rfl) (by kernel_rfl) (by kernel_rfl) rfl (fun W hK => ex_load (p := (.pointer (some ⟨b4, 2, none⟩))) rfl rfl (ld27 (at_cell (keepK hK d_k4 (nilN _)) rfl))) S (fun c a w h => hQP c a _ _ w h) ?_
      simp only [Act.put, List.setIfInBounds_toArray, List.set_cons_zero, List.set_cons_succ]
      refine ah_take (v := (.int .i64 (i : Nat))) (i := 2) (some 88) rfl rfl (by kernel_rfl) (by kernel_rfl) (by kernel_rfl) rfl (fun W hK => ex_mv rfl rfl) S (fun c a w h => hQP c a _ _ w h) ?_
      simp only [Act.put, List.setIfInBounds_toArray, List.set_cons_zero, List.set_cons_succ]
      refine ah_take (v := (.pointer (some ⟨g7, (0 + i * 36), none⟩))) (i := 3) (some 89) rfl rfl (by kernel_rfl) (by kernel_rfl) (by kernel_rfl) rfl (fun W hK => ex_ix27 rfl rfl rfl hlt) S (fun c a w h => hQP c a _ _ w h) ?_
      simp only [Act.put, List.setIfInBounds_toArray, List.set_cons_zero, List.set_cons_succ]
      refine ah_take (v := (.agg (Cs i))) (i := 4) (some 90) rfl rfl (by kernel_rfl) (by kernel_rfl) (by kernel_rfl) rfl (fun W hK => ex_load rfl rfl (ld_range (range_kept hK d_Q0) Try.underlying49 rfl (inf49.trans (congrArg some HC.1.size.symm)))) S (fun c a w h => hQP c a _ _ w h) ?_
      simp only [Act.put, List.setIfInBounds_toArray, List.set_cons_zero, List.set_cons_succ]
      refine ah_take (v := (.pointer (some ⟨b3, 2, none⟩))) (i := 5) (some 91) rfl rfl (by kernel_rfl) (by kernel_rfl) (by kernel_rfl) rfl (fun W hK => ex_fa (p := (.pointer (some ⟨b3, 0, none⟩))) rfl rfl (fa29_2 _ _)) S (fun c a w h => hQP c a _ _ w h) ?_
      simp only [Act.put, List.setIfInBounds_toArray, List.set_cons_zero, List.set_cons_succ]
      refine ah_take (v := (.slice (some ⟨b, p, none⟩) n c)) (i := 6) (some 92) rfl rfl (by kernel_rfl) (by kernel_rfl) (by kernel_rfl) rfl (fun W hK => ex_load (p := (.pointer (some ⟨b3, 2, none⟩))) rfl rfl (ld27 (at_cell (keepK hK d_k3 (nilN _)) rfl))) S (fun c a w h => hQP c a _ _ w h) ?_
      simp only [Act.put, List.setIfInBounds_toArray, List.set_cons_zero, List.set_cons_succ]
      refine ah_take (v := (.int .i64 (i : Nat))) (i := 7) (some 93) rfl rfl (by kernel_rfl) (by kernel_rfl) (by kernel_rfl) rfl (fun W hK => ex_mv rfl rfl) S (fun c a w h => hQP c a _ _ w h) ?_
      simp only [Act.put, List.setIfInBounds_toArray, List.set_cons_zero, List.set_cons_succ]
      refine ah_take (v := (.pointer (some ⟨b, (p + i * 36), none⟩))) (i := 8) (some 94) rfl rfl (by kernel_rfl) (by kernel_rfl) (by kernel_rfl) rfl (fun W hK => ex_ix27 rfl rfl rfl hlt) S (fun c a w h => hQP c a _ _ w h) ?_
      simp only [Act.put, List.setIfInBounds_toArray, List.set_cons_zero, List.set_cons_succ]
      refine ah_take (v := (.agg (Cs i))) (i := 9) (some 95) rfl rfl (by kernel_rfl) (by kernel_rfl) (by kernel_rfl) rfl (fun W hK => ex_load rfl rfl (ld_range (range_kept hK d_Q1) Try.underlying49 rfl (inf49.trans (congrArg some HC.1.size.symm)))) S (fun c a w h => hQP c a _ _ w h) ?_
      simp only [Act.put, List.setIfInBounds_toArray, List.set_cons_zero, List.set_cons_succ]
      refine ah_take (v := (.bool false)) (i := 10) (some 96) rfl rfl (by kernel_rfl) (by kernel_rfl) (by kernel_rfl) rfl (fun W hK => ex_bin (u := .agg (Cs i)) (r := .agg (Cs i)) rfl rfl rfl (eg49 _ _ _ _ _) (neq_refl HC.1.self _)) S (fun c a w h => hQP c a _ _ w h) ?_
      simp only [Act.put, List.setIfInBounds_toArray, List.set_cons_zero, List.set_cons_succ]
      refine ah_done (by kernel_rfl) ?_
      clear hQP
      subst hQ
      clear S d_k3 d_k4 d_k5 d_R7 d_Q0 d_Q1
      refine wp_cond_false rfl ?_
      refine wp_skip ?_
      refine wl_in ?_
      refine wl_cap fun Q hQ => ?_
      refine st_to (v := (.int .i64 (i : Nat))) (some 84) rfl rfl (ex_mv rfl rfl) ?_
      simp only [Act.put, List.setIfInBounds_toArray, List.set_cons_zero, List.set_cons_succ]
      refine st_to (v := (.int .i64 ((i + 1 : Nat) : Int))) (some 85) rfl rfl (ex_bin rfl rfl rfl (eg3 _ _ _ _ _ _) (add3 _ (by omega) (by omega))) ?_
      simp only [Act.put, List.setIfInBounds_toArray, List.set_cons_zero, List.set_cons_succ]
      refine st_to (v := (.int .i64 ((i + 1 : Nat) : Int))) (some 14) rfl rfl (ex_asg rfl rfl) ?_
      simp only [Act.put, List.setIfInBounds_toArray, List.set_cons_zero, List.set_cons_succ]
      refine st_end ?_
      subst hQ
      refine then_go ?_
      go_roundw
      case rel => exact ⟨i + 1, by omega, rfl, E, R7, k3, k4, k5⟩
      case measure => simp [intOf]; omega
    · skip
      refine wp_seq ?_
      refine wp_seq ?_
      refine wl_in ?_
      refine wl_cap fun Q hQ => ?_
      refine st_to (v := (.int .i64 (i : Nat))) (some 79) rfl rfl (ex_mv rfl rfl) ?_
      simp only [Act.put, List.setIfInBounds_toArray, List.set_cons_zero, List.set_cons_succ]
      refine st_to (v := (.pointer (some ⟨b3, 2, none⟩))) (some 80) rfl rfl (ex_fa (p := (.pointer (some ⟨b3, 0, none⟩))) rfl rfl (fa29_2 _ _)) ?_
      simp only [Act.put, List.setIfInBounds_toArray, List.set_cons_zero, List.set_cons_succ]
      refine st_to (v := (.slice ao n c)) (some 81) rfl rfl (ex_load (p := (.pointer (some ⟨b3, 2, none⟩))) rfl rfl (ld27 (at_cell k3 rfl))) ?_
      simp only [Act.put, List.setIfInBounds_toArray, List.set_cons_zero, List.set_cons_succ]
      refine st_to (v := (.int .i64 (n : Nat))) (some 82) rfl rfl (ex_len rfl rfl (len27 _ _ _ _ _)) ?_
      simp only [Act.put, List.setIfInBounds_toArray, List.set_cons_zero, List.set_cons_succ]
      refine st_to (v := (.bool false)) (some 83) rfl rfl (ex_bin (u := (.int .i64 (i : Nat))) (r := (.int .i64 (n : Nat))) rfl rfl rfl (eg3 _ _ _ _ _ _) (lss3 _ (decide_eq_false (by omega)))) ?_
      simp only [Act.put, List.setIfInBounds_toArray, List.set_cons_zero, List.set_cons_succ]
      refine st_end ?_
      subst hQ
      refine wp_cond_false rfl ?_
      refine wp_exit ?_
      refine ex_then ?_
      refine ex_then ?_
      refine ex_blk ?_
      refine wp_seq ?_
      refine wl_in ?_
      refine wl_cap fun Q hQ => ?_
      refine st_to (v := (.int .i64 1)) (some 97) rfl rfl (ex_mv rfl rfl) ?_
      simp only [Act.put, List.setIfInBounds_toArray, List.set_cons_zero, List.set_cons_succ]
      refine st_to (v := (.bool true)) (some 98) rfl rfl (ex_bin (u := (.int .i64 1)) (r := (.int .i64 0)) rfl rfl rfl (eg35 _ _ _ _ _ _) (neq35 _ (by decide))) ?_
      simp only [Act.put, List.setIfInBounds_toArray, List.set_cons_zero, List.set_cons_succ]
      refine st_to (v := (.bool true)) (some 99) rfl rfl (ex_mv rfl rfl) ?_
      simp only [Act.put, List.setIfInBounds_toArray, List.set_cons_zero, List.set_cons_succ]
      refine st_no (some 100) rfl rfl ?_
      simp only [Act.put, List.setIfInBounds_toArray, List.set_cons_zero, List.set_cons_succ]
      refine st_no (some 101) rfl rfl ?_
      simp only [Act.put, List.setIfInBounds_toArray, List.set_cons_zero, List.set_cons_succ]
      refine st_to (v := (.bool true)) (some 102) rfl rfl (ex_pkT rfl rfl rfl) ?_
      simp only [Act.put, List.setIfInBounds_toArray, List.set_cons_zero, List.set_cons_succ]
      refine st_to (v := (.bool true)) (some 8) rfl rfl (ex_asg rfl rfl) ?_
      simp only [Act.put, List.setIfInBounds_toArray, List.set_cons_zero, List.set_cons_succ]
      refine st_end ?_
      subst hQ
      refine wp_ret ?_
      refine bodyPost_ret (results_tmp Try.results3 _ _ _) rfl ⟨rfl, E⟩
set_option maxHeartbeats 16000000 in
theorem commits_noF {C : Array Value} {t : TV} {x y h : Int} {pl : List Int} {ao : Option Addr} {n c : Nat} {Cs : Nat → Array Value} {hv : Nat → HV} (w : World) (hT : IsT C t) (hb : TB t) (hpl : pl.length = 32) (hH : Hs w ao n Cs hv) (hnil : ao = none → n = 0 ∧ c = 0) (hn : n * 64 ≤ 140737488355328) (hx : x ≤ 9223372036854775807) (hy : y ≤ 9223372036854775807) (hz : ∀ i, i < n → (hv i).am ≤ 9223372036854775807) (hI : IsI (C.extract 3 36 ++ inRest)) (hR : Refl 24 10000 (.agg (C.extract 3 36))) (hok : ¬ (fitsB t x y n hv = true ∧ (h = t.a ∨ h = t.b) ∧ pl ≠ ZL)) (hm : mayT t = false) :
    Calls Try.prog 3 #[.agg C, .int .i64 h, .agg (U8 pl).toArray, .agg #[.int .i64 x, .int .i64 y, .slice ao n c]] w fun e w' => e = .returned (.bool true) ∧ Below w.heap.size w w' := by
  have hsh : ∀ i, i < n → IsH (Cs i) (hv i) := fun i hi => hH.ish hi
  have hn' : n ≤ 140737488355328 := by omega
  have E : Below w.heap.size w w := Below.refl _ _
  go_enter Try.func3, Try.ntmps3
  refine wp_seq ?_
  refine wl_in ?_
  refine wl_cap fun Q hQ => ?_
  refine st_new (fun b => .pointer (some ⟨b, 0, none⟩)) (some 4) rfl rfl (ex_box rfl rfl) ?_
  intro b1 W1 k1 g1 B
  simp only [Act.put, List.setIfInBounds_toArray, List.set_cons_zero, List.set_cons_succ]
  have ge_b1 := Nat.le_trans E.size g1
  replace E := below_next E B
  clear B
  refine st_new (fun b => .pointer (some ⟨b, 0, none⟩)) (some 6) rfl rfl (ex_box rfl rfl) ?_
  intro b2 W2 k2 g2 B
  simp only [Act.put, List.setIfInBounds_toArray, List.set_cons_zero, List.set_cons_succ]
  have ne_b2_b1 : b2 ≠ b1 := fun e => by have := lt_of k1; omega
  have ge_b2 := Nat.le_trans E.size g2
  replace E := below_next E B
  replace k1 := keep B k1
  clear B
  refine st_new (fun b => .pointer (some ⟨b, 0, none⟩)) (some 7) rfl rfl (ex_box rfl rfl) ?_
  intro b3 W3 k3 g3 B
  simp only [Act.put, List.setIfInBounds_toArray, List.set_cons_zero, List.set_cons_succ]
  have ne_b3_b1 : b3 ≠ b1 := fun e => by have := lt_of k1; omega
  have ne_b3_b2 : b3 ≠ b2 := fun e => by have := lt_of k2; omega
  have ge_b3 := Nat.le_trans E.size g3
  replace E := below_next E B
  replace k1 := keep B k1
  replace k2 := keep B k2
  clear B
  refine st_to (v := (.bool false)) (some 8) rfl rfl (ex_asg rfl rfl) ?_
  simp only [Act.put, List.setIfInBounds_toArray, List.set_cons_zero, List.set_cons_succ]
  refine st_end ?_
  subst hQ
  refine wp_seq ?_
  refine wl_in ?_
  refine wl_cap fun Q hQ => ?_
  refine st_to (v := (.agg #[.int .i64 x, .int .i64 y, .slice ao n c])) (some 15) rfl rfl (ex_load (p := (.pointer (some ⟨b3, 0, none⟩))) rfl rfl (ld_all k3 Try.underlying29 rfl inf29)) ?_
  simp only [Act.put, List.setIfInBounds_toArray, List.set_cons_zero, List.set_cons_succ]
  refine st_call (some 16) rfl rfl (copied_ok (x := x) (y := y) (c := c) W3 (hH.below E) hnil hn) (ex_call (f := 7) (vs := [(.agg #[.int .i64 x, .int .i64 y, .slice ao n c])]) rfl (cf7 _) rfl) ?_
  rintro e W4 ⟨g7, cap7, rfl, R7, B⟩
  refine ⟨_, rfl, ?_⟩
  simp only [Act.put, List.setIfInBounds_toArray, List.set_cons_zero, List.set_cons_succ]
  replace E := below_next E B
  replace k1 := keep B k1
  replace k2 := keep B k2
  replace k3 := keep B k3
  refine st_new (fun b => .pointer (some ⟨b, 0, none⟩)) (some 9) rfl rfl (ex_alloc rfl zero29) ?_
  intro b4 W5 k4 g4 B
  simp only [Act.put, List.setIfInBounds_toArray, List.set_cons_zero, List.set_cons_succ]
  have ne_b4_b1 : b4 ≠ b1 := fun e => by have := lt_of k1; omega
  have ne_b4_b2 : b4 ≠ b2 := fun e => by have := lt_of k2; omega
  have ne_b4_b3 : b4 ≠ b3 := fun e => by have := lt_of k3; omega
  have ge_b4 := Nat.le_trans E.size g4
  replace E := below_next E B
  replace k1 := keep B k1
  replace k2 := keep B k2
  replace k3 := keep B k3
  replace R7 := R7.keep B
  clear B
  obtain ⟨W6, hst, kn, K⟩ := put_all (D := #[.int .i64 x, .int .i64 y, .slice (some ⟨g7, 0, none⟩) n cap7]) k4 rfl inf29 (by kernel_rfl)
  refine st_sk rfl rfl (ex_store rfl rfl rfl hst) ?_
  replace E := below_put E ge_b4 K
  replace k1 := keepK K k1 (fun e => ne_tag k1 k4 (by decide) e)
  replace k2 := keepK K k2 (fun e => ne_tag k2 k4 (by decide) e)
  replace k3 := keepK K k3 (fun e => by first | exact ne_b3_b4 e | exact ne_b4_b3 e.symm)
  replace R7 := R7.keepK K (fun e => R7.ne k4 (by decide) e)
  replace k4 := kn
  clear kn K hst
  refine st_end ?_
  subst hQ
  refine wp_seq ?_
  refine wl_in ?_
  refine wl_cap fun Q hQ => ?_
  refine st_to (v := (.agg C)) (some 18) rfl rfl (ex_load (p := (.pointer (some ⟨b1, 0, none⟩))) rfl rfl (ld_all k1 Try.underlying26 rfl (inf26.trans (congrArg some (hT.size).symm)))) ?_
  simp only [Act.put, List.setIfInBounds_toArray, List.set_cons_zero, List.set_cons_succ]
  refine st_to (v := (.int .i64 h)) (some 19) rfl rfl (ex_mv rfl rfl) ?_
  simp only [Act.put, List.setIfInBounds_toArray, List.set_cons_zero, List.set_cons_succ]
  refine st_to (v := (.agg (U8 pl).toArray)) (some 20) rfl rfl (ex_load (p := (.pointer (some ⟨b2, 0, none⟩))) rfl rfl (ld_all k2 Try.underlying22 rfl (inf22.trans (congrArg some ((U8_size _ hpl)).symm)))) ?_
  simp only [Act.put, List.setIfInBounds_toArray, List.set_cons_zero, List.set_cons_succ]
  refine st_to (v := (.agg #[.int .i64 x, .int .i64 y, .slice (some ⟨g7, 0, none⟩) n cap7])) (some 21) rfl rfl (ex_load (p := (.pointer (some ⟨b4, 0, none⟩))) rfl rfl (ld_all k4 Try.underlying29 rfl inf29)) ?_
  simp only [Act.put, List.setIfInBounds_toArray, List.set_cons_zero, List.set_cons_succ]
  refine st_call (some 22) rfl rfl (commit_no W6 hT hb hpl (R7.hs hsh) hn' hx hy hz hok) (ex_call (f := 8) (vs := [(.agg C), (.int .i64 h), (.agg (U8 pl).toArray), (.agg #[.int .i64 x, .int .i64 y, .slice (some ⟨g7, 0, none⟩) n cap7])]) rfl (cf8 _) rfl) ?_
  rintro e W7 ⟨rfl, B⟩
  refine ⟨_, rfl, ?_⟩
  simp only [Act.put, List.setIfInBounds_toArray, List.set_cons_zero, List.set_cons_succ]
  replace E := below_next E B
  replace k1 := keep B k1
  replace k2 := keep B k2
  replace k3 := keep B k3
  replace R7 := R7.keep B
  replace k4 := keep B k4
  refine st_to (v := (.tuple #[(.agg #[.slice none 0 0, .slice none 0 0]), (.int .i64 1)])) (some 17) rfl rfl (ex_mv rfl rfl) ?_
  simp only [Act.put, List.setIfInBounds_toArray, List.set_cons_zero, List.set_cons_succ]
  refine st_to (v := (.agg #[.slice none 0 0, .slice none 0 0])) (some 23) rfl rfl (ex_ext rfl rfl rfl) ?_
  simp only [Act.put, List.setIfInBounds_toArray, List.set_cons_zero, List.set_cons_succ]
  refine st_to (v := (.int .i64 1)) (some 24) rfl rfl (ex_ext rfl rfl rfl) ?_
  simp only [Act.put, List.setIfInBounds_toArray, List.set_cons_zero, List.set_cons_succ]
  refine st_new (fun b => .pointer (some ⟨b, 0, none⟩)) (some 10) rfl rfl (ex_alloc rfl zero34) ?_
  intro b5 W8 k5 g5 B
  simp only [Act.put, List.setIfInBounds_toArray, List.set_cons_zero, List.set_cons_succ]
  have ne_b5_b1 : b5 ≠ b1 := fun e => by have := lt_of k1; omega
  have ne_b5_b2 : b5 ≠ b2 := fun e => by have := lt_of k2; omega
  have ne_b5_b3 : b5 ≠ b3 := fun e => by have := lt_of k3; omega
  have ne_b5_b4 : b5 ≠ b4 := fun e => by have := lt_of k4; omega
  have ge_b5 := Nat.le_trans E.size g5
  replace E := below_next E B
  replace k1 := keep B k1
  replace k2 := keep B k2
  replace k3 := keep B k3
  replace R7 := R7.keep B
  replace k4 := keep B k4
  clear B
  obtain ⟨W9, hst, kn, K⟩ := put_all (D := #[.slice none 0 0, .slice none 0 0]) k5 rfl inf34 (by kernel_rfl)
  refine st_sk rfl rfl (ex_store rfl rfl rfl hst) ?_
  replace E := below_put E ge_b5 K
  replace k1 := keepK K k1 (fun e => ne_tag k1 k5 (by decide) e)
  replace k2 := keepK K k2 (fun e => ne_tag k2 k5 (by decide) e)
  replace k3 := keepK K k3 (fun e => ne_tag k3 k5 (by decide) e)
  replace R7 := R7.keepK K (fun e => R7.ne k5 (by decide) e)
  replace k4 := keepK K k4 (fun e => ne_tag k4 k5 (by decide) e)
  replace k5 := kn
  clear kn K hst
  refine st_to (v := (.int .i64 1)) (some 11) rfl rfl (ex_asg rfl rfl) ?_
  simp only [Act.put, List.setIfInBounds_toArray, List.set_cons_zero, List.set_cons_succ]
  refine st_end ?_
  subst hQ
  refine wp_seq ?_
  refine wl_in ?_
  refine wl_cap fun Q hQ => ?_
  refine st_to (v := (.agg C)) (some 26) rfl rfl (ex_load (p := (.pointer (some ⟨b1, 0, none⟩))) rfl rfl (ld_all k1 Try.underlying26 rfl (inf26.trans (congrArg some (hT.size).symm)))) ?_
  simp only [Act.put, List.setIfInBounds_toArray, List.set_cons_zero, List.set_cons_succ]
  refine st_to (v := (.int .i64 h)) (some 27) rfl rfl (ex_mv rfl rfl) ?_
  simp only [Act.put, List.setIfInBounds_toArray, List.set_cons_zero, List.set_cons_succ]
  refine st_to (v := (.agg (U8 pl).toArray)) (some 28) rfl rfl (ex_load (p := (.pointer (some ⟨b2, 0, none⟩))) rfl rfl (ld_all k2 Try.underlying22 rfl (inf22.trans (congrArg some ((U8_size _ hpl)).symm)))) ?_
  simp only [Act.put, List.setIfInBounds_toArray, List.set_cons_zero, List.set_cons_succ]
  refine st_to (v := (.agg #[.int .i64 x, .int .i64 y, .slice ao n c])) (some 29) rfl rfl (ex_load (p := (.pointer (some ⟨b3, 0, none⟩))) rfl rfl (ld_all k3 Try.underlying29 rfl inf29)) ?_
  simp only [Act.put, List.setIfInBounds_toArray, List.set_cons_zero, List.set_cons_succ]
  refine st_call (some 30) rfl rfl (rcommit_no W9 hT hb hpl (hH.below E) hn' hx hy hz hok) (ex_call (f := 9) (vs := [(.agg C), (.int .i64 h), (.agg (U8 pl).toArray), (.agg #[.int .i64 x, .int .i64 y, .slice ao n c])]) rfl (cf9 _) rfl) ?_
  rintro e W10 ⟨rfl, B⟩
  refine ⟨_, rfl, ?_⟩
  simp only [Act.put, List.setIfInBounds_toArray, List.set_cons_zero, List.set_cons_succ]
  replace E := below_next E B
  replace k1 := keep B k1
  replace k2 := keep B k2
  replace k3 := keep B k3
  replace R7 := R7.keep B
  replace k4 := keep B k4
  replace k5 := keep B k5
  refine st_to (v := (.tuple #[(.agg #[.slice none 0 0, .slice none 0 0]), (.int .i64 1)])) (some 25) rfl rfl (ex_mv rfl rfl) ?_
  simp only [Act.put, List.setIfInBounds_toArray, List.set_cons_zero, List.set_cons_succ]
  refine st_to (v := (.agg #[.slice none 0 0, .slice none 0 0])) (some 31) rfl rfl (ex_ext rfl rfl rfl) ?_
  simp only [Act.put, List.setIfInBounds_toArray, List.set_cons_zero, List.set_cons_succ]
  refine st_to (v := (.int .i64 1)) (some 32) rfl rfl (ex_ext rfl rfl rfl) ?_
  simp only [Act.put, List.setIfInBounds_toArray, List.set_cons_zero, List.set_cons_succ]
  refine st_new (fun b => .pointer (some ⟨b, 0, none⟩)) (some 12) rfl rfl (ex_alloc rfl zero34) ?_
  intro b6 W11 k6 g6 B
  simp only [Act.put, List.setIfInBounds_toArray, List.set_cons_zero, List.set_cons_succ]
  have ne_b6_b1 : b6 ≠ b1 := fun e => by have := lt_of k1; omega
  have ne_b6_b2 : b6 ≠ b2 := fun e => by have := lt_of k2; omega
  have ne_b6_b3 : b6 ≠ b3 := fun e => by have := lt_of k3; omega
  have ne_b6_b4 : b6 ≠ b4 := fun e => by have := lt_of k4; omega
  have ne_b6_b5 : b6 ≠ b5 := fun e => by have := lt_of k5; omega
  have ge_b6 := Nat.le_trans E.size g6
  replace E := below_next E B
  replace k1 := keep B k1
  replace k2 := keep B k2
  replace k3 := keep B k3
  replace R7 := R7.keep B
  replace k4 := keep B k4
  replace k5 := keep B k5
  clear B
  obtain ⟨W12, hst, kn, K⟩ := put_all (D := #[.slice none 0 0, .slice none 0 0]) k6 rfl inf34 (by kernel_rfl)
  refine st_sk rfl rfl (ex_store rfl rfl rfl hst) ?_
  replace E := below_put E ge_b6 K
  replace k1 := keepK K k1 (fun e => ne_tag k1 k6 (by decide) e)
  replace k2 := keepK K k2 (fun e => ne_tag k2 k6 (by decide) e)
  replace k3 := keepK K k3 (fun e => ne_tag k3 k6 (by decide) e)
  replace R7 := R7.keepK K (fun e => R7.ne k6 (by decide) e)
  replace k4 := keepK K k4 (fun e => ne_tag k4 k6 (by decide) e)
  replace k5 := keepK K k5 (fun e => by first | exact ne_b5_b6 e | exact ne_b6_b5 e.symm)
  replace k6 := kn
  clear kn K hst
  refine st_to (v := (.int .i64 1)) (some 13) rfl rfl (ex_asg rfl rfl) ?_
  simp only [Act.put, List.setIfInBounds_toArray, List.set_cons_zero, List.set_cons_succ]
  refine st_end ?_
  subst hQ
  refine wp_seq ?_
  refine wp_seq ?_
  obtain ⟨W13, hwd⟩ : ∃ wd, W12.drew = wd := ⟨_, rfl⟩
  refine wp_region_held (S := fun W => Kept Nil W13 W) (by kernel_rfl) ?_
  show wpAnyH _ _ _ _ _ _ _ _ W12.drew
  rw [hwd]
  refine capQ fun Q hQ => ?_
  have hQP : ∀ c (a : Act) (d : Nat) v w, Q (.panic c) (a.put (some d) v) w → Q (.panic c) a w := by
    subst hQ
    exact fun _ _ _ _ _ h => h
  have BD : Below W12.heap.size W12 W13 := by rw [← hwd]; exact below_drew (Below.refl _ _)
  clear hwd
  replace E := below_next E BD
  replace k1 := keep BD k1
  replace k2 := keep BD k2
  replace k3 := keep BD k3
  replace R7 := R7.keep BD
  replace k4 := keep BD k4
  replace k5 := keep BD k5
  replace k6 := keep BD k6
  clear BD
  have S : Kept Nil W13 W13 := Kept.refl _ _
  have d_k1 := k1
  have d_k2 := k2
  have d_k3 := k3
  have d_k4 := k4
  have d_k5 := k5
  have d_k6 := k6
  have d_R7 := R7
  refine ah_or1 (i := 0) (by kernel_rfl) ?_
  refine nx_call (some 33) rfl rfl rfl (lives_any W13) (ex_call (f := 10) (vs := []) rfl (cf10 _) rfl) ?_
  rintro e W14 ⟨rfl, B⟩
  refine ⟨_, rfl, S.next B, ?_⟩
  simp only [Act.put, List.setIfInBounds_toArray, List.set_cons_zero, List.set_cons_succ]
  replace E := below_next E B
  replace k1 := keep B k1
  replace k2 := keep B k2
  replace k3 := keep B k3
  replace R7 := R7.keep B
  replace k4 := keep B k4
  replace k5 := keep B k5
  replace k6 := keep B k6
  replace S := S.next B
  refine ah_take (v := (.bool false)) (i := 1) (some 34) rfl rfl (by kernel_rfl) (by kernel_rfl) (by kernel_rfl) rfl (fun W hK => ex_not rfl rfl rfl) S (fun c a w h => hQP c a _ _ w h) ?_
  simp only [Act.put, List.setIfInBounds_toArray, List.set_cons_zero, List.set_cons_succ]
  refine ah_take (v := (.bool false)) (i := 2) (some 35) rfl rfl (by kernel_rfl) (by kernel_rfl) (by kernel_rfl) rfl (fun W hK => ex_mv rfl rfl) S (fun c a w h => hQP c a _ _ w h) ?_
  simp only [Act.put, List.setIfInBounds_toArray, List.set_cons_zero, List.set_cons_succ]
  refine ah_take (v := (.agg #[.slice none 0 0, .slice none 0 0])) (i := 3) (some 36) rfl rfl (by kernel_rfl) (by kernel_rfl) (by kernel_rfl) rfl (fun W hK => ex_load (p := (.pointer (some ⟨b5, 0, none⟩))) rfl rfl (ld_all (keepK hK d_k5 (nilN _)) Try.underlying34 rfl inf34)) S (fun c a w h => hQP c a _ _ w h) ?_
  simp only [Act.put, List.setIfInBounds_toArray, List.set_cons_zero, List.set_cons_succ]
  refine ah_take (v := (.agg #[.slice none 0 0, .slice none 0 0])) (i := 4) (some 37) rfl rfl (by kernel_rfl) (by kernel_rfl) (by kernel_rfl) rfl (fun W hK => ex_load (p := (.pointer (some ⟨b6, 0, none⟩))) rfl rfl (ld_all (keepK hK d_k6 (nilN _)) Try.underlying34 rfl inf34)) S (fun c a w h => hQP c a _ _ w h) ?_
  simp only [Act.put, List.setIfInBounds_toArray, List.set_cons_zero, List.set_cons_succ]
  refine ah_or1 (i := 5) (by kernel_rfl) ?_
  refine nx_call (some 38) rfl rfl rfl (same_ok W14 (by decide) (by decide) ⟨.inl rfl, .inl rfl⟩) (ex_call (f := 11) (vs := [(.agg #[.slice none 0 0, .slice none 0 0]), (.agg #[.slice none 0 0, .slice none 0 0])]) rfl (cf11 _) rfl) ?_
  rintro e W15 ⟨rfl, B⟩
  refine ⟨_, rfl, S.next B, ?_⟩
  simp only [Act.put, List.setIfInBounds_toArray, List.set_cons_zero, List.set_cons_succ]
  replace E := below_next E B
  replace k1 := keep B k1
  replace k2 := keep B k2
  replace k3 := keep B k3
  replace R7 := R7.keep B
  replace k4 := keep B k4
  replace k5 := keep B k5
  replace k6 := keep B k6
  replace S := S.next B
  refine ah_take (v := (.bool false)) (i := 6) (some 39) rfl rfl (by kernel_rfl) (by kernel_rfl) (by kernel_rfl) rfl (fun W hK => ex_not rfl rfl rfl) S (fun c a w h => hQP c a _ _ w h) ?_
  simp only [Act.put, List.setIfInBounds_toArray, List.set_cons_zero, List.set_cons_succ]
  refine ah_take (v := (.bool false)) (i := 7) (some 40) rfl rfl (by kernel_rfl) (by kernel_rfl) (by kernel_rfl) rfl (fun W hK => ex_pkF rfl rfl rfl) S (fun c a w h => hQP c a _ _ w h) ?_
  simp only [Act.put, List.setIfInBounds_toArray, List.set_cons_zero, List.set_cons_succ]
  refine ah_take (v := (.bool false)) (i := 8) (some 41) rfl rfl (by kernel_rfl) (by kernel_rfl) (by kernel_rfl) rfl (fun W hK => ex_mv rfl rfl) S (fun c a w h => hQP c a _ _ w h) ?_
  simp only [Act.put, List.setIfInBounds_toArray, List.set_cons_zero, List.set_cons_succ]
  refine ah_take (v := (.int .i64 1)) (i := 9) (some 42) rfl rfl (by kernel_rfl) (by kernel_rfl) (by kernel_rfl) rfl (fun W hK => ex_mv rfl rfl) S (fun c a w h => hQP c a _ _ w h) ?_
  simp only [Act.put, List.setIfInBounds_toArray, List.set_cons_zero, List.set_cons_succ]
  refine ah_take (v := (.int .i64 1)) (i := 10) (some 43) rfl rfl (by kernel_rfl) (by kernel_rfl) (by kernel_rfl) rfl (fun W hK => ex_mv rfl rfl) S (fun c a w h => hQP c a _ _ w h) ?_
  simp only [Act.put, List.setIfInBounds_toArray, List.set_cons_zero, List.set_cons_succ]
  refine ah_take (v := (.bool false)) (i := 11) (some 44) rfl rfl (by kernel_rfl) (by kernel_rfl) (by kernel_rfl) rfl (fun W hK => ex_bin (u := (.int .i64 1)) (r := (.int .i64 1)) rfl rfl rfl (eg35 _ _ _ _ _ _) (neq35 _ (by decide))) S (fun c a w h => hQP c a _ _ w h) ?_
  simp only [Act.put, List.setIfInBounds_toArray, List.set_cons_zero, List.set_cons_succ]
  refine ah_take (v := (.bool false)) (i := 12) (some 45) rfl rfl (by kernel_rfl) (by kernel_rfl) (by kernel_rfl) rfl (fun W hK => ex_pkF rfl rfl rfl) S (fun c a w h => hQP c a _ _ w h) ?_
  simp only [Act.put, List.setIfInBounds_toArray, List.set_cons_zero, List.set_cons_succ]
  refine ah_take (v := (.bool false)) (i := 13) (some 46) rfl rfl (by kernel_rfl) (by kernel_rfl) (by kernel_rfl) rfl (fun W hK => ex_mv rfl rfl) S (fun c a w h => hQP c a _ _ w h) ?_
  simp only [Act.put, List.setIfInBounds_toArray, List.set_cons_zero, List.set_cons_succ]
  refine ah_take (v := (.agg C)) (i := 14) (some 47) rfl rfl (by kernel_rfl) (by kernel_rfl) (by kernel_rfl) rfl (fun W hK => ex_load (p := (.pointer (some ⟨b1, 0, none⟩))) rfl rfl (ld_all (keepK hK d_k1 (nilN _)) Try.underlying26 rfl (inf26.trans (congrArg some (hT.size).symm)))) S (fun c a w h => hQP c a _ _ w h) ?_
  simp only [Act.put, List.setIfInBounds_toArray, List.set_cons_zero, List.set_cons_succ]
  refine ah_take (v := (.agg C)) (i := 16) (some 49) rfl rfl (by kernel_rfl) (by kernel_rfl) (by kernel_rfl) rfl (fun W hK => ex_load (p := (.pointer (some ⟨b1, 0, none⟩))) rfl rfl (ld_all (keepK hK d_k1 (nilN _)) Try.underlying26 rfl (inf26.trans (congrArg some (hT.size).symm)))) S (fun c a w h => hQP c a _ _ w h) ?_
  simp only [Act.put, List.setIfInBounds_toArray, List.set_cons_zero, List.set_cons_succ]
  refine ah_or1 (i := 15) (by kernel_rfl) ?_
  refine nx_call (some 48) rfl rfl rfl (may_any W15 hT hb rfl) (ex_call (f := 12) (vs := [(.agg C)]) rfl (cf12 _) rfl) ?_
  rintro e W16 ⟨rfl, B⟩
  refine ⟨_, rfl, S.next B, ?_⟩
  simp only [Act.put, List.setIfInBounds_toArray, List.set_cons_zero, List.set_cons_succ]
  replace E := below_next E B
  replace k1 := keep B k1
  replace k2 := keep B k2
  replace k3 := keep B k3
  replace R7 := R7.keep B
  replace k4 := keep B k4
  replace k5 := keep B k5
  replace k6 := keep B k6
  replace S := S.next B
  refine ah_or1 (i := 17) (by kernel_rfl) ?_
  refine nx_call (some 50) rfl rfl rfl (rmay_any W16 hT hb rfl) (ex_call (f := 13) (vs := [(.agg C)]) rfl (cf13 _) rfl) ?_
  rintro e W17 ⟨rfl, B⟩
  refine ⟨_, rfl, S.next B, ?_⟩
  simp only [Act.put, List.setIfInBounds_toArray, List.set_cons_zero, List.set_cons_succ]
  replace E := below_next E B
  replace k1 := keep B k1
  replace k2 := keep B k2
  replace k3 := keep B k3
  replace R7 := R7.keep B
  replace k4 := keep B k4
  replace k5 := keep B k5
  replace k6 := keep B k6
  replace S := S.next B
  refine ah_take (v := (.bool false)) (i := 18) (some 51) rfl rfl (by kernel_rfl) (by kernel_rfl) (by kernel_rfl) rfl (fun W hK => ex_bin (u := .bool (mayT t)) (r := .bool (mayT t)) rfl rfl rfl (eg4 _ _ _ _ _ _) (neqB _ _)) S (fun c a w h => hQP c a _ _ w h) ?_
  simp only [Act.put, List.setIfInBounds_toArray, List.set_cons_zero, List.set_cons_succ]
  refine ah_take (v := (.bool false)) (i := 19) (some 52) rfl rfl (by kernel_rfl) (by kernel_rfl) (by kernel_rfl) rfl (fun W hK => ex_pkF rfl rfl rfl) S (fun c a w h => hQP c a _ _ w h) ?_
  simp only [Act.put, List.setIfInBounds_toArray, List.set_cons_zero, List.set_cons_succ]
  refine ah_take (v := (.bool false)) (i := 20) (some 53) rfl rfl (by kernel_rfl) (by kernel_rfl) (by kernel_rfl) rfl (fun W hK => ex_mv rfl rfl) S (fun c a w h => hQP c a _ _ w h) ?_
  simp only [Act.put, List.setIfInBounds_toArray, List.set_cons_zero, List.set_cons_succ]
  refine ah_take (v := (.agg C)) (i := 21) (some 54) rfl rfl (by kernel_rfl) (by kernel_rfl) (by kernel_rfl) rfl (fun W hK => ex_load (p := (.pointer (some ⟨b1, 0, none⟩))) rfl rfl (ld_all (keepK hK d_k1 (nilN _)) Try.underlying26 rfl (inf26.trans (congrArg some (hT.size).symm)))) S (fun c a w h => hQP c a _ _ w h) ?_
  simp only [Act.put, List.setIfInBounds_toArray, List.set_cons_zero, List.set_cons_succ]
  refine ah_take (v := (.agg #[.int .i64 x, .int .i64 y, .slice (some ⟨g7, 0, none⟩) n cap7])) (i := 22) (some 55) rfl rfl (by kernel_rfl) (by kernel_rfl) (by kernel_rfl) rfl (fun W hK => ex_load (p := (.pointer (some ⟨b4, 0, none⟩))) rfl rfl (ld_all (keepK hK d_k4 (nilN _)) Try.underlying29 rfl inf29)) S (fun c a w h => hQP c a _ _ w h) ?_
  simp only [Act.put, List.setIfInBounds_toArray, List.set_cons_zero, List.set_cons_succ]
  refine ah_take (v := (.agg C)) (i := 24) (some 57) rfl rfl (by kernel_rfl) (by kernel_rfl) (by kernel_rfl) rfl (fun W hK => ex_load (p := (.pointer (some ⟨b1, 0, none⟩))) rfl rfl (ld_all (keepK hK d_k1 (nilN _)) Try.underlying26 rfl (inf26.trans (congrArg some (hT.size).symm)))) S (fun c a w h => hQP c a _ _ w h) ?_
  simp only [Act.put, List.setIfInBounds_toArray, List.set_cons_zero, List.set_cons_succ]
  refine ah_take (v := (.agg #[.int .i64 x, .int .i64 y, .slice ao n c])) (i := 25) (some 58) rfl rfl (by kernel_rfl) (by kernel_rfl) (by kernel_rfl) rfl (fun W hK => ex_load (p := (.pointer (some ⟨b3, 0, none⟩))) rfl rfl (ld_all (keepK hK d_k3 (nilN _)) Try.underlying29 rfl inf29)) S (fun c a w h => hQP c a _ _ w h) ?_
  simp only [Act.put, List.setIfInBounds_toArray, List.set_cons_zero, List.set_cons_succ]
  refine ah_or1 (i := 23) (by kernel_rfl) ?_
  refine nx_call (some 56) rfl rfl rfl (fits_any W17 hT hb (R7.hs hsh) hn' hx hy hz rfl) (ex_call (f := 14) (vs := [(.agg C), (.agg #[.int .i64 x, .int .i64 y, .slice (some ⟨g7, 0, none⟩) n cap7])]) rfl (cf14 _) rfl) ?_
  rintro e W18 ⟨rfl, B⟩
  refine ⟨_, rfl, S.next B, ?_⟩
  simp only [Act.put, List.setIfInBounds_toArray, List.set_cons_zero, List.set_cons_succ]
  replace E := below_next E B
  replace k1 := keep B k1
  replace k2 := keep B k2
  replace k3 := keep B k3
  replace R7 := R7.keep B
  replace k4 := keep B k4
  replace k5 := keep B k5
  replace k6 := keep B k6
  replace S := S.next B
  refine ah_or1 (i := 26) (by kernel_rfl) ?_
  refine nx_call (some 59) rfl rfl rfl (rfits_any (c := c) W18 hT hb (hH.below E) hn' hx hy hz rfl) (ex_call (f := 15) (vs := [(.agg C), (.agg #[.int .i64 x, .int .i64 y, .slice ao n c])]) rfl (cf15 _) rfl) ?_
  rintro e W19 ⟨rfl, B⟩
  refine ⟨_, rfl, S.next B, ?_⟩
  simp only [Act.put, List.setIfInBounds_toArray, List.set_cons_zero, List.set_cons_succ]
  replace E := below_next E B
  replace k1 := keep B k1
  replace k2 := keep B k2
  replace k3 := keep B k3
  replace R7 := R7.keep B
  replace k4 := keep B k4
  replace k5 := keep B k5
  replace k6 := keep B k6
  replace S := S.next B
  refine ah_take (v := (.bool false)) (i := 27) (some 60) rfl rfl (by kernel_rfl) (by kernel_rfl) (by kernel_rfl) rfl (fun W hK => ex_bin (u := .bool (fitsB t x y n hv)) (r := .bool (fitsB t x y n hv)) rfl rfl rfl (eg4 _ _ _ _ _ _) (neqB _ _)) S (fun c a w h => hQP c a _ _ w h) ?_
  simp only [Act.put, List.setIfInBounds_toArray, List.set_cons_zero, List.set_cons_succ]
  refine ah_take (v := (.bool false)) (i := 28) (some 61) rfl rfl (by kernel_rfl) (by kernel_rfl) (by kernel_rfl) rfl (fun W hK => ex_pkF rfl rfl rfl) S (fun c a w h => hQP c a _ _ w h) ?_
  simp only [Act.put, List.setIfInBounds_toArray, List.set_cons_zero, List.set_cons_succ]
  refine ah_take (v := (.bool false)) (i := 29) (some 62) rfl rfl (by kernel_rfl) (by kernel_rfl) (by kernel_rfl) rfl (fun W hK => ex_mv rfl rfl) S (fun c a w h => hQP c a _ _ w h) ?_
  simp only [Act.put, List.setIfInBounds_toArray, List.set_cons_zero, List.set_cons_succ]
  refine ah_take (v := (.agg C)) (i := 30) (some 63) rfl rfl (by kernel_rfl) (by kernel_rfl) (by kernel_rfl) rfl (fun W hK => ex_load (p := (.pointer (some ⟨b1, 0, none⟩))) rfl rfl (ld_all (keepK hK d_k1 (nilN _)) Try.underlying26 rfl (inf26.trans (congrArg some (hT.size).symm)))) S (fun c a w h => hQP c a _ _ w h) ?_
  simp only [Act.put, List.setIfInBounds_toArray, List.set_cons_zero, List.set_cons_succ]
  refine ah_take (v := (.int .i64 h)) (i := 31) (some 64) rfl rfl (by kernel_rfl) (by kernel_rfl) (by kernel_rfl) rfl (fun W hK => ex_mv rfl rfl) S (fun c a w h => hQP c a _ _ w h) ?_
  simp only [Act.put, List.setIfInBounds_toArray, List.set_cons_zero, List.set_cons_succ]
  refine ah_take (v := (.agg C)) (i := 33) (some 66) rfl rfl (by kernel_rfl) (by kernel_rfl) (by kernel_rfl) rfl (fun W hK => ex_load (p := (.pointer (some ⟨b1, 0, none⟩))) rfl rfl (ld_all (keepK hK d_k1 (nilN _)) Try.underlying26 rfl (inf26.trans (congrArg some (hT.size).symm)))) S (fun c a w h => hQP c a _ _ w h) ?_
  simp only [Act.put, List.setIfInBounds_toArray, List.set_cons_zero, List.set_cons_succ]
  refine ah_take (v := (.int .i64 h)) (i := 34) (some 67) rfl rfl (by kernel_rfl) (by kernel_rfl) (by kernel_rfl) rfl (fun W hK => ex_mv rfl rfl) S (fun c a w h => hQP c a _ _ w h) ?_
  simp only [Act.put, List.setIfInBounds_toArray, List.set_cons_zero, List.set_cons_succ]
  refine ah_or1 (i := 32) (by kernel_rfl) ?_
  refine nx_call (some 65) rfl rfl rfl (other_any h W19 hT) (ex_call (f := 16) (vs := [(.agg C), (.int .i64 h)]) rfl (cf16 _) rfl) ?_
  rintro e W20 ⟨rfl, B⟩
  refine ⟨_, rfl, S.next B, ?_⟩
  simp only [Act.put, List.setIfInBounds_toArray, List.set_cons_zero, List.set_cons_succ]
  replace E := below_next E B
  replace k1 := keep B k1
  replace k2 := keep B k2
  replace k3 := keep B k3
  replace R7 := R7.keep B
  replace k4 := keep B k4
  replace k5 := keep B k5
  replace k6 := keep B k6
  replace S := S.next B
  refine ah_or1 (i := 35) (by kernel_rfl) ?_
  refine nx_call (some 68) rfl rfl rfl (rother_any h W20 hT) (ex_call (f := 17) (vs := [(.agg C), (.int .i64 h)]) rfl (cf17 _) rfl) ?_
  rintro e W21 ⟨rfl, B⟩
  refine ⟨_, rfl, S.next B, ?_⟩
  simp only [Act.put, List.setIfInBounds_toArray, List.set_cons_zero, List.set_cons_succ]
  replace E := below_next E B
  replace k1 := keep B k1
  replace k2 := keep B k2
  replace k3 := keep B k3
  replace R7 := R7.keep B
  replace k4 := keep B k4
  replace k5 := keep B k5
  replace k6 := keep B k6
  replace S := S.next B
  refine ah_take (v := (.bool false)) (i := 36) (some 69) rfl rfl (by kernel_rfl) (by kernel_rfl) (by kernel_rfl) rfl (fun W hK => ex_bin (u := (.int .i64 (othN t h))) (r := (.int .i64 (othN t h))) rfl rfl rfl (eg3 _ _ _ _ _ _) (neq3 _ (decide_eq_false (fun e => e rfl)))) S (fun c a w h => hQP c a _ _ w h) ?_
  simp only [Act.put, List.setIfInBounds_toArray, List.set_cons_zero, List.set_cons_succ]
  refine ah_take (v := (.bool false)) (i := 37) (some 70) rfl rfl (by kernel_rfl) (by kernel_rfl) (by kernel_rfl) rfl (fun W hK => ex_pkF rfl rfl rfl) S (fun c a w h => hQP c a _ _ w h) ?_
  simp only [Act.put, List.setIfInBounds_toArray, List.set_cons_zero, List.set_cons_succ]
  refine ah_take (v := (.bool false)) (i := 38) (some 71) rfl rfl (by kernel_rfl) (by kernel_rfl) (by kernel_rfl) rfl (fun W hK => ex_mv rfl rfl) S (fun c a w h => hQP c a _ _ w h) ?_
  simp only [Act.put, List.setIfInBounds_toArray, List.set_cons_zero, List.set_cons_succ]
  refine ah_take (v := (.agg C)) (i := 39) (some 72) rfl rfl (by kernel_rfl) (by kernel_rfl) (by kernel_rfl) rfl (fun W hK => ex_load (p := (.pointer (some ⟨b1, 0, none⟩))) rfl rfl (ld_all (keepK hK d_k1 (nilN _)) Try.underlying26 rfl (inf26.trans (congrArg some (hT.size).symm)))) S (fun c a w h => hQP c a _ _ w h) ?_
  simp only [Act.put, List.setIfInBounds_toArray, List.set_cons_zero, List.set_cons_succ]
  refine ah_take (v := (.agg C)) (i := 41) (some 74) rfl rfl (by kernel_rfl) (by kernel_rfl) (by kernel_rfl) rfl (fun W hK => ex_load (p := (.pointer (some ⟨b1, 0, none⟩))) rfl rfl (ld_all (keepK hK d_k1 (nilN _)) Try.underlying26 rfl (inf26.trans (congrArg some (hT.size).symm)))) S (fun c a w h => hQP c a _ _ w h) ?_
  simp only [Act.put, List.setIfInBounds_toArray, List.set_cons_zero, List.set_cons_succ]
  refine ah_or1 (i := 40) (by kernel_rfl) ?_
  refine nx_call (some 73) rfl rfl rfl (fund_no W21 hT hb hm) (ex_call (f := 19) (vs := [(.agg C)]) rfl (cf19 _) rfl) ?_
  rintro e W22 ⟨rfl, B⟩
  refine ⟨_, rfl, S.next B, ?_⟩
  simp only [Act.put, List.setIfInBounds_toArray, List.set_cons_zero, List.set_cons_succ]
  replace E := below_next E B
  replace k1 := keep B k1
  replace k2 := keep B k2
  replace k3 := keep B k3
  replace R7 := R7.keep B
  replace k4 := keep B k4
  replace k5 := keep B k5
  replace k6 := keep B k6
  replace S := S.next B
  refine ah_or1 (i := 42) (by kernel_rfl) ?_
  refine nx_call (some 75) rfl rfl rfl (rfund_no W22 hT hb hm) (ex_call (f := 20) (vs := [(.agg C)]) rfl (cf20 _) rfl) ?_
  rintro e W23 ⟨rfl, B⟩
  refine ⟨_, rfl, S.next B, ?_⟩
  simp only [Act.put, List.setIfInBounds_toArray, List.set_cons_zero, List.set_cons_succ]
  replace E := below_next E B
  replace k1 := keep B k1
  replace k2 := keep B k2
  replace k3 := keep B k3
  replace R7 := R7.keep B
  replace k4 := keep B k4
  replace k5 := keep B k5
  replace k6 := keep B k6
  replace S := S.next B
  refine ah_or1 (i := 43) (by kernel_rfl) ?_
  refine nx_call (some 76) rfl rfl rfl (sameout_ok (P := #[]) W23 (by decide) ⟨rfl, fun k hk => by omega⟩ (.inl rfl)) (ex_call (f := 18) (vs := [(.agg #[.int .i64 0, .slice none 0 0]), (.agg #[.int .i64 0, .slice none 0 0])]) rfl (cf18 _) rfl) ?_
  rintro e W24 ⟨rfl, B⟩
  refine ⟨_, rfl, S.next B, ?_⟩
  simp only [Act.put, List.setIfInBounds_toArray, List.set_cons_zero, List.set_cons_succ]
  replace E := below_next E B
  replace k1 := keep B k1
  replace k2 := keep B k2
  replace k3 := keep B k3
  replace R7 := R7.keep B
  replace k4 := keep B k4
  replace k5 := keep B k5
  replace k6 := keep B k6
  replace S := S.next B
  refine ah_take (v := (.bool false)) (i := 44) (some 77) rfl rfl (by kernel_rfl) (by kernel_rfl) (by kernel_rfl) rfl (fun W hK => ex_not rfl rfl rfl) S (fun c a w h => hQP c a _ _ w h) ?_
  simp only [Act.put, List.setIfInBounds_toArray, List.set_cons_zero, List.set_cons_succ]
  refine ah_take (v := (.bool false)) (i := 45) (some 78) rfl rfl (by kernel_rfl) (by kernel_rfl) (by kernel_rfl) rfl (fun W hK => ex_pkF rfl rfl rfl) S (fun c a w h => hQP c a _ _ w h) ?_
  simp only [Act.put, List.setIfInBounds_toArray, List.set_cons_zero, List.set_cons_succ]
  refine ah_done (by kernel_rfl) ?_
  clear hQP
  subst hQ
  clear S d_k1 d_k2 d_k3 d_k4 d_k5 d_k6 d_R7
  refine wp_cond_false rfl ?_
  refine wp_skip ?_
  refine wp_seq ?_
  refine wp_seq ?_
  refine wl_in ?_
  refine wl_cap fun Q hQ => ?_
  refine st_to (v := (.int .i64 0)) (some 14) rfl rfl (ex_asg rfl rfl) ?_
  simp only [Act.put, List.setIfInBounds_toArray, List.set_cons_zero, List.set_cons_succ]
  refine st_end ?_
  subst hQ
  refine wp_block ?_
  go_loopw [14] (fun v14 wr => ∃ i : Nat, i ≤ n ∧ v14 = .int .i64 i ∧ Below w.heap.size w wr ∧ Rw wr W3.heap.size 49 36 g7 n cap7 (flatI Cs n) ∧ wr.heap[b3]? = some (.cells #[.int .i64 x, .int .i64 y, .slice ao n c] 29) ∧ wr.heap[b4]? = some (.cells #[.int .i64 x, .int .i64 y, .slice (some ⟨g7, 0, none⟩) n cap7] 29) ∧ wr.heap[b5]? = some (.cells #[.slice none 0 0, .slice none 0 0] 34)) (fun v14 _ => n - (intOf v14).toNat)
  case atStart => exact ⟨0, Nat.zero_le _, rfl, E, R7, k3, k4, k5⟩
  case round =>
    clear E R7 k3 k4 k5
    obtain ⟨i, hi, rfl, E, R7, k3, k4, k5⟩ := hrel
    by_cases hlt : i < n
    · have hH1 := hH
      rcases hH with hh | ⟨b, p, rfl, hh⟩
      · omega
      have HC := hh i hlt
      have Q1 := range_below HC.2 E
      have Q0 : wr.rangeAt g7 (0 + i * 36) (Cs i).toList := fun j v hv => by
        rw [Nat.zero_add]
        exact R7.cell (flatH_at hsh hlt hv)
      refine wp_seq ?_
      refine wp_seq ?_
      refine wl_in ?_
      refine wl_cap fun Q hQ => ?_
      refine st_to (v := (.int .i64 (i : Nat))) (some 79) rfl rfl (ex_mv rfl rfl) ?_
      simp only [Act.put, List.setIfInBounds_toArray, List.set_cons_zero, List.set_cons_succ]
      refine st_to (v := (.pointer (some ⟨b3, 2, none⟩))) (some 80) rfl rfl (ex_fa (p := (.pointer (some ⟨b3, 0, none⟩))) rfl rfl (fa29_2 _ _)) ?_
      simp only [Act.put, List.setIfInBounds_toArray, List.set_cons_zero, List.set_cons_succ]
      refine st_to (v := (.slice (some ⟨b, p, none⟩) n c)) (some 81) rfl rfl (ex_load (p := (.pointer (some ⟨b3, 2, none⟩))) rfl rfl (ld27 (at_cell k3 rfl))) ?_
      simp only [Act.put, List.setIfInBounds_toArray, List.set_cons_zero, List.set_cons_succ]
      refine st_to (v := (.int .i64 (n : Nat))) (some 82) rfl rfl (ex_len rfl rfl (len27 _ _ _ _ _)) ?_
      simp only [Act.put, List.setIfInBounds_toArray, List.set_cons_zero, List.set_cons_succ]
      refine st_to (v := (.bool true)) (some 83) rfl rfl (ex_bin (u := (.int .i64 (i : Nat))) (r := (.int .i64 (n : Nat))) rfl rfl rfl (eg3 _ _ _ _ _ _) (lss3 _ (decide_eq_true (by omega)))) ?_
      simp only [Act.put, List.setIfInBounds_toArray, List.set_cons_zero, List.set_cons_succ]
      refine st_end ?_
      subst hQ
      refine wp_cond_true rfl ?_
      refine wp_skip ?_
      refine wp_seq ?_
      refine wp_block ?_
      refine wp_seq ?_
      obtain ⟨W25, hwd⟩ : ∃ wd, wr.drew = wd := ⟨_, rfl⟩
      refine wp_region_held (S := fun W => Kept Nil W25 W) (by kernel_rfl) ?_
      show wpAnyH _ _ _ _ _ _ _ _ wr.drew
      rw [hwd]
      refine capQ fun Q hQ => ?_
      have hQP : ∀ c (a : Act) (d : Nat) v w, Q (.panic c) (a.put (some d) v) w → Q (.panic c) a w := by
        subst hQ
        exact fun _ _ _ _ _ h => h
      have BD : Below wr.heap.size wr W25 := by rw [← hwd]; exact below_drew (Below.refl _ _)
      clear hwd
      replace E := below_next E BD
      replace R7 := R7.keep BD
      replace k3 := keep BD k3
      replace k4 := keep BD k4
      replace k5 := keep BD k5
      replace Q0 := range_below Q0 BD
      replace Q1 := range_below Q1 BD
      clear BD
      have S : Kept Nil W25 W25 := Kept.refl _ _
      have d_k3 := k3
      have d_k4 := k4
      have d_k5 := k5
      have d_R7 := R7
      have d_Q0 := Q0
      have d_Q1 := Q1
      refine ah_take (v := (.pointer (some ⟨b4, 2, none⟩))) (i := 0) (some 86) rfl rfl (by kernel_rfl) (by kernel_rfl) (by kernel_rfl) rfl (fun W hK => ex_fa (p := (.pointer (some ⟨b4, 0, none⟩))) rfl rfl (fa29_2 _ _)) S (fun c a w h => hQP c a _ _ w h) ?_
      simp only [Act.put, List.setIfInBounds_toArray, List.set_cons_zero, List.set_cons_succ]
      refine ah_take (v := (.slice (some ⟨g7, 0, none⟩) n cap7)) (i := 1) (some 87) rfl rfl (by kernel_rfl) (by kernel_rfl) (by kernel_rfl) rfl (fun W hK => ex_load (p := (.pointer (some ⟨b4, 2, none⟩))) rfl rfl (ld27 (at_cell (keepK hK d_k4 (nilN _)) rfl))) S (fun c a w h => hQP c a _ _ w h) ?_
      simp only [Act.put, List.setIfInBounds_toArray, List.set_cons_zero, List.set_cons_succ]
      refine ah_take (v := (.int .i64 (i : Nat))) (i := 2) (some 88) rfl rfl (by kernel_rfl) (by kernel_rfl) (by kernel_rfl) rfl (fun W hK => ex_mv rfl rfl) S (fun c a w h => hQP c a _ _ w h) ?_
      simp only [Act.put, List.setIfInBounds_toArray, List.set_cons_zero, List.set_cons_succ]
      refine ah_take (v := (.pointer (some ⟨g7, (0 + i * 36), none⟩))) (i := 3) (some 89) rfl rfl (by kernel_rfl) (by kernel_rfl) (by kernel_rfl) rfl (fun W hK => ex_ix27 rfl rfl rfl hlt) S (fun c a w h => hQP c a _ _ w h) ?_
      simp only [Act.put, List.setIfInBounds_toArray, List.set_cons_zero, List.set_cons_succ]
      refine ah_take (v := (.agg (Cs i))) (i := 4) (some 90) rfl rfl (by kernel_rfl) (by kernel_rfl) (by kernel_rfl) rfl (fun W hK => ex_load rfl rfl (ld_range (range_kept hK d_Q0) Try.underlying49 rfl (inf49.trans (congrArg some HC.1.size.symm)))) S (fun c a w h => hQP c a _ _ w h) ?_
      simp only [Act.put, List.setIfInBounds_toArray, List.set_cons_zero, List.set_cons_succ]
      refine ah_take (v := (.pointer (some ⟨b3, 2, none⟩))) (i := 5) (some 91) rfl rfl (by kernel_rfl) (by kernel_rfl) (by kernel_rfl) rfl (fun W hK => ex_fa (p := (.pointer (some ⟨b3, 0, none⟩))) rfl rfl (fa29_2 _ _)) S (fun c a w h => hQP c a _ _ w h) ?_
      simp only [Act.put, List.setIfInBounds_toArray, List.set_cons_zero, List.set_cons_succ]
      refine ah_take (v := (.slice (some ⟨b, p, none⟩) n c)) (i := 6) (some 92) rfl rfl (by kernel_rfl) (by kernel_rfl) (by kernel_rfl) rfl (fun W hK => ex_load (p := (.pointer (some ⟨b3, 2, none⟩))) rfl rfl (ld27 (at_cell (keepK hK d_k3 (nilN _)) rfl))) S (fun c a w h => hQP c a _ _ w h) ?_
      simp only [Act.put, List.setIfInBounds_toArray, List.set_cons_zero, List.set_cons_succ]
      refine ah_take (v := (.int .i64 (i : Nat))) (i := 7) (some 93) rfl rfl (by kernel_rfl) (by kernel_rfl) (by kernel_rfl) rfl (fun W hK => ex_mv rfl rfl) S (fun c a w h => hQP c a _ _ w h) ?_
      simp only [Act.put, List.setIfInBounds_toArray, List.set_cons_zero, List.set_cons_succ]
      refine ah_take (v := (.pointer (some ⟨b, (p + i * 36), none⟩))) (i := 8) (some 94) rfl rfl (by kernel_rfl) (by kernel_rfl) (by kernel_rfl) rfl (fun W hK => ex_ix27 rfl rfl rfl hlt) S (fun c a w h => hQP c a _ _ w h) ?_
      simp only [Act.put, List.setIfInBounds_toArray, List.set_cons_zero, List.set_cons_succ]
      refine ah_take (v := (.agg (Cs i))) (i := 9) (some 95) rfl rfl (by kernel_rfl) (by kernel_rfl) (by kernel_rfl) rfl (fun W hK => ex_load rfl rfl (ld_range (range_kept hK d_Q1) Try.underlying49 rfl (inf49.trans (congrArg some HC.1.size.symm)))) S (fun c a w h => hQP c a _ _ w h) ?_
      simp only [Act.put, List.setIfInBounds_toArray, List.set_cons_zero, List.set_cons_succ]
      refine ah_take (v := (.bool false)) (i := 10) (some 96) rfl rfl (by kernel_rfl) (by kernel_rfl) (by kernel_rfl) rfl (fun W hK => ex_bin (u := .agg (Cs i)) (r := .agg (Cs i)) rfl rfl rfl (eg49 _ _ _ _ _) (neq_refl HC.1.self _)) S (fun c a w h => hQP c a _ _ w h) ?_
      simp only [Act.put, List.setIfInBounds_toArray, List.set_cons_zero, List.set_cons_succ]
      refine ah_done (by kernel_rfl) ?_
      clear hQP
      subst hQ
      clear S d_k3 d_k4 d_k5 d_R7 d_Q0 d_Q1
      refine wp_cond_false rfl ?_
      refine wp_skip ?_
      refine wl_in ?_
      refine wl_cap fun Q hQ => ?_
      refine st_to (v := (.int .i64 (i : Nat))) (some 84) rfl rfl (ex_mv rfl rfl) ?_
      simp only [Act.put, List.setIfInBounds_toArray, List.set_cons_zero, List.set_cons_succ]
      refine st_to (v := (.int .i64 ((i + 1 : Nat) : Int))) (some 85) rfl rfl (ex_bin rfl rfl rfl (eg3 _ _ _ _ _ _) (add3 _ (by omega) (by omega))) ?_
      simp only [Act.put, List.setIfInBounds_toArray, List.set_cons_zero, List.set_cons_succ]
      refine st_to (v := (.int .i64 ((i + 1 : Nat) : Int))) (some 14) rfl rfl (ex_asg rfl rfl) ?_
      simp only [Act.put, List.setIfInBounds_toArray, List.set_cons_zero, List.set_cons_succ]
      refine st_end ?_
      subst hQ
      refine then_go ?_
      go_roundw
      case rel => exact ⟨i + 1, by omega, rfl, E, R7, k3, k4, k5⟩
      case measure => simp [intOf]; omega
    · skip
      refine wp_seq ?_
      refine wp_seq ?_
      refine wl_in ?_
      refine wl_cap fun Q hQ => ?_
      refine st_to (v := (.int .i64 (i : Nat))) (some 79) rfl rfl (ex_mv rfl rfl) ?_
      simp only [Act.put, List.setIfInBounds_toArray, List.set_cons_zero, List.set_cons_succ]
      refine st_to (v := (.pointer (some ⟨b3, 2, none⟩))) (some 80) rfl rfl (ex_fa (p := (.pointer (some ⟨b3, 0, none⟩))) rfl rfl (fa29_2 _ _)) ?_
      simp only [Act.put, List.setIfInBounds_toArray, List.set_cons_zero, List.set_cons_succ]
      refine st_to (v := (.slice ao n c)) (some 81) rfl rfl (ex_load (p := (.pointer (some ⟨b3, 2, none⟩))) rfl rfl (ld27 (at_cell k3 rfl))) ?_
      simp only [Act.put, List.setIfInBounds_toArray, List.set_cons_zero, List.set_cons_succ]
      refine st_to (v := (.int .i64 (n : Nat))) (some 82) rfl rfl (ex_len rfl rfl (len27 _ _ _ _ _)) ?_
      simp only [Act.put, List.setIfInBounds_toArray, List.set_cons_zero, List.set_cons_succ]
      refine st_to (v := (.bool false)) (some 83) rfl rfl (ex_bin (u := (.int .i64 (i : Nat))) (r := (.int .i64 (n : Nat))) rfl rfl rfl (eg3 _ _ _ _ _ _) (lss3 _ (decide_eq_false (by omega)))) ?_
      simp only [Act.put, List.setIfInBounds_toArray, List.set_cons_zero, List.set_cons_succ]
      refine st_end ?_
      subst hQ
      refine wp_cond_false rfl ?_
      refine wp_exit ?_
      refine ex_then ?_
      refine ex_then ?_
      refine ex_blk ?_
      refine wp_seq ?_
      refine wl_in ?_
      refine wl_cap fun Q hQ => ?_
      refine st_to (v := (.int .i64 1)) (some 97) rfl rfl (ex_mv rfl rfl) ?_
      simp only [Act.put, List.setIfInBounds_toArray, List.set_cons_zero, List.set_cons_succ]
      refine st_to (v := (.bool true)) (some 98) rfl rfl (ex_bin (u := (.int .i64 1)) (r := (.int .i64 0)) rfl rfl rfl (eg35 _ _ _ _ _ _) (neq35 _ (by decide))) ?_
      simp only [Act.put, List.setIfInBounds_toArray, List.set_cons_zero, List.set_cons_succ]
      refine st_to (v := (.bool true)) (some 99) rfl rfl (ex_mv rfl rfl) ?_
      simp only [Act.put, List.setIfInBounds_toArray, List.set_cons_zero, List.set_cons_succ]
      refine st_no (some 100) rfl rfl ?_
      simp only [Act.put, List.setIfInBounds_toArray, List.set_cons_zero, List.set_cons_succ]
      refine st_no (some 101) rfl rfl ?_
      simp only [Act.put, List.setIfInBounds_toArray, List.set_cons_zero, List.set_cons_succ]
      refine st_to (v := (.bool true)) (some 102) rfl rfl (ex_pkT rfl rfl rfl) ?_
      simp only [Act.put, List.setIfInBounds_toArray, List.set_cons_zero, List.set_cons_succ]
      refine st_to (v := (.bool true)) (some 8) rfl rfl (ex_asg rfl rfl) ?_
      simp only [Act.put, List.setIfInBounds_toArray, List.set_cons_zero, List.set_cons_succ]
      refine st_end ?_
      subst hQ
      refine wp_ret ?_
      refine bodyPost_ret (results_tmp Try.results3 _ _ _) rfl ⟨rfl, E⟩
theorem commits_any {C : Array Value} {t : TV} {x y h : Int} {pl : List Int} {ao : Option Addr} {n c : Nat} {Cs : Nat → Array Value} {hv : Nat → HV} (w : World) (hT : IsT C t) (hb : TB t) (hpl : pl.length = 32) (hH : Hs w ao n Cs hv) (hnil : ao = none → n = 0 ∧ c = 0) (hn : n * 64 ≤ 140737488355328) (hx : x ≤ 9223372036854775807) (hy : y ≤ 9223372036854775807) (hz : ∀ i, i < n → (hv i).am ≤ 9223372036854775807) (hI : IsI (C.extract 3 36 ++ inRest)) (hR : Refl 24 10000 (.agg (C.extract 3 36))) : Calls Try.prog 3 #[.agg C, .int .i64 h, .agg (U8 pl).toArray, .agg #[.int .i64 x, .int .i64 y, .slice ao n c]] w fun e w' => e = .returned (.bool true) ∧ Below w.heap.size w w' := by
  by_cases hok : fitsB t x y n hv = true ∧ (h = t.a ∨ h = t.b) ∧ pl ≠ ZL
  · exact commits_ok w hT hb hpl hH hnil hn hx hy hz hI hR hok (fits_parts hok.1).1
  · cases hm : mayT t with
    | true => exact commits_noT w hT hb hpl hH hnil hn hx hy hz hI hR hok hm
    | false => exact commits_noF w hT hb hpl hH hnil hn hx hy hz hI hR hok hm
end Go.Proofs.Ytkhpbjafdamhaaa
