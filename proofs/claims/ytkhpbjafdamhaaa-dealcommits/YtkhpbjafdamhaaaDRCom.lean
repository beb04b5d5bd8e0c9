/- The document's commitment, where it has none. -/
import Derived.Test.YtkhpbjafdamhaaaDRFits
namespace Go.Proofs.Ytkhpbjafdamhaaa
open Go.RowKit
set_option linter.unusedVariables false
set_option linter.unusedSimpArgs false
set_option maxRecDepth 100000

set_option maxHeartbeats 2000000 in
theorem rcommit_m {C : Array Value} {t : TV} {x y h : Int} {pl : List Int} {ao : Option Addr} {n c : Nat} {Cs : Nat → Array Value} {hv : Nat → HV} (w : World) (hT : IsT C t) (hb : TB t) (hpl : pl.length = 32) (hH : Hs w ao n Cs hv) (hn : n ≤ 140737488355328) (hx : x ≤ 9223372036854775807) (hy : y ≤ 9223372036854775807) (hz : ∀ i, i < n → (hv i).am ≤ 9223372036854775807) (c0 : mayT t = false) :
    Calls Try.prog 9 #[.agg C, .int .i64 h, .agg (U8 pl).toArray, .agg #[.int .i64 x, .int .i64 y, .slice ao n c]] w fun e w' => e = .returned (.tuple #[.agg #[.slice none 0 0, .slice none 0 0], .int .i64 1]) ∧ Below w.heap.size w w' := by
  have E : Below w.heap.size w w := Below.refl _ _
  go_enter Try.func9, Try.ntmps9
  have hH0 := hH
  refine wp_seq ?_
  refine wl_in ?_
  refine wl_cap fun Q hQ => ?_
  refine st_new (fun b => .pointer (some ⟨b, 0, none⟩)) (some 4) rfl rfl (ex_box rfl rfl) ?_
  intro b1 W1 k1 g1 B
  simp only [Act.put, List.setIfInBounds_toArray, List.set_cons_zero, List.set_cons_succ]
  have ge_b1 := Nat.le_trans E.size g1
  replace E := below_next E B
  replace hH := hH.below B
  clear B
  refine st_new (fun b => .pointer (some ⟨b, 0, none⟩)) (some 6) rfl rfl (ex_box rfl rfl) ?_
  intro b2 W2 k2 g2 B
  simp only [Act.put, List.setIfInBounds_toArray, List.set_cons_zero, List.set_cons_succ]
  have ne_b2_b1 : b2 ≠ b1 := fun e => by have := lt_of k1; omega
  have ge_b2 := Nat.le_trans E.size g2
  replace E := below_next E B
  replace hH := hH.below B
  replace k1 := keep B k1
  clear B
  refine st_new (fun b => .pointer (some ⟨b, 0, none⟩)) (some 7) rfl rfl (ex_box rfl rfl) ?_
  intro b3 W3 k3 g3 B
  simp only [Act.put, List.setIfInBounds_toArray, List.set_cons_zero, List.set_cons_succ]
  have ne_b3_b1 : b3 ≠ b1 := fun e => by have := lt_of k1; omega
  have ne_b3_b2 : b3 ≠ b2 := fun e => by have := lt_of k2; omega
  have ge_b3 := Nat.le_trans E.size g3
  replace E := below_next E B
  replace hH := hH.below B
  replace k1 := keep B k1
  replace k2 := keep B k2
  clear B
  refine st_new (fun b => .pointer (some ⟨b, 0, none⟩)) (some 8) rfl rfl (ex_alloc rfl zero34) ?_
  intro b4 W4 k4 g4 B
  simp only [Act.put, List.setIfInBounds_toArray, List.set_cons_zero, List.set_cons_succ]
  have ne_b4_b1 : b4 ≠ b1 := fun e => by have := lt_of k1; omega
  have ne_b4_b2 : b4 ≠ b2 := fun e => by have := lt_of k2; omega
  have ne_b4_b3 : b4 ≠ b3 := fun e => by have := lt_of k3; omega
  have ge_b4 := Nat.le_trans E.size g4
  replace E := below_next E B
  replace hH := hH.below B
  replace k1 := keep B k1
  replace k2 := keep B k2
  replace k3 := keep B k3
  clear B
  refine st_to (v := (.int .i64 0)) (some 9) rfl rfl (ex_asg rfl rfl) ?_
  simp only [Act.put, List.setIfInBounds_toArray, List.set_cons_zero, List.set_cons_succ]
  refine st_end ?_
  subst hQ
  refine wp_seq ?_
  refine wp_seq ?_
  refine wl_in ?_
  refine wl_cap fun Q hQ => ?_
  refine st_to (v := (.agg C)) (some 18) rfl rfl (ex_load (p := (.pointer (some ⟨b1, 0, none⟩))) rfl rfl (ld_all k1 Try.underlying26 rfl (inf26.trans (congrArg some (hT.size).symm)))) ?_
  simp only [Act.put, List.setIfInBounds_toArray, List.set_cons_zero, List.set_cons_succ]
  refine st_call (some 19) rfl rfl (rmay_any W4 hT hb c0) (ex_call (f := 13) (vs := [(.agg C)]) rfl (cf13 _) rfl) ?_
  rintro e W5 ⟨rfl, B⟩
  refine ⟨_, rfl, ?_⟩
  simp only [Act.put, List.setIfInBounds_toArray, List.set_cons_zero, List.set_cons_succ]
  replace E := below_next E B
  replace hH := hH.below B
  replace k1 := keep B k1
  replace k2 := keep B k2
  replace k3 := keep B k3
  replace k4 := keep B k4
  refine st_to (v := (.bool true)) (some 20) rfl rfl (ex_not rfl rfl rfl) ?_
  simp only [Act.put, List.setIfInBounds_toArray, List.set_cons_zero, List.set_cons_succ]
  refine st_to (v := (.bool true)) (some 21) rfl rfl (ex_mv rfl rfl) ?_
  simp only [Act.put, List.setIfInBounds_toArray, List.set_cons_zero, List.set_cons_succ]
  refine st_no (some 22) rfl rfl ?_
  simp only [Act.put, List.setIfInBounds_toArray, List.set_cons_zero, List.set_cons_succ]
  refine st_no (some 23) rfl rfl ?_
  simp only [Act.put, List.setIfInBounds_toArray, List.set_cons_zero, List.set_cons_succ]
  refine st_no (some 24) rfl rfl ?_
  simp only [Act.put, List.setIfInBounds_toArray, List.set_cons_zero, List.set_cons_succ]
  refine st_no (some 25) rfl rfl ?_
  simp only [Act.put, List.setIfInBounds_toArray, List.set_cons_zero, List.set_cons_succ]
  refine st_no (some 26) rfl rfl ?_
  simp only [Act.put, List.setIfInBounds_toArray, List.set_cons_zero, List.set_cons_succ]
  refine st_no (some 27) rfl rfl ?_
  simp only [Act.put, List.setIfInBounds_toArray, List.set_cons_zero, List.set_cons_succ]
  refine st_no (some 28) rfl rfl ?_
  simp only [Act.put, List.setIfInBounds_toArray, List.set_cons_zero, List.set_cons_succ]
  refine st_no (some 29) rfl rfl ?_
  simp only [Act.put, List.setIfInBounds_toArray, List.set_cons_zero, List.set_cons_succ]
  refine st_no (some 30) rfl rfl ?_
  simp only [Act.put, List.setIfInBounds_toArray, List.set_cons_zero, List.set_cons_succ]
  refine st_no (some 31) rfl rfl ?_
  simp only [Act.put, List.setIfInBounds_toArray, List.set_cons_zero, List.set_cons_succ]
  refine st_to (v := (.bool true)) (some 32) rfl rfl (ex_pkT rfl rfl rfl) ?_
  simp only [Act.put, List.setIfInBounds_toArray, List.set_cons_zero, List.set_cons_succ]
  refine st_to (v := (.bool true)) (some 33) rfl rfl (ex_mv rfl rfl) ?_
  simp only [Act.put, List.setIfInBounds_toArray, List.set_cons_zero, List.set_cons_succ]
  refine st_no (some 34) rfl rfl ?_
  simp only [Act.put, List.setIfInBounds_toArray, List.set_cons_zero, List.set_cons_succ]
  refine st_no (some 35) rfl rfl ?_
  simp only [Act.put, List.setIfInBounds_toArray, List.set_cons_zero, List.set_cons_succ]
  refine st_no (some 36) rfl rfl ?_
  simp only [Act.put, List.setIfInBounds_toArray, List.set_cons_zero, List.set_cons_succ]
  refine st_no (some 37) rfl rfl ?_
  simp only [Act.put, List.setIfInBounds_toArray, List.set_cons_zero, List.set_cons_succ]
  refine st_to (v := (.bool true)) (some 38) rfl rfl (ex_pkT rfl rfl rfl) ?_
  simp only [Act.put, List.setIfInBounds_toArray, List.set_cons_zero, List.set_cons_succ]
  refine st_to (v := (.bool true)) (some 39) rfl rfl (ex_mv rfl rfl) ?_
  simp only [Act.put, List.setIfInBounds_toArray, List.set_cons_zero, List.set_cons_succ]
  refine st_no (some 40) rfl rfl ?_
  simp only [Act.put, List.setIfInBounds_toArray, List.set_cons_zero, List.set_cons_succ]
  refine st_no (some 41) rfl rfl ?_
  simp only [Act.put, List.setIfInBounds_toArray, List.set_cons_zero, List.set_cons_succ]
  refine st_no (some 42) rfl rfl ?_
  simp only [Act.put, List.setIfInBounds_toArray, List.set_cons_zero, List.set_cons_succ]
  refine st_to (v := (.bool true)) (some 43) rfl rfl (ex_pkT rfl rfl rfl) ?_
  simp only [Act.put, List.setIfInBounds_toArray, List.set_cons_zero, List.set_cons_succ]
  refine st_end ?_
  subst hQ
  refine wp_cond_true rfl ?_
  refine wp_seq ?_
  refine wl_in ?_
  refine wl_cap fun Q hQ => ?_
  refine st_to (v := (.agg #[.slice none 0 0, .slice none 0 0])) (some 44) rfl rfl (ex_build0  rfl (b34 _)) ?_
  simp only [Act.put, List.setIfInBounds_toArray, List.set_cons_zero, List.set_cons_succ]
  obtain ⟨W6, hst, kn, K⟩ := put_all (D := #[.slice none 0 0, .slice none 0 0]) k4 rfl inf34 (by kernel_rfl)
  refine st_sk rfl rfl (ex_store rfl rfl rfl hst) ?_
  replace E := below_put E ge_b4 K
  replace hH := hH0.below E
  replace k1 := keepK K k1 (fun e => ne_tag k1 k4 (by decide) e)
  replace k2 := keepK K k2 (fun e => ne_tag k2 k4 (by decide) e)
  replace k3 := keepK K k3 (fun e => ne_tag k3 k4 (by decide) e)
  replace k4 := kn
  clear kn K hst
  refine st_to (v := (.int .i64 1)) (some 9) rfl rfl (ex_asg rfl rfl) ?_
  simp only [Act.put, List.setIfInBounds_toArray, List.set_cons_zero, List.set_cons_succ]
  refine st_end ?_
  subst hQ
  refine wp_ret ?_
  refine ret_out ?_
  refine bodyPost_ret (ret_ct Try.results9 _ _ b4 _ _ _ _ rfl rfl k4 Try.underlying34 rfl inf34) rfl ⟨rfl, E⟩

set_option maxHeartbeats 2000000 in
theorem rcommit_w {C : Array Value} {t : TV} {x y h : Int} {pl : List Int} {ao : Option Addr} {n c : Nat} {Cs : Nat → Array Value} {hv : Nat → HV} (w : World) (hT : IsT C t) (hb : TB t) (hpl : pl.length = 32) (hH : Hs w ao n Cs hv) (hn : n ≤ 140737488355328) (hx : x ≤ 9223372036854775807) (hy : y ≤ 9223372036854775807) (hz : ∀ i, i < n → (hv i).am ≤ 9223372036854775807) (c0 : mayT t = true) (ca : ¬ h = t.a) (cb : ¬ h = t.b) :
    Calls Try.prog 9 #[.agg C, .int .i64 h, .agg (U8 pl).toArray, .agg #[.int .i64 x, .int .i64 y, .slice ao n c]] w fun e w' => e = .returned (.tuple #[.agg #[.slice none 0 0, .slice none 0 0], .int .i64 1]) ∧ Below w.heap.size w w' := by
  have E : Below w.heap.size w w := Below.refl _ _
  go_enter Try.func9, Try.ntmps9
  have hH0 := hH
  refine wp_seq ?_
  refine wl_in ?_
  refine wl_cap fun Q hQ => ?_
  refine st_new (fun b => .pointer (some ⟨b, 0, none⟩)) (some 4) rfl rfl (ex_box rfl rfl) ?_
  intro b1 W1 k1 g1 B
  simp only [Act.put, List.setIfInBounds_toArray, List.set_cons_zero, List.set_cons_succ]
  have ge_b1 := Nat.le_trans E.size g1
  replace E := below_next E B
  replace hH := hH.below B
  clear B
  refine st_new (fun b => .pointer (some ⟨b, 0, none⟩)) (some 6) rfl rfl (ex_box rfl rfl) ?_
  intro b2 W2 k2 g2 B
  simp only [Act.put, List.setIfInBounds_toArray, List.set_cons_zero, List.set_cons_succ]
  have ne_b2_b1 : b2 ≠ b1 := fun e => by have := lt_of k1; omega
  have ge_b2 := Nat.le_trans E.size g2
  replace E := below_next E B
  replace hH := hH.below B
  replace k1 := keep B k1
  clear B
  refine st_new (fun b => .pointer (some ⟨b, 0, none⟩)) (some 7) rfl rfl (ex_box rfl rfl) ?_
  intro b3 W3 k3 g3 B
  simp only [Act.put, List.setIfInBounds_toArray, List.set_cons_zero, List.set_cons_succ]
  have ne_b3_b1 : b3 ≠ b1 := fun e => by have := lt_of k1; omega
  have ne_b3_b2 : b3 ≠ b2 := fun e => by have := lt_of k2; omega
  have ge_b3 := Nat.le_trans E.size g3
  replace E := below_next E B
  replace hH := hH.below B
  replace k1 := keep B k1
  replace k2 := keep B k2
  clear B
  refine st_new (fun b => .pointer (some ⟨b, 0, none⟩)) (some 8) rfl rfl (ex_alloc rfl zero34) ?_
  intro b4 W4 k4 g4 B
  simp only [Act.put, List.setIfInBounds_toArray, List.set_cons_zero, List.set_cons_succ]
  have ne_b4_b1 : b4 ≠ b1 := fun e => by have := lt_of k1; omega
  have ne_b4_b2 : b4 ≠ b2 := fun e => by have := lt_of k2; omega
  have ne_b4_b3 : b4 ≠ b3 := fun e => by have := lt_of k3; omega
  have ge_b4 := Nat.le_trans E.size g4
  replace E := below_next E B
  replace hH := hH.below B
  replace k1 := keep B k1
  replace k2 := keep B k2
  replace k3 := keep B k3
  clear B
  refine st_to (v := (.int .i64 0)) (some 9) rfl rfl (ex_asg rfl rfl) ?_
  simp only [Act.put, List.setIfInBounds_toArray, List.set_cons_zero, List.set_cons_succ]
  refine st_end ?_
  subst hQ
  refine wp_seq ?_
  refine wp_seq ?_
  refine wl_in ?_
  refine wl_cap fun Q hQ => ?_
  refine st_to (v := (.agg C)) (some 18) rfl rfl (ex_load (p := (.pointer (some ⟨b1, 0, none⟩))) rfl rfl (ld_all k1 Try.underlying26 rfl (inf26.trans (congrArg some (hT.size).symm)))) ?_
  simp only [Act.put, List.setIfInBounds_toArray, List.set_cons_zero, List.set_cons_succ]
  refine st_call (some 19) rfl rfl (rmay_any W4 hT hb c0) (ex_call (f := 13) (vs := [(.agg C)]) rfl (cf13 _) rfl) ?_
  rintro e W5 ⟨rfl, B⟩
  refine ⟨_, rfl, ?_⟩
  simp only [Act.put, List.setIfInBounds_toArray, List.set_cons_zero, List.set_cons_succ]
  replace E := below_next E B
  replace hH := hH.below B
  replace k1 := keep B k1
  replace k2 := keep B k2
  replace k3 := keep B k3
  replace k4 := keep B k4
  refine st_to (v := (.bool false)) (some 20) rfl rfl (ex_not rfl rfl rfl) ?_
  simp only [Act.put, List.setIfInBounds_toArray, List.set_cons_zero, List.set_cons_succ]
  refine st_to (v := (.bool false)) (some 21) rfl rfl (ex_mv rfl rfl) ?_
  simp only [Act.put, List.setIfInBounds_toArray, List.set_cons_zero, List.set_cons_succ]
  refine st_to (v := (.int .i64 h)) (some 22) rfl rfl (ex_mv rfl rfl) ?_
  simp only [Act.put, List.setIfInBounds_toArray, List.set_cons_zero, List.set_cons_succ]
  refine st_to (v := (.pointer (some ⟨b1, 1, none⟩))) (some 23) rfl rfl (ex_fa (p := (.pointer (some ⟨b1, 0, none⟩))) rfl rfl (fa26_1 _ _)) ?_
  simp only [Act.put, List.setIfInBounds_toArray, List.set_cons_zero, List.set_cons_succ]
  refine st_to (v := (.int .i64 t.a)) (some 24) rfl rfl (ex_load (p := (.pointer (some ⟨b1, 1, none⟩))) rfl rfl (ld3 (at_cell k1 hT.c1))) ?_
  simp only [Act.put, List.setIfInBounds_toArray, List.set_cons_zero, List.set_cons_succ]
  refine st_to (v := (.bool true)) (some 25) rfl rfl (ex_bin (u := (.int .i64 h)) (r := (.int .i64 t.a)) rfl rfl rfl (eg3 _ _ _ _ _ _) (neq3 _ (decide_eq_true ca))) ?_
  simp only [Act.put, List.setIfInBounds_toArray, List.set_cons_zero, List.set_cons_succ]
  refine st_to (v := (.bool true)) (some 26) rfl rfl (ex_mv rfl rfl) ?_
  simp only [Act.put, List.setIfInBounds_toArray, List.set_cons_zero, List.set_cons_succ]
  refine st_to (v := (.int .i64 h)) (some 27) rfl rfl (ex_mv rfl rfl) ?_
  simp only [Act.put, List.setIfInBounds_toArray, List.set_cons_zero, List.set_cons_succ]
  refine st_to (v := (.pointer (some ⟨b1, 2, none⟩))) (some 28) rfl rfl (ex_fa (p := (.pointer (some ⟨b1, 0, none⟩))) rfl rfl (fa26_2 _ _)) ?_
  simp only [Act.put, List.setIfInBounds_toArray, List.set_cons_zero, List.set_cons_succ]
  refine st_to (v := (.int .i64 t.b)) (some 29) rfl rfl (ex_load (p := (.pointer (some ⟨b1, 2, none⟩))) rfl rfl (ld3 (at_cell k1 hT.c2))) ?_
  simp only [Act.put, List.setIfInBounds_toArray, List.set_cons_zero, List.set_cons_succ]
  refine st_to (v := (.bool true)) (some 30) rfl rfl (ex_bin (u := (.int .i64 h)) (r := (.int .i64 t.b)) rfl rfl rfl (eg3 _ _ _ _ _ _) (neq3 _ (decide_eq_true cb))) ?_
  simp only [Act.put, List.setIfInBounds_toArray, List.set_cons_zero, List.set_cons_succ]
  refine st_to (v := (.bool true)) (some 31) rfl rfl (ex_pkT rfl rfl rfl) ?_
  simp only [Act.put, List.setIfInBounds_toArray, List.set_cons_zero, List.set_cons_succ]
  refine st_to (v := (.bool true)) (some 32) rfl rfl (ex_pkF rfl rfl rfl) ?_
  simp only [Act.put, List.setIfInBounds_toArray, List.set_cons_zero, List.set_cons_succ]
  refine st_to (v := (.bool true)) (some 33) rfl rfl (ex_mv rfl rfl) ?_
  simp only [Act.put, List.setIfInBounds_toArray, List.set_cons_zero, List.set_cons_succ]
  refine st_no (some 34) rfl rfl ?_
  simp only [Act.put, List.setIfInBounds_toArray, List.set_cons_zero, List.set_cons_succ]
  refine st_no (some 35) rfl rfl ?_
  simp only [Act.put, List.setIfInBounds_toArray, List.set_cons_zero, List.set_cons_succ]
  refine st_no (some 36) rfl rfl ?_
  simp only [Act.put, List.setIfInBounds_toArray, List.set_cons_zero, List.set_cons_succ]
  refine st_no (some 37) rfl rfl ?_
  simp only [Act.put, List.setIfInBounds_toArray, List.set_cons_zero, List.set_cons_succ]
  refine st_to (v := (.bool true)) (some 38) rfl rfl (ex_pkT rfl rfl rfl) ?_
  simp only [Act.put, List.setIfInBounds_toArray, List.set_cons_zero, List.set_cons_succ]
  refine st_to (v := (.bool true)) (some 39) rfl rfl (ex_mv rfl rfl) ?_
  simp only [Act.put, List.setIfInBounds_toArray, List.set_cons_zero, List.set_cons_succ]
  refine st_no (some 40) rfl rfl ?_
  simp only [Act.put, List.setIfInBounds_toArray, List.set_cons_zero, List.set_cons_succ]
  refine st_no (some 41) rfl rfl ?_
  simp only [Act.put, List.setIfInBounds_toArray, List.set_cons_zero, List.set_cons_succ]
  refine st_no (some 42) rfl rfl ?_
  simp only [Act.put, List.setIfInBounds_toArray, List.set_cons_zero, List.set_cons_succ]
  refine st_to (v := (.bool true)) (some 43) rfl rfl (ex_pkT rfl rfl rfl) ?_
  simp only [Act.put, List.setIfInBounds_toArray, List.set_cons_zero, List.set_cons_succ]
  refine st_end ?_
  subst hQ
  refine wp_cond_true rfl ?_
  refine wp_seq ?_
  refine wl_in ?_
  refine wl_cap fun Q hQ => ?_
  refine st_to (v := (.agg #[.slice none 0 0, .slice none 0 0])) (some 44) rfl rfl (ex_build0  rfl (b34 _)) ?_
  simp only [Act.put, List.setIfInBounds_toArray, List.set_cons_zero, List.set_cons_succ]
  obtain ⟨W6, hst, kn, K⟩ := put_all (D := #[.slice none 0 0, .slice none 0 0]) k4 rfl inf34 (by kernel_rfl)
  refine st_sk rfl rfl (ex_store rfl rfl rfl hst) ?_
  replace E := below_put E ge_b4 K
  replace hH := hH0.below E
  replace k1 := keepK K k1 (fun e => ne_tag k1 k4 (by decide) e)
  replace k2 := keepK K k2 (fun e => ne_tag k2 k4 (by decide) e)
  replace k3 := keepK K k3 (fun e => ne_tag k3 k4 (by decide) e)
  replace k4 := kn
  clear kn K hst
  refine st_to (v := (.int .i64 1)) (some 9) rfl rfl (ex_asg rfl rfl) ?_
  simp only [Act.put, List.setIfInBounds_toArray, List.set_cons_zero, List.set_cons_succ]
  refine st_end ?_
  subst hQ
  refine wp_ret ?_
  refine ret_out ?_
  refine bodyPost_ret (ret_ct Try.results9 _ _ b4 _ _ _ _ rfl rfl k4 Try.underlying34 rfl inf34) rfl ⟨rfl, E⟩

set_option maxHeartbeats 2000000 in
theorem rcommit_fa {C : Array Value} {t : TV} {x y h : Int} {pl : List Int} {ao : Option Addr} {n c : Nat} {Cs : Nat → Array Value} {hv : Nat → HV} (w : World) (hT : IsT C t) (hb : TB t) (hpl : pl.length = 32) (hH : Hs w ao n Cs hv) (hn : n ≤ 140737488355328) (hx : x ≤ 9223372036854775807) (hy : y ≤ 9223372036854775807) (hz : ∀ i, i < n → (hv i).am ≤ 9223372036854775807) (c0 : mayT t = true) (ca : h = t.a) (c1 : fitsB t x y n hv = false) :
    Calls Try.prog 9 #[.agg C, .int .i64 h, .agg (U8 pl).toArray, .agg #[.int .i64 x, .int .i64 y, .slice ao n c]] w fun e w' => e = .returned (.tuple #[.agg #[.slice none 0 0, .slice none 0 0], .int .i64 1]) ∧ Below w.heap.size w w' := by
  have E : Below w.heap.size w w := Below.refl _ _
  go_enter Try.func9, Try.ntmps9
  have hH0 := hH
  refine wp_seq ?_
  refine wl_in ?_
  refine wl_cap fun Q hQ => ?_
  refine st_new (fun b => .pointer (some ⟨b, 0, none⟩)) (some 4) rfl rfl (ex_box rfl rfl) ?_
  intro b1 W1 k1 g1 B
  simp only [Act.put, List.setIfInBounds_toArray, List.set_cons_zero, List.set_cons_succ]
  have ge_b1 := Nat.le_trans E.size g1
  replace E := below_next E B
  replace hH := hH.below B
  clear B
  refine st_new (fun b => .pointer (some ⟨b, 0, none⟩)) (some 6) rfl rfl (ex_box rfl rfl) ?_
  intro b2 W2 k2 g2 B
  simp only [Act.put, List.setIfInBounds_toArray, List.set_cons_zero, List.set_cons_succ]
  have ne_b2_b1 : b2 ≠ b1 := fun e => by have := lt_of k1; omega
  have ge_b2 := Nat.le_trans E.size g2
  replace E := below_next E B
  replace hH := hH.below B
  replace k1 := keep B k1
  clear B
  refine st_new (fun b => .pointer (some ⟨b, 0, none⟩)) (some 7) rfl rfl (ex_box rfl rfl) ?_
  intro b3 W3 k3 g3 B
  simp only [Act.put, List.setIfInBounds_toArray, List.set_cons_zero, List.set_cons_succ]
  have ne_b3_b1 : b3 ≠ b1 := fun e => by have := lt_of k1; omega
  have ne_b3_b2 : b3 ≠ b2 := fun e => by have := lt_of k2; omega
  have ge_b3 := Nat.le_trans E.size g3
  replace E := below_next E B
  replace hH := hH.below B
  replace k1 := keep B k1
  replace k2 := keep B k2
  clear B
  refine st_new (fun b => .pointer (some ⟨b, 0, none⟩)) (some 8) rfl rfl (ex_alloc rfl zero34) ?_
  intro b4 W4 k4 g4 B
  simp only [Act.put, List.setIfInBounds_toArray, List.set_cons_zero, List.set_cons_succ]
  have ne_b4_b1 : b4 ≠ b1 := fun e => by have := lt_of k1; omega
  have ne_b4_b2 : b4 ≠ b2 := fun e => by have := lt_of k2; omega
  have ne_b4_b3 : b4 ≠ b3 := fun e => by have := lt_of k3; omega
  have ge_b4 := Nat.le_trans E.size g4
  replace E := below_next E B
  replace hH := hH.below B
  replace k1 := keep B k1
  replace k2 := keep B k2
  replace k3 := keep B k3
  clear B
  refine st_to (v := (.int .i64 0)) (some 9) rfl rfl (ex_asg rfl rfl) ?_
  simp only [Act.put, List.setIfInBounds_toArray, List.set_cons_zero, List.set_cons_succ]
  refine st_end ?_
  subst hQ
  refine wp_seq ?_
  refine wp_seq ?_
  refine wl_in ?_
  refine wl_cap fun Q hQ => ?_
  refine st_to (v := (.agg C)) (some 18) rfl rfl (ex_load (p := (.pointer (some ⟨b1, 0, none⟩))) rfl rfl (ld_all k1 Try.underlying26 rfl (inf26.trans (congrArg some (hT.size).symm)))) ?_
  simp only [Act.put, List.setIfInBounds_toArray, List.set_cons_zero, List.set_cons_succ]
  refine st_call (some 19) rfl rfl (rmay_any W4 hT hb c0) (ex_call (f := 13) (vs := [(.agg C)]) rfl (cf13 _) rfl) ?_
  rintro e W5 ⟨rfl, B⟩
  refine ⟨_, rfl, ?_⟩
  simp only [Act.put, List.setIfInBounds_toArray, List.set_cons_zero, List.set_cons_succ]
  replace E := below_next E B
  replace hH := hH.below B
  replace k1 := keep B k1
  replace k2 := keep B k2
  replace k3 := keep B k3
  replace k4 := keep B k4
  refine st_to (v := (.bool false)) (some 20) rfl rfl (ex_not rfl rfl rfl) ?_
  simp only [Act.put, List.setIfInBounds_toArray, List.set_cons_zero, List.set_cons_succ]
  refine st_to (v := (.bool false)) (some 21) rfl rfl (ex_mv rfl rfl) ?_
  simp only [Act.put, List.setIfInBounds_toArray, List.set_cons_zero, List.set_cons_succ]
  refine st_to (v := (.int .i64 h)) (some 22) rfl rfl (ex_mv rfl rfl) ?_
  simp only [Act.put, List.setIfInBounds_toArray, List.set_cons_zero, List.set_cons_succ]
  refine st_to (v := (.pointer (some ⟨b1, 1, none⟩))) (some 23) rfl rfl (ex_fa (p := (.pointer (some ⟨b1, 0, none⟩))) rfl rfl (fa26_1 _ _)) ?_
  simp only [Act.put, List.setIfInBounds_toArray, List.set_cons_zero, List.set_cons_succ]
  refine st_to (v := (.int .i64 t.a)) (some 24) rfl rfl (ex_load (p := (.pointer (some ⟨b1, 1, none⟩))) rfl rfl (ld3 (at_cell k1 hT.c1))) ?_
  simp only [Act.put, List.setIfInBounds_toArray, List.set_cons_zero, List.set_cons_succ]
  refine st_to (v := (.bool false)) (some 25) rfl rfl (ex_bin (u := (.int .i64 h)) (r := (.int .i64 t.a)) rfl rfl rfl (eg3 _ _ _ _ _ _) (neq3 _ (decide_eq_false (fun q => q ca)))) ?_
  simp only [Act.put, List.setIfInBounds_toArray, List.set_cons_zero, List.set_cons_succ]
  refine st_to (v := (.bool false)) (some 26) rfl rfl (ex_mv rfl rfl) ?_
  simp only [Act.put, List.setIfInBounds_toArray, List.set_cons_zero, List.set_cons_succ]
  refine st_no (some 27) rfl rfl ?_
  simp only [Act.put, List.setIfInBounds_toArray, List.set_cons_zero, List.set_cons_succ]
  refine st_no (some 28) rfl rfl ?_
  simp only [Act.put, List.setIfInBounds_toArray, List.set_cons_zero, List.set_cons_succ]
  refine st_no (some 29) rfl rfl ?_
  simp only [Act.put, List.setIfInBounds_toArray, List.set_cons_zero, List.set_cons_succ]
  refine st_no (some 30) rfl rfl ?_
  simp only [Act.put, List.setIfInBounds_toArray, List.set_cons_zero, List.set_cons_succ]
  refine st_to (v := (.bool false)) (some 31) rfl rfl (ex_pkF rfl rfl rfl) ?_
  simp only [Act.put, List.setIfInBounds_toArray, List.set_cons_zero, List.set_cons_succ]
  refine st_to (v := (.bool false)) (some 32) rfl rfl (ex_pkF rfl rfl rfl) ?_
  simp only [Act.put, List.setIfInBounds_toArray, List.set_cons_zero, List.set_cons_succ]
  refine st_to (v := (.bool false)) (some 33) rfl rfl (ex_mv rfl rfl) ?_
  simp only [Act.put, List.setIfInBounds_toArray, List.set_cons_zero, List.set_cons_succ]
  refine st_to (v := (.agg C)) (some 34) rfl rfl (ex_load (p := (.pointer (some ⟨b1, 0, none⟩))) rfl rfl (ld_all k1 Try.underlying26 rfl (inf26.trans (congrArg some (hT.size).symm)))) ?_
  simp only [Act.put, List.setIfInBounds_toArray, List.set_cons_zero, List.set_cons_succ]
  refine st_to (v := (.agg #[.int .i64 x, .int .i64 y, .slice ao n c])) (some 35) rfl rfl (ex_load (p := (.pointer (some ⟨b3, 0, none⟩))) rfl rfl (ld_all k3 Try.underlying29 rfl inf29)) ?_
  simp only [Act.put, List.setIfInBounds_toArray, List.set_cons_zero, List.set_cons_succ]
  refine st_call (some 36) rfl rfl (rfits_any W5 hT hb hH hn hx hy hz c1) (ex_call (f := 15) (vs := [(.agg C), (.agg #[.int .i64 x, .int .i64 y, .slice ao n c])]) rfl (cf15 _) rfl) ?_
  rintro e W6 ⟨rfl, B⟩
  refine ⟨_, rfl, ?_⟩
  simp only [Act.put, List.setIfInBounds_toArray, List.set_cons_zero, List.set_cons_succ]
  replace E := below_next E B
  replace hH := hH.below B
  replace k1 := keep B k1
  replace k2 := keep B k2
  replace k3 := keep B k3
  replace k4 := keep B k4
  refine st_to (v := (.bool true)) (some 37) rfl rfl (ex_not rfl rfl rfl) ?_
  simp only [Act.put, List.setIfInBounds_toArray, List.set_cons_zero, List.set_cons_succ]
  refine st_to (v := (.bool true)) (some 38) rfl rfl (ex_pkF rfl rfl rfl) ?_
  simp only [Act.put, List.setIfInBounds_toArray, List.set_cons_zero, List.set_cons_succ]
  refine st_to (v := (.bool true)) (some 39) rfl rfl (ex_mv rfl rfl) ?_
  simp only [Act.put, List.setIfInBounds_toArray, List.set_cons_zero, List.set_cons_succ]
  refine st_no (some 40) rfl rfl ?_
  simp only [Act.put, List.setIfInBounds_toArray, List.set_cons_zero, List.set_cons_succ]
  refine st_no (some 41) rfl rfl ?_
  simp only [Act.put, List.setIfInBounds_toArray, List.set_cons_zero, List.set_cons_succ]
  refine st_no (some 42) rfl rfl ?_
  simp only [Act.put, List.setIfInBounds_toArray, List.set_cons_zero, List.set_cons_succ]
  refine st_to (v := (.bool true)) (some 43) rfl rfl (ex_pkT rfl rfl rfl) ?_
  simp only [Act.put, List.setIfInBounds_toArray, List.set_cons_zero, List.set_cons_succ]
  refine st_end ?_
  subst hQ
  refine wp_cond_true rfl ?_
  refine wp_seq ?_
  refine wl_in ?_
  refine wl_cap fun Q hQ => ?_
  refine st_to (v := (.agg #[.slice none 0 0, .slice none 0 0])) (some 44) rfl rfl (ex_build0  rfl (b34 _)) ?_
  simp only [Act.put, List.setIfInBounds_toArray, List.set_cons_zero, List.set_cons_succ]
  obtain ⟨W7, hst, kn, K⟩ := put_all (D := #[.slice none 0 0, .slice none 0 0]) k4 rfl inf34 (by kernel_rfl)
  refine st_sk rfl rfl (ex_store rfl rfl rfl hst) ?_
  replace E := below_put E ge_b4 K
  replace hH := hH0.below E
  replace k1 := keepK K k1 (fun e => ne_tag k1 k4 (by decide) e)
  replace k2 := keepK K k2 (fun e => ne_tag k2 k4 (by decide) e)
  replace k3 := keepK K k3 (fun e => ne_tag k3 k4 (by decide) e)
  replace k4 := kn
  clear kn K hst
  refine st_to (v := (.int .i64 1)) (some 9) rfl rfl (ex_asg rfl rfl) ?_
  simp only [Act.put, List.setIfInBounds_toArray, List.set_cons_zero, List.set_cons_succ]
  refine st_end ?_
  subst hQ
  refine wp_ret ?_
  refine ret_out ?_
  refine bodyPost_ret (ret_ct Try.results9 _ _ b4 _ _ _ _ rfl rfl k4 Try.underlying34 rfl inf34) rfl ⟨rfl, E⟩

set_option maxHeartbeats 2000000 in
theorem rcommit_fb {C : Array Value} {t : TV} {x y h : Int} {pl : List Int} {ao : Option Addr} {n c : Nat} {Cs : Nat → Array Value} {hv : Nat → HV} (w : World) (hT : IsT C t) (hb : TB t) (hpl : pl.length = 32) (hH : Hs w ao n Cs hv) (hn : n ≤ 140737488355328) (hx : x ≤ 9223372036854775807) (hy : y ≤ 9223372036854775807) (hz : ∀ i, i < n → (hv i).am ≤ 9223372036854775807) (c0 : mayT t = true) (ca : ¬ h = t.a) (cb : h = t.b) (c1 : fitsB t x y n hv = false) :
    Calls Try.prog 9 #[.agg C, .int .i64 h, .agg (U8 pl).toArray, .agg #[.int .i64 x, .int .i64 y, .slice ao n c]] w fun e w' => e = .returned (.tuple #[.agg #[.slice none 0 0, .slice none 0 0], .int .i64 1]) ∧ Below w.heap.size w w' := by
  have E : Below w.heap.size w w := Below.refl _ _
  go_enter Try.func9, Try.ntmps9
  have hH0 := hH
  refine wp_seq ?_
  refine wl_in ?_
  refine wl_cap fun Q hQ => ?_
  refine st_new (fun b => .pointer (some ⟨b, 0, none⟩)) (some 4) rfl rfl (ex_box rfl rfl) ?_
  intro b1 W1 k1 g1 B
  simp only [Act.put, List.setIfInBounds_toArray, List.set_cons_zero, List.set_cons_succ]
  have ge_b1 := Nat.le_trans E.size g1
  replace E := below_next E B
  replace hH := hH.below B
  clear B
  refine st_new (fun b => .pointer (some ⟨b, 0, none⟩)) (some 6) rfl rfl (ex_box rfl rfl) ?_
  intro b2 W2 k2 g2 B
  simp only [Act.put, List.setIfInBounds_toArray, List.set_cons_zero, List.set_cons_succ]
  have ne_b2_b1 : b2 ≠ b1 := fun e => by have := lt_of k1; omega
  have ge_b2 := Nat.le_trans E.size g2
  replace E := below_next E B
  replace hH := hH.below B
  replace k1 := keep B k1
  clear B
  refine st_new (fun b => .pointer (some ⟨b, 0, none⟩)) (some 7) rfl rfl (ex_box rfl rfl) ?_
  intro b3 W3 k3 g3 B
  simp only [Act.put, List.setIfInBounds_toArray, List.set_cons_zero, List.set_cons_succ]
  have ne_b3_b1 : b3 ≠ b1 := fun e => by have := lt_of k1; omega
  have ne_b3_b2 : b3 ≠ b2 := fun e => by have := lt_of k2; omega
  have ge_b3 := Nat.le_trans E.size g3
  replace E := below_next E B
  replace hH := hH.below B
  replace k1 := keep B k1
  replace k2 := keep B k2
  clear B
  refine st_new (fun b => .pointer (some ⟨b, 0, none⟩)) (some 8) rfl rfl (ex_alloc rfl zero34) ?_
  intro b4 W4 k4 g4 B
  simp only [Act.put, List.setIfInBounds_toArray, List.set_cons_zero, List.set_cons_succ]
  have ne_b4_b1 : b4 ≠ b1 := fun e => by have := lt_of k1; omega
  have ne_b4_b2 : b4 ≠ b2 := fun e => by have := lt_of k2; omega
  have ne_b4_b3 : b4 ≠ b3 := fun e => by have := lt_of k3; omega
  have ge_b4 := Nat.le_trans E.size g4
  replace E := below_next E B
  replace hH := hH.below B
  replace k1 := keep B k1
  replace k2 := keep B k2
  replace k3 := keep B k3
  clear B
  refine st_to (v := (.int .i64 0)) (some 9) rfl rfl (ex_asg rfl rfl) ?_
  simp only [Act.put, List.setIfInBounds_toArray, List.set_cons_zero, List.set_cons_succ]
  refine st_end ?_
  subst hQ
  refine wp_seq ?_
  refine wp_seq ?_
  refine wl_in ?_
  refine wl_cap fun Q hQ => ?_
  refine st_to (v := (.agg C)) (some 18) rfl rfl (ex_load (p := (.pointer (some ⟨b1, 0, none⟩))) rfl rfl (ld_all k1 Try.underlying26 rfl (inf26.trans (congrArg some (hT.size).symm)))) ?_
  simp only [Act.put, List.setIfInBounds_toArray, List.set_cons_zero, List.set_cons_succ]
  refine st_call (some 19) rfl rfl (rmay_any W4 hT hb c0) (ex_call (f := 13) (vs := [(.agg C)]) rfl (cf13 _) rfl) ?_
  rintro e W5 ⟨rfl, B⟩
  refine ⟨_, rfl, ?_⟩
  simp only [Act.put, List.setIfInBounds_toArray, List.set_cons_zero, List.set_cons_succ]
  replace E := below_next E B
  replace hH := hH.below B
  replace k1 := keep B k1
  replace k2 := keep B k2
  replace k3 := keep B k3
  replace k4 := keep B k4
  refine st_to (v := (.bool false)) (some 20) rfl rfl (ex_not rfl rfl rfl) ?_
  simp only [Act.put, List.setIfInBounds_toArray, List.set_cons_zero, List.set_cons_succ]
  refine st_to (v := (.bool false)) (some 21) rfl rfl (ex_mv rfl rfl) ?_
  simp only [Act.put, List.setIfInBounds_toArray, List.set_cons_zero, List.set_cons_succ]
  refine st_to (v := (.int .i64 h)) (some 22) rfl rfl (ex_mv rfl rfl) ?_
  simp only [Act.put, List.setIfInBounds_toArray, List.set_cons_zero, List.set_cons_succ]
  refine st_to (v := (.pointer (some ⟨b1, 1, none⟩))) (some 23) rfl rfl (ex_fa (p := (.pointer (some ⟨b1, 0, none⟩))) rfl rfl (fa26_1 _ _)) ?_
  simp only [Act.put, List.setIfInBounds_toArray, List.set_cons_zero, List.set_cons_succ]
  refine st_to (v := (.int .i64 t.a)) (some 24) rfl rfl (ex_load (p := (.pointer (some ⟨b1, 1, none⟩))) rfl rfl (ld3 (at_cell k1 hT.c1))) ?_
  simp only [Act.put, List.setIfInBounds_toArray, List.set_cons_zero, List.set_cons_succ]
  refine st_to (v := (.bool true)) (some 25) rfl rfl (ex_bin (u := (.int .i64 h)) (r := (.int .i64 t.a)) rfl rfl rfl (eg3 _ _ _ _ _ _) (neq3 _ (decide_eq_true ca))) ?_
  simp only [Act.put, List.setIfInBounds_toArray, List.set_cons_zero, List.set_cons_succ]
  refine st_to (v := (.bool true)) (some 26) rfl rfl (ex_mv rfl rfl) ?_
  simp only [Act.put, List.setIfInBounds_toArray, List.set_cons_zero, List.set_cons_succ]
  refine st_to (v := (.int .i64 h)) (some 27) rfl rfl (ex_mv rfl rfl) ?_
  simp only [Act.put, List.setIfInBounds_toArray, List.set_cons_zero, List.set_cons_succ]
  refine st_to (v := (.pointer (some ⟨b1, 2, none⟩))) (some 28) rfl rfl (ex_fa (p := (.pointer (some ⟨b1, 0, none⟩))) rfl rfl (fa26_2 _ _)) ?_
  simp only [Act.put, List.setIfInBounds_toArray, List.set_cons_zero, List.set_cons_succ]
  refine st_to (v := (.int .i64 t.b)) (some 29) rfl rfl (ex_load (p := (.pointer (some ⟨b1, 2, none⟩))) rfl rfl (ld3 (at_cell k1 hT.c2))) ?_
  simp only [Act.put, List.setIfInBounds_toArray, List.set_cons_zero, List.set_cons_succ]
  refine st_to (v := (.bool false)) (some 30) rfl rfl (ex_bin (u := (.int .i64 h)) (r := (.int .i64 t.b)) rfl rfl rfl (eg3 _ _ _ _ _ _) (neq3 _ (decide_eq_false (fun q => q cb)))) ?_
  simp only [Act.put, List.setIfInBounds_toArray, List.set_cons_zero, List.set_cons_succ]
  refine st_to (v := (.bool false)) (some 31) rfl rfl (ex_pkT rfl rfl rfl) ?_
  simp only [Act.put, List.setIfInBounds_toArray, List.set_cons_zero, List.set_cons_succ]
  refine st_to (v := (.bool false)) (some 32) rfl rfl (ex_pkF rfl rfl rfl) ?_
  simp only [Act.put, List.setIfInBounds_toArray, List.set_cons_zero, List.set_cons_succ]
  refine st_to (v := (.bool false)) (some 33) rfl rfl (ex_mv rfl rfl) ?_
  simp only [Act.put, List.setIfInBounds_toArray, List.set_cons_zero, List.set_cons_succ]
  refine st_to (v := (.agg C)) (some 34) rfl rfl (ex_load (p := (.pointer (some ⟨b1, 0, none⟩))) rfl rfl (ld_all k1 Try.underlying26 rfl (inf26.trans (congrArg some (hT.size).symm)))) ?_
  simp only [Act.put, List.setIfInBounds_toArray, List.set_cons_zero, List.set_cons_succ]
  refine st_to (v := (.agg #[.int .i64 x, .int .i64 y, .slice ao n c])) (some 35) rfl rfl (ex_load (p := (.pointer (some ⟨b3, 0, none⟩))) rfl rfl (ld_all k3 Try.underlying29 rfl inf29)) ?_
  simp only [Act.put, List.setIfInBounds_toArray, List.set_cons_zero, List.set_cons_succ]
  refine st_call (some 36) rfl rfl (rfits_any W5 hT hb hH hn hx hy hz c1) (ex_call (f := 15) (vs := [(.agg C), (.agg #[.int .i64 x, .int .i64 y, .slice ao n c])]) rfl (cf15 _) rfl) ?_
  rintro e W6 ⟨rfl, B⟩
  refine ⟨_, rfl, ?_⟩
  simp only [Act.put, List.setIfInBounds_toArray, List.set_cons_zero, List.set_cons_succ]
  replace E := below_next E B
  replace hH := hH.below B
  replace k1 := keep B k1
  replace k2 := keep B k2
  replace k3 := keep B k3
  replace k4 := keep B k4
  refine st_to (v := (.bool true)) (some 37) rfl rfl (ex_not rfl rfl rfl) ?_
  simp only [Act.put, List.setIfInBounds_toArray, List.set_cons_zero, List.set_cons_succ]
  refine st_to (v := (.bool true)) (some 38) rfl rfl (ex_pkF rfl rfl rfl) ?_
  simp only [Act.put, List.setIfInBounds_toArray, List.set_cons_zero, List.set_cons_succ]
  refine st_to (v := (.bool true)) (some 39) rfl rfl (ex_mv rfl rfl) ?_
  simp only [Act.put, List.setIfInBounds_toArray, List.set_cons_zero, List.set_cons_succ]
  refine st_no (some 40) rfl rfl ?_
  simp only [Act.put, List.setIfInBounds_toArray, List.set_cons_zero, List.set_cons_succ]
  refine st_no (some 41) rfl rfl ?_
  simp only [Act.put, List.setIfInBounds_toArray, List.set_cons_zero, List.set_cons_succ]
  refine st_no (some 42) rfl rfl ?_
  simp only [Act.put, List.setIfInBounds_toArray, List.set_cons_zero, List.set_cons_succ]
  refine st_to (v := (.bool true)) (some 43) rfl rfl (ex_pkT rfl rfl rfl) ?_
  simp only [Act.put, List.setIfInBounds_toArray, List.set_cons_zero, List.set_cons_succ]
  refine st_end ?_
  subst hQ
  refine wp_cond_true rfl ?_
  refine wp_seq ?_
  refine wl_in ?_
  refine wl_cap fun Q hQ => ?_
  refine st_to (v := (.agg #[.slice none 0 0, .slice none 0 0])) (some 44) rfl rfl (ex_build0  rfl (b34 _)) ?_
  simp only [Act.put, List.setIfInBounds_toArray, List.set_cons_zero, List.set_cons_succ]
  obtain ⟨W7, hst, kn, K⟩ := put_all (D := #[.slice none 0 0, .slice none 0 0]) k4 rfl inf34 (by kernel_rfl)
  refine st_sk rfl rfl (ex_store rfl rfl rfl hst) ?_
  replace E := below_put E ge_b4 K
  replace hH := hH0.below E
  replace k1 := keepK K k1 (fun e => ne_tag k1 k4 (by decide) e)
  replace k2 := keepK K k2 (fun e => ne_tag k2 k4 (by decide) e)
  replace k3 := keepK K k3 (fun e => ne_tag k3 k4 (by decide) e)
  replace k4 := kn
  clear kn K hst
  refine st_to (v := (.int .i64 1)) (some 9) rfl rfl (ex_asg rfl rfl) ?_
  simp only [Act.put, List.setIfInBounds_toArray, List.set_cons_zero, List.set_cons_succ]
  refine st_end ?_
  subst hQ
  refine wp_ret ?_
  refine ret_out ?_
  refine bodyPost_ret (ret_ct Try.results9 _ _ b4 _ _ _ _ rfl rfl k4 Try.underlying34 rfl inf34) rfl ⟨rfl, E⟩

set_option maxHeartbeats 2000000 in
theorem rcommit_sa {C : Array Value} {t : TV} {x y h : Int} {pl : List Int} {ao : Option Addr} {n c : Nat} {Cs : Nat → Array Value} {hv : Nat → HV} (w : World) (hT : IsT C t) (hb : TB t) (hpl : pl.length = 32) (hH : Hs w ao n Cs hv) (hn : n ≤ 140737488355328) (hx : x ≤ 9223372036854775807) (hy : y ≤ 9223372036854775807) (hz : ∀ i, i < n → (hv i).am ≤ 9223372036854775807) (c0 : mayT t = true) (ca : h = t.a) (c1 : fitsB t x y n hv = true) (c3 : pl = ZL) :
    Calls Try.prog 9 #[.agg C, .int .i64 h, .agg (U8 pl).toArray, .agg #[.int .i64 x, .int .i64 y, .slice ao n c]] w fun e w' => e = .returned (.tuple #[.agg #[.slice none 0 0, .slice none 0 0], .int .i64 1]) ∧ Below w.heap.size w w' := by
  have E : Below w.heap.size w w := Below.refl _ _
  go_enter Try.func9, Try.ntmps9
  have hH0 := hH
  refine wp_seq ?_
  refine wl_in ?_
  refine wl_cap fun Q hQ => ?_
  refine st_new (fun b => .pointer (some ⟨b, 0, none⟩)) (some 4) rfl rfl (ex_box rfl rfl) ?_
  intro b1 W1 k1 g1 B
  simp only [Act.put, List.setIfInBounds_toArray, List.set_cons_zero, List.set_cons_succ]
  have ge_b1 := Nat.le_trans E.size g1
  replace E := below_next E B
  replace hH := hH.below B
  clear B
  refine st_new (fun b => .pointer (some ⟨b, 0, none⟩)) (some 6) rfl rfl (ex_box rfl rfl) ?_
  intro b2 W2 k2 g2 B
  simp only [Act.put, List.setIfInBounds_toArray, List.set_cons_zero, List.set_cons_succ]
  have ne_b2_b1 : b2 ≠ b1 := fun e => by have := lt_of k1; omega
  have ge_b2 := Nat.le_trans E.size g2
  replace E := below_next E B
  replace hH := hH.below B
  replace k1 := keep B k1
  clear B
  refine st_new (fun b => .pointer (some ⟨b, 0, none⟩)) (some 7) rfl rfl (ex_box rfl rfl) ?_
  intro b3 W3 k3 g3 B
  simp only [Act.put, List.setIfInBounds_toArray, List.set_cons_zero, List.set_cons_succ]
  have ne_b3_b1 : b3 ≠ b1 := fun e => by have := lt_of k1; omega
  have ne_b3_b2 : b3 ≠ b2 := fun e => by have := lt_of k2; omega
  have ge_b3 := Nat.le_trans E.size g3
  replace E := below_next E B
  replace hH := hH.below B
  replace k1 := keep B k1
  replace k2 := keep B k2
  clear B
  refine st_new (fun b => .pointer (some ⟨b, 0, none⟩)) (some 8) rfl rfl (ex_alloc rfl zero34) ?_
  intro b4 W4 k4 g4 B
  simp only [Act.put, List.setIfInBounds_toArray, List.set_cons_zero, List.set_cons_succ]
  have ne_b4_b1 : b4 ≠ b1 := fun e => by have := lt_of k1; omega
  have ne_b4_b2 : b4 ≠ b2 := fun e => by have := lt_of k2; omega
  have ne_b4_b3 : b4 ≠ b3 := fun e => by have := lt_of k3; omega
  have ge_b4 := Nat.le_trans E.size g4
  replace E := below_next E B
  replace hH := hH.below B
  replace k1 := keep B k1
  replace k2 := keep B k2
  replace k3 := keep B k3
  clear B
  refine st_to (v := (.int .i64 0)) (some 9) rfl rfl (ex_asg rfl rfl) ?_
  simp only [Act.put, List.setIfInBounds_toArray, List.set_cons_zero, List.set_cons_succ]
  refine st_end ?_
  subst hQ
  refine wp_seq ?_
  refine wp_seq ?_
  refine wl_in ?_
  refine wl_cap fun Q hQ => ?_
  refine st_to (v := (.agg C)) (some 18) rfl rfl (ex_load (p := (.pointer (some ⟨b1, 0, none⟩))) rfl rfl (ld_all k1 Try.underlying26 rfl (inf26.trans (congrArg some (hT.size).symm)))) ?_
  simp only [Act.put, List.setIfInBounds_toArray, List.set_cons_zero, List.set_cons_succ]
  refine st_call (some 19) rfl rfl (rmay_any W4 hT hb c0) (ex_call (f := 13) (vs := [(.agg C)]) rfl (cf13 _) rfl) ?_
  rintro e W5 ⟨rfl, B⟩
  refine ⟨_, rfl, ?_⟩
  simp only [Act.put, List.setIfInBounds_toArray, List.set_cons_zero, List.set_cons_succ]
  replace E := below_next E B
  replace hH := hH.below B
  replace k1 := keep B k1
  replace k2 := keep B k2
  replace k3 := keep B k3
  replace k4 := keep B k4
  refine st_to (v := (.bool false)) (some 20) rfl rfl (ex_not rfl rfl rfl) ?_
  simp only [Act.put, List.setIfInBounds_toArray, List.set_cons_zero, List.set_cons_succ]
  refine st_to (v := (.bool false)) (some 21) rfl rfl (ex_mv rfl rfl) ?_
  simp only [Act.put, List.setIfInBounds_toArray, List.set_cons_zero, List.set_cons_succ]
  refine st_to (v := (.int .i64 h)) (some 22) rfl rfl (ex_mv rfl rfl) ?_
  simp only [Act.put, List.setIfInBounds_toArray, List.set_cons_zero, List.set_cons_succ]
  refine st_to (v := (.pointer (some ⟨b1, 1, none⟩))) (some 23) rfl rfl (ex_fa (p := (.pointer (some ⟨b1, 0, none⟩))) rfl rfl (fa26_1 _ _)) ?_
  simp only [Act.put, List.setIfInBounds_toArray, List.set_cons_zero, List.set_cons_succ]
  refine st_to (v := (.int .i64 t.a)) (some 24) rfl rfl (ex_load (p := (.pointer (some ⟨b1, 1, none⟩))) rfl rfl (ld3 (at_cell k1 hT.c1))) ?_
  simp only [Act.put, List.setIfInBounds_toArray, List.set_cons_zero, List.set_cons_succ]
  refine st_to (v := (.bool false)) (some 25) rfl rfl (ex_bin (u := (.int .i64 h)) (r := (.int .i64 t.a)) rfl rfl rfl (eg3 _ _ _ _ _ _) (neq3 _ (decide_eq_false (fun q => q ca)))) ?_
  simp only [Act.put, List.setIfInBounds_toArray, List.set_cons_zero, List.set_cons_succ]
  refine st_to (v := (.bool false)) (some 26) rfl rfl (ex_mv rfl rfl) ?_
  simp only [Act.put, List.setIfInBounds_toArray, List.set_cons_zero, List.set_cons_succ]
  refine st_no (some 27) rfl rfl ?_
  simp only [Act.put, List.setIfInBounds_toArray, List.set_cons_zero, List.set_cons_succ]
  refine st_no (some 28) rfl rfl ?_
  simp only [Act.put, List.setIfInBounds_toArray, List.set_cons_zero, List.set_cons_succ]
  refine st_no (some 29) rfl rfl ?_
  simp only [Act.put, List.setIfInBounds_toArray, List.set_cons_zero, List.set_cons_succ]
  refine st_no (some 30) rfl rfl ?_
  simp only [Act.put, List.setIfInBounds_toArray, List.set_cons_zero, List.set_cons_succ]
  refine st_to (v := (.bool false)) (some 31) rfl rfl (ex_pkF rfl rfl rfl) ?_
  simp only [Act.put, List.setIfInBounds_toArray, List.set_cons_zero, List.set_cons_succ]
  refine st_to (v := (.bool false)) (some 32) rfl rfl (ex_pkF rfl rfl rfl) ?_
  simp only [Act.put, List.setIfInBounds_toArray, List.set_cons_zero, List.set_cons_succ]
  refine st_to (v := (.bool false)) (some 33) rfl rfl (ex_mv rfl rfl) ?_
  simp only [Act.put, List.setIfInBounds_toArray, List.set_cons_zero, List.set_cons_succ]
  refine st_to (v := (.agg C)) (some 34) rfl rfl (ex_load (p := (.pointer (some ⟨b1, 0, none⟩))) rfl rfl (ld_all k1 Try.underlying26 rfl (inf26.trans (congrArg some (hT.size).symm)))) ?_
  simp only [Act.put, List.setIfInBounds_toArray, List.set_cons_zero, List.set_cons_succ]
  refine st_to (v := (.agg #[.int .i64 x, .int .i64 y, .slice ao n c])) (some 35) rfl rfl (ex_load (p := (.pointer (some ⟨b3, 0, none⟩))) rfl rfl (ld_all k3 Try.underlying29 rfl inf29)) ?_
  simp only [Act.put, List.setIfInBounds_toArray, List.set_cons_zero, List.set_cons_succ]
  refine st_call (some 36) rfl rfl (rfits_any W5 hT hb hH hn hx hy hz c1) (ex_call (f := 15) (vs := [(.agg C), (.agg #[.int .i64 x, .int .i64 y, .slice ao n c])]) rfl (cf15 _) rfl) ?_
  rintro e W6 ⟨rfl, B⟩
  refine ⟨_, rfl, ?_⟩
  simp only [Act.put, List.setIfInBounds_toArray, List.set_cons_zero, List.set_cons_succ]
  replace E := below_next E B
  replace hH := hH.below B
  replace k1 := keep B k1
  replace k2 := keep B k2
  replace k3 := keep B k3
  replace k4 := keep B k4
  refine st_to (v := (.bool false)) (some 37) rfl rfl (ex_not rfl rfl rfl) ?_
  simp only [Act.put, List.setIfInBounds_toArray, List.set_cons_zero, List.set_cons_succ]
  refine st_to (v := (.bool false)) (some 38) rfl rfl (ex_pkF rfl rfl rfl) ?_
  simp only [Act.put, List.setIfInBounds_toArray, List.set_cons_zero, List.set_cons_succ]
  refine st_to (v := (.bool false)) (some 39) rfl rfl (ex_mv rfl rfl) ?_
  simp only [Act.put, List.setIfInBounds_toArray, List.set_cons_zero, List.set_cons_succ]
  refine st_to (v := (.agg (U8 pl).toArray)) (some 40) rfl rfl (ex_load (p := (.pointer (some ⟨b2, 0, none⟩))) rfl rfl (ld_all k2 Try.underlying22 rfl (inf22.trans (congrArg some ((U8_size _ hpl)).symm)))) ?_
  simp only [Act.put, List.setIfInBounds_toArray, List.set_cons_zero, List.set_cons_succ]
  refine st_to (v := (.agg Z32)) (some 41) rfl rfl (ex_build0  rfl (b22 _)) ?_
  simp only [Act.put, List.setIfInBounds_toArray, List.set_cons_zero, List.set_cons_succ]
  refine st_to (v := (.bool true)) (some 42) rfl rfl (ex_bin rfl rfl rfl (eg22 _ _ _ _ _) (eqZ _ hpl (decide_eq_true c3))) ?_
  simp only [Act.put, List.setIfInBounds_toArray, List.set_cons_zero, List.set_cons_succ]
  refine st_to (v := (.bool true)) (some 43) rfl rfl (ex_pkF rfl rfl rfl) ?_
  simp only [Act.put, List.setIfInBounds_toArray, List.set_cons_zero, List.set_cons_succ]
  refine st_end ?_
  subst hQ
  refine wp_cond_true rfl ?_
  refine wp_seq ?_
  refine wl_in ?_
  refine wl_cap fun Q hQ => ?_
  refine st_to (v := (.agg #[.slice none 0 0, .slice none 0 0])) (some 44) rfl rfl (ex_build0  rfl (b34 _)) ?_
  simp only [Act.put, List.setIfInBounds_toArray, List.set_cons_zero, List.set_cons_succ]
  obtain ⟨W7, hst, kn, K⟩ := put_all (D := #[.slice none 0 0, .slice none 0 0]) k4 rfl inf34 (by kernel_rfl)
  refine st_sk rfl rfl (ex_store rfl rfl rfl hst) ?_
  replace E := below_put E ge_b4 K
  replace hH := hH0.below E
  replace k1 := keepK K k1 (fun e => ne_tag k1 k4 (by decide) e)
  replace k2 := keepK K k2 (fun e => ne_tag k2 k4 (by decide) e)
  replace k3 := keepK K k3 (fun e => ne_tag k3 k4 (by decide) e)
  replace k4 := kn
  clear kn K hst
  refine st_to (v := (.int .i64 1)) (some 9) rfl rfl (ex_asg rfl rfl) ?_
  simp only [Act.put, List.setIfInBounds_toArray, List.set_cons_zero, List.set_cons_succ]
  refine st_end ?_
  subst hQ
  refine wp_ret ?_
  refine ret_out ?_
  refine bodyPost_ret (ret_ct Try.results9 _ _ b4 _ _ _ _ rfl rfl k4 Try.underlying34 rfl inf34) rfl ⟨rfl, E⟩

set_option maxHeartbeats 2000000 in
theorem rcommit_sb {C : Array Value} {t : TV} {x y h : Int} {pl : List Int} {ao : Option Addr} {n c : Nat} {Cs : Nat → Array Value} {hv : Nat → HV} (w : World) (hT : IsT C t) (hb : TB t) (hpl : pl.length = 32) (hH : Hs w ao n Cs hv) (hn : n ≤ 140737488355328) (hx : x ≤ 9223372036854775807) (hy : y ≤ 9223372036854775807) (hz : ∀ i, i < n → (hv i).am ≤ 9223372036854775807) (c0 : mayT t = true) (ca : ¬ h = t.a) (cb : h = t.b) (c1 : fitsB t x y n hv = true) (c3 : pl = ZL) :
    Calls Try.prog 9 #[.agg C, .int .i64 h, .agg (U8 pl).toArray, .agg #[.int .i64 x, .int .i64 y, .slice ao n c]] w fun e w' => e = .returned (.tuple #[.agg #[.slice none 0 0, .slice none 0 0], .int .i64 1]) ∧ Below w.heap.size w w' := by
  have E : Below w.heap.size w w := Below.refl _ _
  go_enter Try.func9, Try.ntmps9
  have hH0 := hH
  refine wp_seq ?_
  refine wl_in ?_
  refine wl_cap fun Q hQ => ?_
  refine st_new (fun b => .pointer (some ⟨b, 0, none⟩)) (some 4) rfl rfl (ex_box rfl rfl) ?_
  intro b1 W1 k1 g1 B
  simp only [Act.put, List.setIfInBounds_toArray, List.set_cons_zero, List.set_cons_succ]
  have ge_b1 := Nat.le_trans E.size g1
  replace E := below_next E B
  replace hH := hH.below B
  clear B
  refine st_new (fun b => .pointer (some ⟨b, 0, none⟩)) (some 6) rfl rfl (ex_box rfl rfl) ?_
  intro b2 W2 k2 g2 B
  simp only [Act.put, List.setIfInBounds_toArray, List.set_cons_zero, List.set_cons_succ]
  have ne_b2_b1 : b2 ≠ b1 := fun e => by have := lt_of k1; omega
  have ge_b2 := Nat.le_trans E.size g2
  replace E := below_next E B
  replace hH := hH.below B
  replace k1 := keep B k1
  clear B
  refine st_new (fun b => .pointer (some ⟨b, 0, none⟩)) (some 7) rfl rfl (ex_box rfl rfl) ?_
  intro b3 W3 k3 g3 B
  simp only [Act.put, List.setIfInBounds_toArray, List.set_cons_zero, List.set_cons_succ]
  have ne_b3_b1 : b3 ≠ b1 := fun e => by have := lt_of k1; omega
  have ne_b3_b2 : b3 ≠ b2 := fun e => by have := lt_of k2; omega
  have ge_b3 := Nat.le_trans E.size g3
  replace E := below_next E B
  replace hH := hH.below B
  replace k1 := keep B k1
  replace k2 := keep B k2
  clear B
  refine st_new (fun b => .pointer (some ⟨b, 0, none⟩)) (some 8) rfl rfl (ex_alloc rfl zero34) ?_
  intro b4 W4 k4 g4 B
  simp only [Act.put, List.setIfInBounds_toArray, List.set_cons_zero, List.set_cons_succ]
  have ne_b4_b1 : b4 ≠ b1 := fun e => by have := lt_of k1; omega
  have ne_b4_b2 : b4 ≠ b2 := fun e => by have := lt_of k2; omega
  have ne_b4_b3 : b4 ≠ b3 := fun e => by have := lt_of k3; omega
  have ge_b4 := Nat.le_trans E.size g4
  replace E := below_next E B
  replace hH := hH.below B
  replace k1 := keep B k1
  replace k2 := keep B k2
  replace k3 := keep B k3
  clear B
  refine st_to (v := (.int .i64 0)) (some 9) rfl rfl (ex_asg rfl rfl) ?_
  simp only [Act.put, List.setIfInBounds_toArray, List.set_cons_zero, List.set_cons_succ]
  refine st_end ?_
  subst hQ
  refine wp_seq ?_
  refine wp_seq ?_
  refine wl_in ?_
  refine wl_cap fun Q hQ => ?_
  refine st_to (v := (.agg C)) (some 18) rfl rfl (ex_load (p := (.pointer (some ⟨b1, 0, none⟩))) rfl rfl (ld_all k1 Try.underlying26 rfl (inf26.trans (congrArg some (hT.size).symm)))) ?_
  simp only [Act.put, List.setIfInBounds_toArray, List.set_cons_zero, List.set_cons_succ]
  refine st_call (some 19) rfl rfl (rmay_any W4 hT hb c0) (ex_call (f := 13) (vs := [(.agg C)]) rfl (cf13 _) rfl) ?_
  rintro e W5 ⟨rfl, B⟩
  refine ⟨_, rfl, ?_⟩
  simp only [Act.put, List.setIfInBounds_toArray, List.set_cons_zero, List.set_cons_succ]
  replace E := below_next E B
  replace hH := hH.below B
  replace k1 := keep B k1
  replace k2 := keep B k2
  replace k3 := keep B k3
  replace k4 := keep B k4
  refine st_to (v := (.bool false)) (some 20) rfl rfl (ex_not rfl rfl rfl) ?_
  simp only [Act.put, List.setIfInBounds_toArray, List.set_cons_zero, List.set_cons_succ]
  refine st_to (v := (.bool false)) (some 21) rfl rfl (ex_mv rfl rfl) ?_
  simp only [Act.put, List.setIfInBounds_toArray, List.set_cons_zero, List.set_cons_succ]
  refine st_to (v := (.int .i64 h)) (some 22) rfl rfl (ex_mv rfl rfl) ?_
  simp only [Act.put, List.setIfInBounds_toArray, List.set_cons_zero, List.set_cons_succ]
  refine st_to (v := (.pointer (some ⟨b1, 1, none⟩))) (some 23) rfl rfl (ex_fa (p := (.pointer (some ⟨b1, 0, none⟩))) rfl rfl (fa26_1 _ _)) ?_
  simp only [Act.put, List.setIfInBounds_toArray, List.set_cons_zero, List.set_cons_succ]
  refine st_to (v := (.int .i64 t.a)) (some 24) rfl rfl (ex_load (p := (.pointer (some ⟨b1, 1, none⟩))) rfl rfl (ld3 (at_cell k1 hT.c1))) ?_
  simp only [Act.put, List.setIfInBounds_toArray, List.set_cons_zero, List.set_cons_succ]
  refine st_to (v := (.bool true)) (some 25) rfl rfl (ex_bin (u := (.int .i64 h)) (r := (.int .i64 t.a)) rfl rfl rfl (eg3 _ _ _ _ _ _) (neq3 _ (decide_eq_true ca))) ?_
  simp only [Act.put, List.setIfInBounds_toArray, List.set_cons_zero, List.set_cons_succ]
  refine st_to (v := (.bool true)) (some 26) rfl rfl (ex_mv rfl rfl) ?_
  simp only [Act.put, List.setIfInBounds_toArray, List.set_cons_zero, List.set_cons_succ]
  refine st_to (v := (.int .i64 h)) (some 27) rfl rfl (ex_mv rfl rfl) ?_
  simp only [Act.put, List.setIfInBounds_toArray, List.set_cons_zero, List.set_cons_succ]
  refine st_to (v := (.pointer (some ⟨b1, 2, none⟩))) (some 28) rfl rfl (ex_fa (p := (.pointer (some ⟨b1, 0, none⟩))) rfl rfl (fa26_2 _ _)) ?_
  simp only [Act.put, List.setIfInBounds_toArray, List.set_cons_zero, List.set_cons_succ]
  refine st_to (v := (.int .i64 t.b)) (some 29) rfl rfl (ex_load (p := (.pointer (some ⟨b1, 2, none⟩))) rfl rfl (ld3 (at_cell k1 hT.c2))) ?_
  simp only [Act.put, List.setIfInBounds_toArray, List.set_cons_zero, List.set_cons_succ]
  refine st_to (v := (.bool false)) (some 30) rfl rfl (ex_bin (u := (.int .i64 h)) (r := (.int .i64 t.b)) rfl rfl rfl (eg3 _ _ _ _ _ _) (neq3 _ (decide_eq_false (fun q => q cb)))) ?_
  simp only [Act.put, List.setIfInBounds_toArray, List.set_cons_zero, List.set_cons_succ]
  refine st_to (v := (.bool false)) (some 31) rfl rfl (ex_pkT rfl rfl rfl) ?_
  simp only [Act.put, List.setIfInBounds_toArray, List.set_cons_zero, List.set_cons_succ]
  refine st_to (v := (.bool false)) (some 32) rfl rfl (ex_pkF rfl rfl rfl) ?_
  simp only [Act.put, List.setIfInBounds_toArray, List.set_cons_zero, List.set_cons_succ]
  refine st_to (v := (.bool false)) (some 33) rfl rfl (ex_mv rfl rfl) ?_
  simp only [Act.put, List.setIfInBounds_toArray, List.set_cons_zero, List.set_cons_succ]
  refine st_to (v := (.agg C)) (some 34) rfl rfl (ex_load (p := (.pointer (some ⟨b1, 0, none⟩))) rfl rfl (ld_all k1 Try.underlying26 rfl (inf26.trans (congrArg some (hT.size).symm)))) ?_
  simp only [Act.put, List.setIfInBounds_toArray, List.set_cons_zero, List.set_cons_succ]
  refine st_to (v := (.agg #[.int .i64 x, .int .i64 y, .slice ao n c])) (some 35) rfl rfl (ex_load (p := (.pointer (some ⟨b3, 0, none⟩))) rfl rfl (ld_all k3 Try.underlying29 rfl inf29)) ?_
  simp only [Act.put, List.setIfInBounds_toArray, List.set_cons_zero, List.set_cons_succ]
  refine st_call (some 36) rfl rfl (rfits_any W5 hT hb hH hn hx hy hz c1) (ex_call (f := 15) (vs := [(.agg C), (.agg #[.int .i64 x, .int .i64 y, .slice ao n c])]) rfl (cf15 _) rfl) ?_
  rintro e W6 ⟨rfl, B⟩
  refine ⟨_, rfl, ?_⟩
  simp only [Act.put, List.setIfInBounds_toArray, List.set_cons_zero, List.set_cons_succ]
  replace E := below_next E B
  replace hH := hH.below B
  replace k1 := keep B k1
  replace k2 := keep B k2
  replace k3 := keep B k3
  replace k4 := keep B k4
  refine st_to (v := (.bool false)) (some 37) rfl rfl (ex_not rfl rfl rfl) ?_
  simp only [Act.put, List.setIfInBounds_toArray, List.set_cons_zero, List.set_cons_succ]
  refine st_to (v := (.bool false)) (some 38) rfl rfl (ex_pkF rfl rfl rfl) ?_
  simp only [Act.put, List.setIfInBounds_toArray, List.set_cons_zero, List.set_cons_succ]
  refine st_to (v := (.bool false)) (some 39) rfl rfl (ex_mv rfl rfl) ?_
  simp only [Act.put, List.setIfInBounds_toArray, List.set_cons_zero, List.set_cons_succ]
  refine st_to (v := (.agg (U8 pl).toArray)) (some 40) rfl rfl (ex_load (p := (.pointer (some ⟨b2, 0, none⟩))) rfl rfl (ld_all k2 Try.underlying22 rfl (inf22.trans (congrArg some ((U8_size _ hpl)).symm)))) ?_
  simp only [Act.put, List.setIfInBounds_toArray, List.set_cons_zero, List.set_cons_succ]
  refine st_to (v := (.agg Z32)) (some 41) rfl rfl (ex_build0  rfl (b22 _)) ?_
  simp only [Act.put, List.setIfInBounds_toArray, List.set_cons_zero, List.set_cons_succ]
  refine st_to (v := (.bool true)) (some 42) rfl rfl (ex_bin rfl rfl rfl (eg22 _ _ _ _ _) (eqZ _ hpl (decide_eq_true c3))) ?_
  simp only [Act.put, List.setIfInBounds_toArray, List.set_cons_zero, List.set_cons_succ]
  refine st_to (v := (.bool true)) (some 43) rfl rfl (ex_pkF rfl rfl rfl) ?_
  simp only [Act.put, List.setIfInBounds_toArray, List.set_cons_zero, List.set_cons_succ]
  refine st_end ?_
  subst hQ
  refine wp_cond_true rfl ?_
  refine wp_seq ?_
  refine wl_in ?_
  refine wl_cap fun Q hQ => ?_
  refine st_to (v := (.agg #[.slice none 0 0, .slice none 0 0])) (some 44) rfl rfl (ex_build0  rfl (b34 _)) ?_
  simp only [Act.put, List.setIfInBounds_toArray, List.set_cons_zero, List.set_cons_succ]
  obtain ⟨W7, hst, kn, K⟩ := put_all (D := #[.slice none 0 0, .slice none 0 0]) k4 rfl inf34 (by kernel_rfl)
  refine st_sk rfl rfl (ex_store rfl rfl rfl hst) ?_
  replace E := below_put E ge_b4 K
  replace hH := hH0.below E
  replace k1 := keepK K k1 (fun e => ne_tag k1 k4 (by decide) e)
  replace k2 := keepK K k2 (fun e => ne_tag k2 k4 (by decide) e)
  replace k3 := keepK K k3 (fun e => ne_tag k3 k4 (by decide) e)
  replace k4 := kn
  clear kn K hst
  refine st_to (v := (.int .i64 1)) (some 9) rfl rfl (ex_asg rfl rfl) ?_
  simp only [Act.put, List.setIfInBounds_toArray, List.set_cons_zero, List.set_cons_succ]
  refine st_end ?_
  subst hQ
  refine wp_ret ?_
  refine ret_out ?_
  refine bodyPost_ret (ret_ct Try.results9 _ _ b4 _ _ _ _ rfl rfl k4 Try.underlying34 rfl inf34) rfl ⟨rfl, E⟩

theorem rcommit_no {C : Array Value} {t : TV} {x y h : Int} {pl : List Int} {ao : Option Addr} {n c : Nat} {Cs : Nat → Array Value} {hv : Nat → HV} (w : World) (hT : IsT C t) (hb : TB t) (hpl : pl.length = 32) (hH : Hs w ao n Cs hv) (hn : n ≤ 140737488355328) (hx : x ≤ 9223372036854775807) (hy : y ≤ 9223372036854775807) (hz : ∀ i, i < n → (hv i).am ≤ 9223372036854775807) (hno : ¬ (fitsB t x y n hv = true ∧ (h = t.a ∨ h = t.b) ∧ pl ≠ ZL)) :
    Calls Try.prog 9 #[.agg C, .int .i64 h, .agg (U8 pl).toArray, .agg #[.int .i64 x, .int .i64 y, .slice ao n c]] w fun e w' => e = .returned (.tuple #[.agg #[.slice none 0 0, .slice none 0 0], .int .i64 1]) ∧ Below w.heap.size w w' := by
  cases c0 : mayT t with
  | false => exact rcommit_m w hT hb hpl hH hn hx hy hz c0
  | true =>
    by_cases ca : h = t.a
    · cases c1 : fitsB t x y n hv with
      | false => exact rcommit_fa w hT hb hpl hH hn hx hy hz c0 ca c1
      | true =>
        by_cases c3 : pl = ZL
        · exact rcommit_sa w hT hb hpl hH hn hx hy hz c0 ca c1 c3
        · exact absurd ⟨c1, Or.inl ca, c3⟩ hno
    · by_cases cb : h = t.b
      · cases c1 : fitsB t x y n hv with
        | false => exact rcommit_fb w hT hb hpl hH hn hx hy hz c0 ca cb c1
        | true =>
          by_cases c3 : pl = ZL
          · exact rcommit_sb w hT hb hpl hH hn hx hy hz c0 ca cb c1 c3
          · exact absurd ⟨c1, Or.inr cb, c3⟩ hno
      · exact rcommit_w w hT hb hpl hH hn hx hy hz c0 ca cb
end Go.Proofs.Ytkhpbjafdamhaaa
