/- The document's view, the other one, what pays for a channel, a view's copy. -/
import Derived.Test.YtkhpbjafdamhaaaDCl
import Derived.Test.YtkhpbjafdamhaaaDSumL
namespace Go.Proofs.Ytkhpbjafdamhaaa
open Go.RowKit
set_option linter.unusedVariables false
set_option linter.unusedSimpArgs false
set_option maxRecDepth 100000

theorem rother_any {C : Array Value} {t : TV} (n : Int) (w : World) (hT : IsT C t) :
    Calls Try.prog 17 #[.agg C, .int .i64 n] w fun e w' => e = .returned (.int .i64 (othN t n)) ∧ Below w.heap.size w w' := by
  unfold othN
  by_cases c1 : n = t.a
  · rw [if_pos c1]
    have E : Below w.heap.size w w := Below.refl _ _
    go_enter Try.func17, Try.ntmps17; refine wq fun Q hQ => ?_; refine st_new (fun b => .pointer (some ⟨b, 0, none⟩)) (some 2) rfl rfl (ex_box rfl rfl) ?_; intro b1 W1 k1 g1 B; simp only [zp]; have ge_b1 := Nat.le_trans E.size g1; replace E := below_next E B; clear B; refine sg (.int .i64 0) 4 rfl rfl rfl rfl ?_; simp only [zp]; refine st_end ?_; subst hQ; refine wp_seq ?_; refine wq fun Q hQ => ?_; refine sm (.int .i64 n) 5 rfl rfl rfl rfl ?_; simp only [zp]
    refine sv (.pointer (some ⟨b1, 1, none⟩)) 6 rfl rfl (ex_fa (p := (.pointer (some ⟨b1, 0, none⟩))) rfl rfl (fa26_1 _ _)) ?_; simp only [zp]; refine sv (.int .i64 t.a) 7 rfl rfl (ex_load (p := (.pointer (some ⟨b1, 1, none⟩))) rfl rfl (ld3 (at_cell k1 hT.c1))) ?_; simp only [zp]; refine sv (.bool true) 8 rfl rfl (ex_bin (u := (.int .i64 n)) (r := (.int .i64 t.a)) rfl rfl rfl (eg3 _ _ _ _ _ _) (eql3 _ (decide_eq_true c1))) ?_; simp only [zp]; refine st_end ?_; subst hQ; refine wp_cond_true rfl ?_; refine wq fun Q hQ => ?_
    refine sv (.pointer (some ⟨b1, 2, none⟩)) 9 rfl rfl (ex_fa (p := (.pointer (some ⟨b1, 0, none⟩))) rfl rfl (fa26_2 _ _)) ?_; simp only [zp]; refine sv (.int .i64 t.b) 10 rfl rfl (ex_load (p := (.pointer (some ⟨b1, 2, none⟩))) rfl rfl (ld3 (at_cell k1 hT.c2))) ?_; simp only [zp]; refine sg (.int .i64 t.b) 4 rfl rfl rfl rfl ?_; simp only [zp]; refine st_end ?_; subst hQ; refine wp_ret ?_; refine ret_out ?_; refine bodyPost_ret (results_tmp Try.results17 _ _ _) rfl ⟨rfl, E⟩
  rw [if_neg c1]
  by_cases c2 : n = t.b
  · rw [if_pos c2]
    have E : Below w.heap.size w w := Below.refl _ _
    go_enter Try.func17, Try.ntmps17; refine wq fun Q hQ => ?_; refine st_new (fun b => .pointer (some ⟨b, 0, none⟩)) (some 2) rfl rfl (ex_box rfl rfl) ?_; intro b1 W1 k1 g1 B; simp only [zp]; have ge_b1 := Nat.le_trans E.size g1; replace E := below_next E B; clear B; refine sg (.int .i64 0) 4 rfl rfl rfl rfl ?_; simp only [zp]; refine st_end ?_; subst hQ; refine wp_seq ?_; refine wq fun Q hQ => ?_; refine sm (.int .i64 n) 5 rfl rfl rfl rfl ?_; simp only [zp]
    refine sv (.pointer (some ⟨b1, 1, none⟩)) 6 rfl rfl (ex_fa (p := (.pointer (some ⟨b1, 0, none⟩))) rfl rfl (fa26_1 _ _)) ?_; simp only [zp]; refine sv (.int .i64 t.a) 7 rfl rfl (ex_load (p := (.pointer (some ⟨b1, 1, none⟩))) rfl rfl (ld3 (at_cell k1 hT.c1))) ?_; simp only [zp]; refine sv (.bool false) 8 rfl rfl (ex_bin (u := (.int .i64 n)) (r := (.int .i64 t.a)) rfl rfl rfl (eg3 _ _ _ _ _ _) (eql3 _ (decide_eq_false c1))) ?_; simp only [zp]; refine st_end ?_; subst hQ; refine wp_cond_false rfl ?_; refine wp_skip ?_; refine wp_seq ?_; refine wq fun Q hQ => ?_
    refine sm (.int .i64 n) 11 rfl rfl rfl rfl ?_; simp only [zp]; refine sv (.pointer (some ⟨b1, 2, none⟩)) 12 rfl rfl (ex_fa (p := (.pointer (some ⟨b1, 0, none⟩))) rfl rfl (fa26_2 _ _)) ?_; simp only [zp]; refine sv (.int .i64 t.b) 13 rfl rfl (ex_load (p := (.pointer (some ⟨b1, 2, none⟩))) rfl rfl (ld3 (at_cell k1 hT.c2))) ?_; simp only [zp]; refine sv (.bool true) 14 rfl rfl (ex_bin (u := (.int .i64 n)) (r := (.int .i64 t.b)) rfl rfl rfl (eg3 _ _ _ _ _ _) (eql3 _ (decide_eq_true c2))) ?_; simp only [zp]; refine st_end ?_; subst hQ; refine wp_cond_true rfl ?_; refine wq fun Q hQ => ?_
    refine sv (.pointer (some ⟨b1, 1, none⟩)) 15 rfl rfl (ex_fa (p := (.pointer (some ⟨b1, 0, none⟩))) rfl rfl (fa26_1 _ _)) ?_; simp only [zp]; refine sv (.int .i64 t.a) 16 rfl rfl (ex_load (p := (.pointer (some ⟨b1, 1, none⟩))) rfl rfl (ld3 (at_cell k1 hT.c1))) ?_; simp only [zp]; refine sg (.int .i64 t.a) 4 rfl rfl rfl rfl ?_; simp only [zp]; refine st_end ?_; subst hQ; refine wp_ret ?_; refine ret_out ?_; refine bodyPost_ret (results_tmp Try.results17 _ _ _) rfl ⟨rfl, E⟩
  rw [if_neg c2]
  have E : Below w.heap.size w w := Below.refl _ _
  go_enter Try.func17, Try.ntmps17; refine wq fun Q hQ => ?_; refine st_new (fun b => .pointer (some ⟨b, 0, none⟩)) (some 2) rfl rfl (ex_box rfl rfl) ?_; intro b1 W1 k1 g1 B; simp only [zp]; have ge_b1 := Nat.le_trans E.size g1; replace E := below_next E B; clear B; refine sg (.int .i64 0) 4 rfl rfl rfl rfl ?_; simp only [zp]; refine st_end ?_; subst hQ; refine wp_seq ?_; refine wq fun Q hQ => ?_; refine sm (.int .i64 n) 5 rfl rfl rfl rfl ?_; simp only [zp]
  refine sv (.pointer (some ⟨b1, 1, none⟩)) 6 rfl rfl (ex_fa (p := (.pointer (some ⟨b1, 0, none⟩))) rfl rfl (fa26_1 _ _)) ?_; simp only [zp]; refine sv (.int .i64 t.a) 7 rfl rfl (ex_load (p := (.pointer (some ⟨b1, 1, none⟩))) rfl rfl (ld3 (at_cell k1 hT.c1))) ?_; simp only [zp]; refine sv (.bool false) 8 rfl rfl (ex_bin (u := (.int .i64 n)) (r := (.int .i64 t.a)) rfl rfl rfl (eg3 _ _ _ _ _ _) (eql3 _ (decide_eq_false c1))) ?_; simp only [zp]; refine st_end ?_; subst hQ; refine wp_cond_false rfl ?_; refine wp_skip ?_; refine wp_seq ?_; refine wq fun Q hQ => ?_
  refine sm (.int .i64 n) 11 rfl rfl rfl rfl ?_; simp only [zp]; refine sv (.pointer (some ⟨b1, 2, none⟩)) 12 rfl rfl (ex_fa (p := (.pointer (some ⟨b1, 0, none⟩))) rfl rfl (fa26_2 _ _)) ?_; simp only [zp]; refine sv (.int .i64 t.b) 13 rfl rfl (ex_load (p := (.pointer (some ⟨b1, 2, none⟩))) rfl rfl (ld3 (at_cell k1 hT.c2))) ?_; simp only [zp]; refine sv (.bool false) 14 rfl rfl (ex_bin (u := (.int .i64 n)) (r := (.int .i64 t.b)) rfl rfl rfl (eg3 _ _ _ _ _ _) (eql3 _ (decide_eq_false c2))) ?_; simp only [zp]; refine st_end ?_; subst hQ; refine wp_cond_false rfl ?_; refine wp_skip ?_
  refine wq fun Q hQ => ?_; refine sg (.int .i64 (-1)) 4 rfl rfl rfl rfl ?_; simp only [zp]; refine st_end ?_; subst hQ; refine wp_ret ?_; refine bodyPost_ret (results_tmp Try.results17 _ _ _) rfl ⟨rfl, E⟩
theorem b46z (W : World) : (Instr.build 46 #[]).run Try.prog W = .ok (.agg #[.int .i64 0, .slice none 0 0]) W := run_build W 46 _ _ (by kernel_rfl)
theorem fund_no {C : Array Value} {t : TV} (w : World) (hT : IsT C t) (hb : TB t) (hm : mayT t = false) :
    Calls Try.prog 19 #[.agg C] w fun e w' => e = .returned (.agg #[.int .i64 0, .slice none 0 0]) ∧ Below w.heap.size w w' := by
  have E : Below w.heap.size w w := Below.refl _ _
  go_enter Try.func19, Try.ntmps19; refine wq fun Q hQ => ?_; refine st_new (fun b => .pointer (some ⟨b, 0, none⟩)) (some 1) rfl rfl (ex_box rfl rfl) ?_; intro b1 W1 k1 g1 B; simp only [zp]; have ge_b1 := Nat.le_trans E.size g1; replace E := below_next E B; clear B; refine st_new (fun b => .pointer (some ⟨b, 0, none⟩)) (some 2) rfl rfl (ex_alloc rfl zero46) ?_; intro b2 W2 k2 g2 B; simp only [zp]
  have ne_b2_b1 : b2 ≠ b1 := fun e => by have := lt_of k1; omega
  have ge_b2 := Nat.le_trans E.size g2; replace E := below_next E B; replace k1 := keep B k1; clear B; refine st_end ?_; subst hQ; refine wp_seq ?_; refine wq fun Q hQ => ?_; refine sv (.agg C) 3 rfl rfl (ex_load (p := (.pointer (some ⟨b1, 0, none⟩))) rfl rfl (ld_all k1 Try.underlying26 rfl (inf26.trans (congrArg some (hT.size).symm)))) ?_; simp only [zp]; refine st_call (some 4) rfl rfl (may_any W2 hT hb hm) (ex_call (f := 12) (vs := [(.agg C)]) rfl (cf12 _) rfl) ?_; rintro e W3 ⟨rfl, B⟩; refine ⟨_, rfl, ?_⟩; simp only [zp]; replace E := below_next E B; replace k1 := keep B k1
  replace k2 := keep B k2; refine sv (.bool true) 5 rfl rfl (ex_not rfl rfl rfl) ?_; simp only [zp]; refine st_end ?_; subst hQ; refine wp_cond_true rfl ?_; refine wq fun Q hQ => ?_; refine sv (.agg #[.int .i64 0, .slice none 0 0]) 6 rfl rfl (ex_build0  rfl (b46z _)) ?_; simp only [zp]; obtain ⟨W4, hst, kn, K⟩ := put_all (D := #[.int .i64 0, .slice none 0 0]) k2 rfl inf46 (by kernel_rfl); refine st_sk rfl rfl (ex_store rfl rfl rfl hst) ?_; replace E := below_put E ge_b2 K; replace k1 := keepK K k1 (fun e => ne_tag k1 k2 (by decide) e); replace k2 := kn; clear kn K hst
  refine st_end ?_; subst hQ; refine wp_ret ?_; refine ret_out ?_; refine bodyPost_ret (results_cell_row Try.results19 _ _ b2 _ _ _ _ rfl k2 Try.underlying46 rfl inf46) rfl ⟨rfl, E⟩
theorem fund_ok {C : Array Value} {t : TV} (w : World) (hT : IsT C t) (hb : TB t) (hm : mayT t = true) :
    Calls Try.prog 19 #[.agg C] w fun e w' => ∃ g, e = .returned (.agg #[.int .i64 (t.sa + t.sb), .slice (some ⟨g, 0, none⟩) 1 1]) ∧ w'.heap[g]? = some (.cells (pth t.a t.b true 0 0 Z32) 66) ∧ Below w.heap.size w w' := by
  have hM := mayT_sum hm
  have E : Below w.heap.size w w := Below.refl _ _
  go_enter Try.func19, Try.ntmps19; refine wq fun Q hQ => ?_; refine st_new (fun b => .pointer (some ⟨b, 0, none⟩)) (some 1) rfl rfl (ex_box rfl rfl) ?_; intro b1 W1 k1 g1 B; simp only [zp]; have ge_b1 := Nat.le_trans E.size g1; replace E := below_next E B; clear B; refine st_new (fun b => .pointer (some ⟨b, 0, none⟩)) (some 2) rfl rfl (ex_alloc rfl zero46) ?_; intro b2 W2 k2 g2 B; simp only [zp]
  have ne_b2_b1 : b2 ≠ b1 := fun e => by have := lt_of k1; omega
  have ge_b2 := Nat.le_trans E.size g2; replace E := below_next E B; replace k1 := keep B k1; clear B; refine st_end ?_; subst hQ; refine wp_seq ?_; refine wq fun Q hQ => ?_; refine sv (.agg C) 3 rfl rfl (ex_load (p := (.pointer (some ⟨b1, 0, none⟩))) rfl rfl (ld_all k1 Try.underlying26 rfl (inf26.trans (congrArg some (hT.size).symm)))) ?_; simp only [zp]; refine st_call (some 4) rfl rfl (may_any W2 hT hb hm) (ex_call (f := 12) (vs := [(.agg C)]) rfl (cf12 _) rfl) ?_; rintro e W3 ⟨rfl, B⟩; refine ⟨_, rfl, ?_⟩; simp only [zp]; replace E := below_next E B; replace k1 := keep B k1
  replace k2 := keep B k2; refine sv (.bool false) 5 rfl rfl (ex_not rfl rfl rfl) ?_; simp only [zp]; refine st_end ?_; subst hQ; refine wp_cond_false rfl ?_; refine wp_skip ?_; refine wq fun Q hQ => ?_; refine sv (.pointer (some ⟨b1, 36, none⟩)) 7 rfl rfl (ex_fa (p := (.pointer (some ⟨b1, 0, none⟩))) rfl rfl (fa26_4 _ _)) ?_; simp only [zp]; refine sv (.int .i64 t.sa) 8 rfl rfl (ex_load (p := (.pointer (some ⟨b1, 36, none⟩))) rfl rfl (ld3 (at_cell k1 hT.c36))) ?_; simp only [zp]
  refine sv (.pointer (some ⟨b1, 37, none⟩)) 9 rfl rfl (ex_fa (p := (.pointer (some ⟨b1, 0, none⟩))) rfl rfl (fa26_5 _ _)) ?_; simp only [zp]; refine sv (.int .i64 t.sb) 10 rfl rfl (ex_load (p := (.pointer (some ⟨b1, 37, none⟩))) rfl rfl (ld3 (at_cell k1 hT.c37))) ?_; simp only [zp]; refine sv (.int .i64 (t.sa + t.sb)) 11 rfl rfl (ex_bin rfl rfl rfl (eg3 _ _ _ _ _ _) (add3 _ rfl (by omega))) ?_; simp only [zp]; refine sv (.pointer (some ⟨b1, 1, none⟩)) 12 rfl rfl (ex_fa (p := (.pointer (some ⟨b1, 0, none⟩))) rfl rfl (fa26_1 _ _)) ?_; simp only [zp]
  refine sv (.int .i64 t.a) 13 rfl rfl (ex_load (p := (.pointer (some ⟨b1, 1, none⟩))) rfl rfl (ld3 (at_cell k1 hT.c1))) ?_; simp only [zp]; refine sv (.pointer (some ⟨b1, 2, none⟩)) 14 rfl rfl (ex_fa (p := (.pointer (some ⟨b1, 0, none⟩))) rfl rfl (fa26_2 _ _)) ?_; simp only [zp]; refine sv (.int .i64 t.b) 15 rfl rfl (ex_load (p := (.pointer (some ⟨b1, 2, none⟩))) rfl rfl (ld3 (at_cell k1 hT.c2))) ?_; simp only [zp]
  refine sv (.agg (pth t.a t.b true 0 0 Z32)) 16 rfl rfl (ex_build3 (v1 := (.int .i64 t.a)) (v2 := (.int .i64 t.b)) (v3 := (.bool true)) rfl rfl rfl rfl (b66_012 _ _ _)) ?_; simp only [zp]; refine st_new (fun b => .slice (some ⟨b, 0, none⟩) 1 1) (some 17) rfl rfl (ex_bsl1 (u := (.agg (pth t.a t.b true 0 0 Z32))) rfl rfl (bs44_1 _ (pth_size Z32_size) _)) ?_; intro b3 W4 k3 g3 B; simp only [zp]
  have ne_b3_b1 : b3 ≠ b1 := fun e => by have := lt_of k1; omega
  have ne_b3_b2 : b3 ≠ b2 := fun e => by have := lt_of k2; omega
  have ge_b3 := Nat.le_trans E.size g3; replace E := below_next E B; replace k1 := keep B k1; replace k2 := keep B k2; clear B; refine st_call (some 18) rfl rfl (output_any _ _ _ _ W4) (ex_call (f := 39) (vs := [(.int .i64 (t.sa + t.sb)), (.slice (some ⟨b3, 0, none⟩) 1 1)]) rfl (cf39 _) rfl) ?_; rintro e W5 ⟨rfl, B⟩; refine ⟨_, rfl, ?_⟩; simp only [zp]; replace E := below_next E B; replace k1 := keep B k1; replace k2 := keep B k2; replace k3 := keep B k3; obtain ⟨W6, hst, kn, K⟩ := put_all (D := #[(.int .i64 (t.sa + t.sb)), (.slice (some ⟨b3, 0, none⟩) 1 1)]) k2 rfl inf46 (by kernel_rfl)
  refine st_sk rfl rfl (ex_store rfl rfl rfl hst) ?_; replace E := below_put E ge_b2 K; replace k1 := keepK K k1 (fun e => ne_tag k1 k2 (by decide) e); replace k3 := keepK K k3 (fun e => ne_tag k3 k2 (by decide) e); replace k2 := kn; clear kn K hst; refine st_end ?_; subst hQ; refine wp_ret ?_; refine bodyPost_ret (results_cell_row Try.results19 _ _ b2 _ _ _ _ rfl k2 Try.underlying46 rfl inf46) rfl ⟨b3, rfl, k3, E⟩
theorem rfund_no {C : Array Value} {t : TV} (w : World) (hT : IsT C t) (hb : TB t) (hm : mayT t = false) :
    Calls Try.prog 20 #[.agg C] w fun e w' => e = .returned (.agg #[.int .i64 0, .slice none 0 0]) ∧ Below w.heap.size w w' := by
  have E : Below w.heap.size w w := Below.refl _ _
  go_enter Try.func20, Try.ntmps20; refine wq fun Q hQ => ?_; refine st_new (fun b => .pointer (some ⟨b, 0, none⟩)) (some 1) rfl rfl (ex_box rfl rfl) ?_; intro b1 W1 k1 g1 B; simp only [zp]; have ge_b1 := Nat.le_trans E.size g1; replace E := below_next E B; clear B; refine st_new (fun b => .pointer (some ⟨b, 0, none⟩)) (some 2) rfl rfl (ex_alloc rfl zero46) ?_; intro b2 W2 k2 g2 B; simp only [zp]
  have ne_b2_b1 : b2 ≠ b1 := fun e => by have := lt_of k1; omega
  have ge_b2 := Nat.le_trans E.size g2; replace E := below_next E B; replace k1 := keep B k1; clear B; refine st_end ?_; subst hQ; refine wp_seq ?_; refine wq fun Q hQ => ?_; refine sv (.agg C) 3 rfl rfl (ex_load (p := (.pointer (some ⟨b1, 0, none⟩))) rfl rfl (ld_all k1 Try.underlying26 rfl (inf26.trans (congrArg some (hT.size).symm)))) ?_; simp only [zp]; refine st_call (some 4) rfl rfl (rmay_any W2 hT hb hm) (ex_call (f := 13) (vs := [(.agg C)]) rfl (cf13 _) rfl) ?_; rintro e W3 ⟨rfl, B⟩; refine ⟨_, rfl, ?_⟩; simp only [zp]; replace E := below_next E B; replace k1 := keep B k1
  replace k2 := keep B k2; refine sv (.bool true) 5 rfl rfl (ex_not rfl rfl rfl) ?_; simp only [zp]; refine st_end ?_; subst hQ; refine wp_cond_true rfl ?_; refine wq fun Q hQ => ?_; refine sv (.agg #[.int .i64 0, .slice none 0 0]) 6 rfl rfl (ex_build0  rfl (b46z _)) ?_; simp only [zp]; obtain ⟨W4, hst, kn, K⟩ := put_all (D := #[.int .i64 0, .slice none 0 0]) k2 rfl inf46 (by kernel_rfl); refine st_sk rfl rfl (ex_store rfl rfl rfl hst) ?_; replace E := below_put E ge_b2 K; replace k1 := keepK K k1 (fun e => ne_tag k1 k2 (by decide) e); replace k2 := kn; clear kn K hst
  refine st_end ?_; subst hQ; refine wp_ret ?_; refine ret_out ?_; refine bodyPost_ret (results_cell_row Try.results20 _ _ b2 _ _ _ _ rfl k2 Try.underlying46 rfl inf46) rfl ⟨rfl, E⟩
theorem rfund_ok {C : Array Value} {t : TV} (w : World) (hT : IsT C t) (hb : TB t) (hm : mayT t = true) :
    Calls Try.prog 20 #[.agg C] w fun e w' => ∃ g, e = .returned (.agg #[.int .i64 (t.sa + t.sb), .slice (some ⟨g, 0, none⟩) 1 1]) ∧ w'.heap[g]? = some (.cells (pth t.a t.b true 0 0 Z32) 66) ∧ Below w.heap.size w w' := by
  have hM := mayT_sum hm
  have E : Below w.heap.size w w := Below.refl _ _
  go_enter Try.func20, Try.ntmps20; refine wq fun Q hQ => ?_; refine st_new (fun b => .pointer (some ⟨b, 0, none⟩)) (some 1) rfl rfl (ex_box rfl rfl) ?_; intro b1 W1 k1 g1 B; simp only [zp]; have ge_b1 := Nat.le_trans E.size g1; replace E := below_next E B; clear B; refine st_new (fun b => .pointer (some ⟨b, 0, none⟩)) (some 2) rfl rfl (ex_alloc rfl zero46) ?_; intro b2 W2 k2 g2 B; simp only [zp]
  have ne_b2_b1 : b2 ≠ b1 := fun e => by have := lt_of k1; omega
  have ge_b2 := Nat.le_trans E.size g2; replace E := below_next E B; replace k1 := keep B k1; clear B; refine st_end ?_; subst hQ; refine wp_seq ?_; refine wq fun Q hQ => ?_; refine sv (.agg C) 3 rfl rfl (ex_load (p := (.pointer (some ⟨b1, 0, none⟩))) rfl rfl (ld_all k1 Try.underlying26 rfl (inf26.trans (congrArg some (hT.size).symm)))) ?_; simp only [zp]; refine st_call (some 4) rfl rfl (rmay_any W2 hT hb hm) (ex_call (f := 13) (vs := [(.agg C)]) rfl (cf13 _) rfl) ?_; rintro e W3 ⟨rfl, B⟩; refine ⟨_, rfl, ?_⟩; simp only [zp]; replace E := below_next E B; replace k1 := keep B k1
  replace k2 := keep B k2; refine sv (.bool false) 5 rfl rfl (ex_not rfl rfl rfl) ?_; simp only [zp]; refine st_end ?_; subst hQ; refine wp_cond_false rfl ?_; refine wp_skip ?_; refine wq fun Q hQ => ?_; refine sv (.pointer (some ⟨b1, 36, none⟩)) 7 rfl rfl (ex_fa (p := (.pointer (some ⟨b1, 0, none⟩))) rfl rfl (fa26_4 _ _)) ?_; simp only [zp]; refine sv (.int .i64 t.sa) 8 rfl rfl (ex_load (p := (.pointer (some ⟨b1, 36, none⟩))) rfl rfl (ld3 (at_cell k1 hT.c36))) ?_; simp only [zp]
  refine sv (.pointer (some ⟨b1, 37, none⟩)) 9 rfl rfl (ex_fa (p := (.pointer (some ⟨b1, 0, none⟩))) rfl rfl (fa26_5 _ _)) ?_; simp only [zp]; refine sv (.int .i64 t.sb) 10 rfl rfl (ex_load (p := (.pointer (some ⟨b1, 37, none⟩))) rfl rfl (ld3 (at_cell k1 hT.c37))) ?_; simp only [zp]; refine sv (.int .i64 (t.sa + t.sb)) 11 rfl rfl (ex_bin rfl rfl rfl (eg3 _ _ _ _ _ _) (add3 _ rfl (by omega))) ?_; simp only [zp]; refine sv (.pointer (some ⟨b1, 1, none⟩)) 12 rfl rfl (ex_fa (p := (.pointer (some ⟨b1, 0, none⟩))) rfl rfl (fa26_1 _ _)) ?_; simp only [zp]
  refine sv (.int .i64 t.a) 13 rfl rfl (ex_load (p := (.pointer (some ⟨b1, 1, none⟩))) rfl rfl (ld3 (at_cell k1 hT.c1))) ?_; simp only [zp]; refine sv (.pointer (some ⟨b1, 2, none⟩)) 14 rfl rfl (ex_fa (p := (.pointer (some ⟨b1, 0, none⟩))) rfl rfl (fa26_2 _ _)) ?_; simp only [zp]; refine sv (.int .i64 t.b) 15 rfl rfl (ex_load (p := (.pointer (some ⟨b1, 2, none⟩))) rfl rfl (ld3 (at_cell k1 hT.c2))) ?_; simp only [zp]
  refine sv (.agg (pth t.a t.b true 0 0 Z32)) 16 rfl rfl (ex_build3 (v1 := (.int .i64 t.a)) (v2 := (.int .i64 t.b)) (v3 := (.bool true)) rfl rfl rfl rfl (b66_012 _ _ _)) ?_; simp only [zp]; refine st_new (fun b => .slice (some ⟨b, 0, none⟩) 1 1) (some 17) rfl rfl (ex_bsl1 (u := (.agg (pth t.a t.b true 0 0 Z32))) rfl rfl (bs44_1 _ (pth_size Z32_size) _)) ?_; intro b3 W4 k3 g3 B; simp only [zp]
  have ne_b3_b1 : b3 ≠ b1 := fun e => by have := lt_of k1; omega
  have ne_b3_b2 : b3 ≠ b2 := fun e => by have := lt_of k2; omega
  have ge_b3 := Nat.le_trans E.size g3; replace E := below_next E B; replace k1 := keep B k1; replace k2 := keep B k2; clear B; refine sv (.agg #[(.int .i64 (t.sa + t.sb)), (.slice (some ⟨b3, 0, none⟩) 1 1)]) 18 rfl rfl (ex_build2 (v1 := (.int .i64 (t.sa + t.sb))) (v2 := (.slice (some ⟨b3, 0, none⟩) 1 1)) rfl rfl rfl (b46_01 _ _ _ _ _)) ?_; simp only [zp]; obtain ⟨W5, hst, kn, K⟩ := put_all (D := #[(.int .i64 (t.sa + t.sb)), (.slice (some ⟨b3, 0, none⟩) 1 1)]) k2 rfl inf46 (by kernel_rfl); refine st_sk rfl rfl (ex_store rfl rfl rfl hst) ?_; replace E := below_put E ge_b2 K
  replace k1 := keepK K k1 (fun e => ne_tag k1 k2 (by decide) e); replace k3 := keepK K k3 (fun e => ne_tag k3 k2 (by decide) e); replace k2 := kn; clear kn K hst; refine st_end ?_; subst hQ; refine wp_ret ?_; refine bodyPost_ret (results_cell_row Try.results20 _ _ b2 _ _ _ _ rfl k2 Try.underlying46 rfl inf46) rfl ⟨b3, rfl, k3, E⟩
theorem IsH.self {C : Array Value} {h : HV} (x : IsH C h) : Refl 49 10000 (.agg C) :=
  refl_struct (d := 9999) (L := [(3, 0), (3, 1), (3, 2), (22, 3), (3, 35)]) (by kernel_rfl) (by kernel_rfl) (by kernel_rfl) fun p hp => by
    simp only [List.mem_cons, List.mem_nil_iff, or_false] at hp
    rcases hp with rfl | rfl | rfl | rfl | rfl
    · exact ⟨_, part1 Try.underlying3 rfl x.c0, refl3 9998 _⟩
    · exact ⟨_, part1 Try.underlying3 rfl x.c1, refl3 9998 _⟩
    · exact ⟨_, part1 Try.underlying3 rfl x.c2, refl3 9998 _⟩
    · exact ⟨_, partN Try.underlying22 rfl inf22 x.part, refl22 9997 h.hl x.len⟩
    · exact ⟨_, part1 Try.underlying3 rfl x.c35, refl3 9998 _⟩
theorem eg49 (x y : Operand) (u v : Array Value) (W : World) : (eqGuard .neq 49 x y (.agg u) (.agg v)).run Try.prog W = .ok () W := egN 49 (by kernel_rfl) x y u v W
/-! a view's copy -/
theorem info49b : (Try.prog.info? 49).map (fun i => (i.zero, i.size, i.bytes)) = some (some (.agg (#[.int .i64 0, .int .i64 0, .int .i64 0] ++ Z32 ++ #[.int .i64 0])), 36, 64) := by kernel_rfl
theorem bs27_0 (W : World) : (Instr.buildSlice 27 0 #[]).run Try.prog W = .ok (.slice (some ⟨W.heap.size, 0, none⟩) 0 0) (W.alloc (.cells #[] 49)) := by go_simp
theorem flatH_len {Cs : Nat → Array Value} {hv : Nat → HV} : ∀ {n : Nat}, (∀ i, i < n → IsH (Cs i) (hv i)) → (flatI Cs n).length = n * 36
  | 0, _ => rfl
  | n + 1, h => by
    rw [flatI_succ, List.length_append, flatH_len (fun i hi => h i (by omega)), Array.length_toList, (h n (by omega)).size]
    omega
theorem flatH_at {Cs : Nat → Array Value} {hv : Nat → HV} : ∀ {n : Nat}, (∀ i, i < n → IsH (Cs i) (hv i)) → ∀ {i j : Nat} {u : Value}, i < n → (Cs i).toList[j]? = some u → (flatI Cs n)[i * 36 + j]? = some u
  | 0, _, i, j, u, hi, _ => by omega
  | n + 1, h, i, j, u, hi, hu => by
    have hl := flatH_len (Cs := Cs) (hv := hv) (n := n) (fun i hi => h i (by omega))
    have hj : j < 36 := by
      have := (List.getElem?_eq_some_iff.1 hu).1
      rw [Array.length_toList, (h i hi).size] at this; exact this
    rw [flatI_succ]
    by_cases e : i = n
    · subst e
      rw [List.getElem?_append_right (by omega), hl, show i * 36 + j - i * 36 = j by omega]; exact hu
    · rw [List.getElem?_append_left (by omega)]
      exact flatH_at (fun i hi => h i (by omega)) (by omega) hu
theorem flatH_split {Cs : Nat → Array Value} {hv : Nat → HV} : ∀ {n : Nat}, (∀ i, i < n → IsH (Cs i) (hv i)) → ∀ {j : Nat} {u : Value}, (flatI Cs n)[j]? = some u → ∃ i k, i < n ∧ k < 36 ∧ j = i * 36 + k ∧ (Cs i).toList[k]? = some u
  | 0, _, j, u, hu => by simp [flatI] at hu
  | n + 1, h, j, u, hu => by
    have hl := flatH_len (Cs := Cs) (hv := hv) (n := n) (fun i hi => h i (by omega)); rw [flatI_succ] at hu
    by_cases e : j < n * 36
    · rw [List.getElem?_append_left (by omega)] at hu
      obtain ⟨i, k, h1, h2, h3, h4⟩ := flatH_split (fun i hi => h i (by omega)) hu; exact ⟨i, k, by omega, h2, h3, h4⟩
    · rw [List.getElem?_append_right (by omega), hl] at hu
      have hk := (List.getElem?_eq_some_iff.1 hu).1; rw [Array.length_toList, (h n (by omega)).size] at hk; exact ⟨n, j - n * 36, by omega, hk, by omega, hu⟩
theorem flatH_one {Cs : Nat → Array Value} {hv : Nat → HV} {n : Nat} (h : ∀ i, i < n → IsH (Cs i) (hv i)) : ∀ u ∈ flatI Cs n, u.oneCell' = true := fun u hu => by
  obtain ⟨j, hj, rfl⟩ := List.getElem_of_mem hu; obtain ⟨i, k, h1, h2, _, h4⟩ := flatH_split h (List.getElem?_eq_getElem hj); have h5 := (List.getElem?_eq_some_iff.1 h4); obtain ⟨h6, h7⟩ := h5
  have := Array.all_eq_true.1 (h i h1).one k (by simpa using h6)
  rw [← h7]
  simpa using this
theorem app_hs {W : World} {base b n c : Nat} {ao : Option Addr} {Cs : Nat → Array Value} {hv : Nat → HV} (k : W.heap[b]? = some (.cells #[] 49)) (hb : base ≤ b) (hH : Hs W ao n Cs hv) (hnil : ao = none → n = 0 ∧ c = 0) (hn : n * 64 ≤ 140737488355328) (hbase : base ≤ W.heap.size) :
    ∃ g cap W', (Builtin.append_ #[27, 27] 27 #[.slice (some ⟨b, 0, none⟩) 0 0, .slice ao n c]).run Try.prog W = .ok (.slice (some ⟨g, 0, none⟩) n cap) W' ∧ Rw W' base 49 36 g n cap (flatI Cs n) ∧ Kept (· = b) W W' := by
  have h0 : Rw W base 49 36 b 0 0 [] := Rw.ofBlock k rfl hb (by decide)
  cases hq : Try.prog.info? 49 with
  | none => have := info49b; rw [hq] at this; cases this
  | some ie =>
    have hi := info49b; rw [hq] at hi; simp only [Option.map_some, Option.some.injEq, Prod.mk.injEq] at hi; obtain ⟨hz0, hz1, hz2⟩ := hi
    have hIH : ∀ i, i < n → IsH (Cs i) (hv i) := fun i hi => hH.ish hi
    cases ao with
    | none =>
      obtain ⟨rfl, rfl⟩ := hnil rfl; exact ⟨b, 0, W, run_append_owned_none (P := Try.prog) (w := W) base 27 27 49 ie 36 Try.underlying27 hq _ 0 [] h0, h0, Kept.refl _ _⟩
    | some x =>
      have hc : ∀ j u, (flatI Cs n)[j]? = some u → W.cell? (x.add j) = some u := fun j u hu => by
        obtain ⟨i, k, h1, h2, rfl, h4⟩ := flatH_split hIH hu
        rcases hH with h | ⟨b', o', e, h⟩
        · omega
        · cases e
          rw [Addr.add_mid, ← Nat.add_assoc]; exact (h i h1).2 k u h4
      obtain ⟨v', w', hrun, hown, hg, hnil', hloc⟩ := run_append_own_at (P := Try.prog) W base 27 27 49 ie _ 36 64 Try.underlying27 hq hz0 hz1 hz2 rfl (by decide) (.slice (some ⟨b, 0, none⟩) 0 0) 0 [] h0 x n c (flatI Cs n) (by rw [flatH_len hIH]) hc (flatH_one hIH) (by unfold maxLen; omega) (by omega) hbase; rw [Nat.zero_add, List.nil_append] at hown
      have hK : Kept (· = b) W w' := ⟨hg.os, hg.tape, hg.output, hg.size, fun k hk hn => hg.block k hk (fun e => hn ?_)⟩
      rcases hown.2 with ⟨e, e0⟩ | ⟨g', cap', cur, rfl, hb', hh, r⟩
      · exact absurd (hnil'.1 e).1 (by simp)
      · exact ⟨g', cap', w', hrun, hown, hK⟩
      · have e : some k = some b := e
        exact Option.some.inj e
theorem Rw.hs {W : World} {base g n cap : Nat} {Cs : Nat → Array Value} {hv : Nat → HV} (h : Rw W base 49 36 g n cap (flatI Cs n)) (hI : ∀ i, i < n → IsH (Cs i) (hv i)) : Hs W (some ⟨g, 0, none⟩) n Cs hv :=
  .inr ⟨g, 0, rfl, fun i hi => ⟨hI i hi, fun j v hv => by rw [Nat.zero_add]; exact h.cell (flatH_at hI hi hv)⟩⟩
set_option maxHeartbeats 4000000 in
theorem copied_ok {x y : Int} {ao : Option Addr} {n c : Nat} {Cs : Nat → Array Value} {hv : Nat → HV} (w : World) (hH : Hs w ao n Cs hv) (hnil : ao = none → n = 0 ∧ c = 0) (hn : n * 64 ≤ 140737488355328) :
    Calls Try.prog 7 #[.agg #[.int .i64 x, .int .i64 y, .slice ao n c]] w fun e w' => ∃ g cap, e = .returned (.agg #[.int .i64 x, .int .i64 y, .slice (some ⟨g, 0, none⟩) n cap]) ∧ Rw w' w.heap.size 49 36 g n cap (flatI Cs n) ∧ Below w.heap.size w w' := by
  have hH0 := hH
  have E : Below w.heap.size w w := Below.refl _ _
  go_enter Try.func7, Try.ntmps7; refine wq fun Q hQ => ?_; refine st_new (fun b => .pointer (some ⟨b, 0, none⟩)) (some 1) rfl rfl (ex_box rfl rfl) ?_; intro b1 W1 k1 g1 B; simp only [zp]; have ge_b1 := Nat.le_trans E.size g1; replace E := below_next E B; clear B; refine st_new (fun b => .pointer (some ⟨b, 0, none⟩)) (some 2) rfl rfl (ex_alloc rfl zero29) ?_; intro b2 W2 k2 g2 B; simp only [zp]
  have ne_b2_b1 : b2 ≠ b1 := fun e => by have := lt_of k1; omega
  have ge_b2 := Nat.le_trans E.size g2; replace E := below_next E B; replace k1 := keep B k1; clear B; refine st_end ?_; subst hQ; refine wp_seq ?_; obtain ⟨W3, hwd⟩ : ∃ wd, W2.drew = wd := ⟨_, rfl⟩
  refine wp_region_held (S := fun W => Kept (· = b2) W3 W) (by kernel_rfl) ?_
  show wpAnyH _ _ _ _ _ _ _ _ W2.drew
  rw [hwd]; refine capQ fun Q hQ => ?_
  have hQP : ∀ c (a : Act) (d : Nat) v w, Q (.panic c) (a.put (some d) v) w → Q (.panic c) a w := by
    subst hQ; exact fun _ _ _ _ _ h => h
  have BD : Below W2.heap.size W2 W3 := by rw [← hwd]; exact below_drew (Below.refl _ _)
  clear hwd; replace E := below_next E BD; replace k1 := keep BD k1; replace k2 := keep BD k2; clear BD
  have S : Kept (· = b2) W3 W3 := Kept.refl _ _
  have d_k1 := k1; have d_k2 := k2; refine ah_take (v := (.pointer (some ⟨b1, 0, none⟩))) (i := 0) (some 3) rfl rfl (by kernel_rfl) (by kernel_rfl) (by kernel_rfl) rfl (fun W hK => ex_fa (p := (.pointer (some ⟨b1, 0, none⟩))) rfl rfl (fa29_0 _ _)) S (fun c a w h => hQP c a _ _ w h) ?_; simp only [zp]
  refine ah_take (v := (.int .i64 x)) (i := 1) (some 4) rfl rfl (by kernel_rfl) (by kernel_rfl) (by kernel_rfl) rfl (fun W hK => ex_load (p := (.pointer (some ⟨b1, 0, none⟩))) rfl rfl (ld3 (at_cell (keepK hK d_k1 (fun e => by first | exact ne_b1_b2 e | exact ne_b2_b1 e.symm)) rfl))) S (fun c a w h => hQP c a _ _ w h) ?_; simp only [zp]
  refine ah_take (v := (.pointer (some ⟨b1, 1, none⟩))) (i := 2) (some 5) rfl rfl (by kernel_rfl) (by kernel_rfl) (by kernel_rfl) rfl (fun W hK => ex_fa (p := (.pointer (some ⟨b1, 0, none⟩))) rfl rfl (fa29_1 _ _)) S (fun c a w h => hQP c a _ _ w h) ?_; simp only [zp]
  refine ah_take (v := (.int .i64 y)) (i := 3) (some 6) rfl rfl (by kernel_rfl) (by kernel_rfl) (by kernel_rfl) rfl (fun W hK => ex_load (p := (.pointer (some ⟨b1, 1, none⟩))) rfl rfl (ld3 (at_cell (keepK hK d_k1 (fun e => by first | exact ne_b1_b2 e | exact ne_b2_b1 e.symm)) rfl))) S (fun c a w h => hQP c a _ _ w h) ?_; simp only [zp]
  refine ah_take (v := (.pointer (some ⟨b1, 2, none⟩))) (i := 5) (some 8) rfl rfl (by kernel_rfl) (by kernel_rfl) (by kernel_rfl) rfl (fun W hK => ex_fa (p := (.pointer (some ⟨b1, 0, none⟩))) rfl rfl (fa29_2 _ _)) S (fun c a w h => hQP c a _ _ w h) ?_; simp only [zp]
  refine ah_take (v := (.slice ao n c)) (i := 6) (some 9) rfl rfl (by kernel_rfl) (by kernel_rfl) (by kernel_rfl) rfl (fun W hK => ex_load (p := (.pointer (some ⟨b1, 2, none⟩))) rfl rfl (ld27 (at_cell (keepK hK d_k1 (fun e => by first | exact ne_b1_b2 e | exact ne_b2_b1 e.symm)) rfl))) S (fun c a w h => hQP c a _ _ w h) ?_; simp only [zp]; refine ah_or1 (i := 4) (by kernel_rfl) ?_; refine nx_new (fun b => .slice (some ⟨b, 0, none⟩) 0 0) (some 7) rfl rfl rfl (ex_bsl0  rfl (bs27_0 _)) ?_; intro bt7 W4 kt7 gt7 B; refine ⟨S.next B, ?_⟩; simp only [zp]; have gd_bt7 := Nat.le_trans S.size gt7
  have ge_bt7 := Nat.le_trans E.size gt7; replace E := below_next E B; replace k1 := keep B k1; replace k2 := keep B k2; replace S := S.next B; clear B; refine ah_or1 (i := 7) (by kernel_rfl) ?_; obtain ⟨g10, cap10, W5, hrun, R10, K⟩ := app_hs kt7 ge_bt7 (hH0.below E) hnil hn E.size; refine nx_to (v := (.slice (some ⟨g10, 0, none⟩) n cap10)) (some 10) rfl rfl rfl (ex_app rfl rfl rfl hrun) (S.putN K gd_bt7) ?_; simp only [zp]; replace E := below_put E ge_bt7 K; replace k1 := keepK K k1 (fun e => ne_tag k1 kt7 (by decide) e); replace k2 := keepK K k2 (fun e => ne_tag k2 kt7 (by decide) e)
  replace S := S.putN K gd_bt7; clear kt7 K hrun; refine ah_take (v := (.agg #[(.int .i64 x), (.int .i64 y), (.slice (some ⟨g10, 0, none⟩) n cap10)])) (i := 8) (some 11) rfl rfl (by kernel_rfl) (by kernel_rfl) (by kernel_rfl) rfl (fun W hK => ex_build3 (v1 := (.int .i64 x)) (v2 := (.int .i64 y)) (v3 := (.slice (some ⟨g10, 0, none⟩) n cap10)) rfl rfl rfl rfl (b29 _ _ _ _ _ _)) S (fun c a w h => hQP c a _ _ w h) ?_; simp only [zp]; refine ah_or1 (i := 9) (by kernel_rfl) ?_
  obtain ⟨W6, hst, kn, K⟩ := put_all (D := #[(.int .i64 x), (.int .i64 y), (.slice (some ⟨g10, 0, none⟩) n cap10)]) k2 rfl inf29 (by kernel_rfl); refine nx_sk rfl rfl rfl (ex_store rfl rfl rfl hst) (S.putX K) ?_; replace E := below_put E ge_b2 K; replace k1 := keepK K k1 (fun e => by first | exact ne_b1_b2 e | exact ne_b2_b1 e.symm); replace S := S.putX K; replace R10 := R10.keepK K (fun e => R10.ne k2 (by decide) e); replace k2 := kn; clear kn K hst; refine ah_done (by kernel_rfl) ?_; clear hQP; subst hQ; clear S d_k1 d_k2 ; refine wp_ret ?_
  refine bodyPost_ret (results_cell_row Try.results7 _ _ b2 _ _ _ _ rfl k2 Try.underlying29 rfl inf29) rfl ⟨g10, cap10, rfl, R10, E⟩

end Go.Proofs.Ytkhpbjafdamhaaa
