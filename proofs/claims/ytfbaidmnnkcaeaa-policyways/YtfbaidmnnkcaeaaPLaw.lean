/- Policy: what must come of every program; the walks of PolicyForwards, PolicyFinals, PolicyRises. -/
import Derived.Test.YtfbaidmnnkcaeaaPRefB
namespace Go.Proofs.Ytfbaidmnnkcaeaa
open Go.RowKit
set_option linter.unusedVariables false
set_option linter.unusedSimpArgs false
set_option maxRecDepth 100000

/-- the statement's own rules -/
def LR : RV := ⟨1, 1000, 5, 2, 500⟩
theorem b23 (x y : Int) (W : World) : (Instr.build 23 #[(0, .int .i64 x), (1, .int .i64 y)]).run Try.prog W = .ok (.agg #[.int .i64 x, .int .i64 y]) W := run_build W 23 _ _ (by kernel_rfl)
theorem b25 (x y d g f : Int) (W : World) : (Instr.build 25 #[(0, .agg #[.int .i64 x, .int .i64 y]), (1, .int .i64 d), (2, .int .i64 g), (3, .int .i64 f)]).run Try.prog W = .ok (.agg (RL ⟨x, y, d, g, f⟩)) W := run_build W 25 _ _ (by kernel_rfl)
theorem b28 (x y z : Int) (W : World) : (Instr.build 28 #[(0, .int .i64 x), (1, .int .i64 y), (2, .int .i64 z)]).run Try.prog W = .ok (.agg (HZ x y z 0)) W := run_build W 28 _ _ (by kernel_rfl)
theorem b28t (x y : Int) (W : World) : (Instr.build 28 #[(1, .int .i64 x), (4, .int .i64 y)]).run Try.prog W = .ok (.agg (HZ 0 x 0 y)) W := run_build W 28 _ _ (by kernel_rfl)
theorem lv_may : mayR LR = true := by decide +kernel
theorem lv_1 : fwdN LR ⟨2, 1000, 15, 0⟩ 1002 20 3 = 0 := by decide +kernel
theorem lv_2 : fwdN LR ⟨2, 1000, 15, 0⟩ 1001 20 3 = 3 := by decide +kernel
theorem lv_3 : fwdN LR ⟨2, 1000, 15, 0⟩ 1002 19 3 = 4 := by decide +kernel
theorem lv_4 : finN LR ⟨0, 5, 0, 5⟩ 5 20 3 = 0 := by decide +kernel
theorem lv_5 : marN LR = 7 := by decide +kernel
theorem lv_b : LR.b ≤ 9223372036854775807 := by decide
set_option maxHeartbeats 2000000 in
theorem rules_any (w : World) :
    Calls Try.prog 22 #[] w fun e w' => e = .returned (.agg (RL LR)) ∧ Below w.heap.size w w' := by
  have E : Below w.heap.size w w := Below.refl _ _
  go_enter Try.func22, Try.ntmps22
  refine wq fun Q hQ => ?_
  refine st_new (fun b => .pointer (some ⟨b, 0, none⟩)) (some 0) rfl rfl (ex_alloc rfl zero25) ?_
  intro b1 W1 k1 g1 B
  simp only [zp]
  have ge_b1 := Nat.le_trans E.size g1
  replace E := below_next E B
  clear B
  refine st_end ?_
  subst hQ
  refine wq fun Q hQ => ?_
  refine sv (.agg #[(.int .i64 1), (.int .i64 1000)]) 1 rfl rfl (ex_build2 (v1 := (.int .i64 1)) (v2 := (.int .i64 1000)) rfl rfl rfl (b23 _ _ _)) ?_
  simp only [zp]
  refine sv (.agg (RL LR)) 2 rfl rfl (ex_build4 (v1 := (.agg #[(.int .i64 1), (.int .i64 1000)])) (v2 := (.int .i64 5)) (v3 := (.int .i64 2)) (v4 := (.int .i64 500)) rfl rfl rfl rfl rfl (b25 _ _ _ _ _ _)) ?_
  simp only [zp]
  obtain ⟨W2, hst, kn, K⟩ := put_all (D := (RL LR)) k1 rfl inf25 (by kernel_rfl)
  refine st_sk rfl rfl (ex_store rfl rfl rfl hst) ?_
  replace E := below_put E ge_b1 K
  replace k1 := kn
  clear kn K hst
  refine st_end ?_
  subst hQ
  refine wp_ret ?_
  exact bodyPost_ret (results_cell_row Try.results22 _ _ b1 _ _ _ _ rfl k1 Try.underlying25 rfl inf25) rfl ⟨rfl, E⟩
set_option maxHeartbeats 4000000 in
theorem lives_any (w : World) :
    Calls Try.prog 8 #[] w fun e w' => e = .returned (.bool true) ∧ Below w.heap.size w w' := by
  have E : Below w.heap.size w w := Below.refl _ _
  go_enter Try.func8, Try.ntmps8
  refine wq fun Q hQ => ?_
  refine sg (.bool false) 0 rfl rfl rfl rfl ?_
  simp only [zp]
  refine st_end ?_
  subst hQ
  refine wq fun Q hQ => ?_
  refine sv (.agg (HZ 2 1000 15 0)) 2 rfl rfl (ex_build3 (v1 := (.int .i64 2)) (v2 := (.int .i64 1000)) (v3 := (.int .i64 15)) rfl rfl rfl rfl (b28 _ _ _ _)) ?_
  simp only [zp]
  refine st_new (fun b => .pointer (some ⟨b, 0, none⟩)) (some 1) rfl rfl (ex_alloc rfl zero28) ?_
  intro b1 W1 k1 g1 B
  simp only [zp]
  have ge_b1 := Nat.le_trans E.size g1
  replace E := below_next E B
  clear B
  obtain ⟨W2, hst, kn, K⟩ := put_all (D := (HZ 2 1000 15 0)) k1 (((show ((HZ 0 0 0 0) : Array Value).size = 101 from rfl)).trans ((HZ_is 2 1000 15 0).size).symm) (inf28.trans (congrArg some ((HZ_is 2 1000 15 0).size).symm)) (HZ_is 2 1000 15 0).one
  refine st_sk rfl rfl (ex_store rfl rfl rfl hst) ?_
  replace E := below_put E ge_b1 K
  replace k1 := kn
  clear kn K hst
  refine st_end ?_
  subst hQ
  refine wp_seq ?_
  obtain ⟨W3, hwd⟩ : ∃ wd, W2.drew = wd := ⟨_, rfl⟩
  refine wp_region_held (S := fun W => Kept Nil W3 W) (by kernel_rfl) ?_
  show wpAnyH _ _ _ _ _ _ _ _ W2.drew
  rw [hwd]
  refine capQ fun Q hQ => ?_
  have hQP : ∀ c (a : Act) (d : Nat) v w, Q (.panic c) (a.put (some d) v) w → Q (.panic c) a w := by
    subst hQ
    exact fun _ _ _ _ _ h => h
  have BD : Below W2.heap.size W2 W3 := by rw [← hwd]; exact below_drewB (Below.refl _ _)
  clear hwd
  replace E := below_next E BD
  replace k1 := keep BD k1
  clear BD
  have S : Kept Nil W3 W3 := Kept.refl _ _
  have d_k1 := k1
  refine ah_or1 (i := 0) (by kernel_rfl) ?_
  refine nx_call (some 3) rfl rfl rfl (rules_any W3) (ex_call (f := 22) (vs := []) rfl (cf22 _) rfl) ?_
  rintro e W4 ⟨rfl, B⟩
  refine ⟨_, rfl, S.next B, ?_⟩
  simp only [zp]
  replace E := below_next E B
  replace k1 := keep B k1
  replace S := S.next B
  refine ah_or1 (i := 1) (by kernel_rfl) ?_
  refine nx_call (some 4) rfl rfl rfl (may_any W4 lv_b lv_may) (ex_call (f := 9) (vs := [(.agg (RL LR))]) rfl (cf9 _) rfl) ?_
  rintro e W5 ⟨rfl, B⟩
  refine ⟨_, rfl, S.next B, ?_⟩
  simp only [zp]
  replace E := below_next E B
  replace k1 := keep B k1
  replace S := S.next B
  refine ah_take (v := (.bool true)) (i := 2) (some 5) rfl rfl (by kernel_rfl) (by kernel_rfl) (by kernel_rfl) rfl (fun W hK => ex_mv rfl rfl) S (fun c a w h => hQP c a _ _ w h) ?_
  simp only [zp]
  refine ah_take (v := (.agg (HZ 2 1000 15 0))) (i := 4) (some 7) rfl rfl (by kernel_rfl) (by kernel_rfl) (by kernel_rfl) rfl (fun W hK => ex_load (p := (.pointer (some ⟨b1, 0, none⟩))) rfl rfl (ld_all (keepK hK d_k1 (nilN _)) Try.underlying28 rfl (inf28.trans (congrArg some ((HZ_is 2 1000 15 0).size).symm)))) S (fun c a w h => hQP c a _ _ w h) ?_
  simp only [zp]
  refine ah_or1 (i := 3) (by kernel_rfl) ?_
  refine nx_call (some 6) rfl rfl rfl (rules_any W5) (ex_call (f := 22) (vs := []) rfl (cf22 _) rfl) ?_
  rintro e W6 ⟨rfl, B⟩
  refine ⟨_, rfl, S.next B, ?_⟩
  simp only [zp]
  replace E := below_next E B
  replace k1 := keep B k1
  replace S := S.next B
  refine ah_or1 (i := 5) (by kernel_rfl) ?_
  refine nx_call (some 8) rfl rfl rfl (fwd_any W6 (HZ_is _ _ _ _) lv_b (by decide) (by decide) lv_1) (ex_call (f := 11) (vs := [(.agg (RL LR)), (.agg (HZ 2 1000 15 0)), (.int .i64 1002), (.int .i64 20), (.int .i64 3)]) rfl (cf11 _) rfl) ?_
  rintro e W7 ⟨rfl, B⟩
  refine ⟨_, rfl, S.next B, ?_⟩
  simp only [zp]
  replace E := below_next E B
  replace k1 := keep B k1
  replace S := S.next B
  refine ah_take (v := (.bool true)) (i := 6) (some 9) rfl rfl (by kernel_rfl) (by kernel_rfl) (by kernel_rfl) rfl (fun W hK => ex_bin (u := (.int .i64 0)) (r := (.int .i64 0)) rfl rfl rfl (eg3 _ _ _ _ _ _) (eql3 _ (by decide))) S (fun c a w h => hQP c a _ _ w h) ?_
  simp only [zp]
  refine ah_take (v := (.bool true)) (i := 7) (some 10) rfl rfl (by kernel_rfl) (by kernel_rfl) (by kernel_rfl) rfl (fun W hK => ex_pkT rfl rfl rfl) S (fun c a w h => hQP c a _ _ w h) ?_
  simp only [zp]
  refine ah_take (v := (.bool true)) (i := 8) (some 11) rfl rfl (by kernel_rfl) (by kernel_rfl) (by kernel_rfl) rfl (fun W hK => ex_mv rfl rfl) S (fun c a w h => hQP c a _ _ w h) ?_
  simp only [zp]
  refine ah_take (v := (.agg (HZ 2 1000 15 0))) (i := 10) (some 13) rfl rfl (by kernel_rfl) (by kernel_rfl) (by kernel_rfl) rfl (fun W hK => ex_load (p := (.pointer (some ⟨b1, 0, none⟩))) rfl rfl (ld_all (keepK hK d_k1 (nilN _)) Try.underlying28 rfl (inf28.trans (congrArg some ((HZ_is 2 1000 15 0).size).symm)))) S (fun c a w h => hQP c a _ _ w h) ?_
  simp only [zp]
  refine ah_or1 (i := 9) (by kernel_rfl) ?_
  refine nx_call (some 12) rfl rfl rfl (rules_any W7) (ex_call (f := 22) (vs := []) rfl (cf22 _) rfl) ?_
  rintro e W8 ⟨rfl, B⟩
  refine ⟨_, rfl, S.next B, ?_⟩
  simp only [zp]
  replace E := below_next E B
  replace k1 := keep B k1
  replace S := S.next B
  refine ah_or1 (i := 11) (by kernel_rfl) ?_
  refine nx_call (some 14) rfl rfl rfl (fwd_any W8 (HZ_is _ _ _ _) lv_b (by decide) (by decide) lv_2) (ex_call (f := 11) (vs := [(.agg (RL LR)), (.agg (HZ 2 1000 15 0)), (.int .i64 1001), (.int .i64 20), (.int .i64 3)]) rfl (cf11 _) rfl) ?_
  rintro e W9 ⟨rfl, B⟩
  refine ⟨_, rfl, S.next B, ?_⟩
  simp only [zp]
  replace E := below_next E B
  replace k1 := keep B k1
  replace S := S.next B
  refine ah_take (v := (.bool true)) (i := 12) (some 15) rfl rfl (by kernel_rfl) (by kernel_rfl) (by kernel_rfl) rfl (fun W hK => ex_bin (u := (.int .i64 3)) (r := (.int .i64 3)) rfl rfl rfl (eg3 _ _ _ _ _ _) (eql3 _ (by decide))) S (fun c a w h => hQP c a _ _ w h) ?_
  simp only [zp]
  refine ah_take (v := (.bool true)) (i := 13) (some 16) rfl rfl (by kernel_rfl) (by kernel_rfl) (by kernel_rfl) rfl (fun W hK => ex_pkT rfl rfl rfl) S (fun c a w h => hQP c a _ _ w h) ?_
  simp only [zp]
  refine ah_take (v := (.bool true)) (i := 14) (some 17) rfl rfl (by kernel_rfl) (by kernel_rfl) (by kernel_rfl) rfl (fun W hK => ex_mv rfl rfl) S (fun c a w h => hQP c a _ _ w h) ?_
  simp only [zp]
  refine ah_take (v := (.agg (HZ 2 1000 15 0))) (i := 16) (some 19) rfl rfl (by kernel_rfl) (by kernel_rfl) (by kernel_rfl) rfl (fun W hK => ex_load (p := (.pointer (some ⟨b1, 0, none⟩))) rfl rfl (ld_all (keepK hK d_k1 (nilN _)) Try.underlying28 rfl (inf28.trans (congrArg some ((HZ_is 2 1000 15 0).size).symm)))) S (fun c a w h => hQP c a _ _ w h) ?_
  simp only [zp]
  refine ah_or1 (i := 15) (by kernel_rfl) ?_
  refine nx_call (some 18) rfl rfl rfl (rules_any W9) (ex_call (f := 22) (vs := []) rfl (cf22 _) rfl) ?_
  rintro e W10 ⟨rfl, B⟩
  refine ⟨_, rfl, S.next B, ?_⟩
  simp only [zp]
  replace E := below_next E B
  replace k1 := keep B k1
  replace S := S.next B
  refine ah_or1 (i := 17) (by kernel_rfl) ?_
  refine nx_call (some 20) rfl rfl rfl (fwd_any W10 (HZ_is _ _ _ _) lv_b (by decide) (by decide) lv_3) (ex_call (f := 11) (vs := [(.agg (RL LR)), (.agg (HZ 2 1000 15 0)), (.int .i64 1002), (.int .i64 19), (.int .i64 3)]) rfl (cf11 _) rfl) ?_
  rintro e W11 ⟨rfl, B⟩
  refine ⟨_, rfl, S.next B, ?_⟩
  simp only [zp]
  replace E := below_next E B
  replace k1 := keep B k1
  replace S := S.next B
  refine ah_take (v := (.bool true)) (i := 18) (some 21) rfl rfl (by kernel_rfl) (by kernel_rfl) (by kernel_rfl) rfl (fun W hK => ex_bin (u := (.int .i64 4)) (r := (.int .i64 4)) rfl rfl rfl (eg3 _ _ _ _ _ _) (eql3 _ (by decide))) S (fun c a w h => hQP c a _ _ w h) ?_
  simp only [zp]
  refine ah_take (v := (.bool true)) (i := 19) (some 22) rfl rfl (by kernel_rfl) (by kernel_rfl) (by kernel_rfl) rfl (fun W hK => ex_pkT rfl rfl rfl) S (fun c a w h => hQP c a _ _ w h) ?_
  simp only [zp]
  refine ah_take (v := (.bool true)) (i := 20) (some 23) rfl rfl (by kernel_rfl) (by kernel_rfl) (by kernel_rfl) rfl (fun W hK => ex_mv rfl rfl) S (fun c a w h => hQP c a _ _ w h) ?_
  simp only [zp]
  refine ah_take (v := (.agg (HZ 0 5 0 5))) (i := 22) (some 25) rfl rfl (by kernel_rfl) (by kernel_rfl) (by kernel_rfl) rfl (fun W hK => ex_build2 (v1 := (.int .i64 5)) (v2 := (.int .i64 5)) rfl rfl rfl (b28t _ _ _)) S (fun c a w h => hQP c a _ _ w h) ?_
  simp only [zp]
  refine ah_or1 (i := 21) (by kernel_rfl) ?_
  refine nx_call (some 24) rfl rfl rfl (rules_any W11) (ex_call (f := 22) (vs := []) rfl (cf22 _) rfl) ?_
  rintro e W12 ⟨rfl, B⟩
  refine ⟨_, rfl, S.next B, ?_⟩
  simp only [zp]
  replace E := below_next E B
  replace k1 := keep B k1
  replace S := S.next B
  refine ah_or1 (i := 23) (by kernel_rfl) ?_
  refine nx_call (some 26) rfl rfl rfl (fin_any W12 (HZ_is _ _ _ _) lv_b (by decide) (by decide) lv_4) (ex_call (f := 15) (vs := [(.agg (RL LR)), (.agg (HZ 0 5 0 5)), (.int .i64 5), (.int .i64 20), (.int .i64 3)]) rfl (cf15 _) rfl) ?_
  rintro e W13 ⟨rfl, B⟩
  refine ⟨_, rfl, S.next B, ?_⟩
  simp only [zp]
  replace E := below_next E B
  replace k1 := keep B k1
  replace S := S.next B
  refine ah_take (v := (.bool true)) (i := 24) (some 27) rfl rfl (by kernel_rfl) (by kernel_rfl) (by kernel_rfl) rfl (fun W hK => ex_bin (u := (.int .i64 0)) (r := (.int .i64 0)) rfl rfl rfl (eg3 _ _ _ _ _ _) (eql3 _ (by decide))) S (fun c a w h => hQP c a _ _ w h) ?_
  simp only [zp]
  refine ah_take (v := (.bool true)) (i := 25) (some 28) rfl rfl (by kernel_rfl) (by kernel_rfl) (by kernel_rfl) rfl (fun W hK => ex_pkT rfl rfl rfl) S (fun c a w h => hQP c a _ _ w h) ?_
  simp only [zp]
  refine ah_take (v := (.bool true)) (i := 26) (some 29) rfl rfl (by kernel_rfl) (by kernel_rfl) (by kernel_rfl) rfl (fun W hK => ex_mv rfl rfl) S (fun c a w h => hQP c a _ _ w h) ?_
  simp only [zp]
  refine ah_or1 (i := 27) (by kernel_rfl) ?_
  refine nx_call (some 30) rfl rfl rfl (rules_any W13) (ex_call (f := 22) (vs := []) rfl (cf22 _) rfl) ?_
  rintro e W14 ⟨rfl, B⟩
  refine ⟨_, rfl, S.next B, ?_⟩
  simp only [zp]
  replace E := below_next E B
  replace k1 := keep B k1
  replace S := S.next B
  refine ah_or1 (i := 28) (by kernel_rfl) ?_
  refine nx_call (some 31) rfl rfl rfl (mar_any W14 lv_b lv_5) (ex_call (f := 13) (vs := [(.agg (RL LR))]) rfl (cf13 _) rfl) ?_
  rintro e W15 ⟨rfl, B⟩
  refine ⟨_, rfl, S.next B, ?_⟩
  simp only [zp]
  replace E := below_next E B
  replace k1 := keep B k1
  replace S := S.next B
  refine ah_take (v := (.bool true)) (i := 29) (some 32) rfl rfl (by kernel_rfl) (by kernel_rfl) (by kernel_rfl) rfl (fun W hK => ex_bin (u := (.int .i64 7)) (r := (.int .i64 7)) rfl rfl rfl (eg3 _ _ _ _ _ _) (eql3 _ (by decide))) S (fun c a w h => hQP c a _ _ w h) ?_
  simp only [zp]
  refine ah_take (v := (.bool true)) (i := 30) (some 33) rfl rfl (by kernel_rfl) (by kernel_rfl) (by kernel_rfl) rfl (fun W hK => ex_pkT rfl rfl rfl) S (fun c a w h => hQP c a _ _ w h) ?_
  simp only [zp]
  refine ah_take (v := (.bool true)) (i := 31) (some 0) rfl rfl (by kernel_rfl) (by kernel_rfl) (by kernel_rfl) rfl (fun W hK => ex_asg rfl rfl) S (fun c a w h => hQP c a _ _ w h) ?_
  simp only [zp]
  refine ah_done (by kernel_rfl) ?_
  clear hQP
  subst hQ
  clear S d_k1 
  refine wp_ret ?_
  exact bodyPost_ret (results_tmp Try.results8 _ _ _) rfl ⟨rfl, E⟩
set_option maxHeartbeats 8000000 in
theorem forwards_any {q : RV} {H : Array Value} {v : HP} {a x h : Int} (w : World) (hH : IsHop H v) (hb : q.b ≤ 9223372036854775807) (y0 : -9223372036854775808 ≤ v.am) (y1 : v.am ≤ 9223372036854775807) (z1 : v.ex ≤ 9223372036854775807) :
    Calls Try.prog 3 #[.agg (RL q), .agg H, .int .i64 a, .int .i64 x, .int .i64 h] w fun e w' => e = .returned (.bool true) ∧ Below w.heap.size w w' := by
  have E : Below w.heap.size w w := Below.refl _ _
  go_enter Try.func3, Try.ntmps3
  refine wq fun Q hQ => ?_
  refine st_new (fun b => .pointer (some ⟨b, 0, none⟩)) (some 5) rfl rfl (ex_box rfl rfl) ?_
  intro b1 W1 k1 g1 B
  simp only [zp]
  have ge_b1 := Nat.le_trans E.size g1
  replace E := below_next E B
  clear B
  refine st_new (fun b => .pointer (some ⟨b, 0, none⟩)) (some 6) rfl rfl (ex_box rfl rfl) ?_
  intro b2 W2 k2 g2 B
  simp only [zp]
  have ne_b2_b1 : b2 ≠ b1 := fun e => by have := lt_of k1; omega
  have ge_b2 := Nat.le_trans E.size g2
  replace E := below_next E B
  replace k1 := keep B k1
  clear B
  refine sg (.bool false) 10 rfl rfl rfl rfl ?_
  simp only [zp]
  refine st_end ?_
  subst hQ
  refine wp_seq ?_
  obtain ⟨W3, hwd⟩ : ∃ wd, W2.drew = wd := ⟨_, rfl⟩
  refine wp_region_held (S := fun W => Kept Nil W3 W) (by kernel_rfl) ?_
  show wpAnyH _ _ _ _ _ _ _ _ W2.drew
  rw [hwd]
  refine capQ fun Q hQ => ?_
  have hQP : ∀ c (a : Act) (d : Nat) v w, Q (.panic c) (a.put (some d) v) w → Q (.panic c) a w := by
    subst hQ
    exact fun _ _ _ _ _ h => h
  have BD : Below W2.heap.size W2 W3 := by rw [← hwd]; exact below_drewB (Below.refl _ _)
  clear hwd
  replace E := below_next E BD
  replace k1 := keep BD k1
  replace k2 := keep BD k2
  clear BD
  have S : Kept Nil W3 W3 := Kept.refl _ _
  have d_k1 := k1
  have d_k2 := k2
  refine ah_or1 (i := 0) (by kernel_rfl) ?_
  refine nx_call (some 11) rfl rfl rfl (lives_any W3) (ex_call (f := 8) (vs := []) rfl (cf8 _) rfl) ?_
  rintro e W4 ⟨rfl, B⟩
  refine ⟨_, rfl, S.next B, ?_⟩
  simp only [zp]
  replace E := below_next E B
  replace k1 := keep B k1
  replace k2 := keep B k2
  replace S := S.next B
  refine ah_take (v := (.bool true)) (i := 1) (some 12) rfl rfl (by kernel_rfl) (by kernel_rfl) (by kernel_rfl) rfl (fun W hK => ex_mv rfl rfl) S (fun c a w h => hQP c a _ _ w h) ?_
  simp only [zp]
  refine ah_take (v := (.agg (RL q))) (i := 2) (some 13) rfl rfl (by kernel_rfl) (by kernel_rfl) (by kernel_rfl) rfl (fun W hK => ex_load (p := (.pointer (some ⟨b1, 0, none⟩))) rfl rfl (ld_all (keepK hK d_k1 (nilN _)) Try.underlying25 rfl inf25)) S (fun c a w h => hQP c a _ _ w h) ?_
  simp only [zp]
  refine ah_take (v := (.agg (RL q))) (i := 4) (some 15) rfl rfl (by kernel_rfl) (by kernel_rfl) (by kernel_rfl) rfl (fun W hK => ex_load (p := (.pointer (some ⟨b1, 0, none⟩))) rfl rfl (ld_all (keepK hK d_k1 (nilN _)) Try.underlying25 rfl inf25)) S (fun c a w h => hQP c a _ _ w h) ?_
  simp only [zp]
  refine ah_or1 (i := 3) (by kernel_rfl) ?_
  refine nx_call (some 14) rfl rfl rfl (may_any W4 hb rfl) (ex_call (f := 9) (vs := [(.agg (RL q))]) rfl (cf9 _) rfl) ?_
  rintro e W5 ⟨rfl, B⟩
  refine ⟨_, rfl, S.next B, ?_⟩
  simp only [zp]
  replace E := below_next E B
  replace k1 := keep B k1
  replace k2 := keep B k2
  replace S := S.next B
  refine ah_or1 (i := 5) (by kernel_rfl) ?_
  refine nx_call (some 16) rfl rfl rfl (rmay_any W5 rfl) (ex_call (f := 10) (vs := [(.agg (RL q))]) rfl (cf10 _) rfl) ?_
  rintro e W6 ⟨rfl, B⟩
  refine ⟨_, rfl, S.next B, ?_⟩
  simp only [zp]
  replace E := below_next E B
  replace k1 := keep B k1
  replace k2 := keep B k2
  replace S := S.next B
  refine ah_take (v := (.bool true)) (i := 6) (some 17) rfl rfl (by kernel_rfl) (by kernel_rfl) (by kernel_rfl) rfl (fun W hK => ex_bin (u := (.bool (mayR q))) (r := (.bool (mayR q))) rfl rfl rfl (eg4 _ _ _ _ _ _) (eql4 _ (beq_self_eq_true _))) S (fun c a w h => hQP c a _ _ w h) ?_
  simp only [zp]
  refine ah_take (v := (.bool true)) (i := 7) (some 18) rfl rfl (by kernel_rfl) (by kernel_rfl) (by kernel_rfl) rfl (fun W hK => ex_pkT rfl rfl rfl) S (fun c a w h => hQP c a _ _ w h) ?_
  simp only [zp]
  refine ah_take (v := (.bool true)) (i := 8) (some 19) rfl rfl (by kernel_rfl) (by kernel_rfl) (by kernel_rfl) rfl (fun W hK => ex_mv rfl rfl) S (fun c a w h => hQP c a _ _ w h) ?_
  simp only [zp]
  refine ah_take (v := (.agg (RL q))) (i := 9) (some 20) rfl rfl (by kernel_rfl) (by kernel_rfl) (by kernel_rfl) rfl (fun W hK => ex_load (p := (.pointer (some ⟨b1, 0, none⟩))) rfl rfl (ld_all (keepK hK d_k1 (nilN _)) Try.underlying25 rfl inf25)) S (fun c a w h => hQP c a _ _ w h) ?_
  simp only [zp]
  refine ah_take (v := (.agg H)) (i := 10) (some 21) rfl rfl (by kernel_rfl) (by kernel_rfl) (by kernel_rfl) rfl (fun W hK => ex_load (p := (.pointer (some ⟨b2, 0, none⟩))) rfl rfl (ld_all (keepK hK d_k2 (nilN _)) Try.underlying28 rfl (inf28.trans (congrArg some (hH.size).symm)))) S (fun c a w h => hQP c a _ _ w h) ?_
  simp only [zp]
  refine ah_take (v := (.int .i64 a)) (i := 11) (some 22) rfl rfl (by kernel_rfl) (by kernel_rfl) (by kernel_rfl) rfl (fun W hK => ex_mv rfl rfl) S (fun c a w h => hQP c a _ _ w h) ?_
  simp only [zp]
  refine ah_take (v := (.int .i64 x)) (i := 12) (some 23) rfl rfl (by kernel_rfl) (by kernel_rfl) (by kernel_rfl) rfl (fun W hK => ex_mv rfl rfl) S (fun c a w h => hQP c a _ _ w h) ?_
  simp only [zp]
  refine ah_take (v := (.int .i64 h)) (i := 13) (some 24) rfl rfl (by kernel_rfl) (by kernel_rfl) (by kernel_rfl) rfl (fun W hK => ex_mv rfl rfl) S (fun c a w h => hQP c a _ _ w h) ?_
  simp only [zp]
  refine ah_take (v := (.agg (RL q))) (i := 15) (some 26) rfl rfl (by kernel_rfl) (by kernel_rfl) (by kernel_rfl) rfl (fun W hK => ex_load (p := (.pointer (some ⟨b1, 0, none⟩))) rfl rfl (ld_all (keepK hK d_k1 (nilN _)) Try.underlying25 rfl inf25)) S (fun c a w h => hQP c a _ _ w h) ?_
  simp only [zp]
  refine ah_take (v := (.agg H)) (i := 16) (some 27) rfl rfl (by kernel_rfl) (by kernel_rfl) (by kernel_rfl) rfl (fun W hK => ex_load (p := (.pointer (some ⟨b2, 0, none⟩))) rfl rfl (ld_all (keepK hK d_k2 (nilN _)) Try.underlying28 rfl (inf28.trans (congrArg some (hH.size).symm)))) S (fun c a w h => hQP c a _ _ w h) ?_
  simp only [zp]
  refine ah_take (v := (.int .i64 a)) (i := 17) (some 28) rfl rfl (by kernel_rfl) (by kernel_rfl) (by kernel_rfl) rfl (fun W hK => ex_mv rfl rfl) S (fun c a w h => hQP c a _ _ w h) ?_
  simp only [zp]
  refine ah_take (v := (.int .i64 x)) (i := 18) (some 29) rfl rfl (by kernel_rfl) (by kernel_rfl) (by kernel_rfl) rfl (fun W hK => ex_mv rfl rfl) S (fun c a w h => hQP c a _ _ w h) ?_
  simp only [zp]
  refine ah_take (v := (.int .i64 h)) (i := 19) (some 30) rfl rfl (by kernel_rfl) (by kernel_rfl) (by kernel_rfl) rfl (fun W hK => ex_mv rfl rfl) S (fun c a w h => hQP c a _ _ w h) ?_
  simp only [zp]
  refine ah_or1 (i := 14) (by kernel_rfl) ?_
  refine nx_call (some 25) rfl rfl rfl (fwd_any W6 hH hb y0 y1 rfl) (ex_call (f := 11) (vs := [(.agg (RL q)), (.agg H), (.int .i64 a), (.int .i64 x), (.int .i64 h)]) rfl (cf11 _) rfl) ?_
  rintro e W7 ⟨rfl, B⟩
  refine ⟨_, rfl, S.next B, ?_⟩
  simp only [zp]
  replace E := below_next E B
  replace k1 := keep B k1
  replace k2 := keep B k2
  replace S := S.next B
  refine ah_or1 (i := 20) (by kernel_rfl) ?_
  refine nx_call (some 31) rfl rfl rfl (rfwd_any W7 hH hb y0 y1 z1 rfl) (ex_call (f := 12) (vs := [(.agg (RL q)), (.agg H), (.int .i64 a), (.int .i64 x), (.int .i64 h)]) rfl (cf12 _) rfl) ?_
  rintro e W8 ⟨rfl, B⟩
  refine ⟨_, rfl, S.next B, ?_⟩
  simp only [zp]
  replace E := below_next E B
  replace k1 := keep B k1
  replace k2 := keep B k2
  replace S := S.next B
  refine ah_take (v := (.bool true)) (i := 21) (some 32) rfl rfl (by kernel_rfl) (by kernel_rfl) (by kernel_rfl) rfl (fun W hK => ex_bin (u := (.int .i64 (fwdN q v a x h))) (r := (.int .i64 (fwdN q v a x h))) rfl rfl rfl (eg3 _ _ _ _ _ _) (eql3 _ (decide_eq_true rfl))) S (fun c a w h => hQP c a _ _ w h) ?_
  simp only [zp]
  refine ah_take (v := (.bool true)) (i := 22) (some 33) rfl rfl (by kernel_rfl) (by kernel_rfl) (by kernel_rfl) rfl (fun W hK => ex_pkT rfl rfl rfl) S (fun c a w h => hQP c a _ _ w h) ?_
  simp only [zp]
  refine ah_take (v := (.bool true)) (i := 23) (some 34) rfl rfl (by kernel_rfl) (by kernel_rfl) (by kernel_rfl) rfl (fun W hK => ex_mv rfl rfl) S (fun c a w h => hQP c a _ _ w h) ?_
  simp only [zp]
  refine ah_take (v := (.agg (RL q))) (i := 24) (some 35) rfl rfl (by kernel_rfl) (by kernel_rfl) (by kernel_rfl) rfl (fun W hK => ex_load (p := (.pointer (some ⟨b1, 0, none⟩))) rfl rfl (ld_all (keepK hK d_k1 (nilN _)) Try.underlying25 rfl inf25)) S (fun c a w h => hQP c a _ _ w h) ?_
  simp only [zp]
  refine ah_take (v := (.agg (RL q))) (i := 26) (some 37) rfl rfl (by kernel_rfl) (by kernel_rfl) (by kernel_rfl) rfl (fun W hK => ex_load (p := (.pointer (some ⟨b1, 0, none⟩))) rfl rfl (ld_all (keepK hK d_k1 (nilN _)) Try.underlying25 rfl inf25)) S (fun c a w h => hQP c a _ _ w h) ?_
  simp only [zp]
  refine ah_or1 (i := 25) (by kernel_rfl) ?_
  refine nx_call (some 36) rfl rfl rfl (mar_any W8 hb rfl) (ex_call (f := 13) (vs := [(.agg (RL q))]) rfl (cf13 _) rfl) ?_
  rintro e W9 ⟨rfl, B⟩
  refine ⟨_, rfl, S.next B, ?_⟩
  simp only [zp]
  replace E := below_next E B
  replace k1 := keep B k1
  replace k2 := keep B k2
  replace S := S.next B
  refine ah_or1 (i := 27) (by kernel_rfl) ?_
  refine nx_call (some 38) rfl rfl rfl (rmar_any W9 rfl) (ex_call (f := 14) (vs := [(.agg (RL q))]) rfl (cf14 _) rfl) ?_
  rintro e W10 ⟨rfl, B⟩
  refine ⟨_, rfl, S.next B, ?_⟩
  simp only [zp]
  replace E := below_next E B
  replace k1 := keep B k1
  replace k2 := keep B k2
  replace S := S.next B
  refine ah_take (v := (.bool true)) (i := 28) (some 39) rfl rfl (by kernel_rfl) (by kernel_rfl) (by kernel_rfl) rfl (fun W hK => ex_bin (u := (.int .i64 (marN q))) (r := (.int .i64 (marN q))) rfl rfl rfl (eg3 _ _ _ _ _ _) (eql3 _ (decide_eq_true rfl))) S (fun c a w h => hQP c a _ _ w h) ?_
  simp only [zp]
  refine ah_take (v := (.bool true)) (i := 29) (some 40) rfl rfl (by kernel_rfl) (by kernel_rfl) (by kernel_rfl) rfl (fun W hK => ex_pkT rfl rfl rfl) S (fun c a w h => hQP c a _ _ w h) ?_
  simp only [zp]
  refine ah_take (v := (.bool true)) (i := 30) (some 10) rfl rfl (by kernel_rfl) (by kernel_rfl) (by kernel_rfl) rfl (fun W hK => ex_asg rfl rfl) S (fun c a w h => hQP c a _ _ w h) ?_
  simp only [zp]
  refine ah_done (by kernel_rfl) ?_
  clear hQP
  subst hQ
  clear S d_k1 d_k2 
  refine wp_ret ?_
  exact bodyPost_ret (results_tmp Try.results3 _ _ _) rfl ⟨rfl, E⟩
set_option maxHeartbeats 8000000 in
theorem finals_any {q : RV} {H : Array Value} {v : HP} {a x h : Int} (w : World) (hH : IsHop H v) (hb : q.b ≤ 9223372036854775807) (y0 : -9223372036854775808 ≤ v.am) (y1 : v.am ≤ 9223372036854775807) (z1 : v.ex ≤ 9223372036854775807) :
    Calls Try.prog 4 #[.agg (RL q), .agg H, .int .i64 a, .int .i64 x, .int .i64 h] w fun e w' => e = .returned (.bool true) ∧ Below w.heap.size w w' := by
  have E : Below w.heap.size w w := Below.refl _ _
  go_enter Try.func4, Try.ntmps4
  refine wq fun Q hQ => ?_
  refine st_new (fun b => .pointer (some ⟨b, 0, none⟩)) (some 5) rfl rfl (ex_box rfl rfl) ?_
  intro b1 W1 k1 g1 B
  simp only [zp]
  have ge_b1 := Nat.le_trans E.size g1
  replace E := below_next E B
  clear B
  refine st_new (fun b => .pointer (some ⟨b, 0, none⟩)) (some 6) rfl rfl (ex_box rfl rfl) ?_
  intro b2 W2 k2 g2 B
  simp only [zp]
  have ne_b2_b1 : b2 ≠ b1 := fun e => by have := lt_of k1; omega
  have ge_b2 := Nat.le_trans E.size g2
  replace E := below_next E B
  replace k1 := keep B k1
  clear B
  refine sg (.bool false) 10 rfl rfl rfl rfl ?_
  simp only [zp]
  refine st_end ?_
  subst hQ
  refine wp_seq ?_
  obtain ⟨W3, hwd⟩ : ∃ wd, W2.drew = wd := ⟨_, rfl⟩
  refine wp_region_held (S := fun W => Kept Nil W3 W) (by kernel_rfl) ?_
  show wpAnyH _ _ _ _ _ _ _ _ W2.drew
  rw [hwd]
  refine capQ fun Q hQ => ?_
  have hQP : ∀ c (a : Act) (d : Nat) v w, Q (.panic c) (a.put (some d) v) w → Q (.panic c) a w := by
    subst hQ
    exact fun _ _ _ _ _ h => h
  have BD : Below W2.heap.size W2 W3 := by rw [← hwd]; exact below_drewB (Below.refl _ _)
  clear hwd
  replace E := below_next E BD
  replace k1 := keep BD k1
  replace k2 := keep BD k2
  clear BD
  have S : Kept Nil W3 W3 := Kept.refl _ _
  have d_k1 := k1
  have d_k2 := k2
  refine ah_or1 (i := 0) (by kernel_rfl) ?_
  refine nx_call (some 11) rfl rfl rfl (lives_any W3) (ex_call (f := 8) (vs := []) rfl (cf8 _) rfl) ?_
  rintro e W4 ⟨rfl, B⟩
  refine ⟨_, rfl, S.next B, ?_⟩
  simp only [zp]
  replace E := below_next E B
  replace k1 := keep B k1
  replace k2 := keep B k2
  replace S := S.next B
  refine ah_take (v := (.bool true)) (i := 1) (some 12) rfl rfl (by kernel_rfl) (by kernel_rfl) (by kernel_rfl) rfl (fun W hK => ex_mv rfl rfl) S (fun c a w h => hQP c a _ _ w h) ?_
  simp only [zp]
  refine ah_take (v := (.agg (RL q))) (i := 2) (some 13) rfl rfl (by kernel_rfl) (by kernel_rfl) (by kernel_rfl) rfl (fun W hK => ex_load (p := (.pointer (some ⟨b1, 0, none⟩))) rfl rfl (ld_all (keepK hK d_k1 (nilN _)) Try.underlying25 rfl inf25)) S (fun c a w h => hQP c a _ _ w h) ?_
  simp only [zp]
  refine ah_take (v := (.agg H)) (i := 3) (some 14) rfl rfl (by kernel_rfl) (by kernel_rfl) (by kernel_rfl) rfl (fun W hK => ex_load (p := (.pointer (some ⟨b2, 0, none⟩))) rfl rfl (ld_all (keepK hK d_k2 (nilN _)) Try.underlying28 rfl (inf28.trans (congrArg some (hH.size).symm)))) S (fun c a w h => hQP c a _ _ w h) ?_
  simp only [zp]
  refine ah_take (v := (.int .i64 a)) (i := 4) (some 15) rfl rfl (by kernel_rfl) (by kernel_rfl) (by kernel_rfl) rfl (fun W hK => ex_mv rfl rfl) S (fun c a w h => hQP c a _ _ w h) ?_
  simp only [zp]
  refine ah_take (v := (.int .i64 x)) (i := 5) (some 16) rfl rfl (by kernel_rfl) (by kernel_rfl) (by kernel_rfl) rfl (fun W hK => ex_mv rfl rfl) S (fun c a w h => hQP c a _ _ w h) ?_
  simp only [zp]
  refine ah_take (v := (.int .i64 h)) (i := 6) (some 17) rfl rfl (by kernel_rfl) (by kernel_rfl) (by kernel_rfl) rfl (fun W hK => ex_mv rfl rfl) S (fun c a w h => hQP c a _ _ w h) ?_
  simp only [zp]
  refine ah_take (v := (.agg (RL q))) (i := 8) (some 19) rfl rfl (by kernel_rfl) (by kernel_rfl) (by kernel_rfl) rfl (fun W hK => ex_load (p := (.pointer (some ⟨b1, 0, none⟩))) rfl rfl (ld_all (keepK hK d_k1 (nilN _)) Try.underlying25 rfl inf25)) S (fun c a w h => hQP c a _ _ w h) ?_
  simp only [zp]
  refine ah_take (v := (.agg H)) (i := 9) (some 20) rfl rfl (by kernel_rfl) (by kernel_rfl) (by kernel_rfl) rfl (fun W hK => ex_load (p := (.pointer (some ⟨b2, 0, none⟩))) rfl rfl (ld_all (keepK hK d_k2 (nilN _)) Try.underlying28 rfl (inf28.trans (congrArg some (hH.size).symm)))) S (fun c a w h => hQP c a _ _ w h) ?_
  simp only [zp]
  refine ah_take (v := (.int .i64 a)) (i := 10) (some 21) rfl rfl (by kernel_rfl) (by kernel_rfl) (by kernel_rfl) rfl (fun W hK => ex_mv rfl rfl) S (fun c a w h => hQP c a _ _ w h) ?_
  simp only [zp]
  refine ah_take (v := (.int .i64 x)) (i := 11) (some 22) rfl rfl (by kernel_rfl) (by kernel_rfl) (by kernel_rfl) rfl (fun W hK => ex_mv rfl rfl) S (fun c a w h => hQP c a _ _ w h) ?_
  simp only [zp]
  refine ah_take (v := (.int .i64 h)) (i := 12) (some 23) rfl rfl (by kernel_rfl) (by kernel_rfl) (by kernel_rfl) rfl (fun W hK => ex_mv rfl rfl) S (fun c a w h => hQP c a _ _ w h) ?_
  simp only [zp]
  refine ah_or1 (i := 7) (by kernel_rfl) ?_
  refine nx_call (some 18) rfl rfl rfl (fin_any W4 hH hb y0 y1 rfl) (ex_call (f := 15) (vs := [(.agg (RL q)), (.agg H), (.int .i64 a), (.int .i64 x), (.int .i64 h)]) rfl (cf15 _) rfl) ?_
  rintro e W5 ⟨rfl, B⟩
  refine ⟨_, rfl, S.next B, ?_⟩
  simp only [zp]
  replace E := below_next E B
  replace k1 := keep B k1
  replace k2 := keep B k2
  replace S := S.next B
  refine ah_or1 (i := 13) (by kernel_rfl) ?_
  refine nx_call (some 24) rfl rfl rfl (rfin_any W5 hH rfl) (ex_call (f := 16) (vs := [(.agg (RL q)), (.agg H), (.int .i64 a), (.int .i64 x), (.int .i64 h)]) rfl (cf16 _) rfl) ?_
  rintro e W6 ⟨rfl, B⟩
  refine ⟨_, rfl, S.next B, ?_⟩
  simp only [zp]
  replace E := below_next E B
  replace k1 := keep B k1
  replace k2 := keep B k2
  replace S := S.next B
  refine ah_take (v := (.bool true)) (i := 14) (some 25) rfl rfl (by kernel_rfl) (by kernel_rfl) (by kernel_rfl) rfl (fun W hK => ex_bin (u := (.int .i64 (finN q v a x h))) (r := (.int .i64 (finN q v a x h))) rfl rfl rfl (eg3 _ _ _ _ _ _) (eql3 _ (decide_eq_true rfl))) S (fun c a w h => hQP c a _ _ w h) ?_
  simp only [zp]
  refine ah_take (v := (.bool true)) (i := 15) (some 26) rfl rfl (by kernel_rfl) (by kernel_rfl) (by kernel_rfl) rfl (fun W hK => ex_pkT rfl rfl rfl) S (fun c a w h => hQP c a _ _ w h) ?_
  simp only [zp]
  refine ah_take (v := (.bool true)) (i := 16) (some 27) rfl rfl (by kernel_rfl) (by kernel_rfl) (by kernel_rfl) rfl (fun W hK => ex_mv rfl rfl) S (fun c a w h => hQP c a _ _ w h) ?_
  simp only [zp]
  refine ah_take (v := (.int .i64 a)) (i := 17) (some 28) rfl rfl (by kernel_rfl) (by kernel_rfl) (by kernel_rfl) rfl (fun W hK => ex_mv rfl rfl) S (fun c a w h => hQP c a _ _ w h) ?_
  simp only [zp]
  refine ah_take (v := (.int .i64 a)) (i := 19) (some 30) rfl rfl (by kernel_rfl) (by kernel_rfl) (by kernel_rfl) rfl (fun W hK => ex_mv rfl rfl) S (fun c a w h => hQP c a _ _ w h) ?_
  simp only [zp]
  refine ah_or1 (i := 18) (by kernel_rfl) ?_
  refine nx_call (some 29) rfl rfl rfl (ret_any _ W6 rfl) (ex_call (f := 17) (vs := [(.int .i64 a)]) rfl (cf17 _) rfl) ?_
  rintro e W7 ⟨rfl, B⟩
  refine ⟨_, rfl, S.next B, ?_⟩
  simp only [zp]
  replace E := below_next E B
  replace k1 := keep B k1
  replace k2 := keep B k2
  replace S := S.next B
  refine ah_or1 (i := 20) (by kernel_rfl) ?_
  refine nx_call (some 31) rfl rfl rfl (rret_any _ W7 rfl) (ex_call (f := 18) (vs := [(.int .i64 a)]) rfl (cf18 _) rfl) ?_
  rintro e W8 ⟨rfl, B⟩
  refine ⟨_, rfl, S.next B, ?_⟩
  simp only [zp]
  replace E := below_next E B
  replace k1 := keep B k1
  replace k2 := keep B k2
  replace S := S.next B
  refine ah_take (v := (.bool true)) (i := 21) (some 32) rfl rfl (by kernel_rfl) (by kernel_rfl) (by kernel_rfl) rfl (fun W hK => ex_bin (u := (.bool (retB a))) (r := (.bool (retB a))) rfl rfl rfl (eg4 _ _ _ _ _ _) (eql4 _ (beq_self_eq_true _))) S (fun c a w h => hQP c a _ _ w h) ?_
  simp only [zp]
  refine ah_take (v := (.bool true)) (i := 22) (some 33) rfl rfl (by kernel_rfl) (by kernel_rfl) (by kernel_rfl) rfl (fun W hK => ex_pkT rfl rfl rfl) S (fun c a w h => hQP c a _ _ w h) ?_
  simp only [zp]
  refine ah_take (v := (.bool true)) (i := 23) (some 34) rfl rfl (by kernel_rfl) (by kernel_rfl) (by kernel_rfl) rfl (fun W hK => ex_mv rfl rfl) S (fun c a w h => hQP c a _ _ w h) ?_
  simp only [zp]
  refine ah_take (v := (.int .i64 h)) (i := 24) (some 35) rfl rfl (by kernel_rfl) (by kernel_rfl) (by kernel_rfl) rfl (fun W hK => ex_mv rfl rfl) S (fun c a w h => hQP c a _ _ w h) ?_
  simp only [zp]
  refine ah_take (v := (.int .i64 h)) (i := 26) (some 37) rfl rfl (by kernel_rfl) (by kernel_rfl) (by kernel_rfl) rfl (fun W hK => ex_mv rfl rfl) S (fun c a w h => hQP c a _ _ w h) ?_
  simp only [zp]
  refine ah_or1 (i := 25) (by kernel_rfl) ?_
  refine nx_call (some 36) rfl rfl rfl (ret_any _ W8 rfl) (ex_call (f := 17) (vs := [(.int .i64 h)]) rfl (cf17 _) rfl) ?_
  rintro e W9 ⟨rfl, B⟩
  refine ⟨_, rfl, S.next B, ?_⟩
  simp only [zp]
  replace E := below_next E B
  replace k1 := keep B k1
  replace k2 := keep B k2
  replace S := S.next B
  refine ah_or1 (i := 27) (by kernel_rfl) ?_
  refine nx_call (some 38) rfl rfl rfl (rret_any _ W9 rfl) (ex_call (f := 18) (vs := [(.int .i64 h)]) rfl (cf18 _) rfl) ?_
  rintro e W10 ⟨rfl, B⟩
  refine ⟨_, rfl, S.next B, ?_⟩
  simp only [zp]
  replace E := below_next E B
  replace k1 := keep B k1
  replace k2 := keep B k2
  replace S := S.next B
  refine ah_take (v := (.bool true)) (i := 28) (some 39) rfl rfl (by kernel_rfl) (by kernel_rfl) (by kernel_rfl) rfl (fun W hK => ex_bin (u := (.bool (retB h))) (r := (.bool (retB h))) rfl rfl rfl (eg4 _ _ _ _ _ _) (eql4 _ (beq_self_eq_true _))) S (fun c a w h => hQP c a _ _ w h) ?_
  simp only [zp]
  refine ah_take (v := (.bool true)) (i := 29) (some 40) rfl rfl (by kernel_rfl) (by kernel_rfl) (by kernel_rfl) rfl (fun W hK => ex_pkT rfl rfl rfl) S (fun c a w h => hQP c a _ _ w h) ?_
  simp only [zp]
  refine ah_take (v := (.bool true)) (i := 30) (some 10) rfl rfl (by kernel_rfl) (by kernel_rfl) (by kernel_rfl) rfl (fun W hK => ex_asg rfl rfl) S (fun c a w h => hQP c a _ _ w h) ?_
  simp only [zp]
  refine ah_done (by kernel_rfl) ?_
  clear hQP
  subst hQ
  clear S d_k1 d_k2 
  refine wp_ret ?_
  exact bodyPost_ret (results_tmp Try.results4 _ _ _) rfl ⟨rfl, E⟩
end Go.Proofs.Ytfbaidmnnkcaeaa
