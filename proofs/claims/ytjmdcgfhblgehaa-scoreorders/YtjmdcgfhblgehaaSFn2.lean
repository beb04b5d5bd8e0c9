/- Score: chances, costs, which is less (the document). -/
import Derived.Test.YtjmdcgfhblgehaaSFun
namespace Go.Proofs.Ytjmdcgfhblgehaa
open Go.RowKit
set_option linter.unusedVariables false
set_option linter.unusedSimpArgs false
set_option maxRecDepth 100000

theorem age_le {x y : Int} (x1 : -9223372036854775808 ≤ x) (x2 : x ≤ 9223372036854775807) (y1 : -9223372036854775808 ≤ y) (y2 : y ≤ 9223372036854775807) : ageN x y ≤ 9223372036854775807 := by
  unfold ageN
  split
  · decide
  · split
    · decide
    · omega
set_option maxHeartbeats 8000000 in
theorem rchance_any {p : PV} {a c t : Int} (w : World) (hc : c ≤ 9223372036854775807) (t1 : -9223372036854775808 ≤ t) (t2 : t ≤ 9223372036854775807) (hg1 : -9223372036854775808 ≤ p.gat) (hg2 : p.gat ≤ 9223372036854775807) (hb1 : -9223372036854775808 ≤ p.bat) (hb2 : p.bat ≤ 9223372036854775807) : Calls Try.prog 18 #[.agg (PL p), .int .i64 a, .int .i64 c, .int .i64 t] w fun e w' => e = .returned (.float .f64 (chN p a c t)) ∧ Below w.heap.size w w' := by
  by_cases e0 : a < 0
  · skip
    have E : Below w.heap.size w w := Below.refl _ _
    go_enter Try.func18, Try.ntmps18
    refine wq fun Q hQ => ?_
    refine st_new (fun b => .pointer (some ⟨b, 0, none⟩)) (some 4) rfl rfl (ex_box rfl rfl) ?_
    intro b1 W1 k1 g1 B
    simp only [zp]
    have ge_b1 := Nat.le_trans E.size g1
    replace E := below_next E B
    clear B
    refine sg (.float .f64 0) 8 rfl rfl rfl rfl ?_
    simp only [zp]
    refine st_end ?_
    subst hQ
    refine wp_seq ?_
    refine wq fun Q hQ => ?_
    refine sm (.int .i64 a) 12 rfl rfl rfl rfl ?_
    simp only [zp]
    refine sv (.bool true) 13 rfl rfl (ex_bin (u := (.int .i64 a)) (r := (.int .i64 0)) rfl rfl rfl (eg3 _ _ _ _ _ _) (lss3 _ (decide_eq_true (by omega)))) ?_
    simp only [zp]
    refine sm (.bool true) 14 rfl rfl rfl rfl ?_
    simp only [zp]
    refine sn 15 rfl rfl ?_
    simp only [zp]
    refine sn 16 rfl rfl ?_
    simp only [zp]
    refine sn 17 rfl rfl ?_
    simp only [zp]
    refine sv (.bool true) 18 rfl rfl (ex_pkT rfl rfl rfl) ?_
    simp only [zp]
    refine st_end ?_
    subst hQ
    refine wp_cond_true rfl ?_
    refine wq fun Q hQ => ?_
    refine sg (.float .f64 0) 8 rfl rfl rfl rfl ?_
    simp only [zp]
    refine st_end ?_
    subst hQ
    refine wp_ret ?_
    repeat (first | refine ret_out ?_ | refine ret_blk ?_)
    refine bodyPost_ret (results_tmp Try.results18 _ _ _) rfl ⟨?_, E⟩
    unfold chN
    rw [if_pos (by omega)]
    rfl
  · skip
    by_cases e1 : c < a
    · skip
      have E : Below w.heap.size w w := Below.refl _ _
      go_enter Try.func18, Try.ntmps18
      refine wq fun Q hQ => ?_
      refine st_new (fun b => .pointer (some ⟨b, 0, none⟩)) (some 4) rfl rfl (ex_box rfl rfl) ?_
      intro b1 W1 k1 g1 B
      simp only [zp]
      have ge_b1 := Nat.le_trans E.size g1
      replace E := below_next E B
      clear B
      refine sg (.float .f64 0) 8 rfl rfl rfl rfl ?_
      simp only [zp]
      refine st_end ?_
      subst hQ
      refine wp_seq ?_
      refine wq fun Q hQ => ?_
      refine sm (.int .i64 a) 12 rfl rfl rfl rfl ?_
      simp only [zp]
      refine sv (.bool false) 13 rfl rfl (ex_bin (u := (.int .i64 a)) (r := (.int .i64 0)) rfl rfl rfl (eg3 _ _ _ _ _ _) (lss3 _ (decide_eq_false (by omega)))) ?_
      simp only [zp]
      refine sm (.bool false) 14 rfl rfl rfl rfl ?_
      simp only [zp]
      refine sm (.int .i64 c) 15 rfl rfl rfl rfl ?_
      simp only [zp]
      refine sm (.int .i64 a) 16 rfl rfl rfl rfl ?_
      simp only [zp]
      refine sv (.bool true) 17 rfl rfl (ex_bin (u := (.int .i64 c)) (r := (.int .i64 a)) rfl rfl rfl (eg3 _ _ _ _ _ _) (lss3 _ (decide_eq_true (by omega)))) ?_
      simp only [zp]
      refine sv (.bool true) 18 rfl rfl (ex_pkF rfl rfl rfl) ?_
      simp only [zp]
      refine st_end ?_
      subst hQ
      refine wp_cond_true rfl ?_
      refine wq fun Q hQ => ?_
      refine sg (.float .f64 0) 8 rfl rfl rfl rfl ?_
      simp only [zp]
      refine st_end ?_
      subst hQ
      refine wp_ret ?_
      repeat (first | refine ret_out ?_ | refine ret_blk ?_)
      refine bodyPost_ret (results_tmp Try.results18 _ _ _) rfl ⟨?_, E⟩
      unfold chN
      rw [if_pos (by omega)]
      rfl
    · skip
      have LG := gs_le a c hc
      have w2 := F2_lt
      by_cases e2 : 0 < p.gat
      · skip
        by_cases e3 : a ≤ p.good
        · skip
          by_cases e4 : 0 < p.bat
          · skip
            by_cases e5 : p.bad ≤ a
            · skip
              have HG : (fmul (fadd (gs a c) (fmul (fsub F1 (gs a c)) (wt (ageN t p.gat)))) (fsub F1 (wt (ageN t p.bat)))) < 18446744073709551616 := by have := (dn_facts (show (fadd (gs a c) (fmul (fsub F1 (gs a c)) (wt (ageN t p.gat)))) ≤ F2 from (up_facts LG (wt_le (ageN t p.gat))).2.2.2) (wt_le (ageN t p.bat))).2.2; omega
              have E : Below w.heap.size w w := Below.refl _ _
              go_enter Try.func18, Try.ntmps18
              refine wq fun Q hQ => ?_
              refine st_new (fun b => .pointer (some ⟨b, 0, none⟩)) (some 4) rfl rfl (ex_box rfl rfl) ?_
              intro b1 W1 k1 g1 B
              simp only [zp]
              have ge_b1 := Nat.le_trans E.size g1
              replace E := below_next E B
              clear B
              refine sg (.float .f64 0) 8 rfl rfl rfl rfl ?_
              simp only [zp]
              refine st_end ?_
              subst hQ
              refine wp_seq ?_
              refine wq fun Q hQ => ?_
              refine sm (.int .i64 a) 12 rfl rfl rfl rfl ?_
              simp only [zp]
              refine sv (.bool false) 13 rfl rfl (ex_bin (u := (.int .i64 a)) (r := (.int .i64 0)) rfl rfl rfl (eg3 _ _ _ _ _ _) (lss3 _ (decide_eq_false (by omega)))) ?_
              simp only [zp]
              refine sm (.bool false) 14 rfl rfl rfl rfl ?_
              simp only [zp]
              refine sm (.int .i64 c) 15 rfl rfl rfl rfl ?_
              simp only [zp]
              refine sm (.int .i64 a) 16 rfl rfl rfl rfl ?_
              simp only [zp]
              refine sv (.bool false) 17 rfl rfl (ex_bin (u := (.int .i64 c)) (r := (.int .i64 a)) rfl rfl rfl (eg3 _ _ _ _ _ _) (lss3 _ (decide_eq_false (by omega)))) ?_
              simp only [zp]
              refine sv (.bool false) 18 rfl rfl (ex_pkF rfl rfl rfl) ?_
              simp only [zp]
              refine st_end ?_
              subst hQ
              refine wp_cond_false rfl ?_
              refine wp_skip ?_
              refine wq fun Q hQ => ?_
              refine sm (.int .i64 a) 19 rfl rfl rfl rfl ?_
              simp only [zp]
              refine sm (.int .i64 c) 20 rfl rfl rfl rfl ?_
              simp only [zp]
              refine st_call (some 21) rfl rfl (rguess_any a c W1 hc) (ex_call (f := 16) (vs := [(.int .i64 a), (.int .i64 c)]) rfl (cf16 _) rfl) ?_
              rintro e W2 ⟨rfl, B⟩
              refine ⟨_, rfl, ?_⟩
              simp only [zp]
              replace E := below_next E B
              replace k1 := keep B k1
              refine sg (.float .f64 (gs a c)) 9 rfl rfl rfl rfl ?_
              simp only [zp]
              refine st_end ?_
              subst hQ
              refine wp_seq ?_
              refine wq fun Q hQ => ?_
              refine sv (.pointer (some ⟨b1, 1, none⟩)) 22 rfl rfl (ex_fa (p := (.pointer (some ⟨b1, 0, none⟩))) rfl rfl (fa23_1 _ _)) ?_
              simp only [zp]
              refine sv (.int .i64 p.gat) 23 rfl rfl (ex_load (p := (.pointer (some ⟨b1, 1, none⟩))) rfl rfl (ld3 (at_cell k1 rfl))) ?_
              simp only [zp]
              refine sv (.bool true) 24 rfl rfl (ex_bin (u := (.int .i64 p.gat)) (r := (.int .i64 0)) rfl rfl rfl (eg3 _ _ _ _ _ _) (gtr3 _ (decide_eq_true (by omega)))) ?_
              simp only [zp]
              refine sm (.bool true) 25 rfl rfl rfl rfl ?_
              simp only [zp]
              refine sm (.int .i64 a) 26 rfl rfl rfl rfl ?_
              simp only [zp]
              refine sv (.pointer (some ⟨b1, 0, none⟩)) 27 rfl rfl (ex_fa (p := (.pointer (some ⟨b1, 0, none⟩))) rfl rfl (fa23_0 _ _)) ?_
              simp only [zp]
              refine sv (.int .i64 p.good) 28 rfl rfl (ex_load (p := (.pointer (some ⟨b1, 0, none⟩))) rfl rfl (ld3 (at_cell k1 rfl))) ?_
              simp only [zp]
              refine sv (.bool true) 29 rfl rfl (ex_bin (u := (.int .i64 a)) (r := (.int .i64 p.good)) rfl rfl rfl (eg3 _ _ _ _ _ _) (leq3 _ (decide_eq_true (by omega)))) ?_
              simp only [zp]
              refine sv (.bool true) 30 rfl rfl (ex_pkT rfl rfl rfl) ?_
              simp only [zp]
              refine st_end ?_
              subst hQ
              refine wp_cond_true rfl ?_
              refine wq fun Q hQ => ?_
              refine sm (.int .i64 t) 31 rfl rfl rfl rfl ?_
              simp only [zp]
              refine sv (.pointer (some ⟨b1, 1, none⟩)) 32 rfl rfl (ex_fa (p := (.pointer (some ⟨b1, 0, none⟩))) rfl rfl (fa23_1 _ _)) ?_
              simp only [zp]
              refine sv (.int .i64 p.gat) 33 rfl rfl (ex_load (p := (.pointer (some ⟨b1, 1, none⟩))) rfl rfl (ld3 (at_cell k1 rfl))) ?_
              simp only [zp]
              refine st_call (some 34) rfl rfl (rage_any t p.gat W2 t1 t2 hg1 hg2) (ex_call (f := 33) (vs := [(.int .i64 t), (.int .i64 p.gat)]) rfl (cf33 _) rfl) ?_
              rintro e W3 ⟨rfl, B⟩
              refine ⟨_, rfl, ?_⟩
              simp only [zp]
              replace E := below_next E B
              replace k1 := keep B k1
              refine st_call (some 35) rfl rfl (rweight_any (ageN t p.gat) W3 (age_le t1 t2 hg1 hg2)) (ex_call (f := 14) (vs := [(.int .i64 (ageN t p.gat))]) rfl (cf14 _) rfl) ?_
              rintro e W4 ⟨rfl, B⟩
              refine ⟨_, rfl, ?_⟩
              simp only [zp]
              replace E := below_next E B
              replace k1 := keep B k1
              refine sg (.float .f64 (wt (ageN t p.gat))) 10 rfl rfl rfl rfl ?_
              simp only [zp]
              refine st_end ?_
              subst hQ
              refine wl_in (wl_cap fun Q hQ => ?_)
              refine sm (.float .f64 (gs a c)) 36 rfl rfl rfl rfl ?_
              simp only [zp]
              refine sm (.float .f64 (gs a c)) 37 rfl rfl rfl rfl ?_
              simp only [zp]
              refine sv (.float .f64 (fsub F1 (gs a c))) 38 rfl rfl (ex_bin rfl rfl rfl (egF _ _ _ _ _ _) (fsub_run _ ((up_facts LG (wt_le (ageN t p.gat))).1))) ?_
              simp only [zp]
              refine sm (.float .f64 (wt (ageN t p.gat))) 39 rfl rfl rfl rfl ?_
              simp only [zp]
              refine sv (.float .f64 (fmul (fsub F1 (gs a c)) (wt (ageN t p.gat)))) 40 rfl rfl (ex_bin rfl rfl rfl (egF _ _ _ _ _ _) (fmul_run _ ((up_facts LG (wt_le (ageN t p.gat))).2.1))) ?_
              simp only [zp]
              refine sv (.float .f64 (fadd (gs a c) (fmul (fsub F1 (gs a c)) (wt (ageN t p.gat))))) 41 rfl rfl (ex_bin rfl rfl rfl (egF _ _ _ _ _ _) (fadd_run _ ((up_facts LG (wt_le (ageN t p.gat))).2.2.1))) ?_
              simp only [zp]
              refine sg (.float .f64 (fadd (gs a c) (fmul (fsub F1 (gs a c)) (wt (ageN t p.gat))))) 9 rfl rfl rfl rfl ?_
              simp only [zp]
              refine st_end ?_
              subst hQ
              refine wp_seq ?_
              refine wq fun Q hQ => ?_
              refine sv (.pointer (some ⟨b1, 3, none⟩)) 42 rfl rfl (ex_fa (p := (.pointer (some ⟨b1, 0, none⟩))) rfl rfl (fa23_3 _ _)) ?_
              simp only [zp]
              refine sv (.int .i64 p.bat) 43 rfl rfl (ex_load (p := (.pointer (some ⟨b1, 3, none⟩))) rfl rfl (ld3 (at_cell k1 rfl))) ?_
              simp only [zp]
              refine sv (.bool true) 44 rfl rfl (ex_bin (u := (.int .i64 p.bat)) (r := (.int .i64 0)) rfl rfl rfl (eg3 _ _ _ _ _ _) (gtr3 _ (decide_eq_true (by omega)))) ?_
              simp only [zp]
              refine sm (.bool true) 45 rfl rfl rfl rfl ?_
              simp only [zp]
              refine sm (.int .i64 a) 46 rfl rfl rfl rfl ?_
              simp only [zp]
              refine sv (.pointer (some ⟨b1, 2, none⟩)) 47 rfl rfl (ex_fa (p := (.pointer (some ⟨b1, 0, none⟩))) rfl rfl (fa23_2 _ _)) ?_
              simp only [zp]
              refine sv (.int .i64 p.bad) 48 rfl rfl (ex_load (p := (.pointer (some ⟨b1, 2, none⟩))) rfl rfl (ld3 (at_cell k1 rfl))) ?_
              simp only [zp]
              refine sv (.bool true) 49 rfl rfl (ex_bin (u := (.int .i64 a)) (r := (.int .i64 p.bad)) rfl rfl rfl (eg3 _ _ _ _ _ _) (geq3 _ (decide_eq_true (by omega)))) ?_
              simp only [zp]
              refine sv (.bool true) 50 rfl rfl (ex_pkT rfl rfl rfl) ?_
              simp only [zp]
              refine st_end ?_
              subst hQ
              refine wp_cond_true rfl ?_
              refine wq fun Q hQ => ?_
              refine sm (.int .i64 t) 51 rfl rfl rfl rfl ?_
              simp only [zp]
              refine sv (.pointer (some ⟨b1, 3, none⟩)) 52 rfl rfl (ex_fa (p := (.pointer (some ⟨b1, 0, none⟩))) rfl rfl (fa23_3 _ _)) ?_
              simp only [zp]
              refine sv (.int .i64 p.bat) 53 rfl rfl (ex_load (p := (.pointer (some ⟨b1, 3, none⟩))) rfl rfl (ld3 (at_cell k1 rfl))) ?_
              simp only [zp]
              refine st_call (some 54) rfl rfl (rage_any t p.bat W4 t1 t2 hb1 hb2) (ex_call (f := 33) (vs := [(.int .i64 t), (.int .i64 p.bat)]) rfl (cf33 _) rfl) ?_
              rintro e W5 ⟨rfl, B⟩
              refine ⟨_, rfl, ?_⟩
              simp only [zp]
              replace E := below_next E B
              replace k1 := keep B k1
              refine st_call (some 55) rfl rfl (rweight_any (ageN t p.bat) W5 (age_le t1 t2 hb1 hb2)) (ex_call (f := 14) (vs := [(.int .i64 (ageN t p.bat))]) rfl (cf14 _) rfl) ?_
              rintro e W6 ⟨rfl, B⟩
              refine ⟨_, rfl, ?_⟩
              simp only [zp]
              replace E := below_next E B
              replace k1 := keep B k1
              refine sg (.float .f64 (wt (ageN t p.bat))) 11 rfl rfl rfl rfl ?_
              simp only [zp]
              refine st_end ?_
              subst hQ
              refine wl_in (wl_cap fun Q hQ => ?_)
              refine sm (.float .f64 (fadd (gs a c) (fmul (fsub F1 (gs a c)) (wt (ageN t p.gat))))) 56 rfl rfl rfl rfl ?_
              simp only [zp]
              refine sm (.float .f64 (wt (ageN t p.bat))) 57 rfl rfl rfl rfl ?_
              simp only [zp]
              refine sv (.float .f64 (fsub F1 (wt (ageN t p.bat)))) 58 rfl rfl (ex_bin rfl rfl rfl (egF _ _ _ _ _ _) (fsub_run _ ((dn_facts (show (fadd (gs a c) (fmul (fsub F1 (gs a c)) (wt (ageN t p.gat)))) ≤ F2 from (up_facts LG (wt_le (ageN t p.gat))).2.2.2) (wt_le (ageN t p.bat))).1))) ?_
              simp only [zp]
              refine sv (.float .f64 (fmul (fadd (gs a c) (fmul (fsub F1 (gs a c)) (wt (ageN t p.gat)))) (fsub F1 (wt (ageN t p.bat))))) 59 rfl rfl (ex_bin rfl rfl rfl (egF _ _ _ _ _ _) (fmul_run _ ((dn_facts (show (fadd (gs a c) (fmul (fsub F1 (gs a c)) (wt (ageN t p.gat)))) ≤ F2 from (up_facts LG (wt_le (ageN t p.gat))).2.2.2) (wt_le (ageN t p.bat))).2.1))) ?_
              simp only [zp]
              refine sg (.float .f64 (fmul (fadd (gs a c) (fmul (fsub F1 (gs a c)) (wt (ageN t p.gat)))) (fsub F1 (wt (ageN t p.bat))))) 9 rfl rfl rfl rfl ?_
              simp only [zp]
              refine st_end ?_
              subst hQ
              refine wq fun Q hQ => ?_
              refine sm (.float .f64 (fmul (fadd (gs a c) (fmul (fsub F1 (gs a c)) (wt (ageN t p.gat)))) (fsub F1 (wt (ageN t p.bat))))) 60 rfl rfl rfl rfl ?_
              simp only [zp]
              refine st_call (some 61) rfl rfl (rclean_any (fmul (fadd (gs a c) (fmul (fsub F1 (gs a c)) (wt (ageN t p.gat)))) (fsub F1 (wt (ageN t p.bat)))) W6 HG) (ex_call (f := 12) (vs := [(.float .f64 (fmul (fadd (gs a c) (fmul (fsub F1 (gs a c)) (wt (ageN t p.gat)))) (fsub F1 (wt (ageN t p.bat)))))]) rfl (cf12 _) rfl) ?_
              rintro e W7 ⟨rfl, B⟩
              refine ⟨_, rfl, ?_⟩
              simp only [zp]
              replace E := below_next E B
              replace k1 := keep B k1
              refine sg (.float .f64 (cln (fmul (fadd (gs a c) (fmul (fsub F1 (gs a c)) (wt (ageN t p.gat)))) (fsub F1 (wt (ageN t p.bat)))))) 8 rfl rfl rfl rfl ?_
              simp only [zp]
              refine st_end ?_
              subst hQ
              refine wp_ret ?_
              repeat (first | refine ret_out ?_ | refine ret_blk ?_)
              refine bodyPost_ret (results_tmp Try.results18 _ _ _) rfl ⟨?_, E⟩
              unfold chN
              rw [if_neg (by omega)]
              have q1 : c1 p a t (gs a c) = (fadd (gs a c) (fmul (fsub F1 (gs a c)) (wt (ageN t p.gat)))) := by unfold c1; rw [if_pos ⟨e2, e3⟩]
              have q2 : c2 p a t (fadd (gs a c) (fmul (fsub F1 (gs a c)) (wt (ageN t p.gat)))) = (fmul (fadd (gs a c) (fmul (fsub F1 (gs a c)) (wt (ageN t p.gat)))) (fsub F1 (wt (ageN t p.bat)))) := by unfold c2; rw [if_pos ⟨e4, e5⟩]
              rw [q1, q2]
              rfl
            · skip
              have HG : (fadd (gs a c) (fmul (fsub F1 (gs a c)) (wt (ageN t p.gat)))) < 18446744073709551616 := by have := (show (fadd (gs a c) (fmul (fsub F1 (gs a c)) (wt (ageN t p.gat)))) ≤ F2 from (up_facts LG (wt_le (ageN t p.gat))).2.2.2); omega
              have E : Below w.heap.size w w := Below.refl _ _
              go_enter Try.func18, Try.ntmps18
              refine wq fun Q hQ => ?_
              refine st_new (fun b => .pointer (some ⟨b, 0, none⟩)) (some 4) rfl rfl (ex_box rfl rfl) ?_
              intro b1 W1 k1 g1 B
              simp only [zp]
              have ge_b1 := Nat.le_trans E.size g1
              replace E := below_next E B
              clear B
              refine sg (.float .f64 0) 8 rfl rfl rfl rfl ?_
              simp only [zp]
              refine st_end ?_
              subst hQ
              refine wp_seq ?_
              refine wq fun Q hQ => ?_
              refine sm (.int .i64 a) 12 rfl rfl rfl rfl ?_
              simp only [zp]
              refine sv (.bool false) 13 rfl rfl (ex_bin (u := (.int .i64 a)) (r := (.int .i64 0)) rfl rfl rfl (eg3 _ _ _ _ _ _) (lss3 _ (decide_eq_false (by omega)))) ?_
              simp only [zp]
              refine sm (.bool false) 14 rfl rfl rfl rfl ?_
              simp only [zp]
              refine sm (.int .i64 c) 15 rfl rfl rfl rfl ?_
              simp only [zp]
              refine sm (.int .i64 a) 16 rfl rfl rfl rfl ?_
              simp only [zp]
              refine sv (.bool false) 17 rfl rfl (ex_bin (u := (.int .i64 c)) (r := (.int .i64 a)) rfl rfl rfl (eg3 _ _ _ _ _ _) (lss3 _ (decide_eq_false (by omega)))) ?_
              simp only [zp]
              refine sv (.bool false) 18 rfl rfl (ex_pkF rfl rfl rfl) ?_
              simp only [zp]
              refine st_end ?_
              subst hQ
              refine wp_cond_false rfl ?_
              refine wp_skip ?_
              refine wq fun Q hQ => ?_
              refine sm (.int .i64 a) 19 rfl rfl rfl rfl ?_
              simp only [zp]
              refine sm (.int .i64 c) 20 rfl rfl rfl rfl ?_
              simp only [zp]
              refine st_call (some 21) rfl rfl (rguess_any a c W1 hc) (ex_call (f := 16) (vs := [(.int .i64 a), (.int .i64 c)]) rfl (cf16 _) rfl) ?_
              rintro e W2 ⟨rfl, B⟩
              refine ⟨_, rfl, ?_⟩
              simp only [zp]
              replace E := below_next E B
              replace k1 := keep B k1
              refine sg (.float .f64 (gs a c)) 9 rfl rfl rfl rfl ?_
              simp only [zp]
              refine st_end ?_
              subst hQ
              refine wp_seq ?_
              refine wq fun Q hQ => ?_
              refine sv (.pointer (some ⟨b1, 1, none⟩)) 22 rfl rfl (ex_fa (p := (.pointer (some ⟨b1, 0, none⟩))) rfl rfl (fa23_1 _ _)) ?_
              simp only [zp]
              refine sv (.int .i64 p.gat) 23 rfl rfl (ex_load (p := (.pointer (some ⟨b1, 1, none⟩))) rfl rfl (ld3 (at_cell k1 rfl))) ?_
              simp only [zp]
              refine sv (.bool true) 24 rfl rfl (ex_bin (u := (.int .i64 p.gat)) (r := (.int .i64 0)) rfl rfl rfl (eg3 _ _ _ _ _ _) (gtr3 _ (decide_eq_true (by omega)))) ?_
              simp only [zp]
              refine sm (.bool true) 25 rfl rfl rfl rfl ?_
              simp only [zp]
              refine sm (.int .i64 a) 26 rfl rfl rfl rfl ?_
              simp only [zp]
              refine sv (.pointer (some ⟨b1, 0, none⟩)) 27 rfl rfl (ex_fa (p := (.pointer (some ⟨b1, 0, none⟩))) rfl rfl (fa23_0 _ _)) ?_
              simp only [zp]
              refine sv (.int .i64 p.good) 28 rfl rfl (ex_load (p := (.pointer (some ⟨b1, 0, none⟩))) rfl rfl (ld3 (at_cell k1 rfl))) ?_
              simp only [zp]
              refine sv (.bool true) 29 rfl rfl (ex_bin (u := (.int .i64 a)) (r := (.int .i64 p.good)) rfl rfl rfl (eg3 _ _ _ _ _ _) (leq3 _ (decide_eq_true (by omega)))) ?_
              simp only [zp]
              refine sv (.bool true) 30 rfl rfl (ex_pkT rfl rfl rfl) ?_
              simp only [zp]
              refine st_end ?_
              subst hQ
              refine wp_cond_true rfl ?_
              refine wq fun Q hQ => ?_
              refine sm (.int .i64 t) 31 rfl rfl rfl rfl ?_
              simp only [zp]
              refine sv (.pointer (some ⟨b1, 1, none⟩)) 32 rfl rfl (ex_fa (p := (.pointer (some ⟨b1, 0, none⟩))) rfl rfl (fa23_1 _ _)) ?_
              simp only [zp]
              refine sv (.int .i64 p.gat) 33 rfl rfl (ex_load (p := (.pointer (some ⟨b1, 1, none⟩))) rfl rfl (ld3 (at_cell k1 rfl))) ?_
              simp only [zp]
              refine st_call (some 34) rfl rfl (rage_any t p.gat W2 t1 t2 hg1 hg2) (ex_call (f := 33) (vs := [(.int .i64 t), (.int .i64 p.gat)]) rfl (cf33 _) rfl) ?_
              rintro e W3 ⟨rfl, B⟩
              refine ⟨_, rfl, ?_⟩
              simp only [zp]
              replace E := below_next E B
              replace k1 := keep B k1
              refine st_call (some 35) rfl rfl (rweight_any (ageN t p.gat) W3 (age_le t1 t2 hg1 hg2)) (ex_call (f := 14) (vs := [(.int .i64 (ageN t p.gat))]) rfl (cf14 _) rfl) ?_
              rintro e W4 ⟨rfl, B⟩
              refine ⟨_, rfl, ?_⟩
              simp only [zp]
              replace E := below_next E B
              replace k1 := keep B k1
              refine sg (.float .f64 (wt (ageN t p.gat))) 10 rfl rfl rfl rfl ?_
              simp only [zp]
              refine st_end ?_
              subst hQ
              refine wl_in (wl_cap fun Q hQ => ?_)
              refine sm (.float .f64 (gs a c)) 36 rfl rfl rfl rfl ?_
              simp only [zp]
              refine sm (.float .f64 (gs a c)) 37 rfl rfl rfl rfl ?_
              simp only [zp]
              refine sv (.float .f64 (fsub F1 (gs a c))) 38 rfl rfl (ex_bin rfl rfl rfl (egF _ _ _ _ _ _) (fsub_run _ ((up_facts LG (wt_le (ageN t p.gat))).1))) ?_
              simp only [zp]
              refine sm (.float .f64 (wt (ageN t p.gat))) 39 rfl rfl rfl rfl ?_
              simp only [zp]
              refine sv (.float .f64 (fmul (fsub F1 (gs a c)) (wt (ageN t p.gat)))) 40 rfl rfl (ex_bin rfl rfl rfl (egF _ _ _ _ _ _) (fmul_run _ ((up_facts LG (wt_le (ageN t p.gat))).2.1))) ?_
              simp only [zp]
              refine sv (.float .f64 (fadd (gs a c) (fmul (fsub F1 (gs a c)) (wt (ageN t p.gat))))) 41 rfl rfl (ex_bin rfl rfl rfl (egF _ _ _ _ _ _) (fadd_run _ ((up_facts LG (wt_le (ageN t p.gat))).2.2.1))) ?_
              simp only [zp]
              refine sg (.float .f64 (fadd (gs a c) (fmul (fsub F1 (gs a c)) (wt (ageN t p.gat))))) 9 rfl rfl rfl rfl ?_
              simp only [zp]
              refine st_end ?_
              subst hQ
              refine wp_seq ?_
              refine wq fun Q hQ => ?_
              refine sv (.pointer (some ⟨b1, 3, none⟩)) 42 rfl rfl (ex_fa (p := (.pointer (some ⟨b1, 0, none⟩))) rfl rfl (fa23_3 _ _)) ?_
              simp only [zp]
              refine sv (.int .i64 p.bat) 43 rfl rfl (ex_load (p := (.pointer (some ⟨b1, 3, none⟩))) rfl rfl (ld3 (at_cell k1 rfl))) ?_
              simp only [zp]
              refine sv (.bool true) 44 rfl rfl (ex_bin (u := (.int .i64 p.bat)) (r := (.int .i64 0)) rfl rfl rfl (eg3 _ _ _ _ _ _) (gtr3 _ (decide_eq_true (by omega)))) ?_
              simp only [zp]
              refine sm (.bool true) 45 rfl rfl rfl rfl ?_
              simp only [zp]
              refine sm (.int .i64 a) 46 rfl rfl rfl rfl ?_
              simp only [zp]
              refine sv (.pointer (some ⟨b1, 2, none⟩)) 47 rfl rfl (ex_fa (p := (.pointer (some ⟨b1, 0, none⟩))) rfl rfl (fa23_2 _ _)) ?_
              simp only [zp]
              refine sv (.int .i64 p.bad) 48 rfl rfl (ex_load (p := (.pointer (some ⟨b1, 2, none⟩))) rfl rfl (ld3 (at_cell k1 rfl))) ?_
              simp only [zp]
              refine sv (.bool false) 49 rfl rfl (ex_bin (u := (.int .i64 a)) (r := (.int .i64 p.bad)) rfl rfl rfl (eg3 _ _ _ _ _ _) (geq3 _ (decide_eq_false (by omega)))) ?_
              simp only [zp]
              refine sv (.bool false) 50 rfl rfl (ex_pkT rfl rfl rfl) ?_
              simp only [zp]
              refine st_end ?_
              subst hQ
              refine wp_cond_false rfl ?_
              refine wp_skip ?_
              refine wq fun Q hQ => ?_
              refine sm (.float .f64 (fadd (gs a c) (fmul (fsub F1 (gs a c)) (wt (ageN t p.gat))))) 60 rfl rfl rfl rfl ?_
              simp only [zp]
              refine st_call (some 61) rfl rfl (rclean_any (fadd (gs a c) (fmul (fsub F1 (gs a c)) (wt (ageN t p.gat)))) W4 HG) (ex_call (f := 12) (vs := [(.float .f64 (fadd (gs a c) (fmul (fsub F1 (gs a c)) (wt (ageN t p.gat)))))]) rfl (cf12 _) rfl) ?_
              rintro e W5 ⟨rfl, B⟩
              refine ⟨_, rfl, ?_⟩
              simp only [zp]
              replace E := below_next E B
              replace k1 := keep B k1
              refine sg (.float .f64 (cln (fadd (gs a c) (fmul (fsub F1 (gs a c)) (wt (ageN t p.gat)))))) 8 rfl rfl rfl rfl ?_
              simp only [zp]
              refine st_end ?_
              subst hQ
              refine wp_ret ?_
              repeat (first | refine ret_out ?_ | refine ret_blk ?_)
              refine bodyPost_ret (results_tmp Try.results18 _ _ _) rfl ⟨?_, E⟩
              unfold chN
              rw [if_neg (by omega)]
              have q1 : c1 p a t (gs a c) = (fadd (gs a c) (fmul (fsub F1 (gs a c)) (wt (ageN t p.gat)))) := by unfold c1; rw [if_pos ⟨e2, e3⟩]
              have q2 : c2 p a t (fadd (gs a c) (fmul (fsub F1 (gs a c)) (wt (ageN t p.gat)))) = (fadd (gs a c) (fmul (fsub F1 (gs a c)) (wt (ageN t p.gat)))) := by unfold c2; rw [if_neg (by omega)]
              rw [q1, q2]
              rfl
          · skip
            have HG : (fadd (gs a c) (fmul (fsub F1 (gs a c)) (wt (ageN t p.gat)))) < 18446744073709551616 := by have := (show (fadd (gs a c) (fmul (fsub F1 (gs a c)) (wt (ageN t p.gat)))) ≤ F2 from (up_facts LG (wt_le (ageN t p.gat))).2.2.2); omega
            have E : Below w.heap.size w w := Below.refl _ _
            go_enter Try.func18, Try.ntmps18
            refine wq fun Q hQ => ?_
            refine st_new (fun b => .pointer (some ⟨b, 0, none⟩)) (some 4) rfl rfl (ex_box rfl rfl) ?_
            intro b1 W1 k1 g1 B
            simp only [zp]
            have ge_b1 := Nat.le_trans E.size g1
            replace E := below_next E B
            clear B
            refine sg (.float .f64 0) 8 rfl rfl rfl rfl ?_
            simp only [zp]
            refine st_end ?_
            subst hQ
            refine wp_seq ?_
            refine wq fun Q hQ => ?_
            refine sm (.int .i64 a) 12 rfl rfl rfl rfl ?_
            simp only [zp]
            refine sv (.bool false) 13 rfl rfl (ex_bin (u := (.int .i64 a)) (r := (.int .i64 0)) rfl rfl rfl (eg3 _ _ _ _ _ _) (lss3 _ (decide_eq_false (by omega)))) ?_
            simp only [zp]
            refine sm (.bool false) 14 rfl rfl rfl rfl ?_
            simp only [zp]
            refine sm (.int .i64 c) 15 rfl rfl rfl rfl ?_
            simp only [zp]
            refine sm (.int .i64 a) 16 rfl rfl rfl rfl ?_
            simp only [zp]
            refine sv (.bool false) 17 rfl rfl (ex_bin (u := (.int .i64 c)) (r := (.int .i64 a)) rfl rfl rfl (eg3 _ _ _ _ _ _) (lss3 _ (decide_eq_false (by omega)))) ?_
            simp only [zp]
            refine sv (.bool false) 18 rfl rfl (ex_pkF rfl rfl rfl) ?_
            simp only [zp]
            refine st_end ?_
            subst hQ
            refine wp_cond_false rfl ?_
            refine wp_skip ?_
            refine wq fun Q hQ => ?_
            refine sm (.int .i64 a) 19 rfl rfl rfl rfl ?_
            simp only [zp]
            refine sm (.int .i64 c) 20 rfl rfl rfl rfl ?_
            simp only [zp]
            refine st_call (some 21) rfl rfl (rguess_any a c W1 hc) (ex_call (f := 16) (vs := [(.int .i64 a), (.int .i64 c)]) rfl (cf16 _) rfl) ?_
            rintro e W2 ⟨rfl, B⟩
            refine ⟨_, rfl, ?_⟩
            simp only [zp]
            replace E := below_next E B
            replace k1 := keep B k1
            refine sg (.float .f64 (gs a c)) 9 rfl rfl rfl rfl ?_
            simp only [zp]
            refine st_end ?_
            subst hQ
            refine wp_seq ?_
            refine wq fun Q hQ => ?_
            refine sv (.pointer (some ⟨b1, 1, none⟩)) 22 rfl rfl (ex_fa (p := (.pointer (some ⟨b1, 0, none⟩))) rfl rfl (fa23_1 _ _)) ?_
            simp only [zp]
            refine sv (.int .i64 p.gat) 23 rfl rfl (ex_load (p := (.pointer (some ⟨b1, 1, none⟩))) rfl rfl (ld3 (at_cell k1 rfl))) ?_
            simp only [zp]
            refine sv (.bool true) 24 rfl rfl (ex_bin (u := (.int .i64 p.gat)) (r := (.int .i64 0)) rfl rfl rfl (eg3 _ _ _ _ _ _) (gtr3 _ (decide_eq_true (by omega)))) ?_
            simp only [zp]
            refine sm (.bool true) 25 rfl rfl rfl rfl ?_
            simp only [zp]
            refine sm (.int .i64 a) 26 rfl rfl rfl rfl ?_
            simp only [zp]
            refine sv (.pointer (some ⟨b1, 0, none⟩)) 27 rfl rfl (ex_fa (p := (.pointer (some ⟨b1, 0, none⟩))) rfl rfl (fa23_0 _ _)) ?_
            simp only [zp]
            refine sv (.int .i64 p.good) 28 rfl rfl (ex_load (p := (.pointer (some ⟨b1, 0, none⟩))) rfl rfl (ld3 (at_cell k1 rfl))) ?_
            simp only [zp]
            refine sv (.bool true) 29 rfl rfl (ex_bin (u := (.int .i64 a)) (r := (.int .i64 p.good)) rfl rfl rfl (eg3 _ _ _ _ _ _) (leq3 _ (decide_eq_true (by omega)))) ?_
            simp only [zp]
            refine sv (.bool true) 30 rfl rfl (ex_pkT rfl rfl rfl) ?_
            simp only [zp]
            refine st_end ?_
            subst hQ
            refine wp_cond_true rfl ?_
            refine wq fun Q hQ => ?_
            refine sm (.int .i64 t) 31 rfl rfl rfl rfl ?_
            simp only [zp]
            refine sv (.pointer (some ⟨b1, 1, none⟩)) 32 rfl rfl (ex_fa (p := (.pointer (some ⟨b1, 0, none⟩))) rfl rfl (fa23_1 _ _)) ?_
            simp only [zp]
            refine sv (.int .i64 p.gat) 33 rfl rfl (ex_load (p := (.pointer (some ⟨b1, 1, none⟩))) rfl rfl (ld3 (at_cell k1 rfl))) ?_
            simp only [zp]
            refine st_call (some 34) rfl rfl (rage_any t p.gat W2 t1 t2 hg1 hg2) (ex_call (f := 33) (vs := [(.int .i64 t), (.int .i64 p.gat)]) rfl (cf33 _) rfl) ?_
            rintro e W3 ⟨rfl, B⟩
            refine ⟨_, rfl, ?_⟩
            simp only [zp]
            replace E := below_next E B
            replace k1 := keep B k1
            refine st_call (some 35) rfl rfl (rweight_any (ageN t p.gat) W3 (age_le t1 t2 hg1 hg2)) (ex_call (f := 14) (vs := [(.int .i64 (ageN t p.gat))]) rfl (cf14 _) rfl) ?_
            rintro e W4 ⟨rfl, B⟩
            refine ⟨_, rfl, ?_⟩
            simp only [zp]
            replace E := below_next E B
            replace k1 := keep B k1
            refine sg (.float .f64 (wt (ageN t p.gat))) 10 rfl rfl rfl rfl ?_
            simp only [zp]
            refine st_end ?_
            subst hQ
            refine wl_in (wl_cap fun Q hQ => ?_)
            refine sm (.float .f64 (gs a c)) 36 rfl rfl rfl rfl ?_
            simp only [zp]
            refine sm (.float .f64 (gs a c)) 37 rfl rfl rfl rfl ?_
            simp only [zp]
            refine sv (.float .f64 (fsub F1 (gs a c))) 38 rfl rfl (ex_bin rfl rfl rfl (egF _ _ _ _ _ _) (fsub_run _ ((up_facts LG (wt_le (ageN t p.gat))).1))) ?_
            simp only [zp]
            refine sm (.float .f64 (wt (ageN t p.gat))) 39 rfl rfl rfl rfl ?_
            simp only [zp]
            refine sv (.float .f64 (fmul (fsub F1 (gs a c)) (wt (ageN t p.gat)))) 40 rfl rfl (ex_bin rfl rfl rfl (egF _ _ _ _ _ _) (fmul_run _ ((up_facts LG (wt_le (ageN t p.gat))).2.1))) ?_
            simp only [zp]
            refine sv (.float .f64 (fadd (gs a c) (fmul (fsub F1 (gs a c)) (wt (ageN t p.gat))))) 41 rfl rfl (ex_bin rfl rfl rfl (egF _ _ _ _ _ _) (fadd_run _ ((up_facts LG (wt_le (ageN t p.gat))).2.2.1))) ?_
            simp only [zp]
            refine sg (.float .f64 (fadd (gs a c) (fmul (fsub F1 (gs a c)) (wt (ageN t p.gat))))) 9 rfl rfl rfl rfl ?_
            simp only [zp]
            refine st_end ?_
            subst hQ
            refine wp_seq ?_
            refine wq fun Q hQ => ?_
            refine sv (.pointer (some ⟨b1, 3, none⟩)) 42 rfl rfl (ex_fa (p := (.pointer (some ⟨b1, 0, none⟩))) rfl rfl (fa23_3 _ _)) ?_
            simp only [zp]
            refine sv (.int .i64 p.bat) 43 rfl rfl (ex_load (p := (.pointer (some ⟨b1, 3, none⟩))) rfl rfl (ld3 (at_cell k1 rfl))) ?_
            simp only [zp]
            refine sv (.bool false) 44 rfl rfl (ex_bin (u := (.int .i64 p.bat)) (r := (.int .i64 0)) rfl rfl rfl (eg3 _ _ _ _ _ _) (gtr3 _ (decide_eq_false (by omega)))) ?_
            simp only [zp]
            refine sm (.bool false) 45 rfl rfl rfl rfl ?_
            simp only [zp]
            refine sn 46 rfl rfl ?_
            simp only [zp]
            refine sn 47 rfl rfl ?_
            simp only [zp]
            refine sn 48 rfl rfl ?_
            simp only [zp]
            refine sn 49 rfl rfl ?_
            simp only [zp]
            refine sv (.bool false) 50 rfl rfl (ex_pkF rfl rfl rfl) ?_
            simp only [zp]
            refine st_end ?_
            subst hQ
            refine wp_cond_false rfl ?_
            refine wp_skip ?_
            refine wq fun Q hQ => ?_
            refine sm (.float .f64 (fadd (gs a c) (fmul (fsub F1 (gs a c)) (wt (ageN t p.gat))))) 60 rfl rfl rfl rfl ?_
            simp only [zp]
            refine st_call (some 61) rfl rfl (rclean_any (fadd (gs a c) (fmul (fsub F1 (gs a c)) (wt (ageN t p.gat)))) W4 HG) (ex_call (f := 12) (vs := [(.float .f64 (fadd (gs a c) (fmul (fsub F1 (gs a c)) (wt (ageN t p.gat)))))]) rfl (cf12 _) rfl) ?_
            rintro e W5 ⟨rfl, B⟩
            refine ⟨_, rfl, ?_⟩
            simp only [zp]
            replace E := below_next E B
            replace k1 := keep B k1
            refine sg (.float .f64 (cln (fadd (gs a c) (fmul (fsub F1 (gs a c)) (wt (ageN t p.gat)))))) 8 rfl rfl rfl rfl ?_
            simp only [zp]
            refine st_end ?_
            subst hQ
            refine wp_ret ?_
            repeat (first | refine ret_out ?_ | refine ret_blk ?_)
            refine bodyPost_ret (results_tmp Try.results18 _ _ _) rfl ⟨?_, E⟩
            unfold chN
            rw [if_neg (by omega)]
            have q1 : c1 p a t (gs a c) = (fadd (gs a c) (fmul (fsub F1 (gs a c)) (wt (ageN t p.gat)))) := by unfold c1; rw [if_pos ⟨e2, e3⟩]
            have q2 : c2 p a t (fadd (gs a c) (fmul (fsub F1 (gs a c)) (wt (ageN t p.gat)))) = (fadd (gs a c) (fmul (fsub F1 (gs a c)) (wt (ageN t p.gat)))) := by unfold c2; rw [if_neg (by omega)]
            rw [q1, q2]
            rfl
        · skip
          by_cases e4 : 0 < p.bat
          · skip
            by_cases e5 : p.bad ≤ a
            · skip
              have HG : (fmul (gs a c) (fsub F1 (wt (ageN t p.bat)))) < 18446744073709551616 := by have := (dn_facts (show (gs a c) ≤ F2 by have : F1 ≤ F2 := (by decide); omega) (wt_le (ageN t p.bat))).2.2; omega
              have E : Below w.heap.size w w := Below.refl _ _
              go_enter Try.func18, Try.ntmps18
              refine wq fun Q hQ => ?_
              refine st_new (fun b => .pointer (some ⟨b, 0, none⟩)) (some 4) rfl rfl (ex_box rfl rfl) ?_
              intro b1 W1 k1 g1 B
              simp only [zp]
              have ge_b1 := Nat.le_trans E.size g1
              replace E := below_next E B
              clear B
              refine sg (.float .f64 0) 8 rfl rfl rfl rfl ?_
              simp only [zp]
              refine st_end ?_
              subst hQ
              refine wp_seq ?_
              refine wq fun Q hQ => ?_
              refine sm (.int .i64 a) 12 rfl rfl rfl rfl ?_
              simp only [zp]
              refine sv (.bool false) 13 rfl rfl (ex_bin (u := (.int .i64 a)) (r := (.int .i64 0)) rfl rfl rfl (eg3 _ _ _ _ _ _) (lss3 _ (decide_eq_false (by omega)))) ?_
              simp only [zp]
              refine sm (.bool false) 14 rfl rfl rfl rfl ?_
              simp only [zp]
              refine sm (.int .i64 c) 15 rfl rfl rfl rfl ?_
              simp only [zp]
              refine sm (.int .i64 a) 16 rfl rfl rfl rfl ?_
              simp only [zp]
              refine sv (.bool false) 17 rfl rfl (ex_bin (u := (.int .i64 c)) (r := (.int .i64 a)) rfl rfl rfl (eg3 _ _ _ _ _ _) (lss3 _ (decide_eq_false (by omega)))) ?_
              simp only [zp]
              refine sv (.bool false) 18 rfl rfl (ex_pkF rfl rfl rfl) ?_
              simp only [zp]
              refine st_end ?_
              subst hQ
              refine wp_cond_false rfl ?_
              refine wp_skip ?_
              refine wq fun Q hQ => ?_
              refine sm (.int .i64 a) 19 rfl rfl rfl rfl ?_
              simp only [zp]
              refine sm (.int .i64 c) 20 rfl rfl rfl rfl ?_
              simp only [zp]
              refine st_call (some 21) rfl rfl (rguess_any a c W1 hc) (ex_call (f := 16) (vs := [(.int .i64 a), (.int .i64 c)]) rfl (cf16 _) rfl) ?_
              rintro e W2 ⟨rfl, B⟩
              refine ⟨_, rfl, ?_⟩
              simp only [zp]
              replace E := below_next E B
              replace k1 := keep B k1
              refine sg (.float .f64 (gs a c)) 9 rfl rfl rfl rfl ?_
              simp only [zp]
              refine st_end ?_
              subst hQ
              refine wp_seq ?_
              refine wq fun Q hQ => ?_
              refine sv (.pointer (some ⟨b1, 1, none⟩)) 22 rfl rfl (ex_fa (p := (.pointer (some ⟨b1, 0, none⟩))) rfl rfl (fa23_1 _ _)) ?_
              simp only [zp]
              refine sv (.int .i64 p.gat) 23 rfl rfl (ex_load (p := (.pointer (some ⟨b1, 1, none⟩))) rfl rfl (ld3 (at_cell k1 rfl))) ?_
              simp only [zp]
              refine sv (.bool true) 24 rfl rfl (ex_bin (u := (.int .i64 p.gat)) (r := (.int .i64 0)) rfl rfl rfl (eg3 _ _ _ _ _ _) (gtr3 _ (decide_eq_true (by omega)))) ?_
              simp only [zp]
              refine sm (.bool true) 25 rfl rfl rfl rfl ?_
              simp only [zp]
              refine sm (.int .i64 a) 26 rfl rfl rfl rfl ?_
              simp only [zp]
              refine sv (.pointer (some ⟨b1, 0, none⟩)) 27 rfl rfl (ex_fa (p := (.pointer (some ⟨b1, 0, none⟩))) rfl rfl (fa23_0 _ _)) ?_
              simp only [zp]
              refine sv (.int .i64 p.good) 28 rfl rfl (ex_load (p := (.pointer (some ⟨b1, 0, none⟩))) rfl rfl (ld3 (at_cell k1 rfl))) ?_
              simp only [zp]
              refine sv (.bool false) 29 rfl rfl (ex_bin (u := (.int .i64 a)) (r := (.int .i64 p.good)) rfl rfl rfl (eg3 _ _ _ _ _ _) (leq3 _ (decide_eq_false (by omega)))) ?_
              simp only [zp]
              refine sv (.bool false) 30 rfl rfl (ex_pkT rfl rfl rfl) ?_
              simp only [zp]
              refine st_end ?_
              subst hQ
              refine wp_cond_false rfl ?_
              refine wp_skip ?_
              refine wp_seq ?_
              refine wq fun Q hQ => ?_
              refine sv (.pointer (some ⟨b1, 3, none⟩)) 42 rfl rfl (ex_fa (p := (.pointer (some ⟨b1, 0, none⟩))) rfl rfl (fa23_3 _ _)) ?_
              simp only [zp]
              refine sv (.int .i64 p.bat) 43 rfl rfl (ex_load (p := (.pointer (some ⟨b1, 3, none⟩))) rfl rfl (ld3 (at_cell k1 rfl))) ?_
              simp only [zp]
              refine sv (.bool true) 44 rfl rfl (ex_bin (u := (.int .i64 p.bat)) (r := (.int .i64 0)) rfl rfl rfl (eg3 _ _ _ _ _ _) (gtr3 _ (decide_eq_true (by omega)))) ?_
              simp only [zp]
              refine sm (.bool true) 45 rfl rfl rfl rfl ?_
              simp only [zp]
              refine sm (.int .i64 a) 46 rfl rfl rfl rfl ?_
              simp only [zp]
              refine sv (.pointer (some ⟨b1, 2, none⟩)) 47 rfl rfl (ex_fa (p := (.pointer (some ⟨b1, 0, none⟩))) rfl rfl (fa23_2 _ _)) ?_
              simp only [zp]
              refine sv (.int .i64 p.bad) 48 rfl rfl (ex_load (p := (.pointer (some ⟨b1, 2, none⟩))) rfl rfl (ld3 (at_cell k1 rfl))) ?_
              simp only [zp]
              refine sv (.bool true) 49 rfl rfl (ex_bin (u := (.int .i64 a)) (r := (.int .i64 p.bad)) rfl rfl rfl (eg3 _ _ _ _ _ _) (geq3 _ (decide_eq_true (by omega)))) ?_
              simp only [zp]
              refine sv (.bool true) 50 rfl rfl (ex_pkT rfl rfl rfl) ?_
              simp only [zp]
              refine st_end ?_
              subst hQ
              refine wp_cond_true rfl ?_
              refine wq fun Q hQ => ?_
              refine sm (.int .i64 t) 51 rfl rfl rfl rfl ?_
              simp only [zp]
              refine sv (.pointer (some ⟨b1, 3, none⟩)) 52 rfl rfl (ex_fa (p := (.pointer (some ⟨b1, 0, none⟩))) rfl rfl (fa23_3 _ _)) ?_
              simp only [zp]
              refine sv (.int .i64 p.bat) 53 rfl rfl (ex_load (p := (.pointer (some ⟨b1, 3, none⟩))) rfl rfl (ld3 (at_cell k1 rfl))) ?_
              simp only [zp]
              refine st_call (some 54) rfl rfl (rage_any t p.bat W2 t1 t2 hb1 hb2) (ex_call (f := 33) (vs := [(.int .i64 t), (.int .i64 p.bat)]) rfl (cf33 _) rfl) ?_
              rintro e W3 ⟨rfl, B⟩
              refine ⟨_, rfl, ?_⟩
              simp only [zp]
              replace E := below_next E B
              replace k1 := keep B k1
              refine st_call (some 55) rfl rfl (rweight_any (ageN t p.bat) W3 (age_le t1 t2 hb1 hb2)) (ex_call (f := 14) (vs := [(.int .i64 (ageN t p.bat))]) rfl (cf14 _) rfl) ?_
              rintro e W4 ⟨rfl, B⟩
              refine ⟨_, rfl, ?_⟩
              simp only [zp]
              replace E := below_next E B
              replace k1 := keep B k1
              refine sg (.float .f64 (wt (ageN t p.bat))) 11 rfl rfl rfl rfl ?_
              simp only [zp]
              refine st_end ?_
              subst hQ
              refine wl_in (wl_cap fun Q hQ => ?_)
              refine sm (.float .f64 (gs a c)) 56 rfl rfl rfl rfl ?_
              simp only [zp]
              refine sm (.float .f64 (wt (ageN t p.bat))) 57 rfl rfl rfl rfl ?_
              simp only [zp]
              refine sv (.float .f64 (fsub F1 (wt (ageN t p.bat)))) 58 rfl rfl (ex_bin rfl rfl rfl (egF _ _ _ _ _ _) (fsub_run _ ((dn_facts (show (gs a c) ≤ F2 by have : F1 ≤ F2 := (by decide); omega) (wt_le (ageN t p.bat))).1))) ?_
              simp only [zp]
              refine sv (.float .f64 (fmul (gs a c) (fsub F1 (wt (ageN t p.bat))))) 59 rfl rfl (ex_bin rfl rfl rfl (egF _ _ _ _ _ _) (fmul_run _ ((dn_facts (show (gs a c) ≤ F2 by have : F1 ≤ F2 := (by decide); omega) (wt_le (ageN t p.bat))).2.1))) ?_
              simp only [zp]
              refine sg (.float .f64 (fmul (gs a c) (fsub F1 (wt (ageN t p.bat))))) 9 rfl rfl rfl rfl ?_
              simp only [zp]
              refine st_end ?_
              subst hQ
              refine wq fun Q hQ => ?_
              refine sm (.float .f64 (fmul (gs a c) (fsub F1 (wt (ageN t p.bat))))) 60 rfl rfl rfl rfl ?_
              simp only [zp]
              refine st_call (some 61) rfl rfl (rclean_any (fmul (gs a c) (fsub F1 (wt (ageN t p.bat)))) W4 HG) (ex_call (f := 12) (vs := [(.float .f64 (fmul (gs a c) (fsub F1 (wt (ageN t p.bat)))))]) rfl (cf12 _) rfl) ?_
              rintro e W5 ⟨rfl, B⟩
              refine ⟨_, rfl, ?_⟩
              simp only [zp]
              replace E := below_next E B
              replace k1 := keep B k1
              refine sg (.float .f64 (cln (fmul (gs a c) (fsub F1 (wt (ageN t p.bat)))))) 8 rfl rfl rfl rfl ?_
              simp only [zp]
              refine st_end ?_
              subst hQ
              refine wp_ret ?_
              repeat (first | refine ret_out ?_ | refine ret_blk ?_)
              refine bodyPost_ret (results_tmp Try.results18 _ _ _) rfl ⟨?_, E⟩
              unfold chN
              rw [if_neg (by omega)]
              have q1 : c1 p a t (gs a c) = (gs a c) := by unfold c1; rw [if_neg (by omega)]
              have q2 : c2 p a t (gs a c) = (fmul (gs a c) (fsub F1 (wt (ageN t p.bat)))) := by unfold c2; rw [if_pos ⟨e4, e5⟩]
              rw [q1, q2]
              rfl
            · skip
              have HG : (gs a c) < 18446744073709551616 := by have := (show (gs a c) ≤ F2 by have : F1 ≤ F2 := (by decide); omega); omega
              have E : Below w.heap.size w w := Below.refl _ _
              go_enter Try.func18, Try.ntmps18
              refine wq fun Q hQ => ?_
              refine st_new (fun b => .pointer (some ⟨b, 0, none⟩)) (some 4) rfl rfl (ex_box rfl rfl) ?_
              intro b1 W1 k1 g1 B
              simp only [zp]
              have ge_b1 := Nat.le_trans E.size g1
              replace E := below_next E B
              clear B
              refine sg (.float .f64 0) 8 rfl rfl rfl rfl ?_
              simp only [zp]
              refine st_end ?_
              subst hQ
              refine wp_seq ?_
              refine wq fun Q hQ => ?_
              refine sm (.int .i64 a) 12 rfl rfl rfl rfl ?_
              simp only [zp]
              refine sv (.bool false) 13 rfl rfl (ex_bin (u := (.int .i64 a)) (r := (.int .i64 0)) rfl rfl rfl (eg3 _ _ _ _ _ _) (lss3 _ (decide_eq_false (by omega)))) ?_
              simp only [zp]
              refine sm (.bool false) 14 rfl rfl rfl rfl ?_
              simp only [zp]
              refine sm (.int .i64 c) 15 rfl rfl rfl rfl ?_
              simp only [zp]
              refine sm (.int .i64 a) 16 rfl rfl rfl rfl ?_
              simp only [zp]
              refine sv (.bool false) 17 rfl rfl (ex_bin (u := (.int .i64 c)) (r := (.int .i64 a)) rfl rfl rfl (eg3 _ _ _ _ _ _) (lss3 _ (decide_eq_false (by omega)))) ?_
              simp only [zp]
              refine sv (.bool false) 18 rfl rfl (ex_pkF rfl rfl rfl) ?_
              simp only [zp]
              refine st_end ?_
              subst hQ
              refine wp_cond_false rfl ?_
              refine wp_skip ?_
              refine wq fun Q hQ => ?_
              refine sm (.int .i64 a) 19 rfl rfl rfl rfl ?_
              simp only [zp]
              refine sm (.int .i64 c) 20 rfl rfl rfl rfl ?_
              simp only [zp]
              refine st_call (some 21) rfl rfl (rguess_any a c W1 hc) (ex_call (f := 16) (vs := [(.int .i64 a), (.int .i64 c)]) rfl (cf16 _) rfl) ?_
              rintro e W2 ⟨rfl, B⟩
              refine ⟨_, rfl, ?_⟩
              simp only [zp]
              replace E := below_next E B
              replace k1 := keep B k1
              refine sg (.float .f64 (gs a c)) 9 rfl rfl rfl rfl ?_
              simp only [zp]
              refine st_end ?_
              subst hQ
              refine wp_seq ?_
              refine wq fun Q hQ => ?_
              refine sv (.pointer (some ⟨b1, 1, none⟩)) 22 rfl rfl (ex_fa (p := (.pointer (some ⟨b1, 0, none⟩))) rfl rfl (fa23_1 _ _)) ?_
              simp only [zp]
              refine sv (.int .i64 p.gat) 23 rfl rfl (ex_load (p := (.pointer (some ⟨b1, 1, none⟩))) rfl rfl (ld3 (at_cell k1 rfl))) ?_
              simp only [zp]
              refine sv (.bool true) 24 rfl rfl (ex_bin (u := (.int .i64 p.gat)) (r := (.int .i64 0)) rfl rfl rfl (eg3 _ _ _ _ _ _) (gtr3 _ (decide_eq_true (by omega)))) ?_
              simp only [zp]
              refine sm (.bool true) 25 rfl rfl rfl rfl ?_
              simp only [zp]
              refine sm (.int .i64 a) 26 rfl rfl rfl rfl ?_
              simp only [zp]
              refine sv (.pointer (some ⟨b1, 0, none⟩)) 27 rfl rfl (ex_fa (p := (.pointer (some ⟨b1, 0, none⟩))) rfl rfl (fa23_0 _ _)) ?_
              simp only [zp]
              refine sv (.int .i64 p.good) 28 rfl rfl (ex_load (p := (.pointer (some ⟨b1, 0, none⟩))) rfl rfl (ld3 (at_cell k1 rfl))) ?_
              simp only [zp]
              refine sv (.bool false) 29 rfl rfl (ex_bin (u := (.int .i64 a)) (r := (.int .i64 p.good)) rfl rfl rfl (eg3 _ _ _ _ _ _) (leq3 _ (decide_eq_false (by omega)))) ?_
              simp only [zp]
              refine sv (.bool false) 30 rfl rfl (ex_pkT rfl rfl rfl) ?_
              simp only [zp]
              refine st_end ?_
              subst hQ
              refine wp_cond_false rfl ?_
              refine wp_skip ?_
              refine wp_seq ?_
              refine wq fun Q hQ => ?_
              refine sv (.pointer (some ⟨b1, 3, none⟩)) 42 rfl rfl (ex_fa (p := (.pointer (some ⟨b1, 0, none⟩))) rfl rfl (fa23_3 _ _)) ?_
              simp only [zp]
              refine sv (.int .i64 p.bat) 43 rfl rfl (ex_load (p := (.pointer (some ⟨b1, 3, none⟩))) rfl rfl (ld3 (at_cell k1 rfl))) ?_
              simp only [zp]
              refine sv (.bool true) 44 rfl rfl (ex_bin (u := (.int .i64 p.bat)) (r := (.int .i64 0)) rfl rfl rfl (eg3 _ _ _ _ _ _) (gtr3 _ (decide_eq_true (by omega)))) ?_
              simp only [zp]
              refine sm (.bool true) 45 rfl rfl rfl rfl ?_
              simp only [zp]
              refine sm (.int .i64 a) 46 rfl rfl rfl rfl ?_
              simp only [zp]
              refine sv (.pointer (some ⟨b1, 2, none⟩)) 47 rfl rfl (ex_fa (p := (.pointer (some ⟨b1, 0, none⟩))) rfl rfl (fa23_2 _ _)) ?_
              simp only [zp]
              refine sv (.int .i64 p.bad) 48 rfl rfl (ex_load (p := (.pointer (some ⟨b1, 2, none⟩))) rfl rfl (ld3 (at_cell k1 rfl))) ?_
              simp only [zp]
              refine sv (.bool false) 49 rfl rfl (ex_bin (u := (.int .i64 a)) (r := (.int .i64 p.bad)) rfl rfl rfl (eg3 _ _ _ _ _ _) (geq3 _ (decide_eq_false (by omega)))) ?_
              simp only [zp]
              refine sv (.bool false) 50 rfl rfl (ex_pkT rfl rfl rfl) ?_
              simp only [zp]
              refine st_end ?_
              subst hQ
              refine wp_cond_false rfl ?_
              refine wp_skip ?_
              refine wq fun Q hQ => ?_
              refine sm (.float .f64 (gs a c)) 60 rfl rfl rfl rfl ?_
              simp only [zp]
              refine st_call (some 61) rfl rfl (rclean_any (gs a c) W2 HG) (ex_call (f := 12) (vs := [(.float .f64 (gs a c))]) rfl (cf12 _) rfl) ?_
              rintro e W3 ⟨rfl, B⟩
              refine ⟨_, rfl, ?_⟩
              simp only [zp]
              replace E := below_next E B
              replace k1 := keep B k1
              refine sg (.float .f64 (cln (gs a c))) 8 rfl rfl rfl rfl ?_
              simp only [zp]
              refine st_end ?_
              subst hQ
              refine wp_ret ?_
              repeat (first | refine ret_out ?_ | refine ret_blk ?_)
              refine bodyPost_ret (results_tmp Try.results18 _ _ _) rfl ⟨?_, E⟩
              unfold chN
              rw [if_neg (by omega)]
              have q1 : c1 p a t (gs a c) = (gs a c) := by unfold c1; rw [if_neg (by omega)]
              have q2 : c2 p a t (gs a c) = (gs a c) := by unfold c2; rw [if_neg (by omega)]
              rw [q1, q2]
              rfl
          · skip
            have HG : (gs a c) < 18446744073709551616 := by have := (show (gs a c) ≤ F2 by have : F1 ≤ F2 := (by decide); omega); omega
            have E : Below w.heap.size w w := Below.refl _ _
            go_enter Try.func18, Try.ntmps18
            refine wq fun Q hQ => ?_
            refine st_new (fun b => .pointer (some ⟨b, 0, none⟩)) (some 4) rfl rfl (ex_box rfl rfl) ?_
            intro b1 W1 k1 g1 B
            simp only [zp]
            have ge_b1 := Nat.le_trans E.size g1
            replace E := below_next E B
            clear B
            refine sg (.float .f64 0) 8 rfl rfl rfl rfl ?_
            simp only [zp]
            refine st_end ?_
            subst hQ
            refine wp_seq ?_
            refine wq fun Q hQ => ?_
            refine sm (.int .i64 a) 12 rfl rfl rfl rfl ?_
            simp only [zp]
            refine sv (.bool false) 13 rfl rfl (ex_bin (u := (.int .i64 a)) (r := (.int .i64 0)) rfl rfl rfl (eg3 _ _ _ _ _ _) (lss3 _ (decide_eq_false (by omega)))) ?_
            simp only [zp]
            refine sm (.bool false) 14 rfl rfl rfl rfl ?_
            simp only [zp]
            refine sm (.int .i64 c) 15 rfl rfl rfl rfl ?_
            simp only [zp]
            refine sm (.int .i64 a) 16 rfl rfl rfl rfl ?_
            simp only [zp]
            refine sv (.bool false) 17 rfl rfl (ex_bin (u := (.int .i64 c)) (r := (.int .i64 a)) rfl rfl rfl (eg3 _ _ _ _ _ _) (lss3 _ (decide_eq_false (by omega)))) ?_
            simp only [zp]
            refine sv (.bool false) 18 rfl rfl (ex_pkF rfl rfl rfl) ?_
            simp only [zp]
            refine st_end ?_
            subst hQ
            refine wp_cond_false rfl ?_
            refine wp_skip ?_
            refine wq fun Q hQ => ?_
            refine sm (.int .i64 a) 19 rfl rfl rfl rfl ?_
            simp only [zp]
            refine sm (.int .i64 c) 20 rfl rfl rfl rfl ?_
            simp only [zp]
            refine st_call (some 21) rfl rfl (rguess_any a c W1 hc) (ex_call (f := 16) (vs := [(.int .i64 a), (.int .i64 c)]) rfl (cf16 _) rfl) ?_
            rintro e W2 ⟨rfl, B⟩
            refine ⟨_, rfl, ?_⟩
            simp only [zp]
            replace E := below_next E B
            replace k1 := keep B k1
            refine sg (.float .f64 (gs a c)) 9 rfl rfl rfl rfl ?_
            simp only [zp]
            refine st_end ?_
            subst hQ
            refine wp_seq ?_
            refine wq fun Q hQ => ?_
            refine sv (.pointer (some ⟨b1, 1, none⟩)) 22 rfl rfl (ex_fa (p := (.pointer (some ⟨b1, 0, none⟩))) rfl rfl (fa23_1 _ _)) ?_
            simp only [zp]
            refine sv (.int .i64 p.gat) 23 rfl rfl (ex_load (p := (.pointer (some ⟨b1, 1, none⟩))) rfl rfl (ld3 (at_cell k1 rfl))) ?_
            simp only [zp]
            refine sv (.bool true) 24 rfl rfl (ex_bin (u := (.int .i64 p.gat)) (r := (.int .i64 0)) rfl rfl rfl (eg3 _ _ _ _ _ _) (gtr3 _ (decide_eq_true (by omega)))) ?_
            simp only [zp]
            refine sm (.bool true) 25 rfl rfl rfl rfl ?_
            simp only [zp]
            refine sm (.int .i64 a) 26 rfl rfl rfl rfl ?_
            simp only [zp]
            refine sv (.pointer (some ⟨b1, 0, none⟩)) 27 rfl rfl (ex_fa (p := (.pointer (some ⟨b1, 0, none⟩))) rfl rfl (fa23_0 _ _)) ?_
            simp only [zp]
            refine sv (.int .i64 p.good) 28 rfl rfl (ex_load (p := (.pointer (some ⟨b1, 0, none⟩))) rfl rfl (ld3 (at_cell k1 rfl))) ?_
            simp only [zp]
            refine sv (.bool false) 29 rfl rfl (ex_bin (u := (.int .i64 a)) (r := (.int .i64 p.good)) rfl rfl rfl (eg3 _ _ _ _ _ _) (leq3 _ (decide_eq_false (by omega)))) ?_
            simp only [zp]
            refine sv (.bool false) 30 rfl rfl (ex_pkT rfl rfl rfl) ?_
            simp only [zp]
            refine st_end ?_
            subst hQ
            refine wp_cond_false rfl ?_
            refine wp_skip ?_
            refine wp_seq ?_
            refine wq fun Q hQ => ?_
            refine sv (.pointer (some ⟨b1, 3, none⟩)) 42 rfl rfl (ex_fa (p := (.pointer (some ⟨b1, 0, none⟩))) rfl rfl (fa23_3 _ _)) ?_
            simp only [zp]
            refine sv (.int .i64 p.bat) 43 rfl rfl (ex_load (p := (.pointer (some ⟨b1, 3, none⟩))) rfl rfl (ld3 (at_cell k1 rfl))) ?_
            simp only [zp]
            refine sv (.bool false) 44 rfl rfl (ex_bin (u := (.int .i64 p.bat)) (r := (.int .i64 0)) rfl rfl rfl (eg3 _ _ _ _ _ _) (gtr3 _ (decide_eq_false (by omega)))) ?_
            simp only [zp]
            refine sm (.bool false) 45 rfl rfl rfl rfl ?_
            simp only [zp]
            refine sn 46 rfl rfl ?_
            simp only [zp]
            refine sn 47 rfl rfl ?_
            simp only [zp]
            refine sn 48 rfl rfl ?_
            simp only [zp]
            refine sn 49 rfl rfl ?_
            simp only [zp]
            refine sv (.bool false) 50 rfl rfl (ex_pkF rfl rfl rfl) ?_
            simp only [zp]
            refine st_end ?_
            subst hQ
            refine wp_cond_false rfl ?_
            refine wp_skip ?_
            refine wq fun Q hQ => ?_
            refine sm (.float .f64 (gs a c)) 60 rfl rfl rfl rfl ?_
            simp only [zp]
            refine st_call (some 61) rfl rfl (rclean_any (gs a c) W2 HG) (ex_call (f := 12) (vs := [(.float .f64 (gs a c))]) rfl (cf12 _) rfl) ?_
            rintro e W3 ⟨rfl, B⟩
            refine ⟨_, rfl, ?_⟩
            simp only [zp]
            replace E := below_next E B
            replace k1 := keep B k1
            refine sg (.float .f64 (cln (gs a c))) 8 rfl rfl rfl rfl ?_
            simp only [zp]
            refine st_end ?_
            subst hQ
            refine wp_ret ?_
            repeat (first | refine ret_out ?_ | refine ret_blk ?_)
            refine bodyPost_ret (results_tmp Try.results18 _ _ _) rfl ⟨?_, E⟩
            unfold chN
            rw [if_neg (by omega)]
            have q1 : c1 p a t (gs a c) = (gs a c) := by unfold c1; rw [if_neg (by omega)]
            have q2 : c2 p a t (gs a c) = (gs a c) := by unfold c2; rw [if_neg (by omega)]
            rw [q1, q2]
            rfl
      · skip
        by_cases e4 : 0 < p.bat
        · skip
          by_cases e5 : p.bad ≤ a
          · skip
            have HG : (fmul (gs a c) (fsub F1 (wt (ageN t p.bat)))) < 18446744073709551616 := by have := (dn_facts (show (gs a c) ≤ F2 by have : F1 ≤ F2 := (by decide); omega) (wt_le (ageN t p.bat))).2.2; omega
            have E : Below w.heap.size w w := Below.refl _ _
            go_enter Try.func18, Try.ntmps18
            refine wq fun Q hQ => ?_
            refine st_new (fun b => .pointer (some ⟨b, 0, none⟩)) (some 4) rfl rfl (ex_box rfl rfl) ?_
            intro b1 W1 k1 g1 B
            simp only [zp]
            have ge_b1 := Nat.le_trans E.size g1
            replace E := below_next E B
            clear B
            refine sg (.float .f64 0) 8 rfl rfl rfl rfl ?_
            simp only [zp]
            refine st_end ?_
            subst hQ
            refine wp_seq ?_
            refine wq fun Q hQ => ?_
            refine sm (.int .i64 a) 12 rfl rfl rfl rfl ?_
            simp only [zp]
            refine sv (.bool false) 13 rfl rfl (ex_bin (u := (.int .i64 a)) (r := (.int .i64 0)) rfl rfl rfl (eg3 _ _ _ _ _ _) (lss3 _ (decide_eq_false (by omega)))) ?_
            simp only [zp]
            refine sm (.bool false) 14 rfl rfl rfl rfl ?_
            simp only [zp]
            refine sm (.int .i64 c) 15 rfl rfl rfl rfl ?_
            simp only [zp]
            refine sm (.int .i64 a) 16 rfl rfl rfl rfl ?_
            simp only [zp]
            refine sv (.bool false) 17 rfl rfl (ex_bin (u := (.int .i64 c)) (r := (.int .i64 a)) rfl rfl rfl (eg3 _ _ _ _ _ _) (lss3 _ (decide_eq_false (by omega)))) ?_
            simp only [zp]
            refine sv (.bool false) 18 rfl rfl (ex_pkF rfl rfl rfl) ?_
            simp only [zp]
            refine st_end ?_
            subst hQ
            refine wp_cond_false rfl ?_
            refine wp_skip ?_
            refine wq fun Q hQ => ?_
            refine sm (.int .i64 a) 19 rfl rfl rfl rfl ?_
            simp only [zp]
            refine sm (.int .i64 c) 20 rfl rfl rfl rfl ?_
            simp only [zp]
            refine st_call (some 21) rfl rfl (rguess_any a c W1 hc) (ex_call (f := 16) (vs := [(.int .i64 a), (.int .i64 c)]) rfl (cf16 _) rfl) ?_
            rintro e W2 ⟨rfl, B⟩
            refine ⟨_, rfl, ?_⟩
            simp only [zp]
            replace E := below_next E B
            replace k1 := keep B k1
            refine sg (.float .f64 (gs a c)) 9 rfl rfl rfl rfl ?_
            simp only [zp]
            refine st_end ?_
            subst hQ
            refine wp_seq ?_
            refine wq fun Q hQ => ?_
            refine sv (.pointer (some ⟨b1, 1, none⟩)) 22 rfl rfl (ex_fa (p := (.pointer (some ⟨b1, 0, none⟩))) rfl rfl (fa23_1 _ _)) ?_
            simp only [zp]
            refine sv (.int .i64 p.gat) 23 rfl rfl (ex_load (p := (.pointer (some ⟨b1, 1, none⟩))) rfl rfl (ld3 (at_cell k1 rfl))) ?_
            simp only [zp]
            refine sv (.bool false) 24 rfl rfl (ex_bin (u := (.int .i64 p.gat)) (r := (.int .i64 0)) rfl rfl rfl (eg3 _ _ _ _ _ _) (gtr3 _ (decide_eq_false (by omega)))) ?_
            simp only [zp]
            refine sm (.bool false) 25 rfl rfl rfl rfl ?_
            simp only [zp]
            refine sn 26 rfl rfl ?_
            simp only [zp]
            refine sn 27 rfl rfl ?_
            simp only [zp]
            refine sn 28 rfl rfl ?_
            simp only [zp]
            refine sn 29 rfl rfl ?_
            simp only [zp]
            refine sv (.bool false) 30 rfl rfl (ex_pkF rfl rfl rfl) ?_
            simp only [zp]
            refine st_end ?_
            subst hQ
            refine wp_cond_false rfl ?_
            refine wp_skip ?_
            refine wp_seq ?_
            refine wq fun Q hQ => ?_
            refine sv (.pointer (some ⟨b1, 3, none⟩)) 42 rfl rfl (ex_fa (p := (.pointer (some ⟨b1, 0, none⟩))) rfl rfl (fa23_3 _ _)) ?_
            simp only [zp]
            refine sv (.int .i64 p.bat) 43 rfl rfl (ex_load (p := (.pointer (some ⟨b1, 3, none⟩))) rfl rfl (ld3 (at_cell k1 rfl))) ?_
            simp only [zp]
            refine sv (.bool true) 44 rfl rfl (ex_bin (u := (.int .i64 p.bat)) (r := (.int .i64 0)) rfl rfl rfl (eg3 _ _ _ _ _ _) (gtr3 _ (decide_eq_true (by omega)))) ?_
            simp only [zp]
            refine sm (.bool true) 45 rfl rfl rfl rfl ?_
            simp only [zp]
            refine sm (.int .i64 a) 46 rfl rfl rfl rfl ?_
            simp only [zp]
            refine sv (.pointer (some ⟨b1, 2, none⟩)) 47 rfl rfl (ex_fa (p := (.pointer (some ⟨b1, 0, none⟩))) rfl rfl (fa23_2 _ _)) ?_
            simp only [zp]
            refine sv (.int .i64 p.bad) 48 rfl rfl (ex_load (p := (.pointer (some ⟨b1, 2, none⟩))) rfl rfl (ld3 (at_cell k1 rfl))) ?_
            simp only [zp]
            refine sv (.bool true) 49 rfl rfl (ex_bin (u := (.int .i64 a)) (r := (.int .i64 p.bad)) rfl rfl rfl (eg3 _ _ _ _ _ _) (geq3 _ (decide_eq_true (by omega)))) ?_
            simp only [zp]
            refine sv (.bool true) 50 rfl rfl (ex_pkT rfl rfl rfl) ?_
            simp only [zp]
            refine st_end ?_
            subst hQ
            refine wp_cond_true rfl ?_
            refine wq fun Q hQ => ?_
            refine sm (.int .i64 t) 51 rfl rfl rfl rfl ?_
            simp only [zp]
            refine sv (.pointer (some ⟨b1, 3, none⟩)) 52 rfl rfl (ex_fa (p := (.pointer (some ⟨b1, 0, none⟩))) rfl rfl (fa23_3 _ _)) ?_
            simp only [zp]
            refine sv (.int .i64 p.bat) 53 rfl rfl (ex_load (p := (.pointer (some ⟨b1, 3, none⟩))) rfl rfl (ld3 (at_cell k1 rfl))) ?_
            simp only [zp]
            refine st_call (some 54) rfl rfl (rage_any t p.bat W2 t1 t2 hb1 hb2) (ex_call (f := 33) (vs := [(.int .i64 t), (.int .i64 p.bat)]) rfl (cf33 _) rfl) ?_
            rintro e W3 ⟨rfl, B⟩
            refine ⟨_, rfl, ?_⟩
            simp only [zp]
            replace E := below_next E B
            replace k1 := keep B k1
            refine st_call (some 55) rfl rfl (rweight_any (ageN t p.bat) W3 (age_le t1 t2 hb1 hb2)) (ex_call (f := 14) (vs := [(.int .i64 (ageN t p.bat))]) rfl (cf14 _) rfl) ?_
            rintro e W4 ⟨rfl, B⟩
            refine ⟨_, rfl, ?_⟩
            simp only [zp]
            replace E := below_next E B
            replace k1 := keep B k1
            refine sg (.float .f64 (wt (ageN t p.bat))) 11 rfl rfl rfl rfl ?_
            simp only [zp]
            refine st_end ?_
            subst hQ
            refine wl_in (wl_cap fun Q hQ => ?_)
            refine sm (.float .f64 (gs a c)) 56 rfl rfl rfl rfl ?_
            simp only [zp]
            refine sm (.float .f64 (wt (ageN t p.bat))) 57 rfl rfl rfl rfl ?_
            simp only [zp]
            refine sv (.float .f64 (fsub F1 (wt (ageN t p.bat)))) 58 rfl rfl (ex_bin rfl rfl rfl (egF _ _ _ _ _ _) (fsub_run _ ((dn_facts (show (gs a c) ≤ F2 by have : F1 ≤ F2 := (by decide); omega) (wt_le (ageN t p.bat))).1))) ?_
            simp only [zp]
            refine sv (.float .f64 (fmul (gs a c) (fsub F1 (wt (ageN t p.bat))))) 59 rfl rfl (ex_bin rfl rfl rfl (egF _ _ _ _ _ _) (fmul_run _ ((dn_facts (show (gs a c) ≤ F2 by have : F1 ≤ F2 := (by decide); omega) (wt_le (ageN t p.bat))).2.1))) ?_
            simp only [zp]
            refine sg (.float .f64 (fmul (gs a c) (fsub F1 (wt (ageN t p.bat))))) 9 rfl rfl rfl rfl ?_
            simp only [zp]
            refine st_end ?_
            subst hQ
            refine wq fun Q hQ => ?_
            refine sm (.float .f64 (fmul (gs a c) (fsub F1 (wt (ageN t p.bat))))) 60 rfl rfl rfl rfl ?_
            simp only [zp]
            refine st_call (some 61) rfl rfl (rclean_any (fmul (gs a c) (fsub F1 (wt (ageN t p.bat)))) W4 HG) (ex_call (f := 12) (vs := [(.float .f64 (fmul (gs a c) (fsub F1 (wt (ageN t p.bat)))))]) rfl (cf12 _) rfl) ?_
            rintro e W5 ⟨rfl, B⟩
            refine ⟨_, rfl, ?_⟩
            simp only [zp]
            replace E := below_next E B
            replace k1 := keep B k1
            refine sg (.float .f64 (cln (fmul (gs a c) (fsub F1 (wt (ageN t p.bat)))))) 8 rfl rfl rfl rfl ?_
            simp only [zp]
            refine st_end ?_
            subst hQ
            refine wp_ret ?_
            repeat (first | refine ret_out ?_ | refine ret_blk ?_)
            refine bodyPost_ret (results_tmp Try.results18 _ _ _) rfl ⟨?_, E⟩
            unfold chN
            rw [if_neg (by omega)]
            have q1 : c1 p a t (gs a c) = (gs a c) := by unfold c1; rw [if_neg (by omega)]
            have q2 : c2 p a t (gs a c) = (fmul (gs a c) (fsub F1 (wt (ageN t p.bat)))) := by unfold c2; rw [if_pos ⟨e4, e5⟩]
            rw [q1, q2]
            rfl
          · skip
            have HG : (gs a c) < 18446744073709551616 := by have := (show (gs a c) ≤ F2 by have : F1 ≤ F2 := (by decide); omega); omega
            have E : Below w.heap.size w w := Below.refl _ _
            go_enter Try.func18, Try.ntmps18
            refine wq fun Q hQ => ?_
            refine st_new (fun b => .pointer (some ⟨b, 0, none⟩)) (some 4) rfl rfl (ex_box rfl rfl) ?_
            intro b1 W1 k1 g1 B
            simp only [zp]
            have ge_b1 := Nat.le_trans E.size g1
            replace E := below_next E B
            clear B
            refine sg (.float .f64 0) 8 rfl rfl rfl rfl ?_
            simp only [zp]
            refine st_end ?_
            subst hQ
            refine wp_seq ?_
            refine wq fun Q hQ => ?_
            refine sm (.int .i64 a) 12 rfl rfl rfl rfl ?_
            simp only [zp]
            refine sv (.bool false) 13 rfl rfl (ex_bin (u := (.int .i64 a)) (r := (.int .i64 0)) rfl rfl rfl (eg3 _ _ _ _ _ _) (lss3 _ (decide_eq_false (by omega)))) ?_
            simp only [zp]
            refine sm (.bool false) 14 rfl rfl rfl rfl ?_
            simp only [zp]
            refine sm (.int .i64 c) 15 rfl rfl rfl rfl ?_
            simp only [zp]
            refine sm (.int .i64 a) 16 rfl rfl rfl rfl ?_
            simp only [zp]
            refine sv (.bool false) 17 rfl rfl (ex_bin (u := (.int .i64 c)) (r := (.int .i64 a)) rfl rfl rfl (eg3 _ _ _ _ _ _) (lss3 _ (decide_eq_false (by omega)))) ?_
            simp only [zp]
            refine sv (.bool false) 18 rfl rfl (ex_pkF rfl rfl rfl) ?_
            simp only [zp]
            refine st_end ?_
            subst hQ
            refine wp_cond_false rfl ?_
            refine wp_skip ?_
            refine wq fun Q hQ => ?_
            refine sm (.int .i64 a) 19 rfl rfl rfl rfl ?_
            simp only [zp]
            refine sm (.int .i64 c) 20 rfl rfl rfl rfl ?_
            simp only [zp]
            refine st_call (some 21) rfl rfl (rguess_any a c W1 hc) (ex_call (f := 16) (vs := [(.int .i64 a), (.int .i64 c)]) rfl (cf16 _) rfl) ?_
            rintro e W2 ⟨rfl, B⟩
            refine ⟨_, rfl, ?_⟩
            simp only [zp]
            replace E := below_next E B
            replace k1 := keep B k1
            refine sg (.float .f64 (gs a c)) 9 rfl rfl rfl rfl ?_
            simp only [zp]
            refine st_end ?_
            subst hQ
            refine wp_seq ?_
            refine wq fun Q hQ => ?_
            refine sv (.pointer (some ⟨b1, 1, none⟩)) 22 rfl rfl (ex_fa (p := (.pointer (some ⟨b1, 0, none⟩))) rfl rfl (fa23_1 _ _)) ?_
            simp only [zp]
            refine sv (.int .i64 p.gat) 23 rfl rfl (ex_load (p := (.pointer (some ⟨b1, 1, none⟩))) rfl rfl (ld3 (at_cell k1 rfl))) ?_
            simp only [zp]
            refine sv (.bool false) 24 rfl rfl (ex_bin (u := (.int .i64 p.gat)) (r := (.int .i64 0)) rfl rfl rfl (eg3 _ _ _ _ _ _) (gtr3 _ (decide_eq_false (by omega)))) ?_
            simp only [zp]
            refine sm (.bool false) 25 rfl rfl rfl rfl ?_
            simp only [zp]
            refine sn 26 rfl rfl ?_
            simp only [zp]
            refine sn 27 rfl rfl ?_
            simp only [zp]
            refine sn 28 rfl rfl ?_
            simp only [zp]
            refine sn 29 rfl rfl ?_
            simp only [zp]
            refine sv (.bool false) 30 rfl rfl (ex_pkF rfl rfl rfl) ?_
            simp only [zp]
            refine st_end ?_
            subst hQ
            refine wp_cond_false rfl ?_
            refine wp_skip ?_
            refine wp_seq ?_
            refine wq fun Q hQ => ?_
            refine sv (.pointer (some ⟨b1, 3, none⟩)) 42 rfl rfl (ex_fa (p := (.pointer (some ⟨b1, 0, none⟩))) rfl rfl (fa23_3 _ _)) ?_
            simp only [zp]
            refine sv (.int .i64 p.bat) 43 rfl rfl (ex_load (p := (.pointer (some ⟨b1, 3, none⟩))) rfl rfl (ld3 (at_cell k1 rfl))) ?_
            simp only [zp]
            refine sv (.bool true) 44 rfl rfl (ex_bin (u := (.int .i64 p.bat)) (r := (.int .i64 0)) rfl rfl rfl (eg3 _ _ _ _ _ _) (gtr3 _ (decide_eq_true (by omega)))) ?_
            simp only [zp]
            refine sm (.bool true) 45 rfl rfl rfl rfl ?_
            simp only [zp]
            refine sm (.int .i64 a) 46 rfl rfl rfl rfl ?_
            simp only [zp]
            refine sv (.pointer (some ⟨b1, 2, none⟩)) 47 rfl rfl (ex_fa (p := (.pointer (some ⟨b1, 0, none⟩))) rfl rfl (fa23_2 _ _)) ?_
            simp only [zp]
            refine sv (.int .i64 p.bad) 48 rfl rfl (ex_load (p := (.pointer (some ⟨b1, 2, none⟩))) rfl rfl (ld3 (at_cell k1 rfl))) ?_
            simp only [zp]
            refine sv (.bool false) 49 rfl rfl (ex_bin (u := (.int .i64 a)) (r := (.int .i64 p.bad)) rfl rfl rfl (eg3 _ _ _ _ _ _) (geq3 _ (decide_eq_false (by omega)))) ?_
            simp only [zp]
            refine sv (.bool false) 50 rfl rfl (ex_pkT rfl rfl rfl) ?_
            simp only [zp]
            refine st_end ?_
            subst hQ
            refine wp_cond_false rfl ?_
            refine wp_skip ?_
            refine wq fun Q hQ => ?_
            refine sm (.float .f64 (gs a c)) 60 rfl rfl rfl rfl ?_
            simp only [zp]
            refine st_call (some 61) rfl rfl (rclean_any (gs a c) W2 HG) (ex_call (f := 12) (vs := [(.float .f64 (gs a c))]) rfl (cf12 _) rfl) ?_
            rintro e W3 ⟨rfl, B⟩
            refine ⟨_, rfl, ?_⟩
            simp only [zp]
            replace E := below_next E B
            replace k1 := keep B k1
            refine sg (.float .f64 (cln (gs a c))) 8 rfl rfl rfl rfl ?_
            simp only [zp]
            refine st_end ?_
            subst hQ
            refine wp_ret ?_
            repeat (first | refine ret_out ?_ | refine ret_blk ?_)
            refine bodyPost_ret (results_tmp Try.results18 _ _ _) rfl ⟨?_, E⟩
            unfold chN
            rw [if_neg (by omega)]
            have q1 : c1 p a t (gs a c) = (gs a c) := by unfold c1; rw [if_neg (by omega)]
            have q2 : c2 p a t (gs a c) = (gs a c) := by unfold c2; rw [if_neg (by omega)]
            rw [q1, q2]
            rfl
        · skip
          have HG : (gs a c) < 18446744073709551616 := by have := (show (gs a c) ≤ F2 by have : F1 ≤ F2 := (by decide); omega); omega
          have E : Below w.heap.size w w := Below.refl _ _
          go_enter Try.func18, Try.ntmps18
          refine wq fun Q hQ => ?_
          refine st_new (fun b => .pointer (some ⟨b, 0, none⟩)) (some 4) rfl rfl (ex_box rfl rfl) ?_
          intro b1 W1 k1 g1 B
          simp only [zp]
          have ge_b1 := Nat.le_trans E.size g1
          replace E := below_next E B
          clear B
          refine sg (.float .f64 0) 8 rfl rfl rfl rfl ?_
          simp only [zp]
          refine st_end ?_
          subst hQ
          refine wp_seq ?_
          refine wq fun Q hQ => ?_
          refine sm (.int .i64 a) 12 rfl rfl rfl rfl ?_
          simp only [zp]
          refine sv (.bool false) 13 rfl rfl (ex_bin (u := (.int .i64 a)) (r := (.int .i64 0)) rfl rfl rfl (eg3 _ _ _ _ _ _) (lss3 _ (decide_eq_false (by omega)))) ?_
          simp only [zp]
          refine sm (.bool false) 14 rfl rfl rfl rfl ?_
          simp only [zp]
          refine sm (.int .i64 c) 15 rfl rfl rfl rfl ?_
          simp only [zp]
          refine sm (.int .i64 a) 16 rfl rfl rfl rfl ?_
          simp only [zp]
          refine sv (.bool false) 17 rfl rfl (ex_bin (u := (.int .i64 c)) (r := (.int .i64 a)) rfl rfl rfl (eg3 _ _ _ _ _ _) (lss3 _ (decide_eq_false (by omega)))) ?_
          simp only [zp]
          refine sv (.bool false) 18 rfl rfl (ex_pkF rfl rfl rfl) ?_
          simp only [zp]
          refine st_end ?_
          subst hQ
          refine wp_cond_false rfl ?_
          refine wp_skip ?_
          refine wq fun Q hQ => ?_
          refine sm (.int .i64 a) 19 rfl rfl rfl rfl ?_
          simp only [zp]
          refine sm (.int .i64 c) 20 rfl rfl rfl rfl ?_
          simp only [zp]
          refine st_call (some 21) rfl rfl (rguess_any a c W1 hc) (ex_call (f := 16) (vs := [(.int .i64 a), (.int .i64 c)]) rfl (cf16 _) rfl) ?_
          rintro e W2 ⟨rfl, B⟩
          refine ⟨_, rfl, ?_⟩
          simp only [zp]
          replace E := below_next E B
          replace k1 := keep B k1
          refine sg (.float .f64 (gs a c)) 9 rfl rfl rfl rfl ?_
          simp only [zp]
          refine st_end ?_
          subst hQ
          refine wp_seq ?_
          refine wq fun Q hQ => ?_
          refine sv (.pointer (some ⟨b1, 1, none⟩)) 22 rfl rfl (ex_fa (p := (.pointer (some ⟨b1, 0, none⟩))) rfl rfl (fa23_1 _ _)) ?_
          simp only [zp]
          refine sv (.int .i64 p.gat) 23 rfl rfl (ex_load (p := (.pointer (some ⟨b1, 1, none⟩))) rfl rfl (ld3 (at_cell k1 rfl))) ?_
          simp only [zp]
          refine sv (.bool false) 24 rfl rfl (ex_bin (u := (.int .i64 p.gat)) (r := (.int .i64 0)) rfl rfl rfl (eg3 _ _ _ _ _ _) (gtr3 _ (decide_eq_false (by omega)))) ?_
          simp only [zp]
          refine sm (.bool false) 25 rfl rfl rfl rfl ?_
          simp only [zp]
          refine sn 26 rfl rfl ?_
          simp only [zp]
          refine sn 27 rfl rfl ?_
          simp only [zp]
          refine sn 28 rfl rfl ?_
          simp only [zp]
          refine sn 29 rfl rfl ?_
          simp only [zp]
          refine sv (.bool false) 30 rfl rfl (ex_pkF rfl rfl rfl) ?_
          simp only [zp]
          refine st_end ?_
          subst hQ
          refine wp_cond_false rfl ?_
          refine wp_skip ?_
          refine wp_seq ?_
          refine wq fun Q hQ => ?_
          refine sv (.pointer (some ⟨b1, 3, none⟩)) 42 rfl rfl (ex_fa (p := (.pointer (some ⟨b1, 0, none⟩))) rfl rfl (fa23_3 _ _)) ?_
          simp only [zp]
          refine sv (.int .i64 p.bat) 43 rfl rfl (ex_load (p := (.pointer (some ⟨b1, 3, none⟩))) rfl rfl (ld3 (at_cell k1 rfl))) ?_
          simp only [zp]
          refine sv (.bool false) 44 rfl rfl (ex_bin (u := (.int .i64 p.bat)) (r := (.int .i64 0)) rfl rfl rfl (eg3 _ _ _ _ _ _) (gtr3 _ (decide_eq_false (by omega)))) ?_
          simp only [zp]
          refine sm (.bool false) 45 rfl rfl rfl rfl ?_
          simp only [zp]
          refine sn 46 rfl rfl ?_
          simp only [zp]
          refine sn 47 rfl rfl ?_
          simp only [zp]
          refine sn 48 rfl rfl ?_
          simp only [zp]
          refine sn 49 rfl rfl ?_
          simp only [zp]
          refine sv (.bool false) 50 rfl rfl (ex_pkF rfl rfl rfl) ?_
          simp only [zp]
          refine st_end ?_
          subst hQ
          refine wp_cond_false rfl ?_
          refine wp_skip ?_
          refine wq fun Q hQ => ?_
          refine sm (.float .f64 (gs a c)) 60 rfl rfl rfl rfl ?_
          simp only [zp]
          refine st_call (some 61) rfl rfl (rclean_any (gs a c) W2 HG) (ex_call (f := 12) (vs := [(.float .f64 (gs a c))]) rfl (cf12 _) rfl) ?_
          rintro e W3 ⟨rfl, B⟩
          refine ⟨_, rfl, ?_⟩
          simp only [zp]
          replace E := below_next E B
          replace k1 := keep B k1
          refine sg (.float .f64 (cln (gs a c))) 8 rfl rfl rfl rfl ?_
          simp only [zp]
          refine st_end ?_
          subst hQ
          refine wp_ret ?_
          repeat (first | refine ret_out ?_ | refine ret_blk ?_)
          refine bodyPost_ret (results_tmp Try.results18 _ _ _) rfl ⟨?_, E⟩
          unfold chN
          rw [if_neg (by omega)]
          have q1 : c1 p a t (gs a c) = (gs a c) := by unfold c1; rw [if_neg (by omega)]
          have q2 : c2 p a t (gs a c) = (gs a c) := by unfold c2; rw [if_neg (by omega)]
          rw [q1, q2]
          rfl
set_option maxHeartbeats 4000000 in
theorem rcost_any (fe d : Int) (x : Nat) (w : World) (hx : x < 18446744073709551616) (f2 : fe ≤ 9223372036854775807) (d2 : d ≤ 9223372036854775807) : Calls Try.prog 20 #[.int .i64 fe, .int .i64 d, .float .f64 x] w fun e w' => e = .returned (.float .f64 (costN fe d x)) ∧ Below w.heap.size w w' := by
  have LC := cln_le hx
  have w1 := F1_lt
  have KC := isN_pos (show cln x ≤ 9218868437227405312 by omega)
  have KV := key_pos (show cln x ≤ 9218868437227405312 by omega)
  by_cases e0 : fe < 0
  · skip
    have E : Below w.heap.size w w := Below.refl _ _
    go_enter Try.func20, Try.ntmps20
    refine wq fun Q hQ => ?_
    refine sg (.float .f64 0) 6 rfl rfl rfl rfl ?_
    simp only [zp]
    refine st_end ?_
    subst hQ
    refine wq fun Q hQ => ?_
    refine sm (.float .f64 x) 10 rfl rfl rfl rfl ?_
    simp only [zp]
    refine st_call (some 11) rfl rfl (rclean_any x w hx) (ex_call (f := 12) (vs := [(.float .f64 x)]) rfl (cf12 _) rfl) ?_
    rintro e W1 ⟨rfl, B⟩
    refine ⟨_, rfl, ?_⟩
    simp only [zp]
    replace E := below_next E B
    refine sg (.float .f64 (cln x)) 7 rfl rfl rfl rfl ?_
    simp only [zp]
    refine st_end ?_
    subst hQ
    refine wp_seq ?_
    refine wq fun Q hQ => ?_
    refine sm (.int .i64 fe) 12 rfl rfl rfl rfl ?_
    simp only [zp]
    refine sv (.bool true) 13 rfl rfl (ex_bin (u := (.int .i64 fe)) (r := (.int .i64 0)) rfl rfl rfl (eg3 _ _ _ _ _ _) (lss3 _ (decide_eq_true (by omega)))) ?_
    simp only [zp]
    refine sm (.bool true) 14 rfl rfl rfl rfl ?_
    simp only [zp]
    refine sn 15 rfl rfl ?_
    simp only [zp]
    refine sn 16 rfl rfl ?_
    simp only [zp]
    refine sv (.bool true) 17 rfl rfl (ex_pkT rfl rfl rfl) ?_
    simp only [zp]
    refine sm (.bool true) 18 rfl rfl rfl rfl ?_
    simp only [zp]
    refine sn 19 rfl rfl ?_
    simp only [zp]
    refine sn 20 rfl rfl ?_
    simp only [zp]
    refine sv (.bool true) 21 rfl rfl (ex_pkT rfl rfl rfl) ?_
    simp only [zp]
    refine st_end ?_
    subst hQ
    refine wp_cond_true rfl ?_
    refine wq fun Q hQ => ?_
    refine st_call (some 22) rfl rfl (inf_any W1) (ex_call (f := 34) (vs := [(.int .i64 1)]) rfl (cf34 _) rfl) ?_
    rintro e W2 ⟨rfl, B⟩
    refine ⟨_, rfl, ?_⟩
    simp only [zp]
    replace E := below_next E B
    refine sg (.float .f64 9218868437227405312) 6 rfl rfl rfl rfl ?_
    simp only [zp]
    refine st_end ?_
    subst hQ
    refine wp_ret ?_
    repeat (first | refine ret_out ?_ | refine ret_blk ?_)
    refine bodyPost_ret (results_tmp Try.results20 _ _ _) rfl ⟨?_, E⟩
    unfold costN
    rw [if_pos (by omega)]
    rfl
  · skip
    by_cases e1 : d < 0
    · skip
      have E : Below w.heap.size w w := Below.refl _ _
      go_enter Try.func20, Try.ntmps20
      refine wq fun Q hQ => ?_
      refine sg (.float .f64 0) 6 rfl rfl rfl rfl ?_
      simp only [zp]
      refine st_end ?_
      subst hQ
      refine wq fun Q hQ => ?_
      refine sm (.float .f64 x) 10 rfl rfl rfl rfl ?_
      simp only [zp]
      refine st_call (some 11) rfl rfl (rclean_any x w hx) (ex_call (f := 12) (vs := [(.float .f64 x)]) rfl (cf12 _) rfl) ?_
      rintro e W1 ⟨rfl, B⟩
      refine ⟨_, rfl, ?_⟩
      simp only [zp]
      replace E := below_next E B
      refine sg (.float .f64 (cln x)) 7 rfl rfl rfl rfl ?_
      simp only [zp]
      refine st_end ?_
      subst hQ
      refine wp_seq ?_
      refine wq fun Q hQ => ?_
      refine sm (.int .i64 fe) 12 rfl rfl rfl rfl ?_
      simp only [zp]
      refine sv (.bool false) 13 rfl rfl (ex_bin (u := (.int .i64 fe)) (r := (.int .i64 0)) rfl rfl rfl (eg3 _ _ _ _ _ _) (lss3 _ (decide_eq_false (by omega)))) ?_
      simp only [zp]
      refine sm (.bool false) 14 rfl rfl rfl rfl ?_
      simp only [zp]
      refine sm (.int .i64 d) 15 rfl rfl rfl rfl ?_
      simp only [zp]
      refine sv (.bool true) 16 rfl rfl (ex_bin (u := (.int .i64 d)) (r := (.int .i64 0)) rfl rfl rfl (eg3 _ _ _ _ _ _) (lss3 _ (decide_eq_true (by omega)))) ?_
      simp only [zp]
      refine sv (.bool true) 17 rfl rfl (ex_pkF rfl rfl rfl) ?_
      simp only [zp]
      refine sm (.bool true) 18 rfl rfl rfl rfl ?_
      simp only [zp]
      refine sn 19 rfl rfl ?_
      simp only [zp]
      refine sn 20 rfl rfl ?_
      simp only [zp]
      refine sv (.bool true) 21 rfl rfl (ex_pkT rfl rfl rfl) ?_
      simp only [zp]
      refine st_end ?_
      subst hQ
      refine wp_cond_true rfl ?_
      refine wq fun Q hQ => ?_
      refine st_call (some 22) rfl rfl (inf_any W1) (ex_call (f := 34) (vs := [(.int .i64 1)]) rfl (cf34 _) rfl) ?_
      rintro e W2 ⟨rfl, B⟩
      refine ⟨_, rfl, ?_⟩
      simp only [zp]
      replace E := below_next E B
      refine sg (.float .f64 9218868437227405312) 6 rfl rfl rfl rfl ?_
      simp only [zp]
      refine st_end ?_
      subst hQ
      refine wp_ret ?_
      repeat (first | refine ret_out ?_ | refine ret_blk ?_)
      refine bodyPost_ret (results_tmp Try.results20 _ _ _) rfl ⟨?_, E⟩
      unfold costN
      rw [if_pos (by omega)]
      rfl
    · skip
      by_cases e2 : cln x = 0
      · skip
        have E : Below w.heap.size w w := Below.refl _ _
        go_enter Try.func20, Try.ntmps20
        refine wq fun Q hQ => ?_
        refine sg (.float .f64 0) 6 rfl rfl rfl rfl ?_
        simp only [zp]
        refine st_end ?_
        subst hQ
        refine wq fun Q hQ => ?_
        refine sm (.float .f64 x) 10 rfl rfl rfl rfl ?_
        simp only [zp]
        refine st_call (some 11) rfl rfl (rclean_any x w hx) (ex_call (f := 12) (vs := [(.float .f64 x)]) rfl (cf12 _) rfl) ?_
        rintro e W1 ⟨rfl, B⟩
        refine ⟨_, rfl, ?_⟩
        simp only [zp]
        replace E := below_next E B
        refine sg (.float .f64 (cln x)) 7 rfl rfl rfl rfl ?_
        simp only [zp]
        refine st_end ?_
        subst hQ
        refine wp_seq ?_
        refine wq fun Q hQ => ?_
        refine sm (.int .i64 fe) 12 rfl rfl rfl rfl ?_
        simp only [zp]
        refine sv (.bool false) 13 rfl rfl (ex_bin (u := (.int .i64 fe)) (r := (.int .i64 0)) rfl rfl rfl (eg3 _ _ _ _ _ _) (lss3 _ (decide_eq_false (by omega)))) ?_
        simp only [zp]
        refine sm (.bool false) 14 rfl rfl rfl rfl ?_
        simp only [zp]
        refine sm (.int .i64 d) 15 rfl rfl rfl rfl ?_
        simp only [zp]
        refine sv (.bool false) 16 rfl rfl (ex_bin (u := (.int .i64 d)) (r := (.int .i64 0)) rfl rfl rfl (eg3 _ _ _ _ _ _) (lss3 _ (decide_eq_false (by omega)))) ?_
        simp only [zp]
        refine sv (.bool false) 17 rfl rfl (ex_pkF rfl rfl rfl) ?_
        simp only [zp]
        refine sm (.bool false) 18 rfl rfl rfl rfl ?_
        simp only [zp]
        refine sm (.float .f64 (cln x)) 19 rfl rfl rfl rfl ?_
        simp only [zp]
        refine sv (.bool true) 20 rfl rfl (ex_bin rfl rfl rfl (egF _ _ _ _ _ _) (eqlF _ (is_eq KC N0 (decide_eq_true (by rw [KV, key_zero, e2, iv_zero]; rfl))))) ?_
        simp only [zp]
        refine sv (.bool true) 21 rfl rfl (ex_pkF rfl rfl rfl) ?_
        simp only [zp]
        refine st_end ?_
        subst hQ
        refine wp_cond_true rfl ?_
        refine wq fun Q hQ => ?_
        refine st_call (some 22) rfl rfl (inf_any W1) (ex_call (f := 34) (vs := [(.int .i64 1)]) rfl (cf34 _) rfl) ?_
        rintro e W2 ⟨rfl, B⟩
        refine ⟨_, rfl, ?_⟩
        simp only [zp]
        replace E := below_next E B
        refine sg (.float .f64 9218868437227405312) 6 rfl rfl rfl rfl ?_
        simp only [zp]
        refine st_end ?_
        subst hQ
        refine wp_ret ?_
        repeat (first | refine ret_out ?_ | refine ret_blk ?_)
        refine bodyPost_ret (results_tmp Try.results20 _ _ _) rfl ⟨?_, E⟩
        unfold costN
        rw [if_pos (by omega)]
        rfl
      · skip
        have G := cost_facts (f := fe) (d := d) (c := cln x) (by omega) f2 (by omega) d2 (by omega) LC
        have E : Below w.heap.size w w := Below.refl _ _
        go_enter Try.func20, Try.ntmps20
        refine wq fun Q hQ => ?_
        refine sg (.float .f64 0) 6 rfl rfl rfl rfl ?_
        simp only [zp]
        refine st_end ?_
        subst hQ
        refine wq fun Q hQ => ?_
        refine sm (.float .f64 x) 10 rfl rfl rfl rfl ?_
        simp only [zp]
        refine st_call (some 11) rfl rfl (rclean_any x w hx) (ex_call (f := 12) (vs := [(.float .f64 x)]) rfl (cf12 _) rfl) ?_
        rintro e W1 ⟨rfl, B⟩
        refine ⟨_, rfl, ?_⟩
        simp only [zp]
        replace E := below_next E B
        refine sg (.float .f64 (cln x)) 7 rfl rfl rfl rfl ?_
        simp only [zp]
        refine st_end ?_
        subst hQ
        refine wp_seq ?_
        refine wq fun Q hQ => ?_
        refine sm (.int .i64 fe) 12 rfl rfl rfl rfl ?_
        simp only [zp]
        refine sv (.bool false) 13 rfl rfl (ex_bin (u := (.int .i64 fe)) (r := (.int .i64 0)) rfl rfl rfl (eg3 _ _ _ _ _ _) (lss3 _ (decide_eq_false (by omega)))) ?_
        simp only [zp]
        refine sm (.bool false) 14 rfl rfl rfl rfl ?_
        simp only [zp]
        refine sm (.int .i64 d) 15 rfl rfl rfl rfl ?_
        simp only [zp]
        refine sv (.bool false) 16 rfl rfl (ex_bin (u := (.int .i64 d)) (r := (.int .i64 0)) rfl rfl rfl (eg3 _ _ _ _ _ _) (lss3 _ (decide_eq_false (by omega)))) ?_
        simp only [zp]
        refine sv (.bool false) 17 rfl rfl (ex_pkF rfl rfl rfl) ?_
        simp only [zp]
        refine sm (.bool false) 18 rfl rfl rfl rfl ?_
        simp only [zp]
        refine sm (.float .f64 (cln x)) 19 rfl rfl rfl rfl ?_
        simp only [zp]
        refine sv (.bool false) 20 rfl rfl (ex_bin rfl rfl rfl (egF _ _ _ _ _ _) (eqlF _ (is_eq KC N0 (decide_eq_false (by rw [KV, key_zero]; have := iv_pos (y := cln x) (by omega); omega))))) ?_
        simp only [zp]
        refine sv (.bool false) 21 rfl rfl (ex_pkF rfl rfl rfl) ?_
        simp only [zp]
        refine st_end ?_
        subst hQ
        refine wp_cond_false rfl ?_
        refine wp_skip ?_
        refine wq fun Q hQ => ?_
        refine sm (.int .i64 d) 23 rfl rfl rfl rfl ?_
        simp only [zp]
        refine sv (.float .f64 (i2f d)) 24 rfl rfl (ex_cvt rfl rfl) ?_
        simp only [zp]
        refine sv (.float .f64 (fmul (i2f d) F10)) 25 rfl rfl (ex_bin rfl rfl rfl (egF _ _ _ _ _ _) (fmul_run _ (G.1))) ?_
        simp only [zp]
        refine sg (.float .f64 (fmul (i2f d) F10)) 8 rfl rfl rfl rfl ?_
        simp only [zp]
        refine st_end ?_
        subst hQ
        refine wq fun Q hQ => ?_
        refine sm (.float .f64 (cln x)) 26 rfl rfl rfl rfl ?_
        simp only [zp]
        refine sv (.float .f64 (fdiv F100 (cln x))) 27 rfl rfl (ex_bin rfl rfl rfl (egF _ _ _ _ _ _) (fdiv_run _ (G.2.1))) ?_
        simp only [zp]
        refine sg (.float .f64 (fdiv F100 (cln x))) 9 rfl rfl rfl rfl ?_
        simp only [zp]
        refine st_end ?_
        subst hQ
        refine wq fun Q hQ => ?_
        refine sm (.int .i64 fe) 28 rfl rfl rfl rfl ?_
        simp only [zp]
        refine sv (.float .f64 (i2f fe)) 29 rfl rfl (ex_cvt rfl rfl) ?_
        simp only [zp]
        refine sm (.float .f64 (fmul (i2f d) F10)) 30 rfl rfl rfl rfl ?_
        simp only [zp]
        refine sv (.float .f64 (fadd (i2f fe) (fmul (i2f d) F10))) 31 rfl rfl (ex_bin rfl rfl rfl (egF _ _ _ _ _ _) (fadd_run _ (G.2.2.1))) ?_
        simp only [zp]
        refine sm (.float .f64 (fdiv F100 (cln x))) 32 rfl rfl rfl rfl ?_
        simp only [zp]
        refine sv (.float .f64 (fadd (fadd (i2f fe) (fmul (i2f d) F10)) (fdiv F100 (cln x)))) 33 rfl rfl (ex_bin rfl rfl rfl (egF _ _ _ _ _ _) (fadd_run _ (G.2.2.2.1))) ?_
        simp only [zp]
        refine sg (.float .f64 (fadd (fadd (i2f fe) (fmul (i2f d) F10)) (fdiv F100 (cln x)))) 6 rfl rfl rfl rfl ?_
        simp only [zp]
        refine st_end ?_
        subst hQ
        refine wp_ret ?_
        repeat (first | refine ret_out ?_ | refine ret_blk ?_)
        refine bodyPost_ret (results_tmp Try.results20 _ _ _) rfl ⟨?_, E⟩
        unfold costN
        rw [if_neg (by omega)]
        rfl
set_option maxHeartbeats 2000000 in
theorem rless_any (x y : Nat) (w : World) {c : Bool} (hc : lsN x y = c) : Calls Try.prog 24 #[.float .f64 x, .float .f64 y] w fun e w' => e = .returned (.bool c) ∧ Below w.heap.size w w' := by
  subst hc
  by_cases e0 : isN x = true
  · skip
    have E : Below w.heap.size w w := Below.refl _ _
    go_enter Try.func24, Try.ntmps24
    refine wq fun Q hQ => ?_
    refine sg (.bool false) 4 rfl rfl rfl rfl ?_
    simp only [zp]
    refine st_end ?_
    subst hQ
    refine wp_seq ?_
    refine wq fun Q hQ => ?_
    refine sm (.float .f64 x) 5 rfl rfl rfl rfl ?_
    simp only [zp]
    refine sm (.float .f64 x) 6 rfl rfl rfl rfl ?_
    simp only [zp]
    refine sv (.bool true) 7 rfl rfl (ex_bin rfl rfl rfl (egF _ _ _ _ _ _) (neqF _ (no_ne (.inl e0)))) ?_
    simp only [zp]
    refine st_end ?_
    subst hQ
    refine wp_cond_true rfl ?_
    refine wq fun Q hQ => ?_
    refine sg (.bool false) 4 rfl rfl rfl rfl ?_
    simp only [zp]
    refine st_end ?_
    subst hQ
    refine wp_ret ?_
    repeat (first | refine ret_out ?_ | refine ret_blk ?_)
    refine bodyPost_ret (results_tmp Try.results24 _ _ _) rfl ⟨?_, E⟩
    show Ending.returned (.bool false) = _
    simp [lsN, e0]
  · skip
    replace e0 := Bool.eq_false_iff.2 e0
    by_cases e1 : isN y = true
    · skip
      have E : Below w.heap.size w w := Below.refl _ _
      go_enter Try.func24, Try.ntmps24
      refine wq fun Q hQ => ?_
      refine sg (.bool false) 4 rfl rfl rfl rfl ?_
      simp only [zp]
      refine st_end ?_
      subst hQ
      refine wp_seq ?_
      refine wq fun Q hQ => ?_
      refine sm (.float .f64 x) 5 rfl rfl rfl rfl ?_
      simp only [zp]
      refine sm (.float .f64 x) 6 rfl rfl rfl rfl ?_
      simp only [zp]
      refine sv (.bool false) 7 rfl rfl (ex_bin rfl rfl rfl (egF _ _ _ _ _ _) (neqF _ (is_ne e0 e0 (decide_eq_false (fun h => h rfl))))) ?_
      simp only [zp]
      refine st_end ?_
      subst hQ
      refine wp_cond_false rfl ?_
      refine wp_skip ?_
      refine wq fun Q hQ => ?_
      refine sm (.float .f64 y) 8 rfl rfl rfl rfl ?_
      simp only [zp]
      refine sm (.float .f64 y) 9 rfl rfl rfl rfl ?_
      simp only [zp]
      refine sv (.bool true) 10 rfl rfl (ex_bin rfl rfl rfl (egF _ _ _ _ _ _) (neqF _ (no_ne (.inl e1)))) ?_
      simp only [zp]
      refine sm (.bool true) 11 rfl rfl rfl rfl ?_
      simp only [zp]
      refine sn 12 rfl rfl ?_
      simp only [zp]
      refine sn 13 rfl rfl ?_
      simp only [zp]
      refine sn 14 rfl rfl ?_
      simp only [zp]
      refine sv (.bool true) 15 rfl rfl (ex_pkT rfl rfl rfl) ?_
      simp only [zp]
      refine sg (.bool true) 4 rfl rfl rfl rfl ?_
      simp only [zp]
      refine st_end ?_
      subst hQ
      refine wp_ret ?_
      repeat (first | refine ret_out ?_ | refine ret_blk ?_)
      refine bodyPost_ret (results_tmp Try.results24 _ _ _) rfl ⟨?_, E⟩
      show Ending.returned (.bool true) = _
      simp [lsN, e0, e1]
    · skip
      replace e1 := Bool.eq_false_iff.2 e1
      by_cases e2 : key x < key y
      · skip
        have E : Below w.heap.size w w := Below.refl _ _
        go_enter Try.func24, Try.ntmps24
        refine wq fun Q hQ => ?_
        refine sg (.bool false) 4 rfl rfl rfl rfl ?_
        simp only [zp]
        refine st_end ?_
        subst hQ
        refine wp_seq ?_
        refine wq fun Q hQ => ?_
        refine sm (.float .f64 x) 5 rfl rfl rfl rfl ?_
        simp only [zp]
        refine sm (.float .f64 x) 6 rfl rfl rfl rfl ?_
        simp only [zp]
        refine sv (.bool false) 7 rfl rfl (ex_bin rfl rfl rfl (egF _ _ _ _ _ _) (neqF _ (is_ne e0 e0 (decide_eq_false (fun h => h rfl))))) ?_
        simp only [zp]
        refine st_end ?_
        subst hQ
        refine wp_cond_false rfl ?_
        refine wp_skip ?_
        refine wq fun Q hQ => ?_
        refine sm (.float .f64 y) 8 rfl rfl rfl rfl ?_
        simp only [zp]
        refine sm (.float .f64 y) 9 rfl rfl rfl rfl ?_
        simp only [zp]
        refine sv (.bool false) 10 rfl rfl (ex_bin rfl rfl rfl (egF _ _ _ _ _ _) (neqF _ (is_ne e1 e1 (decide_eq_false (fun h => h rfl))))) ?_
        simp only [zp]
        refine sm (.bool false) 11 rfl rfl rfl rfl ?_
        simp only [zp]
        refine sm (.float .f64 x) 12 rfl rfl rfl rfl ?_
        simp only [zp]
        refine sm (.float .f64 y) 13 rfl rfl rfl rfl ?_
        simp only [zp]
        refine sv (.bool true) 14 rfl rfl (ex_bin rfl rfl rfl (egF _ _ _ _ _ _) (lssF _ (is_lt e0 e1 (decide_eq_true e2)))) ?_
        simp only [zp]
        refine sv (.bool true) 15 rfl rfl (ex_pkF rfl rfl rfl) ?_
        simp only [zp]
        refine sg (.bool true) 4 rfl rfl rfl rfl ?_
        simp only [zp]
        refine st_end ?_
        subst hQ
        refine wp_ret ?_
        repeat (first | refine ret_out ?_ | refine ret_blk ?_)
        refine bodyPost_ret (results_tmp Try.results24 _ _ _) rfl ⟨?_, E⟩
        show Ending.returned (.bool true) = _
        simp [lsN, e0, e1, e2]
      · skip
        have E : Below w.heap.size w w := Below.refl _ _
        go_enter Try.func24, Try.ntmps24
        refine wq fun Q hQ => ?_
        refine sg (.bool false) 4 rfl rfl rfl rfl ?_
        simp only [zp]
        refine st_end ?_
        subst hQ
        refine wp_seq ?_
        refine wq fun Q hQ => ?_
        refine sm (.float .f64 x) 5 rfl rfl rfl rfl ?_
        simp only [zp]
        refine sm (.float .f64 x) 6 rfl rfl rfl rfl ?_
        simp only [zp]
        refine sv (.bool false) 7 rfl rfl (ex_bin rfl rfl rfl (egF _ _ _ _ _ _) (neqF _ (is_ne e0 e0 (decide_eq_false (fun h => h rfl))))) ?_
        simp only [zp]
        refine st_end ?_
        subst hQ
        refine wp_cond_false rfl ?_
        refine wp_skip ?_
        refine wq fun Q hQ => ?_
        refine sm (.float .f64 y) 8 rfl rfl rfl rfl ?_
        simp only [zp]
        refine sm (.float .f64 y) 9 rfl rfl rfl rfl ?_
        simp only [zp]
        refine sv (.bool false) 10 rfl rfl (ex_bin rfl rfl rfl (egF _ _ _ _ _ _) (neqF _ (is_ne e1 e1 (decide_eq_false (fun h => h rfl))))) ?_
        simp only [zp]
        refine sm (.bool false) 11 rfl rfl rfl rfl ?_
        simp only [zp]
        refine sm (.float .f64 x) 12 rfl rfl rfl rfl ?_
        simp only [zp]
        refine sm (.float .f64 y) 13 rfl rfl rfl rfl ?_
        simp only [zp]
        refine sv (.bool false) 14 rfl rfl (ex_bin rfl rfl rfl (egF _ _ _ _ _ _) (lssF _ (is_lt e0 e1 (decide_eq_false e2)))) ?_
        simp only [zp]
        refine sv (.bool false) 15 rfl rfl (ex_pkF rfl rfl rfl) ?_
        simp only [zp]
        refine sg (.bool false) 4 rfl rfl rfl rfl ?_
        simp only [zp]
        refine st_end ?_
        subst hQ
        refine wp_ret ?_
        repeat (first | refine ret_out ?_ | refine ret_blk ?_)
        refine bodyPost_ret (results_tmp Try.results24 _ _ _) rfl ⟨?_, E⟩
        show Ending.returned (.bool false) = _
        simp [lsN, e0, e1, e2]
end Go.Proofs.Ytjmdcgfhblgehaa
