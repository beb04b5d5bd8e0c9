/- Policy: the document's Final; Margin and Retry of both. -/
import Derived.Test.YtfbaidmnnkcaeaaPRef
namespace Go.Proofs.Ytfbaidmnnkcaeaa
open Go.RowKit
set_option linter.unusedVariables false
set_option linter.unusedSimpArgs false
set_option maxRecDepth 100000

set_option maxHeartbeats 4000000 in
theorem rfin_any {q : RV} {H : Array Value} {v : HP} {a x h : Int} (w : World) (hH : IsHop H v) {c : Int} (hc : finN q v a x h = c) :
    Calls Try.prog 16 #[.agg (RL q), .agg H, .int .i64 a, .int .i64 x, .int .i64 h] w fun e w' => e = .returned (.int .i64 c) ∧ Below w.heap.size w w' := by
  subst hc
  by_cases e0 : wrongB q a x h = true
  · skip
    have E : Below w.heap.size w w := Below.refl _ _
    go_enter Try.func16, Try.ntmps16
    refine wq fun Q hQ => ?_
    refine st_new (fun b => .pointer (some ⟨b, 0, none⟩)) (some 5) rfl rfl (ex_box rfl rfl) ?_
    intro b1 W1 k1 g1 B
    simp only [zp]
    have ge_b1 := Nat.le_trans E.size g1
    replace E := below_next E B
    clear B
    refine st_new (fun b => .pointer (some ⟨b, 0, none⟩)) (some 6) rfl rfl (ex_box rfl rfl) ?_
    intro b2 W2 k2 g2 B
    simp only [zp]
    have ne_b2_b1 : b2 ≠ b1 := fun e => by have := lt_of k1; omega
    have ge_b2 := Nat.le_trans E.size g2
    replace E := below_next E B
    replace k1 := keep B k1
    clear B
    refine sg (.int .i64 0) 10 rfl rfl rfl rfl ?_
    simp only [zp]
    refine st_end ?_
    subst hQ
    refine wp_seq ?_
    refine wq fun Q hQ => ?_
    refine sv (.agg (RL q)) 11 rfl rfl (ex_load (p := (.pointer (some ⟨b1, 0, none⟩))) rfl rfl (ld_all k1 Try.underlying25 rfl inf25)) ?_
    simp only [zp]
    refine sm (.int .i64 a) 12 rfl rfl rfl rfl ?_
    simp only [zp]
    refine sm (.int .i64 x) 13 rfl rfl rfl rfl ?_
    simp only [zp]
    refine sm (.int .i64 h) 14 rfl rfl rfl rfl ?_
    simp only [zp]
    refine st_call (some 15) rfl rfl (rright_any W2 e0) (ex_call (f := 35) (vs := [(.agg (RL q)), (.int .i64 a), (.int .i64 x), (.int .i64 h)]) rfl (cf35 _) rfl) ?_
    rintro e W3 ⟨rfl, B⟩
    refine ⟨_, rfl, ?_⟩
    simp only [zp]
    replace E := below_next E B
    replace k1 := keep B k1
    replace k2 := keep B k2
    refine sv (.bool true) 16 rfl rfl (ex_not rfl rfl rfl) ?_
    simp only [zp]
    refine sm (.bool true) 17 rfl rfl rfl rfl ?_
    simp only [zp]
    refine sn 18 rfl rfl ?_
    simp only [zp]
    refine sn 19 rfl rfl ?_
    simp only [zp]
    refine sn 20 rfl rfl ?_
    simp only [zp]
    refine sv (.bool true) 21 rfl rfl (ex_pkT rfl rfl rfl) ?_
    simp only [zp]
    refine st_end ?_
    subst hQ
    refine wp_cond_true rfl ?_
    refine wq fun Q hQ => ?_
    refine sg (.int .i64 1) 10 rfl rfl rfl rfl ?_
    simp only [zp]
    refine st_end ?_
    subst hQ
    refine wp_ret ?_
    repeat (first | refine ret_out ?_ | refine ret_blk ?_)
    refine bodyPost_ret (results_tmp Try.results16 _ _ _) rfl ⟨?_, E⟩
    show Ending.returned (.int .i64 1) = _
    simp [finN, e0]
  · skip
    replace e0 := Bool.eq_false_iff.2 e0
    obtain ⟨hm, a0, x0, x1, h0, h1⟩ := not_wrong e0
    have MR := mayR_of hm
    have MD := MR.2
    by_cases e1 : v.ch = 0
    · skip
      by_cases e2 : h < x
      · skip
        by_cases e3 : q.f < x - h
        · skip
          have E : Below w.heap.size w w := Below.refl _ _
          go_enter Try.func16, Try.ntmps16
          refine wq fun Q hQ => ?_
          refine st_new (fun b => .pointer (some ⟨b, 0, none⟩)) (some 5) rfl rfl (ex_box rfl rfl) ?_
          intro b1 W1 k1 g1 B
          simp only [zp]
          have ge_b1 := Nat.le_trans E.size g1
          replace E := below_next E B
          clear B
          refine st_new (fun b => .pointer (some ⟨b, 0, none⟩)) (some 6) rfl rfl (ex_box rfl rfl) ?_
          intro b2 W2 k2 g2 B
          simp only [zp]
          have ne_b2_b1 : b2 ≠ b1 := fun e => by have := lt_of k1; omega
          have ge_b2 := Nat.le_trans E.size g2
          replace E := below_next E B
          replace k1 := keep B k1
          clear B
          refine sg (.int .i64 0) 10 rfl rfl rfl rfl ?_
          simp only [zp]
          refine st_end ?_
          subst hQ
          refine wp_seq ?_
          refine wq fun Q hQ => ?_
          refine sv (.agg (RL q)) 11 rfl rfl (ex_load (p := (.pointer (some ⟨b1, 0, none⟩))) rfl rfl (ld_all k1 Try.underlying25 rfl inf25)) ?_
          simp only [zp]
          refine sm (.int .i64 a) 12 rfl rfl rfl rfl ?_
          simp only [zp]
          refine sm (.int .i64 x) 13 rfl rfl rfl rfl ?_
          simp only [zp]
          refine sm (.int .i64 h) 14 rfl rfl rfl rfl ?_
          simp only [zp]
          refine st_call (some 15) rfl rfl (rright_any W2 e0) (ex_call (f := 35) (vs := [(.agg (RL q)), (.int .i64 a), (.int .i64 x), (.int .i64 h)]) rfl (cf35 _) rfl) ?_
          rintro e W3 ⟨rfl, B⟩
          refine ⟨_, rfl, ?_⟩
          simp only [zp]
          replace E := below_next E B
          replace k1 := keep B k1
          replace k2 := keep B k2
          refine sv (.bool false) 16 rfl rfl (ex_not rfl rfl rfl) ?_
          simp only [zp]
          refine sm (.bool false) 17 rfl rfl rfl rfl ?_
          simp only [zp]
          refine sv (.pointer (some ⟨b2, 0, none⟩)) 18 rfl rfl (ex_fa (p := (.pointer (some ⟨b2, 0, none⟩))) rfl rfl (fa28_0 _ _)) ?_
          simp only [zp]
          refine sv (.int .i64 v.ch) 19 rfl rfl (ex_load (p := (.pointer (some ⟨b2, 0, none⟩))) rfl rfl (ld3 (at_cell k2 hH.c0))) ?_
          simp only [zp]
          refine sv (.bool false) 20 rfl rfl (ex_bin (u := (.int .i64 v.ch)) (r := (.int .i64 0)) rfl rfl rfl (eg3 _ _ _ _ _ _) (neq3 _ (decide_eq_false (by omega)))) ?_
          simp only [zp]
          refine sv (.bool false) 21 rfl rfl (ex_pkF rfl rfl rfl) ?_
          simp only [zp]
          refine st_end ?_
          subst hQ
          refine wp_cond_false rfl ?_
          refine wp_skip ?_
          refine wp_seq ?_
          refine wq fun Q hQ => ?_
          refine sm (.int .i64 x) 22 rfl rfl rfl rfl ?_
          simp only [zp]
          refine sm (.int .i64 h) 23 rfl rfl rfl rfl ?_
          simp only [zp]
          refine sv (.bool true) 24 rfl rfl (ex_bin (u := (.int .i64 x)) (r := (.int .i64 h)) rfl rfl rfl (eg3 _ _ _ _ _ _) (gtr3 _ (decide_eq_true (by omega)))) ?_
          simp only [zp]
          refine sm (.bool true) 25 rfl rfl rfl rfl ?_
          simp only [zp]
          refine sm (.int .i64 x) 26 rfl rfl rfl rfl ?_
          simp only [zp]
          refine sm (.int .i64 h) 27 rfl rfl rfl rfl ?_
          simp only [zp]
          refine sv (.int .i64 (x - h)) 28 rfl rfl (ex_bin (u := (.int .i64 x)) (r := (.int .i64 h)) rfl rfl rfl (eg3 _ _ _ _ _ _) (sub3 _ rfl (by omega))) ?_
          simp only [zp]
          refine sv (.pointer (some ⟨b1, 4, none⟩)) 29 rfl rfl (ex_fa (p := (.pointer (some ⟨b1, 0, none⟩))) rfl rfl (fa25_3 _ _)) ?_
          simp only [zp]
          refine sv (.int .i64 q.f) 30 rfl rfl (ex_load (p := (.pointer (some ⟨b1, 4, none⟩))) rfl rfl (ld3 (at_cell k1 rfl))) ?_
          simp only [zp]
          refine sv (.bool true) 31 rfl rfl (ex_bin (u := (.int .i64 (x - h))) (r := (.int .i64 q.f)) rfl rfl rfl (eg3 _ _ _ _ _ _) (gtr3 _ (decide_eq_true (by omega)))) ?_
          simp only [zp]
          refine sv (.bool true) 32 rfl rfl (ex_pkT rfl rfl rfl) ?_
          simp only [zp]
          refine st_end ?_
          subst hQ
          refine wp_cond_true rfl ?_
          refine wq fun Q hQ => ?_
          refine sg (.int .i64 6) 10 rfl rfl rfl rfl ?_
          simp only [zp]
          refine st_end ?_
          subst hQ
          refine wp_ret ?_
          repeat (first | refine ret_out ?_ | refine ret_blk ?_)
          refine bodyPost_ret (results_tmp Try.results16 _ _ _) rfl ⟨?_, E⟩
          show Ending.returned (.int .i64 6) = _
          simp [finN, e0, e1, e2, e3]
        · skip
          by_cases e4 : x ≤ h + q.g
          · skip
            have E : Below w.heap.size w w := Below.refl _ _
            go_enter Try.func16, Try.ntmps16
            refine wq fun Q hQ => ?_
            refine st_new (fun b => .pointer (some ⟨b, 0, none⟩)) (some 5) rfl rfl (ex_box rfl rfl) ?_
            intro b1 W1 k1 g1 B
            simp only [zp]
            have ge_b1 := Nat.le_trans E.size g1
            replace E := below_next E B
            clear B
            refine st_new (fun b => .pointer (some ⟨b, 0, none⟩)) (some 6) rfl rfl (ex_box rfl rfl) ?_
            intro b2 W2 k2 g2 B
            simp only [zp]
            have ne_b2_b1 : b2 ≠ b1 := fun e => by have := lt_of k1; omega
            have ge_b2 := Nat.le_trans E.size g2
            replace E := below_next E B
            replace k1 := keep B k1
            clear B
            refine sg (.int .i64 0) 10 rfl rfl rfl rfl ?_
            simp only [zp]
            refine st_end ?_
            subst hQ
            refine wp_seq ?_
            refine wq fun Q hQ => ?_
            refine sv (.agg (RL q)) 11 rfl rfl (ex_load (p := (.pointer (some ⟨b1, 0, none⟩))) rfl rfl (ld_all k1 Try.underlying25 rfl inf25)) ?_
            simp only [zp]
            refine sm (.int .i64 a) 12 rfl rfl rfl rfl ?_
            simp only [zp]
            refine sm (.int .i64 x) 13 rfl rfl rfl rfl ?_
            simp only [zp]
            refine sm (.int .i64 h) 14 rfl rfl rfl rfl ?_
            simp only [zp]
            refine st_call (some 15) rfl rfl (rright_any W2 e0) (ex_call (f := 35) (vs := [(.agg (RL q)), (.int .i64 a), (.int .i64 x), (.int .i64 h)]) rfl (cf35 _) rfl) ?_
            rintro e W3 ⟨rfl, B⟩
            refine ⟨_, rfl, ?_⟩
            simp only [zp]
            replace E := below_next E B
            replace k1 := keep B k1
            replace k2 := keep B k2
            refine sv (.bool false) 16 rfl rfl (ex_not rfl rfl rfl) ?_
            simp only [zp]
            refine sm (.bool false) 17 rfl rfl rfl rfl ?_
            simp only [zp]
            refine sv (.pointer (some ⟨b2, 0, none⟩)) 18 rfl rfl (ex_fa (p := (.pointer (some ⟨b2, 0, none⟩))) rfl rfl (fa28_0 _ _)) ?_
            simp only [zp]
            refine sv (.int .i64 v.ch) 19 rfl rfl (ex_load (p := (.pointer (some ⟨b2, 0, none⟩))) rfl rfl (ld3 (at_cell k2 hH.c0))) ?_
            simp only [zp]
            refine sv (.bool false) 20 rfl rfl (ex_bin (u := (.int .i64 v.ch)) (r := (.int .i64 0)) rfl rfl rfl (eg3 _ _ _ _ _ _) (neq3 _ (decide_eq_false (by omega)))) ?_
            simp only [zp]
            refine sv (.bool false) 21 rfl rfl (ex_pkF rfl rfl rfl) ?_
            simp only [zp]
            refine st_end ?_
            subst hQ
            refine wp_cond_false rfl ?_
            refine wp_skip ?_
            refine wp_seq ?_
            refine wq fun Q hQ => ?_
            refine sm (.int .i64 x) 22 rfl rfl rfl rfl ?_
            simp only [zp]
            refine sm (.int .i64 h) 23 rfl rfl rfl rfl ?_
            simp only [zp]
            refine sv (.bool true) 24 rfl rfl (ex_bin (u := (.int .i64 x)) (r := (.int .i64 h)) rfl rfl rfl (eg3 _ _ _ _ _ _) (gtr3 _ (decide_eq_true (by omega)))) ?_
            simp only [zp]
            refine sm (.bool true) 25 rfl rfl rfl rfl ?_
            simp only [zp]
            refine sm (.int .i64 x) 26 rfl rfl rfl rfl ?_
            simp only [zp]
            refine sm (.int .i64 h) 27 rfl rfl rfl rfl ?_
            simp only [zp]
            refine sv (.int .i64 (x - h)) 28 rfl rfl (ex_bin (u := (.int .i64 x)) (r := (.int .i64 h)) rfl rfl rfl (eg3 _ _ _ _ _ _) (sub3 _ rfl (by omega))) ?_
            simp only [zp]
            refine sv (.pointer (some ⟨b1, 4, none⟩)) 29 rfl rfl (ex_fa (p := (.pointer (some ⟨b1, 0, none⟩))) rfl rfl (fa25_3 _ _)) ?_
            simp only [zp]
            refine sv (.int .i64 q.f) 30 rfl rfl (ex_load (p := (.pointer (some ⟨b1, 4, none⟩))) rfl rfl (ld3 (at_cell k1 rfl))) ?_
            simp only [zp]
            refine sv (.bool false) 31 rfl rfl (ex_bin (u := (.int .i64 (x - h))) (r := (.int .i64 q.f)) rfl rfl rfl (eg3 _ _ _ _ _ _) (gtr3 _ (decide_eq_false (by omega)))) ?_
            simp only [zp]
            refine sv (.bool false) 32 rfl rfl (ex_pkT rfl rfl rfl) ?_
            simp only [zp]
            refine st_end ?_
            subst hQ
            refine wp_cond_false rfl ?_
            refine wp_skip ?_
            refine wp_seq ?_
            refine wq fun Q hQ => ?_
            refine sv (.agg (RL q)) 33 rfl rfl (ex_load (p := (.pointer (some ⟨b1, 0, none⟩))) rfl rfl (ld_all k1 Try.underlying25 rfl inf25)) ?_
            simp only [zp]
            refine sm (.int .i64 x) 34 rfl rfl rfl rfl ?_
            simp only [zp]
            refine sm (.int .i64 h) 35 rfl rfl rfl rfl ?_
            simp only [zp]
            refine st_call (some 36) rfl rfl (rsoon_any W3 h0 h1 MR.2.2.2.1 MR.2.2.2.2.1 (by omega) (decide_eq_true (by omega))) (ex_call (f := 36) (vs := [(.agg (RL q)), (.int .i64 x), (.int .i64 h)]) rfl (cf36 _) rfl) ?_
            rintro e W4 ⟨rfl, B⟩
            refine ⟨_, rfl, ?_⟩
            simp only [zp]
            replace E := below_next E B
            replace k1 := keep B k1
            replace k2 := keep B k2
            refine st_end ?_
            subst hQ
            refine wp_cond_true rfl ?_
            refine wq fun Q hQ => ?_
            refine sg (.int .i64 5) 10 rfl rfl rfl rfl ?_
            simp only [zp]
            refine st_end ?_
            subst hQ
            refine wp_ret ?_
            repeat (first | refine ret_out ?_ | refine ret_blk ?_)
            refine bodyPost_ret (results_tmp Try.results16 _ _ _) rfl ⟨?_, E⟩
            show Ending.returned (.int .i64 5) = _
            simp [finN, e0, e1, e2, e3, e4]
          · skip
            by_cases e5 : x < v.ex
            · skip
              have E : Below w.heap.size w w := Below.refl _ _
              go_enter Try.func16, Try.ntmps16
              refine wq fun Q hQ => ?_
              refine st_new (fun b => .pointer (some ⟨b, 0, none⟩)) (some 5) rfl rfl (ex_box rfl rfl) ?_
              intro b1 W1 k1 g1 B
              simp only [zp]
              have ge_b1 := Nat.le_trans E.size g1
              replace E := below_next E B
              clear B
              refine st_new (fun b => .pointer (some ⟨b, 0, none⟩)) (some 6) rfl rfl (ex_box rfl rfl) ?_
              intro b2 W2 k2 g2 B
              simp only [zp]
              have ne_b2_b1 : b2 ≠ b1 := fun e => by have := lt_of k1; omega
              have ge_b2 := Nat.le_trans E.size g2
              replace E := below_next E B
              replace k1 := keep B k1
              clear B
              refine sg (.int .i64 0) 10 rfl rfl rfl rfl ?_
              simp only [zp]
              refine st_end ?_
              subst hQ
              refine wp_seq ?_
              refine wq fun Q hQ => ?_
              refine sv (.agg (RL q)) 11 rfl rfl (ex_load (p := (.pointer (some ⟨b1, 0, none⟩))) rfl rfl (ld_all k1 Try.underlying25 rfl inf25)) ?_
              simp only [zp]
              refine sm (.int .i64 a) 12 rfl rfl rfl rfl ?_
              simp only [zp]
              refine sm (.int .i64 x) 13 rfl rfl rfl rfl ?_
              simp only [zp]
              refine sm (.int .i64 h) 14 rfl rfl rfl rfl ?_
              simp only [zp]
              refine st_call (some 15) rfl rfl (rright_any W2 e0) (ex_call (f := 35) (vs := [(.agg (RL q)), (.int .i64 a), (.int .i64 x), (.int .i64 h)]) rfl (cf35 _) rfl) ?_
              rintro e W3 ⟨rfl, B⟩
              refine ⟨_, rfl, ?_⟩
              simp only [zp]
              replace E := below_next E B
              replace k1 := keep B k1
              replace k2 := keep B k2
              refine sv (.bool false) 16 rfl rfl (ex_not rfl rfl rfl) ?_
              simp only [zp]
              refine sm (.bool false) 17 rfl rfl rfl rfl ?_
              simp only [zp]
              refine sv (.pointer (some ⟨b2, 0, none⟩)) 18 rfl rfl (ex_fa (p := (.pointer (some ⟨b2, 0, none⟩))) rfl rfl (fa28_0 _ _)) ?_
              simp only [zp]
              refine sv (.int .i64 v.ch) 19 rfl rfl (ex_load (p := (.pointer (some ⟨b2, 0, none⟩))) rfl rfl (ld3 (at_cell k2 hH.c0))) ?_
              simp only [zp]
              refine sv (.bool false) 20 rfl rfl (ex_bin (u := (.int .i64 v.ch)) (r := (.int .i64 0)) rfl rfl rfl (eg3 _ _ _ _ _ _) (neq3 _ (decide_eq_false (by omega)))) ?_
              simp only [zp]
              refine sv (.bool false) 21 rfl rfl (ex_pkF rfl rfl rfl) ?_
              simp only [zp]
              refine st_end ?_
              subst hQ
              refine wp_cond_false rfl ?_
              refine wp_skip ?_
              refine wp_seq ?_
              refine wq fun Q hQ => ?_
              refine sm (.int .i64 x) 22 rfl rfl rfl rfl ?_
              simp only [zp]
              refine sm (.int .i64 h) 23 rfl rfl rfl rfl ?_
              simp only [zp]
              refine sv (.bool true) 24 rfl rfl (ex_bin (u := (.int .i64 x)) (r := (.int .i64 h)) rfl rfl rfl (eg3 _ _ _ _ _ _) (gtr3 _ (decide_eq_true (by omega)))) ?_
              simp only [zp]
              refine sm (.bool true) 25 rfl rfl rfl rfl ?_
              simp only [zp]
              refine sm (.int .i64 x) 26 rfl rfl rfl rfl ?_
              simp only [zp]
              refine sm (.int .i64 h) 27 rfl rfl rfl rfl ?_
              simp only [zp]
              refine sv (.int .i64 (x - h)) 28 rfl rfl (ex_bin (u := (.int .i64 x)) (r := (.int .i64 h)) rfl rfl rfl (eg3 _ _ _ _ _ _) (sub3 _ rfl (by omega))) ?_
              simp only [zp]
              refine sv (.pointer (some ⟨b1, 4, none⟩)) 29 rfl rfl (ex_fa (p := (.pointer (some ⟨b1, 0, none⟩))) rfl rfl (fa25_3 _ _)) ?_
              simp only [zp]
              refine sv (.int .i64 q.f) 30 rfl rfl (ex_load (p := (.pointer (some ⟨b1, 4, none⟩))) rfl rfl (ld3 (at_cell k1 rfl))) ?_
              simp only [zp]
              refine sv (.bool false) 31 rfl rfl (ex_bin (u := (.int .i64 (x - h))) (r := (.int .i64 q.f)) rfl rfl rfl (eg3 _ _ _ _ _ _) (gtr3 _ (decide_eq_false (by omega)))) ?_
              simp only [zp]
              refine sv (.bool false) 32 rfl rfl (ex_pkT rfl rfl rfl) ?_
              simp only [zp]
              refine st_end ?_
              subst hQ
              refine wp_cond_false rfl ?_
              refine wp_skip ?_
              refine wp_seq ?_
              refine wq fun Q hQ => ?_
              refine sv (.agg (RL q)) 33 rfl rfl (ex_load (p := (.pointer (some ⟨b1, 0, none⟩))) rfl rfl (ld_all k1 Try.underlying25 rfl inf25)) ?_
              simp only [zp]
              refine sm (.int .i64 x) 34 rfl rfl rfl rfl ?_
              simp only [zp]
              refine sm (.int .i64 h) 35 rfl rfl rfl rfl ?_
              simp only [zp]
              refine st_call (some 36) rfl rfl (rsoon_any W3 h0 h1 MR.2.2.2.1 MR.2.2.2.2.1 (by omega) (decide_eq_false (by omega))) (ex_call (f := 36) (vs := [(.agg (RL q)), (.int .i64 x), (.int .i64 h)]) rfl (cf36 _) rfl) ?_
              rintro e W4 ⟨rfl, B⟩
              refine ⟨_, rfl, ?_⟩
              simp only [zp]
              replace E := below_next E B
              replace k1 := keep B k1
              replace k2 := keep B k2
              refine st_end ?_
              subst hQ
              refine wp_cond_false rfl ?_
              refine wp_skip ?_
              refine wp_seq ?_
              refine wq fun Q hQ => ?_
              refine sm (.int .i64 x) 37 rfl rfl rfl rfl ?_
              simp only [zp]
              refine sv (.pointer (some ⟨b2, 2, none⟩)) 38 rfl rfl (ex_fa (p := (.pointer (some ⟨b2, 0, none⟩))) rfl rfl (fa28_2 _ _)) ?_
              simp only [zp]
              refine sv (.int .i64 v.ex) 39 rfl rfl (ex_load (p := (.pointer (some ⟨b2, 2, none⟩))) rfl rfl (ld3 (at_cell k2 hH.c2))) ?_
              simp only [zp]
              refine sv (.bool true) 40 rfl rfl (ex_bin (u := (.int .i64 x)) (r := (.int .i64 v.ex)) rfl rfl rfl (eg3 _ _ _ _ _ _) (lss3 _ (decide_eq_true (by omega)))) ?_
              simp only [zp]
              refine st_end ?_
              subst hQ
              refine wp_cond_true rfl ?_
              refine wq fun Q hQ => ?_
              refine sg (.int .i64 4) 10 rfl rfl rfl rfl ?_
              simp only [zp]
              refine st_end ?_
              subst hQ
              refine wp_ret ?_
              repeat (first | refine ret_out ?_ | refine ret_blk ?_)
              refine bodyPost_ret (results_tmp Try.results16 _ _ _) rfl ⟨?_, E⟩
              show Ending.returned (.int .i64 4) = _
              simp [finN, e0, e1, e2, e3, e4, e5]
            · skip
              by_cases e6 : a < v.am
              · skip
                have E : Below w.heap.size w w := Below.refl _ _
                go_enter Try.func16, Try.ntmps16
                refine wq fun Q hQ => ?_
                refine st_new (fun b => .pointer (some ⟨b, 0, none⟩)) (some 5) rfl rfl (ex_box rfl rfl) ?_
                intro b1 W1 k1 g1 B
                simp only [zp]
                have ge_b1 := Nat.le_trans E.size g1
                replace E := below_next E B
                clear B
                refine st_new (fun b => .pointer (some ⟨b, 0, none⟩)) (some 6) rfl rfl (ex_box rfl rfl) ?_
                intro b2 W2 k2 g2 B
                simp only [zp]
                have ne_b2_b1 : b2 ≠ b1 := fun e => by have := lt_of k1; omega
                have ge_b2 := Nat.le_trans E.size g2
                replace E := below_next E B
                replace k1 := keep B k1
                clear B
                refine sg (.int .i64 0) 10 rfl rfl rfl rfl ?_
                simp only [zp]
                refine st_end ?_
                subst hQ
                refine wp_seq ?_
                refine wq fun Q hQ => ?_
                refine sv (.agg (RL q)) 11 rfl rfl (ex_load (p := (.pointer (some ⟨b1, 0, none⟩))) rfl rfl (ld_all k1 Try.underlying25 rfl inf25)) ?_
                simp only [zp]
                refine sm (.int .i64 a) 12 rfl rfl rfl rfl ?_
                simp only [zp]
                refine sm (.int .i64 x) 13 rfl rfl rfl rfl ?_
                simp only [zp]
                refine sm (.int .i64 h) 14 rfl rfl rfl rfl ?_
                simp only [zp]
                refine st_call (some 15) rfl rfl (rright_any W2 e0) (ex_call (f := 35) (vs := [(.agg (RL q)), (.int .i64 a), (.int .i64 x), (.int .i64 h)]) rfl (cf35 _) rfl) ?_
                rintro e W3 ⟨rfl, B⟩
                refine ⟨_, rfl, ?_⟩
                simp only [zp]
                replace E := below_next E B
                replace k1 := keep B k1
                replace k2 := keep B k2
                refine sv (.bool false) 16 rfl rfl (ex_not rfl rfl rfl) ?_
                simp only [zp]
                refine sm (.bool false) 17 rfl rfl rfl rfl ?_
                simp only [zp]
                refine sv (.pointer (some ⟨b2, 0, none⟩)) 18 rfl rfl (ex_fa (p := (.pointer (some ⟨b2, 0, none⟩))) rfl rfl (fa28_0 _ _)) ?_
                simp only [zp]
                refine sv (.int .i64 v.ch) 19 rfl rfl (ex_load (p := (.pointer (some ⟨b2, 0, none⟩))) rfl rfl (ld3 (at_cell k2 hH.c0))) ?_
                simp only [zp]
                refine sv (.bool false) 20 rfl rfl (ex_bin (u := (.int .i64 v.ch)) (r := (.int .i64 0)) rfl rfl rfl (eg3 _ _ _ _ _ _) (neq3 _ (decide_eq_false (by omega)))) ?_
                simp only [zp]
                refine sv (.bool false) 21 rfl rfl (ex_pkF rfl rfl rfl) ?_
                simp only [zp]
                refine st_end ?_
                subst hQ
                refine wp_cond_false rfl ?_
                refine wp_skip ?_
                refine wp_seq ?_
                refine wq fun Q hQ => ?_
                refine sm (.int .i64 x) 22 rfl rfl rfl rfl ?_
                simp only [zp]
                refine sm (.int .i64 h) 23 rfl rfl rfl rfl ?_
                simp only [zp]
                refine sv (.bool true) 24 rfl rfl (ex_bin (u := (.int .i64 x)) (r := (.int .i64 h)) rfl rfl rfl (eg3 _ _ _ _ _ _) (gtr3 _ (decide_eq_true (by omega)))) ?_
                simp only [zp]
                refine sm (.bool true) 25 rfl rfl rfl rfl ?_
                simp only [zp]
                refine sm (.int .i64 x) 26 rfl rfl rfl rfl ?_
                simp only [zp]
                refine sm (.int .i64 h) 27 rfl rfl rfl rfl ?_
                simp only [zp]
                refine sv (.int .i64 (x - h)) 28 rfl rfl (ex_bin (u := (.int .i64 x)) (r := (.int .i64 h)) rfl rfl rfl (eg3 _ _ _ _ _ _) (sub3 _ rfl (by omega))) ?_
                simp only [zp]
                refine sv (.pointer (some ⟨b1, 4, none⟩)) 29 rfl rfl (ex_fa (p := (.pointer (some ⟨b1, 0, none⟩))) rfl rfl (fa25_3 _ _)) ?_
                simp only [zp]
                refine sv (.int .i64 q.f) 30 rfl rfl (ex_load (p := (.pointer (some ⟨b1, 4, none⟩))) rfl rfl (ld3 (at_cell k1 rfl))) ?_
                simp only [zp]
                refine sv (.bool false) 31 rfl rfl (ex_bin (u := (.int .i64 (x - h))) (r := (.int .i64 q.f)) rfl rfl rfl (eg3 _ _ _ _ _ _) (gtr3 _ (decide_eq_false (by omega)))) ?_
                simp only [zp]
                refine sv (.bool false) 32 rfl rfl (ex_pkT rfl rfl rfl) ?_
                simp only [zp]
                refine st_end ?_
                subst hQ
                refine wp_cond_false rfl ?_
                refine wp_skip ?_
                refine wp_seq ?_
                refine wq fun Q hQ => ?_
                refine sv (.agg (RL q)) 33 rfl rfl (ex_load (p := (.pointer (some ⟨b1, 0, none⟩))) rfl rfl (ld_all k1 Try.underlying25 rfl inf25)) ?_
                simp only [zp]
                refine sm (.int .i64 x) 34 rfl rfl rfl rfl ?_
                simp only [zp]
                refine sm (.int .i64 h) 35 rfl rfl rfl rfl ?_
                simp only [zp]
                refine st_call (some 36) rfl rfl (rsoon_any W3 h0 h1 MR.2.2.2.1 MR.2.2.2.2.1 (by omega) (decide_eq_false (by omega))) (ex_call (f := 36) (vs := [(.agg (RL q)), (.int .i64 x), (.int .i64 h)]) rfl (cf36 _) rfl) ?_
                rintro e W4 ⟨rfl, B⟩
                refine ⟨_, rfl, ?_⟩
                simp only [zp]
                replace E := below_next E B
                replace k1 := keep B k1
                replace k2 := keep B k2
                refine st_end ?_
                subst hQ
                refine wp_cond_false rfl ?_
                refine wp_skip ?_
                refine wp_seq ?_
                refine wq fun Q hQ => ?_
                refine sm (.int .i64 x) 37 rfl rfl rfl rfl ?_
                simp only [zp]
                refine sv (.pointer (some ⟨b2, 2, none⟩)) 38 rfl rfl (ex_fa (p := (.pointer (some ⟨b2, 0, none⟩))) rfl rfl (fa28_2 _ _)) ?_
                simp only [zp]
                refine sv (.int .i64 v.ex) 39 rfl rfl (ex_load (p := (.pointer (some ⟨b2, 2, none⟩))) rfl rfl (ld3 (at_cell k2 hH.c2))) ?_
                simp only [zp]
                refine sv (.bool false) 40 rfl rfl (ex_bin (u := (.int .i64 x)) (r := (.int .i64 v.ex)) rfl rfl rfl (eg3 _ _ _ _ _ _) (lss3 _ (decide_eq_false (by omega)))) ?_
                simp only [zp]
                refine st_end ?_
                subst hQ
                refine wp_cond_false rfl ?_
                refine wp_skip ?_
                refine wp_seq ?_
                refine wq fun Q hQ => ?_
                refine sm (.int .i64 a) 41 rfl rfl rfl rfl ?_
                simp only [zp]
                refine sv (.pointer (some ⟨b2, 1, none⟩)) 42 rfl rfl (ex_fa (p := (.pointer (some ⟨b2, 0, none⟩))) rfl rfl (fa28_1 _ _)) ?_
                simp only [zp]
                refine sv (.int .i64 v.am) 43 rfl rfl (ex_load (p := (.pointer (some ⟨b2, 1, none⟩))) rfl rfl (ld3 (at_cell k2 hH.c1))) ?_
                simp only [zp]
                refine sv (.bool true) 44 rfl rfl (ex_bin (u := (.int .i64 a)) (r := (.int .i64 v.am)) rfl rfl rfl (eg3 _ _ _ _ _ _) (lss3 _ (decide_eq_true (by omega)))) ?_
                simp only [zp]
                refine sm (.bool true) 45 rfl rfl rfl rfl ?_
                simp only [zp]
                refine sn 46 rfl rfl ?_
                simp only [zp]
                refine sn 47 rfl rfl ?_
                simp only [zp]
                refine sn 48 rfl rfl ?_
                simp only [zp]
                refine sv (.bool true) 49 rfl rfl (ex_pkT rfl rfl rfl) ?_
                simp only [zp]
                refine sm (.bool true) 50 rfl rfl rfl rfl ?_
                simp only [zp]
                refine sn 51 rfl rfl ?_
                simp only [zp]
                refine sn 52 rfl rfl ?_
                simp only [zp]
                refine sn 53 rfl rfl ?_
                simp only [zp]
                refine sn 54 rfl rfl ?_
                simp only [zp]
                refine sn 55 rfl rfl ?_
                simp only [zp]
                refine sv (.bool true) 56 rfl rfl (ex_pkT rfl rfl rfl) ?_
                simp only [zp]
                refine st_end ?_
                subst hQ
                refine wp_cond_true rfl ?_
                refine wq fun Q hQ => ?_
                refine sg (.int .i64 8) 10 rfl rfl rfl rfl ?_
                simp only [zp]
                refine st_end ?_
                subst hQ
                refine wp_ret ?_
                repeat (first | refine ret_out ?_ | refine ret_blk ?_)
                refine bodyPost_ret (results_tmp Try.results16 _ _ _) rfl ⟨?_, E⟩
                show Ending.returned (.int .i64 8) = _
                simp [finN, e0, e1, e2, e3, e4, e5, e6]
              · skip
                by_cases e7 : v.am < 1
                · skip
                  have E : Below w.heap.size w w := Below.refl _ _
                  go_enter Try.func16, Try.ntmps16
                  refine wq fun Q hQ => ?_
                  refine st_new (fun b => .pointer (some ⟨b, 0, none⟩)) (some 5) rfl rfl (ex_box rfl rfl) ?_
                  intro b1 W1 k1 g1 B
                  simp only [zp]
                  have ge_b1 := Nat.le_trans E.size g1
                  replace E := below_next E B
                  clear B
                  refine st_new (fun b => .pointer (some ⟨b, 0, none⟩)) (some 6) rfl rfl (ex_box rfl rfl) ?_
                  intro b2 W2 k2 g2 B
                  simp only [zp]
                  have ne_b2_b1 : b2 ≠ b1 := fun e => by have := lt_of k1; omega
                  have ge_b2 := Nat.le_trans E.size g2
                  replace E := below_next E B
                  replace k1 := keep B k1
                  clear B
                  refine sg (.int .i64 0) 10 rfl rfl rfl rfl ?_
                  simp only [zp]
                  refine st_end ?_
                  subst hQ
                  refine wp_seq ?_
                  refine wq fun Q hQ => ?_
                  refine sv (.agg (RL q)) 11 rfl rfl (ex_load (p := (.pointer (some ⟨b1, 0, none⟩))) rfl rfl (ld_all k1 Try.underlying25 rfl inf25)) ?_
                  simp only [zp]
                  refine sm (.int .i64 a) 12 rfl rfl rfl rfl ?_
                  simp only [zp]
                  refine sm (.int .i64 x) 13 rfl rfl rfl rfl ?_
                  simp only [zp]
                  refine sm (.int .i64 h) 14 rfl rfl rfl rfl ?_
                  simp only [zp]
                  refine st_call (some 15) rfl rfl (rright_any W2 e0) (ex_call (f := 35) (vs := [(.agg (RL q)), (.int .i64 a), (.int .i64 x), (.int .i64 h)]) rfl (cf35 _) rfl) ?_
                  rintro e W3 ⟨rfl, B⟩
                  refine ⟨_, rfl, ?_⟩
                  simp only [zp]
                  replace E := below_next E B
                  replace k1 := keep B k1
                  replace k2 := keep B k2
                  refine sv (.bool false) 16 rfl rfl (ex_not rfl rfl rfl) ?_
                  simp only [zp]
                  refine sm (.bool false) 17 rfl rfl rfl rfl ?_
                  simp only [zp]
                  refine sv (.pointer (some ⟨b2, 0, none⟩)) 18 rfl rfl (ex_fa (p := (.pointer (some ⟨b2, 0, none⟩))) rfl rfl (fa28_0 _ _)) ?_
                  simp only [zp]
                  refine sv (.int .i64 v.ch) 19 rfl rfl (ex_load (p := (.pointer (some ⟨b2, 0, none⟩))) rfl rfl (ld3 (at_cell k2 hH.c0))) ?_
                  simp only [zp]
                  refine sv (.bool false) 20 rfl rfl (ex_bin (u := (.int .i64 v.ch)) (r := (.int .i64 0)) rfl rfl rfl (eg3 _ _ _ _ _ _) (neq3 _ (decide_eq_false (by omega)))) ?_
                  simp only [zp]
                  refine sv (.bool false) 21 rfl rfl (ex_pkF rfl rfl rfl) ?_
                  simp only [zp]
                  refine st_end ?_
                  subst hQ
                  refine wp_cond_false rfl ?_
                  refine wp_skip ?_
                  refine wp_seq ?_
                  refine wq fun Q hQ => ?_
                  refine sm (.int .i64 x) 22 rfl rfl rfl rfl ?_
                  simp only [zp]
                  refine sm (.int .i64 h) 23 rfl rfl rfl rfl ?_
                  simp only [zp]
                  refine sv (.bool true) 24 rfl rfl (ex_bin (u := (.int .i64 x)) (r := (.int .i64 h)) rfl rfl rfl (eg3 _ _ _ _ _ _) (gtr3 _ (decide_eq_true (by omega)))) ?_
                  simp only [zp]
                  refine sm (.bool true) 25 rfl rfl rfl rfl ?_
                  simp only [zp]
                  refine sm (.int .i64 x) 26 rfl rfl rfl rfl ?_
                  simp only [zp]
                  refine sm (.int .i64 h) 27 rfl rfl rfl rfl ?_
                  simp only [zp]
                  refine sv (.int .i64 (x - h)) 28 rfl rfl (ex_bin (u := (.int .i64 x)) (r := (.int .i64 h)) rfl rfl rfl (eg3 _ _ _ _ _ _) (sub3 _ rfl (by omega))) ?_
                  simp only [zp]
                  refine sv (.pointer (some ⟨b1, 4, none⟩)) 29 rfl rfl (ex_fa (p := (.pointer (some ⟨b1, 0, none⟩))) rfl rfl (fa25_3 _ _)) ?_
                  simp only [zp]
                  refine sv (.int .i64 q.f) 30 rfl rfl (ex_load (p := (.pointer (some ⟨b1, 4, none⟩))) rfl rfl (ld3 (at_cell k1 rfl))) ?_
                  simp only [zp]
                  refine sv (.bool false) 31 rfl rfl (ex_bin (u := (.int .i64 (x - h))) (r := (.int .i64 q.f)) rfl rfl rfl (eg3 _ _ _ _ _ _) (gtr3 _ (decide_eq_false (by omega)))) ?_
                  simp only [zp]
                  refine sv (.bool false) 32 rfl rfl (ex_pkT rfl rfl rfl) ?_
                  simp only [zp]
                  refine st_end ?_
                  subst hQ
                  refine wp_cond_false rfl ?_
                  refine wp_skip ?_
                  refine wp_seq ?_
                  refine wq fun Q hQ => ?_
                  refine sv (.agg (RL q)) 33 rfl rfl (ex_load (p := (.pointer (some ⟨b1, 0, none⟩))) rfl rfl (ld_all k1 Try.underlying25 rfl inf25)) ?_
                  simp only [zp]
                  refine sm (.int .i64 x) 34 rfl rfl rfl rfl ?_
                  simp only [zp]
                  refine sm (.int .i64 h) 35 rfl rfl rfl rfl ?_
                  simp only [zp]
                  refine st_call (some 36) rfl rfl (rsoon_any W3 h0 h1 MR.2.2.2.1 MR.2.2.2.2.1 (by omega) (decide_eq_false (by omega))) (ex_call (f := 36) (vs := [(.agg (RL q)), (.int .i64 x), (.int .i64 h)]) rfl (cf36 _) rfl) ?_
                  rintro e W4 ⟨rfl, B⟩
                  refine ⟨_, rfl, ?_⟩
                  simp only [zp]
                  replace E := below_next E B
                  replace k1 := keep B k1
                  replace k2 := keep B k2
                  refine st_end ?_
                  subst hQ
                  refine wp_cond_false rfl ?_
                  refine wp_skip ?_
                  refine wp_seq ?_
                  refine wq fun Q hQ => ?_
                  refine sm (.int .i64 x) 37 rfl rfl rfl rfl ?_
                  simp only [zp]
                  refine sv (.pointer (some ⟨b2, 2, none⟩)) 38 rfl rfl (ex_fa (p := (.pointer (some ⟨b2, 0, none⟩))) rfl rfl (fa28_2 _ _)) ?_
                  simp only [zp]
                  refine sv (.int .i64 v.ex) 39 rfl rfl (ex_load (p := (.pointer (some ⟨b2, 2, none⟩))) rfl rfl (ld3 (at_cell k2 hH.c2))) ?_
                  simp only [zp]
                  refine sv (.bool false) 40 rfl rfl (ex_bin (u := (.int .i64 x)) (r := (.int .i64 v.ex)) rfl rfl rfl (eg3 _ _ _ _ _ _) (lss3 _ (decide_eq_false (by omega)))) ?_
                  simp only [zp]
                  refine st_end ?_
                  subst hQ
                  refine wp_cond_false rfl ?_
                  refine wp_skip ?_
                  refine wp_seq ?_
                  refine wq fun Q hQ => ?_
                  refine sm (.int .i64 a) 41 rfl rfl rfl rfl ?_
                  simp only [zp]
                  refine sv (.pointer (some ⟨b2, 1, none⟩)) 42 rfl rfl (ex_fa (p := (.pointer (some ⟨b2, 0, none⟩))) rfl rfl (fa28_1 _ _)) ?_
                  simp only [zp]
                  refine sv (.int .i64 v.am) 43 rfl rfl (ex_load (p := (.pointer (some ⟨b2, 1, none⟩))) rfl rfl (ld3 (at_cell k2 hH.c1))) ?_
                  simp only [zp]
                  refine sv (.bool false) 44 rfl rfl (ex_bin (u := (.int .i64 a)) (r := (.int .i64 v.am)) rfl rfl rfl (eg3 _ _ _ _ _ _) (lss3 _ (decide_eq_false (by omega)))) ?_
                  simp only [zp]
                  refine sm (.bool false) 45 rfl rfl rfl rfl ?_
                  simp only [zp]
                  refine sv (.pointer (some ⟨b2, 1, none⟩)) 46 rfl rfl (ex_fa (p := (.pointer (some ⟨b2, 0, none⟩))) rfl rfl (fa28_1 _ _)) ?_
                  simp only [zp]
                  refine sv (.int .i64 v.am) 47 rfl rfl (ex_load (p := (.pointer (some ⟨b2, 1, none⟩))) rfl rfl (ld3 (at_cell k2 hH.c1))) ?_
                  simp only [zp]
                  refine sv (.bool true) 48 rfl rfl (ex_bin (u := (.int .i64 v.am)) (r := (.int .i64 1)) rfl rfl rfl (eg3 _ _ _ _ _ _) (lss3 _ (decide_eq_true (by omega)))) ?_
                  simp only [zp]
                  refine sv (.bool true) 49 rfl rfl (ex_pkF rfl rfl rfl) ?_
                  simp only [zp]
                  refine sm (.bool true) 50 rfl rfl rfl rfl ?_
                  simp only [zp]
                  refine sn 51 rfl rfl ?_
                  simp only [zp]
                  refine sn 52 rfl rfl ?_
                  simp only [zp]
                  refine sn 53 rfl rfl ?_
                  simp only [zp]
                  refine sn 54 rfl rfl ?_
                  simp only [zp]
                  refine sn 55 rfl rfl ?_
                  simp only [zp]
                  refine sv (.bool true) 56 rfl rfl (ex_pkT rfl rfl rfl) ?_
                  simp only [zp]
                  refine st_end ?_
                  subst hQ
                  refine wp_cond_true rfl ?_
                  refine wq fun Q hQ => ?_
                  refine sg (.int .i64 8) 10 rfl rfl rfl rfl ?_
                  simp only [zp]
                  refine st_end ?_
                  subst hQ
                  refine wp_ret ?_
                  repeat (first | refine ret_out ?_ | refine ret_blk ?_)
                  refine bodyPost_ret (results_tmp Try.results16 _ _ _) rfl ⟨?_, E⟩
                  show Ending.returned (.int .i64 8) = _
                  simp [finN, e0, e1, e2, e3, e4, e5, e6, e7]
                · skip
                  by_cases e8 : v.tot < v.am
                  · skip
                    have E : Below w.heap.size w w := Below.refl _ _
                    go_enter Try.func16, Try.ntmps16
                    refine wq fun Q hQ => ?_
                    refine st_new (fun b => .pointer (some ⟨b, 0, none⟩)) (some 5) rfl rfl (ex_box rfl rfl) ?_
                    intro b1 W1 k1 g1 B
                    simp only [zp]
                    have ge_b1 := Nat.le_trans E.size g1
                    replace E := below_next E B
                    clear B
                    refine st_new (fun b => .pointer (some ⟨b, 0, none⟩)) (some 6) rfl rfl (ex_box rfl rfl) ?_
                    intro b2 W2 k2 g2 B
                    simp only [zp]
                    have ne_b2_b1 : b2 ≠ b1 := fun e => by have := lt_of k1; omega
                    have ge_b2 := Nat.le_trans E.size g2
                    replace E := below_next E B
                    replace k1 := keep B k1
                    clear B
                    refine sg (.int .i64 0) 10 rfl rfl rfl rfl ?_
                    simp only [zp]
                    refine st_end ?_
                    subst hQ
                    refine wp_seq ?_
                    refine wq fun Q hQ => ?_
                    refine sv (.agg (RL q)) 11 rfl rfl (ex_load (p := (.pointer (some ⟨b1, 0, none⟩))) rfl rfl (ld_all k1 Try.underlying25 rfl inf25)) ?_
                    simp only [zp]
                    refine sm (.int .i64 a) 12 rfl rfl rfl rfl ?_
                    simp only [zp]
                    refine sm (.int .i64 x) 13 rfl rfl rfl rfl ?_
                    simp only [zp]
                    refine sm (.int .i64 h) 14 rfl rfl rfl rfl ?_
                    simp only [zp]
                    refine st_call (some 15) rfl rfl (rright_any W2 e0) (ex_call (f := 35) (vs := [(.agg (RL q)), (.int .i64 a), (.int .i64 x), (.int .i64 h)]) rfl (cf35 _) rfl) ?_
                    rintro e W3 ⟨rfl, B⟩
                    refine ⟨_, rfl, ?_⟩
                    simp only [zp]
                    replace E := below_next E B
                    replace k1 := keep B k1
                    replace k2 := keep B k2
                    refine sv (.bool false) 16 rfl rfl (ex_not rfl rfl rfl) ?_
                    simp only [zp]
                    refine sm (.bool false) 17 rfl rfl rfl rfl ?_
                    simp only [zp]
                    refine sv (.pointer (some ⟨b2, 0, none⟩)) 18 rfl rfl (ex_fa (p := (.pointer (some ⟨b2, 0, none⟩))) rfl rfl (fa28_0 _ _)) ?_
                    simp only [zp]
                    refine sv (.int .i64 v.ch) 19 rfl rfl (ex_load (p := (.pointer (some ⟨b2, 0, none⟩))) rfl rfl (ld3 (at_cell k2 hH.c0))) ?_
                    simp only [zp]
                    refine sv (.bool false) 20 rfl rfl (ex_bin (u := (.int .i64 v.ch)) (r := (.int .i64 0)) rfl rfl rfl (eg3 _ _ _ _ _ _) (neq3 _ (decide_eq_false (by omega)))) ?_
                    simp only [zp]
                    refine sv (.bool false) 21 rfl rfl (ex_pkF rfl rfl rfl) ?_
                    simp only [zp]
                    refine st_end ?_
                    subst hQ
                    refine wp_cond_false rfl ?_
                    refine wp_skip ?_
                    refine wp_seq ?_
                    refine wq fun Q hQ => ?_
                    refine sm (.int .i64 x) 22 rfl rfl rfl rfl ?_
                    simp only [zp]
                    refine sm (.int .i64 h) 23 rfl rfl rfl rfl ?_
                    simp only [zp]
                    refine sv (.bool true) 24 rfl rfl (ex_bin (u := (.int .i64 x)) (r := (.int .i64 h)) rfl rfl rfl (eg3 _ _ _ _ _ _) (gtr3 _ (decide_eq_true (by omega)))) ?_
                    simp only [zp]
                    refine sm (.bool true) 25 rfl rfl rfl rfl ?_
                    simp only [zp]
                    refine sm (.int .i64 x) 26 rfl rfl rfl rfl ?_
                    simp only [zp]
                    refine sm (.int .i64 h) 27 rfl rfl rfl rfl ?_
                    simp only [zp]
                    refine sv (.int .i64 (x - h)) 28 rfl rfl (ex_bin (u := (.int .i64 x)) (r := (.int .i64 h)) rfl rfl rfl (eg3 _ _ _ _ _ _) (sub3 _ rfl (by omega))) ?_
                    simp only [zp]
                    refine sv (.pointer (some ⟨b1, 4, none⟩)) 29 rfl rfl (ex_fa (p := (.pointer (some ⟨b1, 0, none⟩))) rfl rfl (fa25_3 _ _)) ?_
                    simp only [zp]
                    refine sv (.int .i64 q.f) 30 rfl rfl (ex_load (p := (.pointer (some ⟨b1, 4, none⟩))) rfl rfl (ld3 (at_cell k1 rfl))) ?_
                    simp only [zp]
                    refine sv (.bool false) 31 rfl rfl (ex_bin (u := (.int .i64 (x - h))) (r := (.int .i64 q.f)) rfl rfl rfl (eg3 _ _ _ _ _ _) (gtr3 _ (decide_eq_false (by omega)))) ?_
                    simp only [zp]
                    refine sv (.bool false) 32 rfl rfl (ex_pkT rfl rfl rfl) ?_
                    simp only [zp]
                    refine st_end ?_
                    subst hQ
                    refine wp_cond_false rfl ?_
                    refine wp_skip ?_
                    refine wp_seq ?_
                    refine wq fun Q hQ => ?_
                    refine sv (.agg (RL q)) 33 rfl rfl (ex_load (p := (.pointer (some ⟨b1, 0, none⟩))) rfl rfl (ld_all k1 Try.underlying25 rfl inf25)) ?_
                    simp only [zp]
                    refine sm (.int .i64 x) 34 rfl rfl rfl rfl ?_
                    simp only [zp]
                    refine sm (.int .i64 h) 35 rfl rfl rfl rfl ?_
                    simp only [zp]
                    refine st_call (some 36) rfl rfl (rsoon_any W3 h0 h1 MR.2.2.2.1 MR.2.2.2.2.1 (by omega) (decide_eq_false (by omega))) (ex_call (f := 36) (vs := [(.agg (RL q)), (.int .i64 x), (.int .i64 h)]) rfl (cf36 _) rfl) ?_
                    rintro e W4 ⟨rfl, B⟩
                    refine ⟨_, rfl, ?_⟩
                    simp only [zp]
                    replace E := below_next E B
                    replace k1 := keep B k1
                    replace k2 := keep B k2
                    refine st_end ?_
                    subst hQ
                    refine wp_cond_false rfl ?_
                    refine wp_skip ?_
                    refine wp_seq ?_
                    refine wq fun Q hQ => ?_
                    refine sm (.int .i64 x) 37 rfl rfl rfl rfl ?_
                    simp only [zp]
                    refine sv (.pointer (some ⟨b2, 2, none⟩)) 38 rfl rfl (ex_fa (p := (.pointer (some ⟨b2, 0, none⟩))) rfl rfl (fa28_2 _ _)) ?_
                    simp only [zp]
                    refine sv (.int .i64 v.ex) 39 rfl rfl (ex_load (p := (.pointer (some ⟨b2, 2, none⟩))) rfl rfl (ld3 (at_cell k2 hH.c2))) ?_
                    simp only [zp]
                    refine sv (.bool false) 40 rfl rfl (ex_bin (u := (.int .i64 x)) (r := (.int .i64 v.ex)) rfl rfl rfl (eg3 _ _ _ _ _ _) (lss3 _ (decide_eq_false (by omega)))) ?_
                    simp only [zp]
                    refine st_end ?_
                    subst hQ
                    refine wp_cond_false rfl ?_
                    refine wp_skip ?_
                    refine wp_seq ?_
                    refine wq fun Q hQ => ?_
                    refine sm (.int .i64 a) 41 rfl rfl rfl rfl ?_
                    simp only [zp]
                    refine sv (.pointer (some ⟨b2, 1, none⟩)) 42 rfl rfl (ex_fa (p := (.pointer (some ⟨b2, 0, none⟩))) rfl rfl (fa28_1 _ _)) ?_
                    simp only [zp]
                    refine sv (.int .i64 v.am) 43 rfl rfl (ex_load (p := (.pointer (some ⟨b2, 1, none⟩))) rfl rfl (ld3 (at_cell k2 hH.c1))) ?_
                    simp only [zp]
                    refine sv (.bool false) 44 rfl rfl (ex_bin (u := (.int .i64 a)) (r := (.int .i64 v.am)) rfl rfl rfl (eg3 _ _ _ _ _ _) (lss3 _ (decide_eq_false (by omega)))) ?_
                    simp only [zp]
                    refine sm (.bool false) 45 rfl rfl rfl rfl ?_
                    simp only [zp]
                    refine sv (.pointer (some ⟨b2, 1, none⟩)) 46 rfl rfl (ex_fa (p := (.pointer (some ⟨b2, 0, none⟩))) rfl rfl (fa28_1 _ _)) ?_
                    simp only [zp]
                    refine sv (.int .i64 v.am) 47 rfl rfl (ex_load (p := (.pointer (some ⟨b2, 1, none⟩))) rfl rfl (ld3 (at_cell k2 hH.c1))) ?_
                    simp only [zp]
                    refine sv (.bool false) 48 rfl rfl (ex_bin (u := (.int .i64 v.am)) (r := (.int .i64 1)) rfl rfl rfl (eg3 _ _ _ _ _ _) (lss3 _ (decide_eq_false (by omega)))) ?_
                    simp only [zp]
                    refine sv (.bool false) 49 rfl rfl (ex_pkF rfl rfl rfl) ?_
                    simp only [zp]
                    refine sm (.bool false) 50 rfl rfl rfl rfl ?_
                    simp only [zp]
                    refine sv (.pointer (some ⟨b2, 35, none⟩)) 51 rfl rfl (ex_fa (p := (.pointer (some ⟨b2, 0, none⟩))) rfl rfl (fa28_4 _ _)) ?_
                    simp only [zp]
                    refine sv (.int .i64 v.tot) 52 rfl rfl (ex_load (p := (.pointer (some ⟨b2, 35, none⟩))) rfl rfl (ld3 (at_cell k2 hH.c35))) ?_
                    simp only [zp]
                    refine sv (.pointer (some ⟨b2, 1, none⟩)) 53 rfl rfl (ex_fa (p := (.pointer (some ⟨b2, 0, none⟩))) rfl rfl (fa28_1 _ _)) ?_
                    simp only [zp]
                    refine sv (.int .i64 v.am) 54 rfl rfl (ex_load (p := (.pointer (some ⟨b2, 1, none⟩))) rfl rfl (ld3 (at_cell k2 hH.c1))) ?_
                    simp only [zp]
                    refine sv (.bool true) 55 rfl rfl (ex_bin (u := (.int .i64 v.tot)) (r := (.int .i64 v.am)) rfl rfl rfl (eg3 _ _ _ _ _ _) (lss3 _ (decide_eq_true (by omega)))) ?_
                    simp only [zp]
                    refine sv (.bool true) 56 rfl rfl (ex_pkF rfl rfl rfl) ?_
                    simp only [zp]
                    refine st_end ?_
                    subst hQ
                    refine wp_cond_true rfl ?_
                    refine wq fun Q hQ => ?_
                    refine sg (.int .i64 8) 10 rfl rfl rfl rfl ?_
                    simp only [zp]
                    refine st_end ?_
                    subst hQ
                    refine wp_ret ?_
                    repeat (first | refine ret_out ?_ | refine ret_blk ?_)
                    refine bodyPost_ret (results_tmp Try.results16 _ _ _) rfl ⟨?_, E⟩
                    show Ending.returned (.int .i64 8) = _
                    simp [finN, e0, e1, e2, e3, e4, e5, e6, e7, e8]
                  · skip
                    have E : Below w.heap.size w w := Below.refl _ _
                    go_enter Try.func16, Try.ntmps16
                    refine wq fun Q hQ => ?_
                    refine st_new (fun b => .pointer (some ⟨b, 0, none⟩)) (some 5) rfl rfl (ex_box rfl rfl) ?_
                    intro b1 W1 k1 g1 B
                    simp only [zp]
                    have ge_b1 := Nat.le_trans E.size g1
                    replace E := below_next E B
                    clear B
                    refine st_new (fun b => .pointer (some ⟨b, 0, none⟩)) (some 6) rfl rfl (ex_box rfl rfl) ?_
                    intro b2 W2 k2 g2 B
                    simp only [zp]
                    have ne_b2_b1 : b2 ≠ b1 := fun e => by have := lt_of k1; omega
                    have ge_b2 := Nat.le_trans E.size g2
                    replace E := below_next E B
                    replace k1 := keep B k1
                    clear B
                    refine sg (.int .i64 0) 10 rfl rfl rfl rfl ?_
                    simp only [zp]
                    refine st_end ?_
                    subst hQ
                    refine wp_seq ?_
                    refine wq fun Q hQ => ?_
                    refine sv (.agg (RL q)) 11 rfl rfl (ex_load (p := (.pointer (some ⟨b1, 0, none⟩))) rfl rfl (ld_all k1 Try.underlying25 rfl inf25)) ?_
                    simp only [zp]
                    refine sm (.int .i64 a) 12 rfl rfl rfl rfl ?_
                    simp only [zp]
                    refine sm (.int .i64 x) 13 rfl rfl rfl rfl ?_
                    simp only [zp]
                    refine sm (.int .i64 h) 14 rfl rfl rfl rfl ?_
                    simp only [zp]
                    refine st_call (some 15) rfl rfl (rright_any W2 e0) (ex_call (f := 35) (vs := [(.agg (RL q)), (.int .i64 a), (.int .i64 x), (.int .i64 h)]) rfl (cf35 _) rfl) ?_
                    rintro e W3 ⟨rfl, B⟩
                    refine ⟨_, rfl, ?_⟩
                    simp only [zp]
                    replace E := below_next E B
                    replace k1 := keep B k1
                    replace k2 := keep B k2
                    refine sv (.bool false) 16 rfl rfl (ex_not rfl rfl rfl) ?_
                    simp only [zp]
                    refine sm (.bool false) 17 rfl rfl rfl rfl ?_
                    simp only [zp]
                    refine sv (.pointer (some ⟨b2, 0, none⟩)) 18 rfl rfl (ex_fa (p := (.pointer (some ⟨b2, 0, none⟩))) rfl rfl (fa28_0 _ _)) ?_
                    simp only [zp]
                    refine sv (.int .i64 v.ch) 19 rfl rfl (ex_load (p := (.pointer (some ⟨b2, 0, none⟩))) rfl rfl (ld3 (at_cell k2 hH.c0))) ?_
                    simp only [zp]
                    refine sv (.bool false) 20 rfl rfl (ex_bin (u := (.int .i64 v.ch)) (r := (.int .i64 0)) rfl rfl rfl (eg3 _ _ _ _ _ _) (neq3 _ (decide_eq_false (by omega)))) ?_
                    simp only [zp]
                    refine sv (.bool false) 21 rfl rfl (ex_pkF rfl rfl rfl) ?_
                    simp only [zp]
                    refine st_end ?_
                    subst hQ
                    refine wp_cond_false rfl ?_
                    refine wp_skip ?_
                    refine wp_seq ?_
                    refine wq fun Q hQ => ?_
                    refine sm (.int .i64 x) 22 rfl rfl rfl rfl ?_
                    simp only [zp]
                    refine sm (.int .i64 h) 23 rfl rfl rfl rfl ?_
                    simp only [zp]
                    refine sv (.bool true) 24 rfl rfl (ex_bin (u := (.int .i64 x)) (r := (.int .i64 h)) rfl rfl rfl (eg3 _ _ _ _ _ _) (gtr3 _ (decide_eq_true (by omega)))) ?_
                    simp only [zp]
                    refine sm (.bool true) 25 rfl rfl rfl rfl ?_
                    simp only [zp]
                    refine sm (.int .i64 x) 26 rfl rfl rfl rfl ?_
                    simp only [zp]
                    refine sm (.int .i64 h) 27 rfl rfl rfl rfl ?_
                    simp only [zp]
                    refine sv (.int .i64 (x - h)) 28 rfl rfl (ex_bin (u := (.int .i64 x)) (r := (.int .i64 h)) rfl rfl rfl (eg3 _ _ _ _ _ _) (sub3 _ rfl (by omega))) ?_
                    simp only [zp]
                    refine sv (.pointer (some ⟨b1, 4, none⟩)) 29 rfl rfl (ex_fa (p := (.pointer (some ⟨b1, 0, none⟩))) rfl rfl (fa25_3 _ _)) ?_
                    simp only [zp]
                    refine sv (.int .i64 q.f) 30 rfl rfl (ex_load (p := (.pointer (some ⟨b1, 4, none⟩))) rfl rfl (ld3 (at_cell k1 rfl))) ?_
                    simp only [zp]
                    refine sv (.bool false) 31 rfl rfl (ex_bin (u := (.int .i64 (x - h))) (r := (.int .i64 q.f)) rfl rfl rfl (eg3 _ _ _ _ _ _) (gtr3 _ (decide_eq_false (by omega)))) ?_
                    simp only [zp]
                    refine sv (.bool false) 32 rfl rfl (ex_pkT rfl rfl rfl) ?_
                    simp only [zp]
                    refine st_end ?_
                    subst hQ
                    refine wp_cond_false rfl ?_
                    refine wp_skip ?_
                    refine wp_seq ?_
                    refine wq fun Q hQ => ?_
                    refine sv (.agg (RL q)) 33 rfl rfl (ex_load (p := (.pointer (some ⟨b1, 0, none⟩))) rfl rfl (ld_all k1 Try.underlying25 rfl inf25)) ?_
                    simp only [zp]
                    refine sm (.int .i64 x) 34 rfl rfl rfl rfl ?_
                    simp only [zp]
                    refine sm (.int .i64 h) 35 rfl rfl rfl rfl ?_
                    simp only [zp]
                    refine st_call (some 36) rfl rfl (rsoon_any W3 h0 h1 MR.2.2.2.1 MR.2.2.2.2.1 (by omega) (decide_eq_false (by omega))) (ex_call (f := 36) (vs := [(.agg (RL q)), (.int .i64 x), (.int .i64 h)]) rfl (cf36 _) rfl) ?_
                    rintro e W4 ⟨rfl, B⟩
                    refine ⟨_, rfl, ?_⟩
                    simp only [zp]
                    replace E := below_next E B
                    replace k1 := keep B k1
                    replace k2 := keep B k2
                    refine st_end ?_
                    subst hQ
                    refine wp_cond_false rfl ?_
                    refine wp_skip ?_
                    refine wp_seq ?_
                    refine wq fun Q hQ => ?_
                    refine sm (.int .i64 x) 37 rfl rfl rfl rfl ?_
                    simp only [zp]
                    refine sv (.pointer (some ⟨b2, 2, none⟩)) 38 rfl rfl (ex_fa (p := (.pointer (some ⟨b2, 0, none⟩))) rfl rfl (fa28_2 _ _)) ?_
                    simp only [zp]
                    refine sv (.int .i64 v.ex) 39 rfl rfl (ex_load (p := (.pointer (some ⟨b2, 2, none⟩))) rfl rfl (ld3 (at_cell k2 hH.c2))) ?_
                    simp only [zp]
                    refine sv (.bool false) 40 rfl rfl (ex_bin (u := (.int .i64 x)) (r := (.int .i64 v.ex)) rfl rfl rfl (eg3 _ _ _ _ _ _) (lss3 _ (decide_eq_false (by omega)))) ?_
                    simp only [zp]
                    refine st_end ?_
                    subst hQ
                    refine wp_cond_false rfl ?_
                    refine wp_skip ?_
                    refine wp_seq ?_
                    refine wq fun Q hQ => ?_
                    refine sm (.int .i64 a) 41 rfl rfl rfl rfl ?_
                    simp only [zp]
                    refine sv (.pointer (some ⟨b2, 1, none⟩)) 42 rfl rfl (ex_fa (p := (.pointer (some ⟨b2, 0, none⟩))) rfl rfl (fa28_1 _ _)) ?_
                    simp only [zp]
                    refine sv (.int .i64 v.am) 43 rfl rfl (ex_load (p := (.pointer (some ⟨b2, 1, none⟩))) rfl rfl (ld3 (at_cell k2 hH.c1))) ?_
                    simp only [zp]
                    refine sv (.bool false) 44 rfl rfl (ex_bin (u := (.int .i64 a)) (r := (.int .i64 v.am)) rfl rfl rfl (eg3 _ _ _ _ _ _) (lss3 _ (decide_eq_false (by omega)))) ?_
                    simp only [zp]
                    refine sm (.bool false) 45 rfl rfl rfl rfl ?_
                    simp only [zp]
                    refine sv (.pointer (some ⟨b2, 1, none⟩)) 46 rfl rfl (ex_fa (p := (.pointer (some ⟨b2, 0, none⟩))) rfl rfl (fa28_1 _ _)) ?_
                    simp only [zp]
                    refine sv (.int .i64 v.am) 47 rfl rfl (ex_load (p := (.pointer (some ⟨b2, 1, none⟩))) rfl rfl (ld3 (at_cell k2 hH.c1))) ?_
                    simp only [zp]
                    refine sv (.bool false) 48 rfl rfl (ex_bin (u := (.int .i64 v.am)) (r := (.int .i64 1)) rfl rfl rfl (eg3 _ _ _ _ _ _) (lss3 _ (decide_eq_false (by omega)))) ?_
                    simp only [zp]
                    refine sv (.bool false) 49 rfl rfl (ex_pkF rfl rfl rfl) ?_
                    simp only [zp]
                    refine sm (.bool false) 50 rfl rfl rfl rfl ?_
                    simp only [zp]
                    refine sv (.pointer (some ⟨b2, 35, none⟩)) 51 rfl rfl (ex_fa (p := (.pointer (some ⟨b2, 0, none⟩))) rfl rfl (fa28_4 _ _)) ?_
                    simp only [zp]
                    refine sv (.int .i64 v.tot) 52 rfl rfl (ex_load (p := (.pointer (some ⟨b2, 35, none⟩))) rfl rfl (ld3 (at_cell k2 hH.c35))) ?_
                    simp only [zp]
                    refine sv (.pointer (some ⟨b2, 1, none⟩)) 53 rfl rfl (ex_fa (p := (.pointer (some ⟨b2, 0, none⟩))) rfl rfl (fa28_1 _ _)) ?_
                    simp only [zp]
                    refine sv (.int .i64 v.am) 54 rfl rfl (ex_load (p := (.pointer (some ⟨b2, 1, none⟩))) rfl rfl (ld3 (at_cell k2 hH.c1))) ?_
                    simp only [zp]
                    refine sv (.bool false) 55 rfl rfl (ex_bin (u := (.int .i64 v.tot)) (r := (.int .i64 v.am)) rfl rfl rfl (eg3 _ _ _ _ _ _) (lss3 _ (decide_eq_false (by omega)))) ?_
                    simp only [zp]
                    refine sv (.bool false) 56 rfl rfl (ex_pkF rfl rfl rfl) ?_
                    simp only [zp]
                    refine st_end ?_
                    subst hQ
                    refine wp_cond_false rfl ?_
                    refine wp_skip ?_
                    refine wq fun Q hQ => ?_
                    refine sg (.int .i64 0) 10 rfl rfl rfl rfl ?_
                    simp only [zp]
                    refine st_end ?_
                    subst hQ
                    refine wp_ret ?_
                    repeat (first | refine ret_out ?_ | refine ret_blk ?_)
                    refine bodyPost_ret (results_tmp Try.results16 _ _ _) rfl ⟨?_, E⟩
                    show Ending.returned (.int .i64 0) = _
                    simp [finN, e0, e1, e2, e3, e4, e5, e6, e7, e8]
      · skip
        by_cases e3 : q.f < x - h
        · skip
          exfalso
          omega
        · skip
          by_cases e4 : x ≤ h + q.g
          · skip
            have E : Below w.heap.size w w := Below.refl _ _
            go_enter Try.func16, Try.ntmps16
            refine wq fun Q hQ => ?_
            refine st_new (fun b => .pointer (some ⟨b, 0, none⟩)) (some 5) rfl rfl (ex_box rfl rfl) ?_
            intro b1 W1 k1 g1 B
            simp only [zp]
            have ge_b1 := Nat.le_trans E.size g1
            replace E := below_next E B
            clear B
            refine st_new (fun b => .pointer (some ⟨b, 0, none⟩)) (some 6) rfl rfl (ex_box rfl rfl) ?_
            intro b2 W2 k2 g2 B
            simp only [zp]
            have ne_b2_b1 : b2 ≠ b1 := fun e => by have := lt_of k1; omega
            have ge_b2 := Nat.le_trans E.size g2
            replace E := below_next E B
            replace k1 := keep B k1
            clear B
            refine sg (.int .i64 0) 10 rfl rfl rfl rfl ?_
            simp only [zp]
            refine st_end ?_
            subst hQ
            refine wp_seq ?_
            refine wq fun Q hQ => ?_
            refine sv (.agg (RL q)) 11 rfl rfl (ex_load (p := (.pointer (some ⟨b1, 0, none⟩))) rfl rfl (ld_all k1 Try.underlying25 rfl inf25)) ?_
            simp only [zp]
            refine sm (.int .i64 a) 12 rfl rfl rfl rfl ?_
            simp only [zp]
            refine sm (.int .i64 x) 13 rfl rfl rfl rfl ?_
            simp only [zp]
            refine sm (.int .i64 h) 14 rfl rfl rfl rfl ?_
            simp only [zp]
            refine st_call (some 15) rfl rfl (rright_any W2 e0) (ex_call (f := 35) (vs := [(.agg (RL q)), (.int .i64 a), (.int .i64 x), (.int .i64 h)]) rfl (cf35 _) rfl) ?_
            rintro e W3 ⟨rfl, B⟩
            refine ⟨_, rfl, ?_⟩
            simp only [zp]
            replace E := below_next E B
            replace k1 := keep B k1
            replace k2 := keep B k2
            refine sv (.bool false) 16 rfl rfl (ex_not rfl rfl rfl) ?_
            simp only [zp]
            refine sm (.bool false) 17 rfl rfl rfl rfl ?_
            simp only [zp]
            refine sv (.pointer (some ⟨b2, 0, none⟩)) 18 rfl rfl (ex_fa (p := (.pointer (some ⟨b2, 0, none⟩))) rfl rfl (fa28_0 _ _)) ?_
            simp only [zp]
            refine sv (.int .i64 v.ch) 19 rfl rfl (ex_load (p := (.pointer (some ⟨b2, 0, none⟩))) rfl rfl (ld3 (at_cell k2 hH.c0))) ?_
            simp only [zp]
            refine sv (.bool false) 20 rfl rfl (ex_bin (u := (.int .i64 v.ch)) (r := (.int .i64 0)) rfl rfl rfl (eg3 _ _ _ _ _ _) (neq3 _ (decide_eq_false (by omega)))) ?_
            simp only [zp]
            refine sv (.bool false) 21 rfl rfl (ex_pkF rfl rfl rfl) ?_
            simp only [zp]
            refine st_end ?_
            subst hQ
            refine wp_cond_false rfl ?_
            refine wp_skip ?_
            refine wp_seq ?_
            refine wq fun Q hQ => ?_
            refine sm (.int .i64 x) 22 rfl rfl rfl rfl ?_
            simp only [zp]
            refine sm (.int .i64 h) 23 rfl rfl rfl rfl ?_
            simp only [zp]
            refine sv (.bool false) 24 rfl rfl (ex_bin (u := (.int .i64 x)) (r := (.int .i64 h)) rfl rfl rfl (eg3 _ _ _ _ _ _) (gtr3 _ (decide_eq_false (by omega)))) ?_
            simp only [zp]
            refine sm (.bool false) 25 rfl rfl rfl rfl ?_
            simp only [zp]
            refine sn 26 rfl rfl ?_
            simp only [zp]
            refine sn 27 rfl rfl ?_
            simp only [zp]
            refine sn 28 rfl rfl ?_
            simp only [zp]
            refine sn 29 rfl rfl ?_
            simp only [zp]
            refine sn 30 rfl rfl ?_
            simp only [zp]
            refine sn 31 rfl rfl ?_
            simp only [zp]
            refine sv (.bool false) 32 rfl rfl (ex_pkF rfl rfl rfl) ?_
            simp only [zp]
            refine st_end ?_
            subst hQ
            refine wp_cond_false rfl ?_
            refine wp_skip ?_
            refine wp_seq ?_
            refine wq fun Q hQ => ?_
            refine sv (.agg (RL q)) 33 rfl rfl (ex_load (p := (.pointer (some ⟨b1, 0, none⟩))) rfl rfl (ld_all k1 Try.underlying25 rfl inf25)) ?_
            simp only [zp]
            refine sm (.int .i64 x) 34 rfl rfl rfl rfl ?_
            simp only [zp]
            refine sm (.int .i64 h) 35 rfl rfl rfl rfl ?_
            simp only [zp]
            refine st_call (some 36) rfl rfl (rsoon_any W3 h0 h1 MR.2.2.2.1 MR.2.2.2.2.1 (by omega) (decide_eq_true (by omega))) (ex_call (f := 36) (vs := [(.agg (RL q)), (.int .i64 x), (.int .i64 h)]) rfl (cf36 _) rfl) ?_
            rintro e W4 ⟨rfl, B⟩
            refine ⟨_, rfl, ?_⟩
            simp only [zp]
            replace E := below_next E B
            replace k1 := keep B k1
            replace k2 := keep B k2
            refine st_end ?_
            subst hQ
            refine wp_cond_true rfl ?_
            refine wq fun Q hQ => ?_
            refine sg (.int .i64 5) 10 rfl rfl rfl rfl ?_
            simp only [zp]
            refine st_end ?_
            subst hQ
            refine wp_ret ?_
            repeat (first | refine ret_out ?_ | refine ret_blk ?_)
            refine bodyPost_ret (results_tmp Try.results16 _ _ _) rfl ⟨?_, E⟩
            show Ending.returned (.int .i64 5) = _
            simp [finN, e0, e1, e2, e3, e4]
          · skip
            by_cases e5 : x < v.ex
            · skip
              have E : Below w.heap.size w w := Below.refl _ _
              go_enter Try.func16, Try.ntmps16
              refine wq fun Q hQ => ?_
              refine st_new (fun b => .pointer (some ⟨b, 0, none⟩)) (some 5) rfl rfl (ex_box rfl rfl) ?_
              intro b1 W1 k1 g1 B
              simp only [zp]
              have ge_b1 := Nat.le_trans E.size g1
              replace E := below_next E B
              clear B
              refine st_new (fun b => .pointer (some ⟨b, 0, none⟩)) (some 6) rfl rfl (ex_box rfl rfl) ?_
              intro b2 W2 k2 g2 B
              simp only [zp]
              have ne_b2_b1 : b2 ≠ b1 := fun e => by have := lt_of k1; omega
              have ge_b2 := Nat.le_trans E.size g2
              replace E := below_next E B
              replace k1 := keep B k1
              clear B
              refine sg (.int .i64 0) 10 rfl rfl rfl rfl ?_
              simp only [zp]
              refine st_end ?_
              subst hQ
              refine wp_seq ?_
              refine wq fun Q hQ => ?_
              refine sv (.agg (RL q)) 11 rfl rfl (ex_load (p := (.pointer (some ⟨b1, 0, none⟩))) rfl rfl (ld_all k1 Try.underlying25 rfl inf25)) ?_
              simp only [zp]
              refine sm (.int .i64 a) 12 rfl rfl rfl rfl ?_
              simp only [zp]
              refine sm (.int .i64 x) 13 rfl rfl rfl rfl ?_
              simp only [zp]
              refine sm (.int .i64 h) 14 rfl rfl rfl rfl ?_
              simp only [zp]
              refine st_call (some 15) rfl rfl (rright_any W2 e0) (ex_call (f := 35) (vs := [(.agg (RL q)), (.int .i64 a), (.int .i64 x), (.int .i64 h)]) rfl (cf35 _) rfl) ?_
              rintro e W3 ⟨rfl, B⟩
              refine ⟨_, rfl, ?_⟩
              simp only [zp]
              replace E := below_next E B
              replace k1 := keep B k1
              replace k2 := keep B k2
              refine sv (.bool false) 16 rfl rfl (ex_not rfl rfl rfl) ?_
              simp only [zp]
              refine sm (.bool false) 17 rfl rfl rfl rfl ?_
              simp only [zp]
              refine sv (.pointer (some ⟨b2, 0, none⟩)) 18 rfl rfl (ex_fa (p := (.pointer (some ⟨b2, 0, none⟩))) rfl rfl (fa28_0 _ _)) ?_
              simp only [zp]
              refine sv (.int .i64 v.ch) 19 rfl rfl (ex_load (p := (.pointer (some ⟨b2, 0, none⟩))) rfl rfl (ld3 (at_cell k2 hH.c0))) ?_
              simp only [zp]
              refine sv (.bool false) 20 rfl rfl (ex_bin (u := (.int .i64 v.ch)) (r := (.int .i64 0)) rfl rfl rfl (eg3 _ _ _ _ _ _) (neq3 _ (decide_eq_false (by omega)))) ?_
              simp only [zp]
              refine sv (.bool false) 21 rfl rfl (ex_pkF rfl rfl rfl) ?_
              simp only [zp]
              refine st_end ?_
              subst hQ
              refine wp_cond_false rfl ?_
              refine wp_skip ?_
              refine wp_seq ?_
              refine wq fun Q hQ => ?_
              refine sm (.int .i64 x) 22 rfl rfl rfl rfl ?_
              simp only [zp]
              refine sm (.int .i64 h) 23 rfl rfl rfl rfl ?_
              simp only [zp]
              refine sv (.bool false) 24 rfl rfl (ex_bin (u := (.int .i64 x)) (r := (.int .i64 h)) rfl rfl rfl (eg3 _ _ _ _ _ _) (gtr3 _ (decide_eq_false (by omega)))) ?_
              simp only [zp]
              refine sm (.bool false) 25 rfl rfl rfl rfl ?_
              simp only [zp]
              refine sn 26 rfl rfl ?_
              simp only [zp]
              refine sn 27 rfl rfl ?_
              simp only [zp]
              refine sn 28 rfl rfl ?_
              simp only [zp]
              refine sn 29 rfl rfl ?_
              simp only [zp]
              refine sn 30 rfl rfl ?_
              simp only [zp]
              refine sn 31 rfl rfl ?_
              simp only [zp]
              refine sv (.bool false) 32 rfl rfl (ex_pkF rfl rfl rfl) ?_
              simp only [zp]
              refine st_end ?_
              subst hQ
              refine wp_cond_false rfl ?_
              refine wp_skip ?_
              refine wp_seq ?_
              refine wq fun Q hQ => ?_
              refine sv (.agg (RL q)) 33 rfl rfl (ex_load (p := (.pointer (some ⟨b1, 0, none⟩))) rfl rfl (ld_all k1 Try.underlying25 rfl inf25)) ?_
              simp only [zp]
              refine sm (.int .i64 x) 34 rfl rfl rfl rfl ?_
              simp only [zp]
              refine sm (.int .i64 h) 35 rfl rfl rfl rfl ?_
              simp only [zp]
              refine st_call (some 36) rfl rfl (rsoon_any W3 h0 h1 MR.2.2.2.1 MR.2.2.2.2.1 (by omega) (decide_eq_false (by omega))) (ex_call (f := 36) (vs := [(.agg (RL q)), (.int .i64 x), (.int .i64 h)]) rfl (cf36 _) rfl) ?_
              rintro e W4 ⟨rfl, B⟩
              refine ⟨_, rfl, ?_⟩
              simp only [zp]
              replace E := below_next E B
              replace k1 := keep B k1
              replace k2 := keep B k2
              refine st_end ?_
              subst hQ
              refine wp_cond_false rfl ?_
              refine wp_skip ?_
              refine wp_seq ?_
              refine wq fun Q hQ => ?_
              refine sm (.int .i64 x) 37 rfl rfl rfl rfl ?_
              simp only [zp]
              refine sv (.pointer (some ⟨b2, 2, none⟩)) 38 rfl rfl (ex_fa (p := (.pointer (some ⟨b2, 0, none⟩))) rfl rfl (fa28_2 _ _)) ?_
              simp only [zp]
              refine sv (.int .i64 v.ex) 39 rfl rfl (ex_load (p := (.pointer (some ⟨b2, 2, none⟩))) rfl rfl (ld3 (at_cell k2 hH.c2))) ?_
              simp only [zp]
              refine sv (.bool true) 40 rfl rfl (ex_bin (u := (.int .i64 x)) (r := (.int .i64 v.ex)) rfl rfl rfl (eg3 _ _ _ _ _ _) (lss3 _ (decide_eq_true (by omega)))) ?_
              simp only [zp]
              refine st_end ?_
              subst hQ
              refine wp_cond_true rfl ?_
              refine wq fun Q hQ => ?_
              refine sg (.int .i64 4) 10 rfl rfl rfl rfl ?_
              simp only [zp]
              refine st_end ?_
              subst hQ
              refine wp_ret ?_
              repeat (first | refine ret_out ?_ | refine ret_blk ?_)
              refine bodyPost_ret (results_tmp Try.results16 _ _ _) rfl ⟨?_, E⟩
              show Ending.returned (.int .i64 4) = _
              simp [finN, e0, e1, e2, e3, e4, e5]
            · skip
              by_cases e6 : a < v.am
              · skip
                have E : Below w.heap.size w w := Below.refl _ _
                go_enter Try.func16, Try.ntmps16
                refine wq fun Q hQ => ?_
                refine st_new (fun b => .pointer (some ⟨b, 0, none⟩)) (some 5) rfl rfl (ex_box rfl rfl) ?_
                intro b1 W1 k1 g1 B
                simp only [zp]
                have ge_b1 := Nat.le_trans E.size g1
                replace E := below_next E B
                clear B
                refine st_new (fun b => .pointer (some ⟨b, 0, none⟩)) (some 6) rfl rfl (ex_box rfl rfl) ?_
                intro b2 W2 k2 g2 B
                simp only [zp]
                have ne_b2_b1 : b2 ≠ b1 := fun e => by have := lt_of k1; omega
                have ge_b2 := Nat.le_trans E.size g2
                replace E := below_next E B
                replace k1 := keep B k1
                clear B
                refine sg (.int .i64 0) 10 rfl rfl rfl rfl ?_
                simp only [zp]
                refine st_end ?_
                subst hQ
                refine wp_seq ?_
                refine wq fun Q hQ => ?_
                refine sv (.agg (RL q)) 11 rfl rfl (ex_load (p := (.pointer (some ⟨b1, 0, none⟩))) rfl rfl (ld_all k1 Try.underlying25 rfl inf25)) ?_
                simp only [zp]
                refine sm (.int .i64 a) 12 rfl rfl rfl rfl ?_
                simp only [zp]
                refine sm (.int .i64 x) 13 rfl rfl rfl rfl ?_
                simp only [zp]
                refine sm (.int .i64 h) 14 rfl rfl rfl rfl ?_
                simp only [zp]
                refine st_call (some 15) rfl rfl (rright_any W2 e0) (ex_call (f := 35) (vs := [(.agg (RL q)), (.int .i64 a), (.int .i64 x), (.int .i64 h)]) rfl (cf35 _) rfl) ?_
                rintro e W3 ⟨rfl, B⟩
                refine ⟨_, rfl, ?_⟩
                simp only [zp]
                replace E := below_next E B
                replace k1 := keep B k1
                replace k2 := keep B k2
                refine sv (.bool false) 16 rfl rfl (ex_not rfl rfl rfl) ?_
                simp only [zp]
                refine sm (.bool false) 17 rfl rfl rfl rfl ?_
                simp only [zp]
                refine sv (.pointer (some ⟨b2, 0, none⟩)) 18 rfl rfl (ex_fa (p := (.pointer (some ⟨b2, 0, none⟩))) rfl rfl (fa28_0 _ _)) ?_
                simp only [zp]
                refine sv (.int .i64 v.ch) 19 rfl rfl (ex_load (p := (.pointer (some ⟨b2, 0, none⟩))) rfl rfl (ld3 (at_cell k2 hH.c0))) ?_
                simp only [zp]
                refine sv (.bool false) 20 rfl rfl (ex_bin (u := (.int .i64 v.ch)) (r := (.int .i64 0)) rfl rfl rfl (eg3 _ _ _ _ _ _) (neq3 _ (decide_eq_false (by omega)))) ?_
                simp only [zp]
                refine sv (.bool false) 21 rfl rfl (ex_pkF rfl rfl rfl) ?_
                simp only [zp]
                refine st_end ?_
                subst hQ
                refine wp_cond_false rfl ?_
                refine wp_skip ?_
                refine wp_seq ?_
                refine wq fun Q hQ => ?_
                refine sm (.int .i64 x) 22 rfl rfl rfl rfl ?_
                simp only [zp]
                refine sm (.int .i64 h) 23 rfl rfl rfl rfl ?_
                simp only [zp]
                refine sv (.bool false) 24 rfl rfl (ex_bin (u := (.int .i64 x)) (r := (.int .i64 h)) rfl rfl rfl (eg3 _ _ _ _ _ _) (gtr3 _ (decide_eq_false (by omega)))) ?_
                simp only [zp]
                refine sm (.bool false) 25 rfl rfl rfl rfl ?_
                simp only [zp]
                refine sn 26 rfl rfl ?_
                simp only [zp]
                refine sn 27 rfl rfl ?_
                simp only [zp]
                refine sn 28 rfl rfl ?_
                simp only [zp]
                refine sn 29 rfl rfl ?_
                simp only [zp]
                refine sn 30 rfl rfl ?_
                simp only [zp]
                refine sn 31 rfl rfl ?_
                simp only [zp]
                refine sv (.bool false) 32 rfl rfl (ex_pkF rfl rfl rfl) ?_
                simp only [zp]
                refine st_end ?_
                subst hQ
                refine wp_cond_false rfl ?_
                refine wp_skip ?_
                refine wp_seq ?_
                refine wq fun Q hQ => ?_
                refine sv (.agg (RL q)) 33 rfl rfl (ex_load (p := (.pointer (some ⟨b1, 0, none⟩))) rfl rfl (ld_all k1 Try.underlying25 rfl inf25)) ?_
                simp only [zp]
                refine sm (.int .i64 x) 34 rfl rfl rfl rfl ?_
                simp only [zp]
                refine sm (.int .i64 h) 35 rfl rfl rfl rfl ?_
                simp only [zp]
                refine st_call (some 36) rfl rfl (rsoon_any W3 h0 h1 MR.2.2.2.1 MR.2.2.2.2.1 (by omega) (decide_eq_false (by omega))) (ex_call (f := 36) (vs := [(.agg (RL q)), (.int .i64 x), (.int .i64 h)]) rfl (cf36 _) rfl) ?_
                rintro e W4 ⟨rfl, B⟩
                refine ⟨_, rfl, ?_⟩
                simp only [zp]
                replace E := below_next E B
                replace k1 := keep B k1
                replace k2 := keep B k2
                refine st_end ?_
                subst hQ
                refine wp_cond_false rfl ?_
                refine wp_skip ?_
                refine wp_seq ?_
                refine wq fun Q hQ => ?_
                refine sm (.int .i64 x) 37 rfl rfl rfl rfl ?_
                simp only [zp]
                refine sv (.pointer (some ⟨b2, 2, none⟩)) 38 rfl rfl (ex_fa (p := (.pointer (some ⟨b2, 0, none⟩))) rfl rfl (fa28_2 _ _)) ?_
                simp only [zp]
                refine sv (.int .i64 v.ex) 39 rfl rfl (ex_load (p := (.pointer (some ⟨b2, 2, none⟩))) rfl rfl (ld3 (at_cell k2 hH.c2))) ?_
                simp only [zp]
                refine sv (.bool false) 40 rfl rfl (ex_bin (u := (.int .i64 x)) (r := (.int .i64 v.ex)) rfl rfl rfl (eg3 _ _ _ _ _ _) (lss3 _ (decide_eq_false (by omega)))) ?_
                simp only [zp]
                refine st_end ?_
                subst hQ
                refine wp_cond_false rfl ?_
                refine wp_skip ?_
                refine wp_seq ?_
                refine wq fun Q hQ => ?_
                refine sm (.int .i64 a) 41 rfl rfl rfl rfl ?_
                simp only [zp]
                refine sv (.pointer (some ⟨b2, 1, none⟩)) 42 rfl rfl (ex_fa (p := (.pointer (some ⟨b2, 0, none⟩))) rfl rfl (fa28_1 _ _)) ?_
                simp only [zp]
                refine sv (.int .i64 v.am) 43 rfl rfl (ex_load (p := (.pointer (some ⟨b2, 1, none⟩))) rfl rfl (ld3 (at_cell k2 hH.c1))) ?_
                simp only [zp]
                refine sv (.bool true) 44 rfl rfl (ex_bin (u := (.int .i64 a)) (r := (.int .i64 v.am)) rfl rfl rfl (eg3 _ _ _ _ _ _) (lss3 _ (decide_eq_true (by omega)))) ?_
                simp only [zp]
                refine sm (.bool true) 45 rfl rfl rfl rfl ?_
                simp only [zp]
                refine sn 46 rfl rfl ?_
                simp only [zp]
                refine sn 47 rfl rfl ?_
                simp only [zp]
                refine sn 48 rfl rfl ?_
                simp only [zp]
                refine sv (.bool true) 49 rfl rfl (ex_pkT rfl rfl rfl) ?_
                simp only [zp]
                refine sm (.bool true) 50 rfl rfl rfl rfl ?_
                simp only [zp]
                refine sn 51 rfl rfl ?_
                simp only [zp]
                refine sn 52 rfl rfl ?_
                simp only [zp]
                refine sn 53 rfl rfl ?_
                simp only [zp]
                refine sn 54 rfl rfl ?_
                simp only [zp]
                refine sn 55 rfl rfl ?_
                simp only [zp]
                refine sv (.bool true) 56 rfl rfl (ex_pkT rfl rfl rfl) ?_
                simp only [zp]
                refine st_end ?_
                subst hQ
                refine wp_cond_true rfl ?_
                refine wq fun Q hQ => ?_
                refine sg (.int .i64 8) 10 rfl rfl rfl rfl ?_
                simp only [zp]
                refine st_end ?_
                subst hQ
                refine wp_ret ?_
                repeat (first | refine ret_out ?_ | refine ret_blk ?_)
                refine bodyPost_ret (results_tmp Try.results16 _ _ _) rfl ⟨?_, E⟩
                show Ending.returned (.int .i64 8) = _
                simp [finN, e0, e1, e2, e3, e4, e5, e6]
              · skip
                by_cases e7 : v.am < 1
                · skip
                  have E : Below w.heap.size w w := Below.refl _ _
                  go_enter Try.func16, Try.ntmps16
                  refine wq fun Q hQ => ?_
                  refine st_new (fun b => .pointer (some ⟨b, 0, none⟩)) (some 5) rfl rfl (ex_box rfl rfl) ?_
                  intro b1 W1 k1 g1 B
                  simp only [zp]
                  have ge_b1 := Nat.le_trans E.size g1
                  replace E := below_next E B
                  clear B
                  refine st_new (fun b => .pointer (some ⟨b, 0, none⟩)) (some 6) rfl rfl (ex_box rfl rfl) ?_
                  intro b2 W2 k2 g2 B
                  simp only [zp]
                  have ne_b2_b1 : b2 ≠ b1 := fun e => by have := lt_of k1; omega
                  have ge_b2 := Nat.le_trans E.size g2
                  replace E := below_next E B
                  replace k1 := keep B k1
                  clear B
                  refine sg (.int .i64 0) 10 rfl rfl rfl rfl ?_
                  simp only [zp]
                  refine st_end ?_
                  subst hQ
                  refine wp_seq ?_
                  refine wq fun Q hQ => ?_
                  refine sv (.agg (RL q)) 11 rfl rfl (ex_load (p := (.pointer (some ⟨b1, 0, none⟩))) rfl rfl (ld_all k1 Try.underlying25 rfl inf25)) ?_
                  simp only [zp]
                  refine sm (.int .i64 a) 12 rfl rfl rfl rfl ?_
                  simp only [zp]
                  refine sm (.int .i64 x) 13 rfl rfl rfl rfl ?_
                  simp only [zp]
                  refine sm (.int .i64 h) 14 rfl rfl rfl rfl ?_
                  simp only [zp]
                  refine st_call (some 15) rfl rfl (rright_any W2 e0) (ex_call (f := 35) (vs := [(.agg (RL q)), (.int .i64 a), (.int .i64 x), (.int .i64 h)]) rfl (cf35 _) rfl) ?_
                  rintro e W3 ⟨rfl, B⟩
                  refine ⟨_, rfl, ?_⟩
                  simp only [zp]
                  replace E := below_next E B
                  replace k1 := keep B k1
                  replace k2 := keep B k2
                  refine sv (.bool false) 16 rfl rfl (ex_not rfl rfl rfl) ?_
                  simp only [zp]
                  refine sm (.bool false) 17 rfl rfl rfl rfl ?_
                  simp only [zp]
                  refine sv (.pointer (some ⟨b2, 0, none⟩)) 18 rfl rfl (ex_fa (p := (.pointer (some ⟨b2, 0, none⟩))) rfl rfl (fa28_0 _ _)) ?_
                  simp only [zp]
                  refine sv (.int .i64 v.ch) 19 rfl rfl (ex_load (p := (.pointer (some ⟨b2, 0, none⟩))) rfl rfl (ld3 (at_cell k2 hH.c0))) ?_
                  simp only [zp]
                  refine sv (.bool false) 20 rfl rfl (ex_bin (u := (.int .i64 v.ch)) (r := (.int .i64 0)) rfl rfl rfl (eg3 _ _ _ _ _ _) (neq3 _ (decide_eq_false (by omega)))) ?_
                  simp only [zp]
                  refine sv (.bool false) 21 rfl rfl (ex_pkF rfl rfl rfl) ?_
                  simp only [zp]
                  refine st_end ?_
                  subst hQ
                  refine wp_cond_false rfl ?_
                  refine wp_skip ?_
                  refine wp_seq ?_
                  refine wq fun Q hQ => ?_
                  refine sm (.int .i64 x) 22 rfl rfl rfl rfl ?_
                  simp only [zp]
                  refine sm (.int .i64 h) 23 rfl rfl rfl rfl ?_
                  simp only [zp]
                  refine sv (.bool false) 24 rfl rfl (ex_bin (u := (.int .i64 x)) (r := (.int .i64 h)) rfl rfl rfl (eg3 _ _ _ _ _ _) (gtr3 _ (decide_eq_false (by omega)))) ?_
                  simp only [zp]
                  refine sm (.bool false) 25 rfl rfl rfl rfl ?_
                  simp only [zp]
                  refine sn 26 rfl rfl ?_
                  simp only [zp]
                  refine sn 27 rfl rfl ?_
                  simp only [zp]
                  refine sn 28 rfl rfl ?_
                  simp only [zp]
                  refine sn 29 rfl rfl ?_
                  simp only [zp]
                  refine sn 30 rfl rfl ?_
                  simp only [zp]
                  refine sn 31 rfl rfl ?_
                  simp only [zp]
                  refine sv (.bool false) 32 rfl rfl (ex_pkF rfl rfl rfl) ?_
                  simp only [zp]
                  refine st_end ?_
                  subst hQ
                  refine wp_cond_false rfl ?_
                  refine wp_skip ?_
                  refine wp_seq ?_
                  refine wq fun Q hQ => ?_
                  refine sv (.agg (RL q)) 33 rfl rfl (ex_load (p := (.pointer (some ⟨b1, 0, none⟩))) rfl rfl (ld_all k1 Try.underlying25 rfl inf25)) ?_
                  simp only [zp]
                  refine sm (.int .i64 x) 34 rfl rfl rfl rfl ?_
                  simp only [zp]
                  refine sm (.int .i64 h) 35 rfl rfl rfl rfl ?_
                  simp only [zp]
                  refine st_call (some 36) rfl rfl (rsoon_any W3 h0 h1 MR.2.2.2.1 MR.2.2.2.2.1 (by omega) (decide_eq_false (by omega))) (ex_call (f := 36) (vs := [(.agg (RL q)), (.int .i64 x), (.int .i64 h)]) rfl (cf36 _) rfl) ?_
                  rintro e W4 ⟨rfl, B⟩
                  refine ⟨_, rfl, ?_⟩
                  simp only [zp]
                  replace E := below_next E B
                  replace k1 := keep B k1
                  replace k2 := keep B k2
                  refine st_end ?_
                  subst hQ
                  refine wp_cond_false rfl ?_
                  refine wp_skip ?_
                  refine wp_seq ?_
                  refine wq fun Q hQ => ?_
                  refine sm (.int .i64 x) 37 rfl rfl rfl rfl ?_
                  simp only [zp]
                  refine sv (.pointer (some ⟨b2, 2, none⟩)) 38 rfl rfl (ex_fa (p := (.pointer (some ⟨b2, 0, none⟩))) rfl rfl (fa28_2 _ _)) ?_
                  simp only [zp]
                  refine sv (.int .i64 v.ex) 39 rfl rfl (ex_load (p := (.pointer (some ⟨b2, 2, none⟩))) rfl rfl (ld3 (at_cell k2 hH.c2))) ?_
                  simp only [zp]
                  refine sv (.bool false) 40 rfl rfl (ex_bin (u := (.int .i64 x)) (r := (.int .i64 v.ex)) rfl rfl rfl (eg3 _ _ _ _ _ _) (lss3 _ (decide_eq_false (by omega)))) ?_
                  simp only [zp]
                  refine st_end ?_
                  subst hQ
                  refine wp_cond_false rfl ?_
                  refine wp_skip ?_
                  refine wp_seq ?_
                  refine wq fun Q hQ => ?_
                  refine sm (.int .i64 a) 41 rfl rfl rfl rfl ?_
                  simp only [zp]
                  refine sv (.pointer (some ⟨b2, 1, none⟩)) 42 rfl rfl (ex_fa (p := (.pointer (some ⟨b2, 0, none⟩))) rfl rfl (fa28_1 _ _)) ?_
                  simp only [zp]
                  refine sv (.int .i64 v.am) 43 rfl rfl (ex_load (p := (.pointer (some ⟨b2, 1, none⟩))) rfl rfl (ld3 (at_cell k2 hH.c1))) ?_
                  simp only [zp]
                  refine sv (.bool false) 44 rfl rfl (ex_bin (u := (.int .i64 a)) (r := (.int .i64 v.am)) rfl rfl rfl (eg3 _ _ _ _ _ _) (lss3 _ (decide_eq_false (by omega)))) ?_
                  simp only [zp]
                  refine sm (.bool false) 45 rfl rfl rfl rfl ?_
                  simp only [zp]
                  refine sv (.pointer (some ⟨b2, 1, none⟩)) 46 rfl rfl (ex_fa (p := (.pointer (some ⟨b2, 0, none⟩))) rfl rfl (fa28_1 _ _)) ?_
                  simp only [zp]
                  refine sv (.int .i64 v.am) 47 rfl rfl (ex_load (p := (.pointer (some ⟨b2, 1, none⟩))) rfl rfl (ld3 (at_cell k2 hH.c1))) ?_
                  simp only [zp]
                  refine sv (.bool true) 48 rfl rfl (ex_bin (u := (.int .i64 v.am)) (r := (.int .i64 1)) rfl rfl rfl (eg3 _ _ _ _ _ _) (lss3 _ (decide_eq_true (by omega)))) ?_
                  simp only [zp]
                  refine sv (.bool true) 49 rfl rfl (ex_pkF rfl rfl rfl) ?_
                  simp only [zp]
                  refine sm (.bool true) 50 rfl rfl rfl rfl ?_
                  simp only [zp]
                  refine sn 51 rfl rfl ?_
                  simp only [zp]
                  refine sn 52 rfl rfl ?_
                  simp only [zp]
                  refine sn 53 rfl rfl ?_
                  simp only [zp]
                  refine sn 54 rfl rfl ?_
                  simp only [zp]
                  refine sn 55 rfl rfl ?_
                  simp only [zp]
                  refine sv (.bool true) 56 rfl rfl (ex_pkT rfl rfl rfl) ?_
                  simp only [zp]
                  refine st_end ?_
                  subst hQ
                  refine wp_cond_true rfl ?_
                  refine wq fun Q hQ => ?_
                  refine sg (.int .i64 8) 10 rfl rfl rfl rfl ?_
                  simp only [zp]
                  refine st_end ?_
                  subst hQ
                  refine wp_ret ?_
                  repeat (first | refine ret_out ?_ | refine ret_blk ?_)
                  refine bodyPost_ret (results_tmp Try.results16 _ _ _) rfl ⟨?_, E⟩
                  show Ending.returned (.int .i64 8) = _
                  simp [finN, e0, e1, e2, e3, e4, e5, e6, e7]
                · skip
                  by_cases e8 : v.tot < v.am
                  · skip
                    have E : Below w.heap.size w w := Below.refl _ _
                    go_enter Try.func16, Try.ntmps16
                    refine wq fun Q hQ => ?_
                    refine st_new (fun b => .pointer (some ⟨b, 0, none⟩)) (some 5) rfl rfl (ex_box rfl rfl) ?_
                    intro b1 W1 k1 g1 B
                    simp only [zp]
                    have ge_b1 := Nat.le_trans E.size g1
                    replace E := below_next E B
                    clear B
                    refine st_new (fun b => .pointer (some ⟨b, 0, none⟩)) (some 6) rfl rfl (ex_box rfl rfl) ?_
                    intro b2 W2 k2 g2 B
                    simp only [zp]
                    have ne_b2_b1 : b2 ≠ b1 := fun e => by have := lt_of k1; omega
                    have ge_b2 := Nat.le_trans E.size g2
                    replace E := below_next E B
                    replace k1 := keep B k1
                    clear B
                    refine sg (.int .i64 0) 10 rfl rfl rfl rfl ?_
                    simp only [zp]
                    refine st_end ?_
                    subst hQ
                    refine wp_seq ?_
                    refine wq fun Q hQ => ?_
                    refine sv (.agg (RL q)) 11 rfl rfl (ex_load (p := (.pointer (some ⟨b1, 0, none⟩))) rfl rfl (ld_all k1 Try.underlying25 rfl inf25)) ?_
                    simp only [zp]
                    refine sm (.int .i64 a) 12 rfl rfl rfl rfl ?_
                    simp only [zp]
                    refine sm (.int .i64 x) 13 rfl rfl rfl rfl ?_
                    simp only [zp]
                    refine sm (.int .i64 h) 14 rfl rfl rfl rfl ?_
                    simp only [zp]
                    refine st_call (some 15) rfl rfl (rright_any W2 e0) (ex_call (f := 35) (vs := [(.agg (RL q)), (.int .i64 a), (.int .i64 x), (.int .i64 h)]) rfl (cf35 _) rfl) ?_
                    rintro e W3 ⟨rfl, B⟩
                    refine ⟨_, rfl, ?_⟩
                    simp only [zp]
                    replace E := below_next E B
                    replace k1 := keep B k1
                    replace k2 := keep B k2
                    refine sv (.bool false) 16 rfl rfl (ex_not rfl rfl rfl) ?_
                    simp only [zp]
                    refine sm (.bool false) 17 rfl rfl rfl rfl ?_
                    simp only [zp]
                    refine sv (.pointer (some ⟨b2, 0, none⟩)) 18 rfl rfl (ex_fa (p := (.pointer (some ⟨b2, 0, none⟩))) rfl rfl (fa28_0 _ _)) ?_
                    simp only [zp]
                    refine sv (.int .i64 v.ch) 19 rfl rfl (ex_load (p := (.pointer (some ⟨b2, 0, none⟩))) rfl rfl (ld3 (at_cell k2 hH.c0))) ?_
                    simp only [zp]
                    refine sv (.bool false) 20 rfl rfl (ex_bin (u := (.int .i64 v.ch)) (r := (.int .i64 0)) rfl rfl rfl (eg3 _ _ _ _ _ _) (neq3 _ (decide_eq_false (by omega)))) ?_
                    simp only [zp]
                    refine sv (.bool false) 21 rfl rfl (ex_pkF rfl rfl rfl) ?_
                    simp only [zp]
                    refine st_end ?_
                    subst hQ
                    refine wp_cond_false rfl ?_
                    refine wp_skip ?_
                    refine wp_seq ?_
                    refine wq fun Q hQ => ?_
                    refine sm (.int .i64 x) 22 rfl rfl rfl rfl ?_
                    simp only [zp]
                    refine sm (.int .i64 h) 23 rfl rfl rfl rfl ?_
                    simp only [zp]
                    refine sv (.bool false) 24 rfl rfl (ex_bin (u := (.int .i64 x)) (r := (.int .i64 h)) rfl rfl rfl (eg3 _ _ _ _ _ _) (gtr3 _ (decide_eq_false (by omega)))) ?_
                    simp only [zp]
                    refine sm (.bool false) 25 rfl rfl rfl rfl ?_
                    simp only [zp]
                    refine sn 26 rfl rfl ?_
                    simp only [zp]
                    refine sn 27 rfl rfl ?_
                    simp only [zp]
                    refine sn 28 rfl rfl ?_
                    simp only [zp]
                    refine sn 29 rfl rfl ?_
                    simp only [zp]
                    refine sn 30 rfl rfl ?_
                    simp only [zp]
                    refine sn 31 rfl rfl ?_
                    simp only [zp]
                    refine sv (.bool false) 32 rfl rfl (ex_pkF rfl rfl rfl) ?_
                    simp only [zp]
                    refine st_end ?_
                    subst hQ
                    refine wp_cond_false rfl ?_
                    refine wp_skip ?_
                    refine wp_seq ?_
                    refine wq fun Q hQ => ?_
                    refine sv (.agg (RL q)) 33 rfl rfl (ex_load (p := (.pointer (some ⟨b1, 0, none⟩))) rfl rfl (ld_all k1 Try.underlying25 rfl inf25)) ?_
                    simp only [zp]
                    refine sm (.int .i64 x) 34 rfl rfl rfl rfl ?_
                    simp only [zp]
                    refine sm (.int .i64 h) 35 rfl rfl rfl rfl ?_
                    simp only [zp]
                    refine st_call (some 36) rfl rfl (rsoon_any W3 h0 h1 MR.2.2.2.1 MR.2.2.2.2.1 (by omega) (decide_eq_false (by omega))) (ex_call (f := 36) (vs := [(.agg (RL q)), (.int .i64 x), (.int .i64 h)]) rfl (cf36 _) rfl) ?_
                    rintro e W4 ⟨rfl, B⟩
                    refine ⟨_, rfl, ?_⟩
                    simp only [zp]
                    replace E := below_next E B
                    replace k1 := keep B k1
                    replace k2 := keep B k2
                    refine st_end ?_
                    subst hQ
                    refine wp_cond_false rfl ?_
                    refine wp_skip ?_
                    refine wp_seq ?_
                    refine wq fun Q hQ => ?_
                    refine sm (.int .i64 x) 37 rfl rfl rfl rfl ?_
                    simp only [zp]
                    refine sv (.pointer (some ⟨b2, 2, none⟩)) 38 rfl rfl (ex_fa (p := (.pointer (some ⟨b2, 0, none⟩))) rfl rfl (fa28_2 _ _)) ?_
                    simp only [zp]
                    refine sv (.int .i64 v.ex) 39 rfl rfl (ex_load (p := (.pointer (some ⟨b2, 2, none⟩))) rfl rfl (ld3 (at_cell k2 hH.c2))) ?_
                    simp only [zp]
                    refine sv (.bool false) 40 rfl rfl (ex_bin (u := (.int .i64 x)) (r := (.int .i64 v.ex)) rfl rfl rfl (eg3 _ _ _ _ _ _) (lss3 _ (decide_eq_false (by omega)))) ?_
                    simp only [zp]
                    refine st_end ?_
                    subst hQ
                    refine wp_cond_false rfl ?_
                    refine wp_skip ?_
                    refine wp_seq ?_
                    refine wq fun Q hQ => ?_
                    refine sm (.int .i64 a) 41 rfl rfl rfl rfl ?_
                    simp only [zp]
                    refine sv (.pointer (some ⟨b2, 1, none⟩)) 42 rfl rfl (ex_fa (p := (.pointer (some ⟨b2, 0, none⟩))) rfl rfl (fa28_1 _ _)) ?_
                    simp only [zp]
                    refine sv (.int .i64 v.am) 43 rfl rfl (ex_load (p := (.pointer (some ⟨b2, 1, none⟩))) rfl rfl (ld3 (at_cell k2 hH.c1))) ?_
                    simp only [zp]
                    refine sv (.bool false) 44 rfl rfl (ex_bin (u := (.int .i64 a)) (r := (.int .i64 v.am)) rfl rfl rfl (eg3 _ _ _ _ _ _) (lss3 _ (decide_eq_false (by omega)))) ?_
                    simp only [zp]
                    refine sm (.bool false) 45 rfl rfl rfl rfl ?_
                    simp only [zp]
                    refine sv (.pointer (some ⟨b2, 1, none⟩)) 46 rfl rfl (ex_fa (p := (.pointer (some ⟨b2, 0, none⟩))) rfl rfl (fa28_1 _ _)) ?_
                    simp only [zp]
                    refine sv (.int .i64 v.am) 47 rfl rfl (ex_load (p := (.pointer (some ⟨b2, 1, none⟩))) rfl rfl (ld3 (at_cell k2 hH.c1))) ?_
                    simp only [zp]
                    refine sv (.bool false) 48 rfl rfl (ex_bin (u := (.int .i64 v.am)) (r := (.int .i64 1)) rfl rfl rfl (eg3 _ _ _ _ _ _) (lss3 _ (decide_eq_false (by omega)))) ?_
                    simp only [zp]
                    refine sv (.bool false) 49 rfl rfl (ex_pkF rfl rfl rfl) ?_
                    simp only [zp]
                    refine sm (.bool false) 50 rfl rfl rfl rfl ?_
                    simp only [zp]
                    refine sv (.pointer (some ⟨b2, 35, none⟩)) 51 rfl rfl (ex_fa (p := (.pointer (some ⟨b2, 0, none⟩))) rfl rfl (fa28_4 _ _)) ?_
                    simp only [zp]
                    refine sv (.int .i64 v.tot) 52 rfl rfl (ex_load (p := (.pointer (some ⟨b2, 35, none⟩))) rfl rfl (ld3 (at_cell k2 hH.c35))) ?_
                    simp only [zp]
                    refine sv (.pointer (some ⟨b2, 1, none⟩)) 53 rfl rfl (ex_fa (p := (.pointer (some ⟨b2, 0, none⟩))) rfl rfl (fa28_1 _ _)) ?_
                    simp only [zp]
                    refine sv (.int .i64 v.am) 54 rfl rfl (ex_load (p := (.pointer (some ⟨b2, 1, none⟩))) rfl rfl (ld3 (at_cell k2 hH.c1))) ?_
                    simp only [zp]
                    refine sv (.bool true) 55 rfl rfl (ex_bin (u := (.int .i64 v.tot)) (r := (.int .i64 v.am)) rfl rfl rfl (eg3 _ _ _ _ _ _) (lss3 _ (decide_eq_true (by omega)))) ?_
                    simp only [zp]
                    refine sv (.bool true) 56 rfl rfl (ex_pkF rfl rfl rfl) ?_
                    simp only [zp]
                    refine st_end ?_
                    subst hQ
                    refine wp_cond_true rfl ?_
                    refine wq fun Q hQ => ?_
                    refine sg (.int .i64 8) 10 rfl rfl rfl rfl ?_
                    simp only [zp]
                    refine st_end ?_
                    subst hQ
                    refine wp_ret ?_
                    repeat (first | refine ret_out ?_ | refine ret_blk ?_)
                    refine bodyPost_ret (results_tmp Try.results16 _ _ _) rfl ⟨?_, E⟩
                    show Ending.returned (.int .i64 8) = _
                    simp [finN, e0, e1, e2, e3, e4, e5, e6, e7, e8]
                  · skip
                    have E : Below w.heap.size w w := Below.refl _ _
                    go_enter Try.func16, Try.ntmps16
                    refine wq fun Q hQ => ?_
                    refine st_new (fun b => .pointer (some ⟨b, 0, none⟩)) (some 5) rfl rfl (ex_box rfl rfl) ?_
                    intro b1 W1 k1 g1 B
                    simp only [zp]
                    have ge_b1 := Nat.le_trans E.size g1
                    replace E := below_next E B
                    clear B
                    refine st_new (fun b => .pointer (some ⟨b, 0, none⟩)) (some 6) rfl rfl (ex_box rfl rfl) ?_
                    intro b2 W2 k2 g2 B
                    simp only [zp]
                    have ne_b2_b1 : b2 ≠ b1 := fun e => by have := lt_of k1; omega
                    have ge_b2 := Nat.le_trans E.size g2
                    replace E := below_next E B
                    replace k1 := keep B k1
                    clear B
                    refine sg (.int .i64 0) 10 rfl rfl rfl rfl ?_
                    simp only [zp]
                    refine st_end ?_
                    subst hQ
                    refine wp_seq ?_
                    refine wq fun Q hQ => ?_
                    refine sv (.agg (RL q)) 11 rfl rfl (ex_load (p := (.pointer (some ⟨b1, 0, none⟩))) rfl rfl (ld_all k1 Try.underlying25 rfl inf25)) ?_
                    simp only [zp]
                    refine sm (.int .i64 a) 12 rfl rfl rfl rfl ?_
                    simp only [zp]
                    refine sm (.int .i64 x) 13 rfl rfl rfl rfl ?_
                    simp only [zp]
                    refine sm (.int .i64 h) 14 rfl rfl rfl rfl ?_
                    simp only [zp]
                    refine st_call (some 15) rfl rfl (rright_any W2 e0) (ex_call (f := 35) (vs := [(.agg (RL q)), (.int .i64 a), (.int .i64 x), (.int .i64 h)]) rfl (cf35 _) rfl) ?_
                    rintro e W3 ⟨rfl, B⟩
                    refine ⟨_, rfl, ?_⟩
                    simp only [zp]
                    replace E := below_next E B
                    replace k1 := keep B k1
                    replace k2 := keep B k2
                    refine sv (.bool false) 16 rfl rfl (ex_not rfl rfl rfl) ?_
                    simp only [zp]
                    refine sm (.bool false) 17 rfl rfl rfl rfl ?_
                    simp only [zp]
                    refine sv (.pointer (some ⟨b2, 0, none⟩)) 18 rfl rfl (ex_fa (p := (.pointer (some ⟨b2, 0, none⟩))) rfl rfl (fa28_0 _ _)) ?_
                    simp only [zp]
                    refine sv (.int .i64 v.ch) 19 rfl rfl (ex_load (p := (.pointer (some ⟨b2, 0, none⟩))) rfl rfl (ld3 (at_cell k2 hH.c0))) ?_
                    simp only [zp]
                    refine sv (.bool false) 20 rfl rfl (ex_bin (u := (.int .i64 v.ch)) (r := (.int .i64 0)) rfl rfl rfl (eg3 _ _ _ _ _ _) (neq3 _ (decide_eq_false (by omega)))) ?_
                    simp only [zp]
                    refine sv (.bool false) 21 rfl rfl (ex_pkF rfl rfl rfl) ?_
                    simp only [zp]
                    refine st_end ?_
                    subst hQ
                    refine wp_cond_false rfl ?_
                    refine wp_skip ?_
                    refine wp_seq ?_
                    refine wq fun Q hQ => ?_
                    refine sm (.int .i64 x) 22 rfl rfl rfl rfl ?_
                    simp only [zp]
                    refine sm (.int .i64 h) 23 rfl rfl rfl rfl ?_
                    simp only [zp]
                    refine sv (.bool false) 24 rfl rfl (ex_bin (u := (.int .i64 x)) (r := (.int .i64 h)) rfl rfl rfl (eg3 _ _ _ _ _ _) (gtr3 _ (decide_eq_false (by omega)))) ?_
                    simp only [zp]
                    refine sm (.bool false) 25 rfl rfl rfl rfl ?_
                    simp only [zp]
                    refine sn 26 rfl rfl ?_
                    simp only [zp]
                    refine sn 27 rfl rfl ?_
                    simp only [zp]
                    refine sn 28 rfl rfl ?_
                    simp only [zp]
                    refine sn 29 rfl rfl ?_
                    simp only [zp]
                    refine sn 30 rfl rfl ?_
                    simp only [zp]
                    refine sn 31 rfl rfl ?_
                    simp only [zp]
                    refine sv (.bool false) 32 rfl rfl (ex_pkF rfl rfl rfl) ?_
                    simp only [zp]
                    refine st_end ?_
                    subst hQ
                    refine wp_cond_false rfl ?_
                    refine wp_skip ?_
                    refine wp_seq ?_
                    refine wq fun Q hQ => ?_
                    refine sv (.agg (RL q)) 33 rfl rfl (ex_load (p := (.pointer (some ⟨b1, 0, none⟩))) rfl rfl (ld_all k1 Try.underlying25 rfl inf25)) ?_
                    simp only [zp]
                    refine sm (.int .i64 x) 34 rfl rfl rfl rfl ?_
                    simp only [zp]
                    refine sm (.int .i64 h) 35 rfl rfl rfl rfl ?_
                    simp only [zp]
                    refine st_call (some 36) rfl rfl (rsoon_any W3 h0 h1 MR.2.2.2.1 MR.2.2.2.2.1 (by omega) (decide_eq_false (by omega))) (ex_call (f := 36) (vs := [(.agg (RL q)), (.int .i64 x), (.int .i64 h)]) rfl (cf36 _) rfl) ?_
                    rintro e W4 ⟨rfl, B⟩
                    refine ⟨_, rfl, ?_⟩
                    simp only [zp]
                    replace E := below_next E B
                    replace k1 := keep B k1
                    replace k2 := keep B k2
                    refine st_end ?_
                    subst hQ
                    refine wp_cond_false rfl ?_
                    refine wp_skip ?_
                    refine wp_seq ?_
                    refine wq fun Q hQ => ?_
                    refine sm (.int .i64 x) 37 rfl rfl rfl rfl ?_
                    simp only [zp]
                    refine sv (.pointer (some ⟨b2, 2, none⟩)) 38 rfl rfl (ex_fa (p := (.pointer (some ⟨b2, 0, none⟩))) rfl rfl (fa28_2 _ _)) ?_
                    simp only [zp]
                    refine sv (.int .i64 v.ex) 39 rfl rfl (ex_load (p := (.pointer (some ⟨b2, 2, none⟩))) rfl rfl (ld3 (at_cell k2 hH.c2))) ?_
                    simp only [zp]
                    refine sv (.bool false) 40 rfl rfl (ex_bin (u := (.int .i64 x)) (r := (.int .i64 v.ex)) rfl rfl rfl (eg3 _ _ _ _ _ _) (lss3 _ (decide_eq_false (by omega)))) ?_
                    simp only [zp]
                    refine st_end ?_
                    subst hQ
                    refine wp_cond_false rfl ?_
                    refine wp_skip ?_
                    refine wp_seq ?_
                    refine wq fun Q hQ => ?_
                    refine sm (.int .i64 a) 41 rfl rfl rfl rfl ?_
                    simp only [zp]
                    refine sv (.pointer (some ⟨b2, 1, none⟩)) 42 rfl rfl (ex_fa (p := (.pointer (some ⟨b2, 0, none⟩))) rfl rfl (fa28_1 _ _)) ?_
                    simp only [zp]
                    refine sv (.int .i64 v.am) 43 rfl rfl (ex_load (p := (.pointer (some ⟨b2, 1, none⟩))) rfl rfl (ld3 (at_cell k2 hH.c1))) ?_
                    simp only [zp]
                    refine sv (.bool false) 44 rfl rfl (ex_bin (u := (.int .i64 a)) (r := (.int .i64 v.am)) rfl rfl rfl (eg3 _ _ _ _ _ _) (lss3 _ (decide_eq_false (by omega)))) ?_
                    simp only [zp]
                    refine sm (.bool false) 45 rfl rfl rfl rfl ?_
                    simp only [zp]
                    refine sv (.pointer (some ⟨b2, 1, none⟩)) 46 rfl rfl (ex_fa (p := (.pointer (some ⟨b2, 0, none⟩))) rfl rfl (fa28_1 _ _)) ?_
                    simp only [zp]
                    refine sv (.int .i64 v.am) 47 rfl rfl (ex_load (p := (.pointer (some ⟨b2, 1, none⟩))) rfl rfl (ld3 (at_cell k2 hH.c1))) ?_
                    simp only [zp]
                    refine sv (.bool false) 48 rfl rfl (ex_bin (u := (.int .i64 v.am)) (r := (.int .i64 1)) rfl rfl rfl (eg3 _ _ _ _ _ _) (lss3 _ (decide_eq_false (by omega)))) ?_
                    simp only [zp]
                    refine sv (.bool false) 49 rfl rfl (ex_pkF rfl rfl rfl) ?_
                    simp only [zp]
                    refine sm (.bool false) 50 rfl rfl rfl rfl ?_
                    simp only [zp]
                    refine sv (.pointer (some ⟨b2, 35, none⟩)) 51 rfl rfl (ex_fa (p := (.pointer (some ⟨b2, 0, none⟩))) rfl rfl (fa28_4 _ _)) ?_
                    simp only [zp]
                    refine sv (.int .i64 v.tot) 52 rfl rfl (ex_load (p := (.pointer (some ⟨b2, 35, none⟩))) rfl rfl (ld3 (at_cell k2 hH.c35))) ?_
                    simp only [zp]
                    refine sv (.pointer (some ⟨b2, 1, none⟩)) 53 rfl rfl (ex_fa (p := (.pointer (some ⟨b2, 0, none⟩))) rfl rfl (fa28_1 _ _)) ?_
                    simp only [zp]
                    refine sv (.int .i64 v.am) 54 rfl rfl (ex_load (p := (.pointer (some ⟨b2, 1, none⟩))) rfl rfl (ld3 (at_cell k2 hH.c1))) ?_
                    simp only [zp]
                    refine sv (.bool false) 55 rfl rfl (ex_bin (u := (.int .i64 v.tot)) (r := (.int .i64 v.am)) rfl rfl rfl (eg3 _ _ _ _ _ _) (lss3 _ (decide_eq_false (by omega)))) ?_
                    simp only [zp]
                    refine sv (.bool false) 56 rfl rfl (ex_pkF rfl rfl rfl) ?_
                    simp only [zp]
                    refine st_end ?_
                    subst hQ
                    refine wp_cond_false rfl ?_
                    refine wp_skip ?_
                    refine wq fun Q hQ => ?_
                    refine sg (.int .i64 0) 10 rfl rfl rfl rfl ?_
                    simp only [zp]
                    refine st_end ?_
                    subst hQ
                    refine wp_ret ?_
                    repeat (first | refine ret_out ?_ | refine ret_blk ?_)
                    refine bodyPost_ret (results_tmp Try.results16 _ _ _) rfl ⟨?_, E⟩
                    show Ending.returned (.int .i64 0) = _
                    simp [finN, e0, e1, e2, e3, e4, e5, e6, e7, e8]
    · skip
      have E : Below w.heap.size w w := Below.refl _ _
      go_enter Try.func16, Try.ntmps16
      refine wq fun Q hQ => ?_
      refine st_new (fun b => .pointer (some ⟨b, 0, none⟩)) (some 5) rfl rfl (ex_box rfl rfl) ?_
      intro b1 W1 k1 g1 B
      simp only [zp]
      have ge_b1 := Nat.le_trans E.size g1
      replace E := below_next E B
      clear B
      refine st_new (fun b => .pointer (some ⟨b, 0, none⟩)) (some 6) rfl rfl (ex_box rfl rfl) ?_
      intro b2 W2 k2 g2 B
      simp only [zp]
      have ne_b2_b1 : b2 ≠ b1 := fun e => by have := lt_of k1; omega
      have ge_b2 := Nat.le_trans E.size g2
      replace E := below_next E B
      replace k1 := keep B k1
      clear B
      refine sg (.int .i64 0) 10 rfl rfl rfl rfl ?_
      simp only [zp]
      refine st_end ?_
      subst hQ
      refine wp_seq ?_
      refine wq fun Q hQ => ?_
      refine sv (.agg (RL q)) 11 rfl rfl (ex_load (p := (.pointer (some ⟨b1, 0, none⟩))) rfl rfl (ld_all k1 Try.underlying25 rfl inf25)) ?_
      simp only [zp]
      refine sm (.int .i64 a) 12 rfl rfl rfl rfl ?_
      simp only [zp]
      refine sm (.int .i64 x) 13 rfl rfl rfl rfl ?_
      simp only [zp]
      refine sm (.int .i64 h) 14 rfl rfl rfl rfl ?_
      simp only [zp]
      refine st_call (some 15) rfl rfl (rright_any W2 e0) (ex_call (f := 35) (vs := [(.agg (RL q)), (.int .i64 a), (.int .i64 x), (.int .i64 h)]) rfl (cf35 _) rfl) ?_
      rintro e W3 ⟨rfl, B⟩
      refine ⟨_, rfl, ?_⟩
      simp only [zp]
      replace E := below_next E B
      replace k1 := keep B k1
      replace k2 := keep B k2
      refine sv (.bool false) 16 rfl rfl (ex_not rfl rfl rfl) ?_
      simp only [zp]
      refine sm (.bool false) 17 rfl rfl rfl rfl ?_
      simp only [zp]
      refine sv (.pointer (some ⟨b2, 0, none⟩)) 18 rfl rfl (ex_fa (p := (.pointer (some ⟨b2, 0, none⟩))) rfl rfl (fa28_0 _ _)) ?_
      simp only [zp]
      refine sv (.int .i64 v.ch) 19 rfl rfl (ex_load (p := (.pointer (some ⟨b2, 0, none⟩))) rfl rfl (ld3 (at_cell k2 hH.c0))) ?_
      simp only [zp]
      refine sv (.bool true) 20 rfl rfl (ex_bin (u := (.int .i64 v.ch)) (r := (.int .i64 0)) rfl rfl rfl (eg3 _ _ _ _ _ _) (neq3 _ (decide_eq_true (by omega)))) ?_
      simp only [zp]
      refine sv (.bool true) 21 rfl rfl (ex_pkF rfl rfl rfl) ?_
      simp only [zp]
      refine st_end ?_
      subst hQ
      refine wp_cond_true rfl ?_
      refine wq fun Q hQ => ?_
      refine sg (.int .i64 1) 10 rfl rfl rfl rfl ?_
      simp only [zp]
      refine st_end ?_
      subst hQ
      refine wp_ret ?_
      repeat (first | refine ret_out ?_ | refine ret_blk ?_)
      refine bodyPost_ret (results_tmp Try.results16 _ _ _) rfl ⟨?_, E⟩
      show Ending.returned (.int .i64 1) = _
      simp [finN, e0, e1]
/-- how many blocks rules need in all -/
def marN (q : RV) : Int := if mayR q then q.d + q.g else 0
set_option maxHeartbeats 2000000 in
theorem mar_any {q : RV} (w : World) (hb : q.b ≤ 9223372036854775807) {c : Int} (hc : marN q = c) :
    Calls Try.prog 13 #[.agg (RL q)] w fun e w' => e = .returned (.int .i64 c) ∧ Below w.heap.size w w' := by
  subst hc
  by_cases e0 : mayR q = true
  · skip
    have MD := (mayR_of e0).2
    have E : Below w.heap.size w w := Below.refl _ _
    go_enter Try.func13, Try.ntmps13
    refine wq fun Q hQ => ?_
    refine st_new (fun b => .pointer (some ⟨b, 0, none⟩)) (some 1) rfl rfl (ex_box rfl rfl) ?_
    intro b1 W1 k1 g1 B
    simp only [zp]
    have ge_b1 := Nat.le_trans E.size g1
    replace E := below_next E B
    clear B
    refine sg (.int .i64 0) 2 rfl rfl rfl rfl ?_
    simp only [zp]
    refine st_end ?_
    subst hQ
    refine wp_seq ?_
    refine wq fun Q hQ => ?_
    refine sv (.agg (RL q)) 3 rfl rfl (ex_load (p := (.pointer (some ⟨b1, 0, none⟩))) rfl rfl (ld_all k1 Try.underlying25 rfl inf25)) ?_
    simp only [zp]
    refine st_call (some 4) rfl rfl (may_any W1 hb e0) (ex_call (f := 9) (vs := [(.agg (RL q))]) rfl (cf9 _) rfl) ?_
    rintro e W2 ⟨rfl, B⟩
    refine ⟨_, rfl, ?_⟩
    simp only [zp]
    replace E := below_next E B
    replace k1 := keep B k1
    refine sv (.bool false) 5 rfl rfl (ex_not rfl rfl rfl) ?_
    simp only [zp]
    refine st_end ?_
    subst hQ
    refine wp_cond_false rfl ?_
    refine wp_skip ?_
    refine wq fun Q hQ => ?_
    refine sv (.pointer (some ⟨b1, 2, none⟩)) 6 rfl rfl (ex_fa (p := (.pointer (some ⟨b1, 0, none⟩))) rfl rfl (fa25_1 _ _)) ?_
    simp only [zp]
    refine sv (.int .i64 q.d) 7 rfl rfl (ex_load (p := (.pointer (some ⟨b1, 2, none⟩))) rfl rfl (ld3 (at_cell k1 rfl))) ?_
    simp only [zp]
    refine sv (.pointer (some ⟨b1, 3, none⟩)) 8 rfl rfl (ex_fa (p := (.pointer (some ⟨b1, 0, none⟩))) rfl rfl (fa25_2 _ _)) ?_
    simp only [zp]
    refine sv (.int .i64 q.g) 9 rfl rfl (ex_load (p := (.pointer (some ⟨b1, 3, none⟩))) rfl rfl (ld3 (at_cell k1 rfl))) ?_
    simp only [zp]
    refine sv (.int .i64 (q.d + q.g)) 10 rfl rfl (ex_bin (u := (.int .i64 q.d)) (r := (.int .i64 q.g)) rfl rfl rfl (eg3 _ _ _ _ _ _) (add3 _ rfl (by omega))) ?_
    simp only [zp]
    refine sg (.int .i64 (q.d + q.g)) 2 rfl rfl rfl rfl ?_
    simp only [zp]
    refine st_end ?_
    subst hQ
    refine wp_ret ?_
    repeat (first | refine ret_out ?_ | refine ret_blk ?_)
    refine bodyPost_ret (results_tmp Try.results13 _ _ _) rfl ⟨?_, E⟩
    show Ending.returned (.int .i64 (q.d + q.g)) = _
    simp [marN, e0]
  · skip
    replace e0 := Bool.eq_false_iff.2 e0
    have E : Below w.heap.size w w := Below.refl _ _
    go_enter Try.func13, Try.ntmps13
    refine wq fun Q hQ => ?_
    refine st_new (fun b => .pointer (some ⟨b, 0, none⟩)) (some 1) rfl rfl (ex_box rfl rfl) ?_
    intro b1 W1 k1 g1 B
    simp only [zp]
    have ge_b1 := Nat.le_trans E.size g1
    replace E := below_next E B
    clear B
    refine sg (.int .i64 0) 2 rfl rfl rfl rfl ?_
    simp only [zp]
    refine st_end ?_
    subst hQ
    refine wp_seq ?_
    refine wq fun Q hQ => ?_
    refine sv (.agg (RL q)) 3 rfl rfl (ex_load (p := (.pointer (some ⟨b1, 0, none⟩))) rfl rfl (ld_all k1 Try.underlying25 rfl inf25)) ?_
    simp only [zp]
    refine st_call (some 4) rfl rfl (may_any W1 hb e0) (ex_call (f := 9) (vs := [(.agg (RL q))]) rfl (cf9 _) rfl) ?_
    rintro e W2 ⟨rfl, B⟩
    refine ⟨_, rfl, ?_⟩
    simp only [zp]
    replace E := below_next E B
    replace k1 := keep B k1
    refine sv (.bool true) 5 rfl rfl (ex_not rfl rfl rfl) ?_
    simp only [zp]
    refine st_end ?_
    subst hQ
    refine wp_cond_true rfl ?_
    refine wq fun Q hQ => ?_
    refine sg (.int .i64 0) 2 rfl rfl rfl rfl ?_
    simp only [zp]
    refine st_end ?_
    subst hQ
    refine wp_ret ?_
    repeat (first | refine ret_out ?_ | refine ret_blk ?_)
    refine bodyPost_ret (results_tmp Try.results13 _ _ _) rfl ⟨?_, E⟩
    show Ending.returned (.int .i64 0) = _
    simp [marN, e0]
set_option maxHeartbeats 2000000 in
theorem rmar_any {q : RV} (w : World) {c : Int} (hc : marN q = c) :
    Calls Try.prog 14 #[.agg (RL q)] w fun e w' => e = .returned (.int .i64 c) ∧ Below w.heap.size w w' := by
  subst hc
  by_cases e0 : mayR q = true
  · skip
    have MD := (mayR_of e0).2
    have E : Below w.heap.size w w := Below.refl _ _
    go_enter Try.func14, Try.ntmps14
    refine wq fun Q hQ => ?_
    refine st_new (fun b => .pointer (some ⟨b, 0, none⟩)) (some 1) rfl rfl (ex_box rfl rfl) ?_
    intro b1 W1 k1 g1 B
    simp only [zp]
    have ge_b1 := Nat.le_trans E.size g1
    replace E := below_next E B
    clear B
    refine sg (.int .i64 0) 2 rfl rfl rfl rfl ?_
    simp only [zp]
    refine st_end ?_
    subst hQ
    refine wp_seq ?_
    refine wq fun Q hQ => ?_
    refine sv (.agg (RL q)) 3 rfl rfl (ex_load (p := (.pointer (some ⟨b1, 0, none⟩))) rfl rfl (ld_all k1 Try.underlying25 rfl inf25)) ?_
    simp only [zp]
    refine st_call (some 4) rfl rfl (rmay_any W1 e0) (ex_call (f := 10) (vs := [(.agg (RL q))]) rfl (cf10 _) rfl) ?_
    rintro e W2 ⟨rfl, B⟩
    refine ⟨_, rfl, ?_⟩
    simp only [zp]
    replace E := below_next E B
    replace k1 := keep B k1
    refine sv (.bool false) 5 rfl rfl (ex_not rfl rfl rfl) ?_
    simp only [zp]
    refine st_end ?_
    subst hQ
    refine wp_cond_false rfl ?_
    refine wp_skip ?_
    refine wq fun Q hQ => ?_
    refine sv (.pointer (some ⟨b1, 2, none⟩)) 6 rfl rfl (ex_fa (p := (.pointer (some ⟨b1, 0, none⟩))) rfl rfl (fa25_1 _ _)) ?_
    simp only [zp]
    refine sv (.int .i64 q.d) 7 rfl rfl (ex_load (p := (.pointer (some ⟨b1, 2, none⟩))) rfl rfl (ld3 (at_cell k1 rfl))) ?_
    simp only [zp]
    refine sv (.pointer (some ⟨b1, 3, none⟩)) 8 rfl rfl (ex_fa (p := (.pointer (some ⟨b1, 0, none⟩))) rfl rfl (fa25_2 _ _)) ?_
    simp only [zp]
    refine sv (.int .i64 q.g) 9 rfl rfl (ex_load (p := (.pointer (some ⟨b1, 3, none⟩))) rfl rfl (ld3 (at_cell k1 rfl))) ?_
    simp only [zp]
    refine sv (.int .i64 (q.d + q.g)) 10 rfl rfl (ex_bin (u := (.int .i64 q.d)) (r := (.int .i64 q.g)) rfl rfl rfl (eg3 _ _ _ _ _ _) (add3 _ rfl (by omega))) ?_
    simp only [zp]
    refine sg (.int .i64 (q.d + q.g)) 2 rfl rfl rfl rfl ?_
    simp only [zp]
    refine st_end ?_
    subst hQ
    refine wp_ret ?_
    repeat (first | refine ret_out ?_ | refine ret_blk ?_)
    refine bodyPost_ret (results_tmp Try.results14 _ _ _) rfl ⟨?_, E⟩
    show Ending.returned (.int .i64 (q.d + q.g)) = _
    simp [marN, e0]
  · skip
    replace e0 := Bool.eq_false_iff.2 e0
    have E : Below w.heap.size w w := Below.refl _ _
    go_enter Try.func14, Try.ntmps14
    refine wq fun Q hQ => ?_
    refine st_new (fun b => .pointer (some ⟨b, 0, none⟩)) (some 1) rfl rfl (ex_box rfl rfl) ?_
    intro b1 W1 k1 g1 B
    simp only [zp]
    have ge_b1 := Nat.le_trans E.size g1
    replace E := below_next E B
    clear B
    refine sg (.int .i64 0) 2 rfl rfl rfl rfl ?_
    simp only [zp]
    refine st_end ?_
    subst hQ
    refine wp_seq ?_
    refine wq fun Q hQ => ?_
    refine sv (.agg (RL q)) 3 rfl rfl (ex_load (p := (.pointer (some ⟨b1, 0, none⟩))) rfl rfl (ld_all k1 Try.underlying25 rfl inf25)) ?_
    simp only [zp]
    refine st_call (some 4) rfl rfl (rmay_any W1 e0) (ex_call (f := 10) (vs := [(.agg (RL q))]) rfl (cf10 _) rfl) ?_
    rintro e W2 ⟨rfl, B⟩
    refine ⟨_, rfl, ?_⟩
    simp only [zp]
    replace E := below_next E B
    replace k1 := keep B k1
    refine sv (.bool true) 5 rfl rfl (ex_not rfl rfl rfl) ?_
    simp only [zp]
    refine st_end ?_
    subst hQ
    refine wp_cond_true rfl ?_
    refine wq fun Q hQ => ?_
    refine sg (.int .i64 0) 2 rfl rfl rfl rfl ?_
    simp only [zp]
    refine st_end ?_
    subst hQ
    refine wp_ret ?_
    repeat (first | refine ret_out ?_ | refine ret_blk ?_)
    refine bodyPost_ret (results_tmp Try.results14 _ _ _) rfl ⟨?_, E⟩
    show Ending.returned (.int .i64 0) = _
    simp [marN, e0]
/-- may another part be tried? -/
def retB (n : Int) : Bool := decide (n = 2 ∨ n = 3 ∨ n = 4 ∨ n = 5 ∨ n = 9)
set_option maxHeartbeats 2000000 in
theorem ret_any (n : Int) (w : World) {c : Bool} (hc : retB n = c) :
    Calls Try.prog 17 #[.int .i64 n] w fun e w' => e = .returned (.bool c) ∧ Below w.heap.size w w' := by
  subst hc
  unfold retB
  by_cases e0 : n = 2
  · skip
    have E : Below w.heap.size w w := Below.refl _ _
    go_enter Try.func17, Try.ntmps17
    refine wq fun Q hQ => ?_
    refine sg (.bool false) 2 rfl rfl rfl rfl ?_
    simp only [zp]
    refine st_end ?_
    subst hQ
    refine wp_seq ?_
    refine wq fun Q hQ => ?_
    refine sm (.int .i64 n) 3 rfl rfl rfl rfl ?_
    simp only [zp]
    refine st_end ?_
    subst hQ
    refine wp_block ?_
    refine wp_seq ?_
    refine wq fun Q hQ => ?_
    refine sv (.bool true) 5 rfl rfl (ex_bin (u := (.int .i64 n)) (r := (.int .i64 2)) rfl rfl rfl (eg3 _ _ _ _ _ _) (eql3 _ (decide_eq_true (by omega)))) ?_
    simp only [zp]
    refine sg (.bool true) 4 rfl rfl rfl rfl ?_
    simp only [zp]
    refine st_end ?_
    subst hQ
    refine wp_cond_true rfl ?_
    refine wp_skip ?_
    refine wp_cond_true rfl ?_
    refine wq fun Q hQ => ?_
    refine sg (.bool true) 2 rfl rfl rfl rfl ?_
    simp only [zp]
    refine st_end ?_
    subst hQ
    refine wp_ret ?_
    repeat (first | refine ret_out ?_ | refine ret_blk ?_)
    refine bodyPost_ret (results_tmp Try.results17 _ _ _) rfl ⟨?_, E⟩
    show Ending.returned (.bool true) = _
    rw [decide_eq_true (show (n = 2 ∨ n = 3 ∨ n = 4 ∨ n = 5 ∨ n = 9) by omega)]
  · skip
    by_cases e1 : n = 3
    · skip
      have E : Below w.heap.size w w := Below.refl _ _
      go_enter Try.func17, Try.ntmps17
      refine wq fun Q hQ => ?_
      refine sg (.bool false) 2 rfl rfl rfl rfl ?_
      simp only [zp]
      refine st_end ?_
      subst hQ
      refine wp_seq ?_
      refine wq fun Q hQ => ?_
      refine sm (.int .i64 n) 3 rfl rfl rfl rfl ?_
      simp only [zp]
      refine st_end ?_
      subst hQ
      refine wp_block ?_
      refine wp_seq ?_
      refine wq fun Q hQ => ?_
      refine sv (.bool false) 5 rfl rfl (ex_bin (u := (.int .i64 n)) (r := (.int .i64 2)) rfl rfl rfl (eg3 _ _ _ _ _ _) (eql3 _ (decide_eq_false (by omega)))) ?_
      simp only [zp]
      refine sg (.bool false) 4 rfl rfl rfl rfl ?_
      simp only [zp]
      refine st_end ?_
      subst hQ
      refine wp_cond_false rfl ?_
      refine wq fun Q hQ => ?_
      refine sv (.bool true) 6 rfl rfl (ex_bin (u := (.int .i64 n)) (r := (.int .i64 3)) rfl rfl rfl (eg3 _ _ _ _ _ _) (eql3 _ (decide_eq_true (by omega)))) ?_
      simp only [zp]
      refine sg (.bool true) 4 rfl rfl rfl rfl ?_
      simp only [zp]
      refine st_end ?_
      subst hQ
      refine wp_cond_true rfl ?_
      refine wp_skip ?_
      refine wp_cond_true rfl ?_
      refine wq fun Q hQ => ?_
      refine sg (.bool true) 2 rfl rfl rfl rfl ?_
      simp only [zp]
      refine st_end ?_
      subst hQ
      refine wp_ret ?_
      repeat (first | refine ret_out ?_ | refine ret_blk ?_)
      refine bodyPost_ret (results_tmp Try.results17 _ _ _) rfl ⟨?_, E⟩
      show Ending.returned (.bool true) = _
      rw [decide_eq_true (show (n = 2 ∨ n = 3 ∨ n = 4 ∨ n = 5 ∨ n = 9) by omega)]
    · skip
      by_cases e2 : n = 4
      · skip
        have E : Below w.heap.size w w := Below.refl _ _
        go_enter Try.func17, Try.ntmps17
        refine wq fun Q hQ => ?_
        refine sg (.bool false) 2 rfl rfl rfl rfl ?_
        simp only [zp]
        refine st_end ?_
        subst hQ
        refine wp_seq ?_
        refine wq fun Q hQ => ?_
        refine sm (.int .i64 n) 3 rfl rfl rfl rfl ?_
        simp only [zp]
        refine st_end ?_
        subst hQ
        refine wp_block ?_
        refine wp_seq ?_
        refine wq fun Q hQ => ?_
        refine sv (.bool false) 5 rfl rfl (ex_bin (u := (.int .i64 n)) (r := (.int .i64 2)) rfl rfl rfl (eg3 _ _ _ _ _ _) (eql3 _ (decide_eq_false (by omega)))) ?_
        simp only [zp]
        refine sg (.bool false) 4 rfl rfl rfl rfl ?_
        simp only [zp]
        refine st_end ?_
        subst hQ
        refine wp_cond_false rfl ?_
        refine wq fun Q hQ => ?_
        refine sv (.bool false) 6 rfl rfl (ex_bin (u := (.int .i64 n)) (r := (.int .i64 3)) rfl rfl rfl (eg3 _ _ _ _ _ _) (eql3 _ (decide_eq_false (by omega)))) ?_
        simp only [zp]
        refine sg (.bool false) 4 rfl rfl rfl rfl ?_
        simp only [zp]
        refine st_end ?_
        subst hQ
        refine wp_cond_false rfl ?_
        refine wq fun Q hQ => ?_
        refine sv (.bool true) 7 rfl rfl (ex_bin (u := (.int .i64 n)) (r := (.int .i64 4)) rfl rfl rfl (eg3 _ _ _ _ _ _) (eql3 _ (decide_eq_true (by omega)))) ?_
        simp only [zp]
        refine sg (.bool true) 4 rfl rfl rfl rfl ?_
        simp only [zp]
        refine st_end ?_
        subst hQ
        refine wp_cond_true rfl ?_
        refine wp_skip ?_
        refine wp_cond_true rfl ?_
        refine wq fun Q hQ => ?_
        refine sg (.bool true) 2 rfl rfl rfl rfl ?_
        simp only [zp]
        refine st_end ?_
        subst hQ
        refine wp_ret ?_
        repeat (first | refine ret_out ?_ | refine ret_blk ?_)
        refine bodyPost_ret (results_tmp Try.results17 _ _ _) rfl ⟨?_, E⟩
        show Ending.returned (.bool true) = _
        rw [decide_eq_true (show (n = 2 ∨ n = 3 ∨ n = 4 ∨ n = 5 ∨ n = 9) by omega)]
      · skip
        by_cases e3 : n = 5
        · skip
          have E : Below w.heap.size w w := Below.refl _ _
          go_enter Try.func17, Try.ntmps17
          refine wq fun Q hQ => ?_
          refine sg (.bool false) 2 rfl rfl rfl rfl ?_
          simp only [zp]
          refine st_end ?_
          subst hQ
          refine wp_seq ?_
          refine wq fun Q hQ => ?_
          refine sm (.int .i64 n) 3 rfl rfl rfl rfl ?_
          simp only [zp]
          refine st_end ?_
          subst hQ
          refine wp_block ?_
          refine wp_seq ?_
          refine wq fun Q hQ => ?_
          refine sv (.bool false) 5 rfl rfl (ex_bin (u := (.int .i64 n)) (r := (.int .i64 2)) rfl rfl rfl (eg3 _ _ _ _ _ _) (eql3 _ (decide_eq_false (by omega)))) ?_
          simp only [zp]
          refine sg (.bool false) 4 rfl rfl rfl rfl ?_
          simp only [zp]
          refine st_end ?_
          subst hQ
          refine wp_cond_false rfl ?_
          refine wq fun Q hQ => ?_
          refine sv (.bool false) 6 rfl rfl (ex_bin (u := (.int .i64 n)) (r := (.int .i64 3)) rfl rfl rfl (eg3 _ _ _ _ _ _) (eql3 _ (decide_eq_false (by omega)))) ?_
          simp only [zp]
          refine sg (.bool false) 4 rfl rfl rfl rfl ?_
          simp only [zp]
          refine st_end ?_
          subst hQ
          refine wp_cond_false rfl ?_
          refine wq fun Q hQ => ?_
          refine sv (.bool false) 7 rfl rfl (ex_bin (u := (.int .i64 n)) (r := (.int .i64 4)) rfl rfl rfl (eg3 _ _ _ _ _ _) (eql3 _ (decide_eq_false (by omega)))) ?_
          simp only [zp]
          refine sg (.bool false) 4 rfl rfl rfl rfl ?_
          simp only [zp]
          refine st_end ?_
          subst hQ
          refine wp_cond_false rfl ?_
          refine wq fun Q hQ => ?_
          refine sv (.bool true) 8 rfl rfl (ex_bin (u := (.int .i64 n)) (r := (.int .i64 5)) rfl rfl rfl (eg3 _ _ _ _ _ _) (eql3 _ (decide_eq_true (by omega)))) ?_
          simp only [zp]
          refine sg (.bool true) 4 rfl rfl rfl rfl ?_
          simp only [zp]
          refine st_end ?_
          subst hQ
          refine wp_cond_true rfl ?_
          refine wp_skip ?_
          refine wp_cond_true rfl ?_
          refine wq fun Q hQ => ?_
          refine sg (.bool true) 2 rfl rfl rfl rfl ?_
          simp only [zp]
          refine st_end ?_
          subst hQ
          refine wp_ret ?_
          repeat (first | refine ret_out ?_ | refine ret_blk ?_)
          refine bodyPost_ret (results_tmp Try.results17 _ _ _) rfl ⟨?_, E⟩
          show Ending.returned (.bool true) = _
          rw [decide_eq_true (show (n = 2 ∨ n = 3 ∨ n = 4 ∨ n = 5 ∨ n = 9) by omega)]
        · skip
          by_cases e4 : n = 9
          · skip
            have E : Below w.heap.size w w := Below.refl _ _
            go_enter Try.func17, Try.ntmps17
            refine wq fun Q hQ => ?_
            refine sg (.bool false) 2 rfl rfl rfl rfl ?_
            simp only [zp]
            refine st_end ?_
            subst hQ
            refine wp_seq ?_
            refine wq fun Q hQ => ?_
            refine sm (.int .i64 n) 3 rfl rfl rfl rfl ?_
            simp only [zp]
            refine st_end ?_
            subst hQ
            refine wp_block ?_
            refine wp_seq ?_
            refine wq fun Q hQ => ?_
            refine sv (.bool false) 5 rfl rfl (ex_bin (u := (.int .i64 n)) (r := (.int .i64 2)) rfl rfl rfl (eg3 _ _ _ _ _ _) (eql3 _ (decide_eq_false (by omega)))) ?_
            simp only [zp]
            refine sg (.bool false) 4 rfl rfl rfl rfl ?_
            simp only [zp]
            refine st_end ?_
            subst hQ
            refine wp_cond_false rfl ?_
            refine wq fun Q hQ => ?_
            refine sv (.bool false) 6 rfl rfl (ex_bin (u := (.int .i64 n)) (r := (.int .i64 3)) rfl rfl rfl (eg3 _ _ _ _ _ _) (eql3 _ (decide_eq_false (by omega)))) ?_
            simp only [zp]
            refine sg (.bool false) 4 rfl rfl rfl rfl ?_
            simp only [zp]
            refine st_end ?_
            subst hQ
            refine wp_cond_false rfl ?_
            refine wq fun Q hQ => ?_
            refine sv (.bool false) 7 rfl rfl (ex_bin (u := (.int .i64 n)) (r := (.int .i64 4)) rfl rfl rfl (eg3 _ _ _ _ _ _) (eql3 _ (decide_eq_false (by omega)))) ?_
            simp only [zp]
            refine sg (.bool false) 4 rfl rfl rfl rfl ?_
            simp only [zp]
            refine st_end ?_
            subst hQ
            refine wp_cond_false rfl ?_
            refine wq fun Q hQ => ?_
            refine sv (.bool false) 8 rfl rfl (ex_bin (u := (.int .i64 n)) (r := (.int .i64 5)) rfl rfl rfl (eg3 _ _ _ _ _ _) (eql3 _ (decide_eq_false (by omega)))) ?_
            simp only [zp]
            refine sg (.bool false) 4 rfl rfl rfl rfl ?_
            simp only [zp]
            refine st_end ?_
            subst hQ
            refine wp_cond_false rfl ?_
            refine wl_in (wl_cap fun Q hQ => ?_)
            refine sv (.bool true) 9 rfl rfl (ex_bin (u := (.int .i64 n)) (r := (.int .i64 9)) rfl rfl rfl (eg3 _ _ _ _ _ _) (eql3 _ (decide_eq_true (by omega)))) ?_
            simp only [zp]
            refine sg (.bool true) 4 rfl rfl rfl rfl ?_
            simp only [zp]
            refine st_end ?_
            subst hQ
            refine wp_cond_true rfl ?_
            refine wq fun Q hQ => ?_
            refine sg (.bool true) 2 rfl rfl rfl rfl ?_
            simp only [zp]
            refine st_end ?_
            subst hQ
            refine wp_ret ?_
            repeat (first | refine ret_out ?_ | refine ret_blk ?_)
            refine bodyPost_ret (results_tmp Try.results17 _ _ _) rfl ⟨?_, E⟩
            show Ending.returned (.bool true) = _
            rw [decide_eq_true (show (n = 2 ∨ n = 3 ∨ n = 4 ∨ n = 5 ∨ n = 9) by omega)]
          · skip
            have E : Below w.heap.size w w := Below.refl _ _
            go_enter Try.func17, Try.ntmps17
            refine wq fun Q hQ => ?_
            refine sg (.bool false) 2 rfl rfl rfl rfl ?_
            simp only [zp]
            refine st_end ?_
            subst hQ
            refine wp_seq ?_
            refine wq fun Q hQ => ?_
            refine sm (.int .i64 n) 3 rfl rfl rfl rfl ?_
            simp only [zp]
            refine st_end ?_
            subst hQ
            refine wp_block ?_
            refine wp_seq ?_
            refine wq fun Q hQ => ?_
            refine sv (.bool false) 5 rfl rfl (ex_bin (u := (.int .i64 n)) (r := (.int .i64 2)) rfl rfl rfl (eg3 _ _ _ _ _ _) (eql3 _ (decide_eq_false (by omega)))) ?_
            simp only [zp]
            refine sg (.bool false) 4 rfl rfl rfl rfl ?_
            simp only [zp]
            refine st_end ?_
            subst hQ
            refine wp_cond_false rfl ?_
            refine wq fun Q hQ => ?_
            refine sv (.bool false) 6 rfl rfl (ex_bin (u := (.int .i64 n)) (r := (.int .i64 3)) rfl rfl rfl (eg3 _ _ _ _ _ _) (eql3 _ (decide_eq_false (by omega)))) ?_
            simp only [zp]
            refine sg (.bool false) 4 rfl rfl rfl rfl ?_
            simp only [zp]
            refine st_end ?_
            subst hQ
            refine wp_cond_false rfl ?_
            refine wq fun Q hQ => ?_
            refine sv (.bool false) 7 rfl rfl (ex_bin (u := (.int .i64 n)) (r := (.int .i64 4)) rfl rfl rfl (eg3 _ _ _ _ _ _) (eql3 _ (decide_eq_false (by omega)))) ?_
            simp only [zp]
            refine sg (.bool false) 4 rfl rfl rfl rfl ?_
            simp only [zp]
            refine st_end ?_
            subst hQ
            refine wp_cond_false rfl ?_
            refine wq fun Q hQ => ?_
            refine sv (.bool false) 8 rfl rfl (ex_bin (u := (.int .i64 n)) (r := (.int .i64 5)) rfl rfl rfl (eg3 _ _ _ _ _ _) (eql3 _ (decide_eq_false (by omega)))) ?_
            simp only [zp]
            refine sg (.bool false) 4 rfl rfl rfl rfl ?_
            simp only [zp]
            refine st_end ?_
            subst hQ
            refine wp_cond_false rfl ?_
            refine wl_in (wl_cap fun Q hQ => ?_)
            refine sv (.bool false) 9 rfl rfl (ex_bin (u := (.int .i64 n)) (r := (.int .i64 9)) rfl rfl rfl (eg3 _ _ _ _ _ _) (eql3 _ (decide_eq_false (by omega)))) ?_
            simp only [zp]
            refine sg (.bool false) 4 rfl rfl rfl rfl ?_
            simp only [zp]
            refine st_end ?_
            subst hQ
            refine wp_cond_false rfl ?_
            refine wp_skip ?_
            refine wq fun Q hQ => ?_
            refine sg (.bool false) 2 rfl rfl rfl rfl ?_
            simp only [zp]
            refine st_end ?_
            subst hQ
            refine wp_ret ?_
            repeat (first | refine ret_out ?_ | refine ret_blk ?_)
            refine bodyPost_ret (results_tmp Try.results17 _ _ _) rfl ⟨?_, E⟩
            show Ending.returned (.bool false) = _
            rw [decide_eq_false (show ¬ (n = 2 ∨ n = 3 ∨ n = 4 ∨ n = 5 ∨ n = 9) by omega)]
set_option maxHeartbeats 2000000 in
theorem rret_any (n : Int) (w : World) {c : Bool} (hc : retB n = c) :
    Calls Try.prog 18 #[.int .i64 n] w fun e w' => e = .returned (.bool c) ∧ Below w.heap.size w w' := by
  subst hc
  unfold retB
  by_cases e0 : n = 2
  · skip
    have E : Below w.heap.size w w := Below.refl _ _
    go_enter Try.func18, Try.ntmps18
    refine wq fun Q hQ => ?_
    refine sg (.bool false) 2 rfl rfl rfl rfl ?_
    simp only [zp]
    refine st_end ?_
    subst hQ
    refine wq fun Q hQ => ?_
    refine sm (.int .i64 n) 3 rfl rfl rfl rfl ?_
    simp only [zp]
    refine sv (.bool true) 4 rfl rfl (ex_bin (u := (.int .i64 n)) (r := (.int .i64 2)) rfl rfl rfl (eg3 _ _ _ _ _ _) (eql3 _ (decide_eq_true (by omega)))) ?_
    simp only [zp]
    refine sm (.bool true) 5 rfl rfl rfl rfl ?_
    simp only [zp]
    refine sn 6 rfl rfl ?_
    simp only [zp]
    refine sn 7 rfl rfl ?_
    simp only [zp]
    refine sv (.bool true) 8 rfl rfl (ex_pkT rfl rfl rfl) ?_
    simp only [zp]
    refine sm (.bool true) 9 rfl rfl rfl rfl ?_
    simp only [zp]
    refine sn 10 rfl rfl ?_
    simp only [zp]
    refine sn 11 rfl rfl ?_
    simp only [zp]
    refine sv (.bool true) 12 rfl rfl (ex_pkT rfl rfl rfl) ?_
    simp only [zp]
    refine sm (.bool true) 13 rfl rfl rfl rfl ?_
    simp only [zp]
    refine sn 14 rfl rfl ?_
    simp only [zp]
    refine sn 15 rfl rfl ?_
    simp only [zp]
    refine sv (.bool true) 16 rfl rfl (ex_pkT rfl rfl rfl) ?_
    simp only [zp]
    refine sm (.bool true) 17 rfl rfl rfl rfl ?_
    simp only [zp]
    refine sn 18 rfl rfl ?_
    simp only [zp]
    refine sn 19 rfl rfl ?_
    simp only [zp]
    refine sv (.bool true) 20 rfl rfl (ex_pkT rfl rfl rfl) ?_
    simp only [zp]
    refine sg (.bool true) 2 rfl rfl rfl rfl ?_
    simp only [zp]
    refine st_end ?_
    subst hQ
    refine wp_ret ?_
    repeat (first | refine ret_out ?_ | refine ret_blk ?_)
    refine bodyPost_ret (results_tmp Try.results18 _ _ _) rfl ⟨?_, E⟩
    show Ending.returned (.bool true) = _
    rw [decide_eq_true (show (n = 2 ∨ n = 3 ∨ n = 4 ∨ n = 5 ∨ n = 9) by omega)]
  · skip
    by_cases e1 : n = 3
    · skip
      have E : Below w.heap.size w w := Below.refl _ _
      go_enter Try.func18, Try.ntmps18
      refine wq fun Q hQ => ?_
      refine sg (.bool false) 2 rfl rfl rfl rfl ?_
      simp only [zp]
      refine st_end ?_
      subst hQ
      refine wq fun Q hQ => ?_
      refine sm (.int .i64 n) 3 rfl rfl rfl rfl ?_
      simp only [zp]
      refine sv (.bool false) 4 rfl rfl (ex_bin (u := (.int .i64 n)) (r := (.int .i64 2)) rfl rfl rfl (eg3 _ _ _ _ _ _) (eql3 _ (decide_eq_false (by omega)))) ?_
      simp only [zp]
      refine sm (.bool false) 5 rfl rfl rfl rfl ?_
      simp only [zp]
      refine sm (.int .i64 n) 6 rfl rfl rfl rfl ?_
      simp only [zp]
      refine sv (.bool true) 7 rfl rfl (ex_bin (u := (.int .i64 n)) (r := (.int .i64 3)) rfl rfl rfl (eg3 _ _ _ _ _ _) (eql3 _ (decide_eq_true (by omega)))) ?_
      simp only [zp]
      refine sv (.bool true) 8 rfl rfl (ex_pkF rfl rfl rfl) ?_
      simp only [zp]
      refine sm (.bool true) 9 rfl rfl rfl rfl ?_
      simp only [zp]
      refine sn 10 rfl rfl ?_
      simp only [zp]
      refine sn 11 rfl rfl ?_
      simp only [zp]
      refine sv (.bool true) 12 rfl rfl (ex_pkT rfl rfl rfl) ?_
      simp only [zp]
      refine sm (.bool true) 13 rfl rfl rfl rfl ?_
      simp only [zp]
      refine sn 14 rfl rfl ?_
      simp only [zp]
      refine sn 15 rfl rfl ?_
      simp only [zp]
      refine sv (.bool true) 16 rfl rfl (ex_pkT rfl rfl rfl) ?_
      simp only [zp]
      refine sm (.bool true) 17 rfl rfl rfl rfl ?_
      simp only [zp]
      refine sn 18 rfl rfl ?_
      simp only [zp]
      refine sn 19 rfl rfl ?_
      simp only [zp]
      refine sv (.bool true) 20 rfl rfl (ex_pkT rfl rfl rfl) ?_
      simp only [zp]
      refine sg (.bool true) 2 rfl rfl rfl rfl ?_
      simp only [zp]
      refine st_end ?_
      subst hQ
      refine wp_ret ?_
      repeat (first | refine ret_out ?_ | refine ret_blk ?_)
      refine bodyPost_ret (results_tmp Try.results18 _ _ _) rfl ⟨?_, E⟩
      show Ending.returned (.bool true) = _
      rw [decide_eq_true (show (n = 2 ∨ n = 3 ∨ n = 4 ∨ n = 5 ∨ n = 9) by omega)]
    · skip
      by_cases e2 : n = 4
      · skip
        have E : Below w.heap.size w w := Below.refl _ _
        go_enter Try.func18, Try.ntmps18
        refine wq fun Q hQ => ?_
        refine sg (.bool false) 2 rfl rfl rfl rfl ?_
        simp only [zp]
        refine st_end ?_
        subst hQ
        refine wq fun Q hQ => ?_
        refine sm (.int .i64 n) 3 rfl rfl rfl rfl ?_
        simp only [zp]
        refine sv (.bool false) 4 rfl rfl (ex_bin (u := (.int .i64 n)) (r := (.int .i64 2)) rfl rfl rfl (eg3 _ _ _ _ _ _) (eql3 _ (decide_eq_false (by omega)))) ?_
        simp only [zp]
        refine sm (.bool false) 5 rfl rfl rfl rfl ?_
        simp only [zp]
        refine sm (.int .i64 n) 6 rfl rfl rfl rfl ?_
        simp only [zp]
        refine sv (.bool false) 7 rfl rfl (ex_bin (u := (.int .i64 n)) (r := (.int .i64 3)) rfl rfl rfl (eg3 _ _ _ _ _ _) (eql3 _ (decide_eq_false (by omega)))) ?_
        simp only [zp]
        refine sv (.bool false) 8 rfl rfl (ex_pkF rfl rfl rfl) ?_
        simp only [zp]
        refine sm (.bool false) 9 rfl rfl rfl rfl ?_
        simp only [zp]
        refine sm (.int .i64 n) 10 rfl rfl rfl rfl ?_
        simp only [zp]
        refine sv (.bool true) 11 rfl rfl (ex_bin (u := (.int .i64 n)) (r := (.int .i64 4)) rfl rfl rfl (eg3 _ _ _ _ _ _) (eql3 _ (decide_eq_true (by omega)))) ?_
        simp only [zp]
        refine sv (.bool true) 12 rfl rfl (ex_pkF rfl rfl rfl) ?_
        simp only [zp]
        refine sm (.bool true) 13 rfl rfl rfl rfl ?_
        simp only [zp]
        refine sn 14 rfl rfl ?_
        simp only [zp]
        refine sn 15 rfl rfl ?_
        simp only [zp]
        refine sv (.bool true) 16 rfl rfl (ex_pkT rfl rfl rfl) ?_
        simp only [zp]
        refine sm (.bool true) 17 rfl rfl rfl rfl ?_
        simp only [zp]
        refine sn 18 rfl rfl ?_
        simp only [zp]
        refine sn 19 rfl rfl ?_
        simp only [zp]
        refine sv (.bool true) 20 rfl rfl (ex_pkT rfl rfl rfl) ?_
        simp only [zp]
        refine sg (.bool true) 2 rfl rfl rfl rfl ?_
        simp only [zp]
        refine st_end ?_
        subst hQ
        refine wp_ret ?_
        repeat (first | refine ret_out ?_ | refine ret_blk ?_)
        refine bodyPost_ret (results_tmp Try.results18 _ _ _) rfl ⟨?_, E⟩
        show Ending.returned (.bool true) = _
        rw [decide_eq_true (show (n = 2 ∨ n = 3 ∨ n = 4 ∨ n = 5 ∨ n = 9) by omega)]
      · skip
        by_cases e3 : n = 5
        · skip
          have E : Below w.heap.size w w := Below.refl _ _
          go_enter Try.func18, Try.ntmps18
          refine wq fun Q hQ => ?_
          refine sg (.bool false) 2 rfl rfl rfl rfl ?_
          simp only [zp]
          refine st_end ?_
          subst hQ
          refine wq fun Q hQ => ?_
          refine sm (.int .i64 n) 3 rfl rfl rfl rfl ?_
          simp only [zp]
          refine sv (.bool false) 4 rfl rfl (ex_bin (u := (.int .i64 n)) (r := (.int .i64 2)) rfl rfl rfl (eg3 _ _ _ _ _ _) (eql3 _ (decide_eq_false (by omega)))) ?_
          simp only [zp]
          refine sm (.bool false) 5 rfl rfl rfl rfl ?_
          simp only [zp]
          refine sm (.int .i64 n) 6 rfl rfl rfl rfl ?_
          simp only [zp]
          refine sv (.bool false) 7 rfl rfl (ex_bin (u := (.int .i64 n)) (r := (.int .i64 3)) rfl rfl rfl (eg3 _ _ _ _ _ _) (eql3 _ (decide_eq_false (by omega)))) ?_
          simp only [zp]
          refine sv (.bool false) 8 rfl rfl (ex_pkF rfl rfl rfl) ?_
          simp only [zp]
          refine sm (.bool false) 9 rfl rfl rfl rfl ?_
          simp only [zp]
          refine sm (.int .i64 n) 10 rfl rfl rfl rfl ?_
          simp only [zp]
          refine sv (.bool false) 11 rfl rfl (ex_bin (u := (.int .i64 n)) (r := (.int .i64 4)) rfl rfl rfl (eg3 _ _ _ _ _ _) (eql3 _ (decide_eq_false (by omega)))) ?_
          simp only [zp]
          refine sv (.bool false) 12 rfl rfl (ex_pkF rfl rfl rfl) ?_
          simp only [zp]
          refine sm (.bool false) 13 rfl rfl rfl rfl ?_
          simp only [zp]
          refine sm (.int .i64 n) 14 rfl rfl rfl rfl ?_
          simp only [zp]
          refine sv (.bool true) 15 rfl rfl (ex_bin (u := (.int .i64 n)) (r := (.int .i64 5)) rfl rfl rfl (eg3 _ _ _ _ _ _) (eql3 _ (decide_eq_true (by omega)))) ?_
          simp only [zp]
          refine sv (.bool true) 16 rfl rfl (ex_pkF rfl rfl rfl) ?_
          simp only [zp]
          refine sm (.bool true) 17 rfl rfl rfl rfl ?_
          simp only [zp]
          refine sn 18 rfl rfl ?_
          simp only [zp]
          refine sn 19 rfl rfl ?_
          simp only [zp]
          refine sv (.bool true) 20 rfl rfl (ex_pkT rfl rfl rfl) ?_
          simp only [zp]
          refine sg (.bool true) 2 rfl rfl rfl rfl ?_
          simp only [zp]
          refine st_end ?_
          subst hQ
          refine wp_ret ?_
          repeat (first | refine ret_out ?_ | refine ret_blk ?_)
          refine bodyPost_ret (results_tmp Try.results18 _ _ _) rfl ⟨?_, E⟩
          show Ending.returned (.bool true) = _
          rw [decide_eq_true (show (n = 2 ∨ n = 3 ∨ n = 4 ∨ n = 5 ∨ n = 9) by omega)]
        · skip
          by_cases e4 : n = 9
          · skip
            have E : Below w.heap.size w w := Below.refl _ _
            go_enter Try.func18, Try.ntmps18
            refine wq fun Q hQ => ?_
            refine sg (.bool false) 2 rfl rfl rfl rfl ?_
            simp only [zp]
            refine st_end ?_
            subst hQ
            refine wq fun Q hQ => ?_
            refine sm (.int .i64 n) 3 rfl rfl rfl rfl ?_
            simp only [zp]
            refine sv (.bool false) 4 rfl rfl (ex_bin (u := (.int .i64 n)) (r := (.int .i64 2)) rfl rfl rfl (eg3 _ _ _ _ _ _) (eql3 _ (decide_eq_false (by omega)))) ?_
            simp only [zp]
            refine sm (.bool false) 5 rfl rfl rfl rfl ?_
            simp only [zp]
            refine sm (.int .i64 n) 6 rfl rfl rfl rfl ?_
            simp only [zp]
            refine sv (.bool false) 7 rfl rfl (ex_bin (u := (.int .i64 n)) (r := (.int .i64 3)) rfl rfl rfl (eg3 _ _ _ _ _ _) (eql3 _ (decide_eq_false (by omega)))) ?_
            simp only [zp]
            refine sv (.bool false) 8 rfl rfl (ex_pkF rfl rfl rfl) ?_
            simp only [zp]
            refine sm (.bool false) 9 rfl rfl rfl rfl ?_
            simp only [zp]
            refine sm (.int .i64 n) 10 rfl rfl rfl rfl ?_
            simp only [zp]
            refine sv (.bool false) 11 rfl rfl (ex_bin (u := (.int .i64 n)) (r := (.int .i64 4)) rfl rfl rfl (eg3 _ _ _ _ _ _) (eql3 _ (decide_eq_false (by omega)))) ?_
            simp only [zp]
            refine sv (.bool false) 12 rfl rfl (ex_pkF rfl rfl rfl) ?_
            simp only [zp]
            refine sm (.bool false) 13 rfl rfl rfl rfl ?_
            simp only [zp]
            refine sm (.int .i64 n) 14 rfl rfl rfl rfl ?_
            simp only [zp]
            refine sv (.bool false) 15 rfl rfl (ex_bin (u := (.int .i64 n)) (r := (.int .i64 5)) rfl rfl rfl (eg3 _ _ _ _ _ _) (eql3 _ (decide_eq_false (by omega)))) ?_
            simp only [zp]
            refine sv (.bool false) 16 rfl rfl (ex_pkF rfl rfl rfl) ?_
            simp only [zp]
            refine sm (.bool false) 17 rfl rfl rfl rfl ?_
            simp only [zp]
            refine sm (.int .i64 n) 18 rfl rfl rfl rfl ?_
            simp only [zp]
            refine sv (.bool true) 19 rfl rfl (ex_bin (u := (.int .i64 n)) (r := (.int .i64 9)) rfl rfl rfl (eg3 _ _ _ _ _ _) (eql3 _ (decide_eq_true (by omega)))) ?_
            simp only [zp]
            refine sv (.bool true) 20 rfl rfl (ex_pkF rfl rfl rfl) ?_
            simp only [zp]
            refine sg (.bool true) 2 rfl rfl rfl rfl ?_
            simp only [zp]
            refine st_end ?_
            subst hQ
            refine wp_ret ?_
            repeat (first | refine ret_out ?_ | refine ret_blk ?_)
            refine bodyPost_ret (results_tmp Try.results18 _ _ _) rfl ⟨?_, E⟩
            show Ending.returned (.bool true) = _
            rw [decide_eq_true (show (n = 2 ∨ n = 3 ∨ n = 4 ∨ n = 5 ∨ n = 9) by omega)]
          · skip
            have E : Below w.heap.size w w := Below.refl _ _
            go_enter Try.func18, Try.ntmps18
            refine wq fun Q hQ => ?_
            refine sg (.bool false) 2 rfl rfl rfl rfl ?_
            simp only [zp]
            refine st_end ?_
            subst hQ
            refine wq fun Q hQ => ?_
            refine sm (.int .i64 n) 3 rfl rfl rfl rfl ?_
            simp only [zp]
            refine sv (.bool false) 4 rfl rfl (ex_bin (u := (.int .i64 n)) (r := (.int .i64 2)) rfl rfl rfl (eg3 _ _ _ _ _ _) (eql3 _ (decide_eq_false (by omega)))) ?_
            simp only [zp]
            refine sm (.bool false) 5 rfl rfl rfl rfl ?_
            simp only [zp]
            refine sm (.int .i64 n) 6 rfl rfl rfl rfl ?_
            simp only [zp]
            refine sv (.bool false) 7 rfl rfl (ex_bin (u := (.int .i64 n)) (r := (.int .i64 3)) rfl rfl rfl (eg3 _ _ _ _ _ _) (eql3 _ (decide_eq_false (by omega)))) ?_
            simp only [zp]
            refine sv (.bool false) 8 rfl rfl (ex_pkF rfl rfl rfl) ?_
            simp only [zp]
            refine sm (.bool false) 9 rfl rfl rfl rfl ?_
            simp only [zp]
            refine sm (.int .i64 n) 10 rfl rfl rfl rfl ?_
            simp only [zp]
            refine sv (.bool false) 11 rfl rfl (ex_bin (u := (.int .i64 n)) (r := (.int .i64 4)) rfl rfl rfl (eg3 _ _ _ _ _ _) (eql3 _ (decide_eq_false (by omega)))) ?_
            simp only [zp]
            refine sv (.bool false) 12 rfl rfl (ex_pkF rfl rfl rfl) ?_
            simp only [zp]
            refine sm (.bool false) 13 rfl rfl rfl rfl ?_
            simp only [zp]
            refine sm (.int .i64 n) 14 rfl rfl rfl rfl ?_
            simp only [zp]
            refine sv (.bool false) 15 rfl rfl (ex_bin (u := (.int .i64 n)) (r := (.int .i64 5)) rfl rfl rfl (eg3 _ _ _ _ _ _) (eql3 _ (decide_eq_false (by omega)))) ?_
            simp only [zp]
            refine sv (.bool false) 16 rfl rfl (ex_pkF rfl rfl rfl) ?_
            simp only [zp]
            refine sm (.bool false) 17 rfl rfl rfl rfl ?_
            simp only [zp]
            refine sm (.int .i64 n) 18 rfl rfl rfl rfl ?_
            simp only [zp]
            refine sv (.bool false) 19 rfl rfl (ex_bin (u := (.int .i64 n)) (r := (.int .i64 9)) rfl rfl rfl (eg3 _ _ _ _ _ _) (eql3 _ (decide_eq_false (by omega)))) ?_
            simp only [zp]
            refine sv (.bool false) 20 rfl rfl (ex_pkF rfl rfl rfl) ?_
            simp only [zp]
            refine sg (.bool false) 2 rfl rfl rfl rfl ?_
            simp only [zp]
            refine st_end ?_
            subst hQ
            refine wp_ret ?_
            repeat (first | refine ret_out ?_ | refine ret_blk ?_)
            refine bodyPost_ret (results_tmp Try.results18 _ _ _) rfl ⟨?_, E⟩
            show Ending.returned (.bool false) = _
            rw [decide_eq_false (show ¬ (n = 2 ∨ n = 3 ∨ n = 4 ∨ n = 5 ∨ n = 9) by omega)]
end Go.Proofs.Ytfbaidmnnkcaeaa
