/- Policy: the document's Forward and Final; Margin and Retry of both. -/
import Derived.Test.YtfbaidmnnkcaeaaPFwd
namespace Go.Proofs.Ytfbaidmnnkcaeaa
open Go.RowKit
set_option linter.unusedVariables false
set_option linter.unusedSimpArgs false
set_option maxRecDepth 100000

set_option maxHeartbeats 2000000 in
theorem rright_any {q : RV} {a x h : Int} (w : World) {c : Bool} (hc : wrongB q a x h = c) :
    Calls Try.prog 35 #[.agg (RL q), .int .i64 a, .int .i64 x, .int .i64 h] w fun e w' => e = .returned (.bool (!c)) ∧ Below w.heap.size w w' := by
  subst hc
  by_cases e0 : mayR q = true
  · skip
    by_cases e1 : a < 0
    · skip
      have E : Below w.heap.size w w := Below.refl _ _
      go_enter Try.func35, Try.ntmps35
      refine wq fun Q hQ => ?_
      refine st_new (fun b => .pointer (some ⟨b, 0, none⟩)) (some 4) rfl rfl (ex_box rfl rfl) ?_
      intro b1 W1 k1 g1 B
      simp only [zp]
      have ge_b1 := Nat.le_trans E.size g1
      replace E := below_next E B
      clear B
      refine sg (.bool false) 8 rfl rfl rfl rfl ?_
      simp only [zp]
      refine st_end ?_
      subst hQ
      refine wq fun Q hQ => ?_
      refine sv (.agg (RL q)) 9 rfl rfl (ex_load (p := (.pointer (some ⟨b1, 0, none⟩))) rfl rfl (ld_all k1 Try.underlying25 rfl inf25)) ?_
      simp only [zp]
      refine st_call (some 10) rfl rfl (rmay_any W1 e0) (ex_call (f := 10) (vs := [(.agg (RL q))]) rfl (cf10 _) rfl) ?_
      rintro e W2 ⟨rfl, B⟩
      refine ⟨_, rfl, ?_⟩
      simp only [zp]
      replace E := below_next E B
      replace k1 := keep B k1
      refine sm (.bool true) 11 rfl rfl rfl rfl ?_
      simp only [zp]
      refine sm (.int .i64 a) 12 rfl rfl rfl rfl ?_
      simp only [zp]
      refine sv (.bool false) 13 rfl rfl (ex_bin (u := (.int .i64 a)) (r := (.int .i64 0)) rfl rfl rfl (eg3 _ _ _ _ _ _) (geq3 _ (decide_eq_false (by omega)))) ?_
      simp only [zp]
      refine sv (.bool false) 14 rfl rfl (ex_pkT rfl rfl rfl) ?_
      simp only [zp]
      refine sm (.bool false) 15 rfl rfl rfl rfl ?_
      simp only [zp]
      refine sn 16 rfl rfl ?_
      simp only [zp]
      refine sn 17 rfl rfl ?_
      simp only [zp]
      refine sv (.bool false) 18 rfl rfl (ex_pkF rfl rfl rfl) ?_
      simp only [zp]
      refine sm (.bool false) 19 rfl rfl rfl rfl ?_
      simp only [zp]
      refine sn 20 rfl rfl ?_
      simp only [zp]
      refine sn 21 rfl rfl ?_
      simp only [zp]
      refine sv (.bool false) 22 rfl rfl (ex_pkF rfl rfl rfl) ?_
      simp only [zp]
      refine sm (.bool false) 23 rfl rfl rfl rfl ?_
      simp only [zp]
      refine sn 24 rfl rfl ?_
      simp only [zp]
      refine sn 25 rfl rfl ?_
      simp only [zp]
      refine sv (.bool false) 26 rfl rfl (ex_pkF rfl rfl rfl) ?_
      simp only [zp]
      refine sm (.bool false) 27 rfl rfl rfl rfl ?_
      simp only [zp]
      refine sn 28 rfl rfl ?_
      simp only [zp]
      refine sn 29 rfl rfl ?_
      simp only [zp]
      refine sv (.bool false) 30 rfl rfl (ex_pkF rfl rfl rfl) ?_
      simp only [zp]
      refine sg (.bool false) 8 rfl rfl rfl rfl ?_
      simp only [zp]
      refine st_end ?_
      subst hQ
      refine wp_ret ?_
      repeat (first | refine ret_out ?_ | refine ret_blk ?_)
      refine bodyPost_ret (results_tmp Try.results35 _ _ _) rfl ⟨?_, E⟩
      show Ending.returned (.bool false) = _
      simp [wrongB, okH, e0, e1]
    · skip
      by_cases e2 : 0 ≤ x
      · skip
        by_cases e3 : 0 ≤ h
        · skip
          by_cases e4 : x ≤ 2147483647
          · skip
            by_cases e5 : h ≤ 2147483647
            · skip
              have E : Below w.heap.size w w := Below.refl _ _
              go_enter Try.func35, Try.ntmps35
              refine wq fun Q hQ => ?_
              refine st_new (fun b => .pointer (some ⟨b, 0, none⟩)) (some 4) rfl rfl (ex_box rfl rfl) ?_
              intro b1 W1 k1 g1 B
              simp only [zp]
              have ge_b1 := Nat.le_trans E.size g1
              replace E := below_next E B
              clear B
              refine sg (.bool false) 8 rfl rfl rfl rfl ?_
              simp only [zp]
              refine st_end ?_
              subst hQ
              refine wq fun Q hQ => ?_
              refine sv (.agg (RL q)) 9 rfl rfl (ex_load (p := (.pointer (some ⟨b1, 0, none⟩))) rfl rfl (ld_all k1 Try.underlying25 rfl inf25)) ?_
              simp only [zp]
              refine st_call (some 10) rfl rfl (rmay_any W1 e0) (ex_call (f := 10) (vs := [(.agg (RL q))]) rfl (cf10 _) rfl) ?_
              rintro e W2 ⟨rfl, B⟩
              refine ⟨_, rfl, ?_⟩
              simp only [zp]
              replace E := below_next E B
              replace k1 := keep B k1
              refine sm (.bool true) 11 rfl rfl rfl rfl ?_
              simp only [zp]
              refine sm (.int .i64 a) 12 rfl rfl rfl rfl ?_
              simp only [zp]
              refine sv (.bool true) 13 rfl rfl (ex_bin (u := (.int .i64 a)) (r := (.int .i64 0)) rfl rfl rfl (eg3 _ _ _ _ _ _) (geq3 _ (decide_eq_true (by omega)))) ?_
              simp only [zp]
              refine sv (.bool true) 14 rfl rfl (ex_pkT rfl rfl rfl) ?_
              simp only [zp]
              refine sm (.bool true) 15 rfl rfl rfl rfl ?_
              simp only [zp]
              refine sm (.int .i64 x) 16 rfl rfl rfl rfl ?_
              simp only [zp]
              refine sv (.bool true) 17 rfl rfl (ex_bin (u := (.int .i64 x)) (r := (.int .i64 0)) rfl rfl rfl (eg3 _ _ _ _ _ _) (geq3 _ (decide_eq_true (by omega)))) ?_
              simp only [zp]
              refine sv (.bool true) 18 rfl rfl (ex_pkT rfl rfl rfl) ?_
              simp only [zp]
              refine sm (.bool true) 19 rfl rfl rfl rfl ?_
              simp only [zp]
              refine sm (.int .i64 h) 20 rfl rfl rfl rfl ?_
              simp only [zp]
              refine sv (.bool true) 21 rfl rfl (ex_bin (u := (.int .i64 h)) (r := (.int .i64 0)) rfl rfl rfl (eg3 _ _ _ _ _ _) (geq3 _ (decide_eq_true (by omega)))) ?_
              simp only [zp]
              refine sv (.bool true) 22 rfl rfl (ex_pkT rfl rfl rfl) ?_
              simp only [zp]
              refine sm (.bool true) 23 rfl rfl rfl rfl ?_
              simp only [zp]
              refine sm (.int .i64 x) 24 rfl rfl rfl rfl ?_
              simp only [zp]
              refine sv (.bool true) 25 rfl rfl (ex_bin (u := (.int .i64 x)) (r := (.int .i64 2147483647)) rfl rfl rfl (eg3 _ _ _ _ _ _) (leq3 _ (decide_eq_true (by omega)))) ?_
              simp only [zp]
              refine sv (.bool true) 26 rfl rfl (ex_pkT rfl rfl rfl) ?_
              simp only [zp]
              refine sm (.bool true) 27 rfl rfl rfl rfl ?_
              simp only [zp]
              refine sm (.int .i64 h) 28 rfl rfl rfl rfl ?_
              simp only [zp]
              refine sv (.bool true) 29 rfl rfl (ex_bin (u := (.int .i64 h)) (r := (.int .i64 2147483647)) rfl rfl rfl (eg3 _ _ _ _ _ _) (leq3 _ (decide_eq_true (by omega)))) ?_
              simp only [zp]
              refine sv (.bool true) 30 rfl rfl (ex_pkT rfl rfl rfl) ?_
              simp only [zp]
              refine sg (.bool true) 8 rfl rfl rfl rfl ?_
              simp only [zp]
              refine st_end ?_
              subst hQ
              refine wp_ret ?_
              repeat (first | refine ret_out ?_ | refine ret_blk ?_)
              refine bodyPost_ret (results_tmp Try.results35 _ _ _) rfl ⟨?_, E⟩
              show Ending.returned (.bool true) = _
              simp [wrongB, okH, e0, e1, e2, e3, e4, e5]
            · skip
              have E : Below w.heap.size w w := Below.refl _ _
              go_enter Try.func35, Try.ntmps35
              refine wq fun Q hQ => ?_
              refine st_new (fun b => .pointer (some ⟨b, 0, none⟩)) (some 4) rfl rfl (ex_box rfl rfl) ?_
              intro b1 W1 k1 g1 B
              simp only [zp]
              have ge_b1 := Nat.le_trans E.size g1
              replace E := below_next E B
              clear B
              refine sg (.bool false) 8 rfl rfl rfl rfl ?_
              simp only [zp]
              refine st_end ?_
              subst hQ
              refine wq fun Q hQ => ?_
              refine sv (.agg (RL q)) 9 rfl rfl (ex_load (p := (.pointer (some ⟨b1, 0, none⟩))) rfl rfl (ld_all k1 Try.underlying25 rfl inf25)) ?_
              simp only [zp]
              refine st_call (some 10) rfl rfl (rmay_any W1 e0) (ex_call (f := 10) (vs := [(.agg (RL q))]) rfl (cf10 _) rfl) ?_
              rintro e W2 ⟨rfl, B⟩
              refine ⟨_, rfl, ?_⟩
              simp only [zp]
              replace E := below_next E B
              replace k1 := keep B k1
              refine sm (.bool true) 11 rfl rfl rfl rfl ?_
              simp only [zp]
              refine sm (.int .i64 a) 12 rfl rfl rfl rfl ?_
              simp only [zp]
              refine sv (.bool true) 13 rfl rfl (ex_bin (u := (.int .i64 a)) (r := (.int .i64 0)) rfl rfl rfl (eg3 _ _ _ _ _ _) (geq3 _ (decide_eq_true (by omega)))) ?_
              simp only [zp]
              refine sv (.bool true) 14 rfl rfl (ex_pkT rfl rfl rfl) ?_
              simp only [zp]
              refine sm (.bool true) 15 rfl rfl rfl rfl ?_
              simp only [zp]
              refine sm (.int .i64 x) 16 rfl rfl rfl rfl ?_
              simp only [zp]
              refine sv (.bool true) 17 rfl rfl (ex_bin (u := (.int .i64 x)) (r := (.int .i64 0)) rfl rfl rfl (eg3 _ _ _ _ _ _) (geq3 _ (decide_eq_true (by omega)))) ?_
              simp only [zp]
              refine sv (.bool true) 18 rfl rfl (ex_pkT rfl rfl rfl) ?_
              simp only [zp]
              refine sm (.bool true) 19 rfl rfl rfl rfl ?_
              simp only [zp]
              refine sm (.int .i64 h) 20 rfl rfl rfl rfl ?_
              simp only [zp]
              refine sv (.bool true) 21 rfl rfl (ex_bin (u := (.int .i64 h)) (r := (.int .i64 0)) rfl rfl rfl (eg3 _ _ _ _ _ _) (geq3 _ (decide_eq_true (by omega)))) ?_
              simp only [zp]
              refine sv (.bool true) 22 rfl rfl (ex_pkT rfl rfl rfl) ?_
              simp only [zp]
              refine sm (.bool true) 23 rfl rfl rfl rfl ?_
              simp only [zp]
              refine sm (.int .i64 x) 24 rfl rfl rfl rfl ?_
              simp only [zp]
              refine sv (.bool true) 25 rfl rfl (ex_bin (u := (.int .i64 x)) (r := (.int .i64 2147483647)) rfl rfl rfl (eg3 _ _ _ _ _ _) (leq3 _ (decide_eq_true (by omega)))) ?_
              simp only [zp]
              refine sv (.bool true) 26 rfl rfl (ex_pkT rfl rfl rfl) ?_
              simp only [zp]
              refine sm (.bool true) 27 rfl rfl rfl rfl ?_
              simp only [zp]
              refine sm (.int .i64 h) 28 rfl rfl rfl rfl ?_
              simp only [zp]
              refine sv (.bool false) 29 rfl rfl (ex_bin (u := (.int .i64 h)) (r := (.int .i64 2147483647)) rfl rfl rfl (eg3 _ _ _ _ _ _) (leq3 _ (decide_eq_false (by omega)))) ?_
              simp only [zp]
              refine sv (.bool false) 30 rfl rfl (ex_pkT rfl rfl rfl) ?_
              simp only [zp]
              refine sg (.bool false) 8 rfl rfl rfl rfl ?_
              simp only [zp]
              refine st_end ?_
              subst hQ
              refine wp_ret ?_
              repeat (first | refine ret_out ?_ | refine ret_blk ?_)
              refine bodyPost_ret (results_tmp Try.results35 _ _ _) rfl ⟨?_, E⟩
              show Ending.returned (.bool false) = _
              simp [wrongB, okH, e0, e1, e2, e3, e4, e5]
          · skip
            have E : Below w.heap.size w w := Below.refl _ _
            go_enter Try.func35, Try.ntmps35
            refine wq fun Q hQ => ?_
            refine st_new (fun b => .pointer (some ⟨b, 0, none⟩)) (some 4) rfl rfl (ex_box rfl rfl) ?_
            intro b1 W1 k1 g1 B
            simp only [zp]
            have ge_b1 := Nat.le_trans E.size g1
            replace E := below_next E B
            clear B
            refine sg (.bool false) 8 rfl rfl rfl rfl ?_
            simp only [zp]
            refine st_end ?_
            subst hQ
            refine wq fun Q hQ => ?_
            refine sv (.agg (RL q)) 9 rfl rfl (ex_load (p := (.pointer (some ⟨b1, 0, none⟩))) rfl rfl (ld_all k1 Try.underlying25 rfl inf25)) ?_
            simp only [zp]
            refine st_call (some 10) rfl rfl (rmay_any W1 e0) (ex_call (f := 10) (vs := [(.agg (RL q))]) rfl (cf10 _) rfl) ?_
            rintro e W2 ⟨rfl, B⟩
            refine ⟨_, rfl, ?_⟩
            simp only [zp]
            replace E := below_next E B
            replace k1 := keep B k1
            refine sm (.bool true) 11 rfl rfl rfl rfl ?_
            simp only [zp]
            refine sm (.int .i64 a) 12 rfl rfl rfl rfl ?_
            simp only [zp]
            refine sv (.bool true) 13 rfl rfl (ex_bin (u := (.int .i64 a)) (r := (.int .i64 0)) rfl rfl rfl (eg3 _ _ _ _ _ _) (geq3 _ (decide_eq_true (by omega)))) ?_
            simp only [zp]
            refine sv (.bool true) 14 rfl rfl (ex_pkT rfl rfl rfl) ?_
            simp only [zp]
            refine sm (.bool true) 15 rfl rfl rfl rfl ?_
            simp only [zp]
            refine sm (.int .i64 x) 16 rfl rfl rfl rfl ?_
            simp only [zp]
            refine sv (.bool true) 17 rfl rfl (ex_bin (u := (.int .i64 x)) (r := (.int .i64 0)) rfl rfl rfl (eg3 _ _ _ _ _ _) (geq3 _ (decide_eq_true (by omega)))) ?_
            simp only [zp]
            refine sv (.bool true) 18 rfl rfl (ex_pkT rfl rfl rfl) ?_
            simp only [zp]
            refine sm (.bool true) 19 rfl rfl rfl rfl ?_
            simp only [zp]
            refine sm (.int .i64 h) 20 rfl rfl rfl rfl ?_
            simp only [zp]
            refine sv (.bool true) 21 rfl rfl (ex_bin (u := (.int .i64 h)) (r := (.int .i64 0)) rfl rfl rfl (eg3 _ _ _ _ _ _) (geq3 _ (decide_eq_true (by omega)))) ?_
            simp only [zp]
            refine sv (.bool true) 22 rfl rfl (ex_pkT rfl rfl rfl) ?_
            simp only [zp]
            refine sm (.bool true) 23 rfl rfl rfl rfl ?_
            simp only [zp]
            refine sm (.int .i64 x) 24 rfl rfl rfl rfl ?_
            simp only [zp]
            refine sv (.bool false) 25 rfl rfl (ex_bin (u := (.int .i64 x)) (r := (.int .i64 2147483647)) rfl rfl rfl (eg3 _ _ _ _ _ _) (leq3 _ (decide_eq_false (by omega)))) ?_
            simp only [zp]
            refine sv (.bool false) 26 rfl rfl (ex_pkT rfl rfl rfl) ?_
            simp only [zp]
            refine sm (.bool false) 27 rfl rfl rfl rfl ?_
            simp only [zp]
            refine sn 28 rfl rfl ?_
            simp only [zp]
            refine sn 29 rfl rfl ?_
            simp only [zp]
            refine sv (.bool false) 30 rfl rfl (ex_pkF rfl rfl rfl) ?_
            simp only [zp]
            refine sg (.bool false) 8 rfl rfl rfl rfl ?_
            simp only [zp]
            refine st_end ?_
            subst hQ
            refine wp_ret ?_
            repeat (first | refine ret_out ?_ | refine ret_blk ?_)
            refine bodyPost_ret (results_tmp Try.results35 _ _ _) rfl ⟨?_, E⟩
            show Ending.returned (.bool false) = _
            simp [wrongB, okH, e0, e1, e2, e3, e4]
        · skip
          have E : Below w.heap.size w w := Below.refl _ _
          go_enter Try.func35, Try.ntmps35
          refine wq fun Q hQ => ?_
          refine st_new (fun b => .pointer (some ⟨b, 0, none⟩)) (some 4) rfl rfl (ex_box rfl rfl) ?_
          intro b1 W1 k1 g1 B
          simp only [zp]
          have ge_b1 := Nat.le_trans E.size g1
          replace E := below_next E B
          clear B
          refine sg (.bool false) 8 rfl rfl rfl rfl ?_
          simp only [zp]
          refine st_end ?_
          subst hQ
          refine wq fun Q hQ => ?_
          refine sv (.agg (RL q)) 9 rfl rfl (ex_load (p := (.pointer (some ⟨b1, 0, none⟩))) rfl rfl (ld_all k1 Try.underlying25 rfl inf25)) ?_
          simp only [zp]
          refine st_call (some 10) rfl rfl (rmay_any W1 e0) (ex_call (f := 10) (vs := [(.agg (RL q))]) rfl (cf10 _) rfl) ?_
          rintro e W2 ⟨rfl, B⟩
          refine ⟨_, rfl, ?_⟩
          simp only [zp]
          replace E := below_next E B
          replace k1 := keep B k1
          refine sm (.bool true) 11 rfl rfl rfl rfl ?_
          simp only [zp]
          refine sm (.int .i64 a) 12 rfl rfl rfl rfl ?_
          simp only [zp]
          refine sv (.bool true) 13 rfl rfl (ex_bin (u := (.int .i64 a)) (r := (.int .i64 0)) rfl rfl rfl (eg3 _ _ _ _ _ _) (geq3 _ (decide_eq_true (by omega)))) ?_
          simp only [zp]
          refine sv (.bool true) 14 rfl rfl (ex_pkT rfl rfl rfl) ?_
          simp only [zp]
          refine sm (.bool true) 15 rfl rfl rfl rfl ?_
          simp only [zp]
          refine sm (.int .i64 x) 16 rfl rfl rfl rfl ?_
          simp only [zp]
          refine sv (.bool true) 17 rfl rfl (ex_bin (u := (.int .i64 x)) (r := (.int .i64 0)) rfl rfl rfl (eg3 _ _ _ _ _ _) (geq3 _ (decide_eq_true (by omega)))) ?_
          simp only [zp]
          refine sv (.bool true) 18 rfl rfl (ex_pkT rfl rfl rfl) ?_
          simp only [zp]
          refine sm (.bool true) 19 rfl rfl rfl rfl ?_
          simp only [zp]
          refine sm (.int .i64 h) 20 rfl rfl rfl rfl ?_
          simp only [zp]
          refine sv (.bool false) 21 rfl rfl (ex_bin (u := (.int .i64 h)) (r := (.int .i64 0)) rfl rfl rfl (eg3 _ _ _ _ _ _) (geq3 _ (decide_eq_false (by omega)))) ?_
          simp only [zp]
          refine sv (.bool false) 22 rfl rfl (ex_pkT rfl rfl rfl) ?_
          simp only [zp]
          refine sm (.bool false) 23 rfl rfl rfl rfl ?_
          simp only [zp]
          refine sn 24 rfl rfl ?_
          simp only [zp]
          refine sn 25 rfl rfl ?_
          simp only [zp]
          refine sv (.bool false) 26 rfl rfl (ex_pkF rfl rfl rfl) ?_
          simp only [zp]
          refine sm (.bool false) 27 rfl rfl rfl rfl ?_
          simp only [zp]
          refine sn 28 rfl rfl ?_
          simp only [zp]
          refine sn 29 rfl rfl ?_
          simp only [zp]
          refine sv (.bool false) 30 rfl rfl (ex_pkF rfl rfl rfl) ?_
          simp only [zp]
          refine sg (.bool false) 8 rfl rfl rfl rfl ?_
          simp only [zp]
          refine st_end ?_
          subst hQ
          refine wp_ret ?_
          repeat (first | refine ret_out ?_ | refine ret_blk ?_)
          refine bodyPost_ret (results_tmp Try.results35 _ _ _) rfl ⟨?_, E⟩
          show Ending.returned (.bool false) = _
          simp [wrongB, okH, e0, e1, e2, e3]
      · skip
        have E : Below w.heap.size w w := Below.refl _ _
        go_enter Try.func35, Try.ntmps35
        refine wq fun Q hQ => ?_
        refine st_new (fun b => .pointer (some ⟨b, 0, none⟩)) (some 4) rfl rfl (ex_box rfl rfl) ?_
        intro b1 W1 k1 g1 B
        simp only [zp]
        have ge_b1 := Nat.le_trans E.size g1
        replace E := below_next E B
        clear B
        refine sg (.bool false) 8 rfl rfl rfl rfl ?_
        simp only [zp]
        refine st_end ?_
        subst hQ
        refine wq fun Q hQ => ?_
        refine sv (.agg (RL q)) 9 rfl rfl (ex_load (p := (.pointer (some ⟨b1, 0, none⟩))) rfl rfl (ld_all k1 Try.underlying25 rfl inf25)) ?_
        simp only [zp]
        refine st_call (some 10) rfl rfl (rmay_any W1 e0) (ex_call (f := 10) (vs := [(.agg (RL q))]) rfl (cf10 _) rfl) ?_
        rintro e W2 ⟨rfl, B⟩
        refine ⟨_, rfl, ?_⟩
        simp only [zp]
        replace E := below_next E B
        replace k1 := keep B k1
        refine sm (.bool true) 11 rfl rfl rfl rfl ?_
        simp only [zp]
        refine sm (.int .i64 a) 12 rfl rfl rfl rfl ?_
        simp only [zp]
        refine sv (.bool true) 13 rfl rfl (ex_bin (u := (.int .i64 a)) (r := (.int .i64 0)) rfl rfl rfl (eg3 _ _ _ _ _ _) (geq3 _ (decide_eq_true (by omega)))) ?_
        simp only [zp]
        refine sv (.bool true) 14 rfl rfl (ex_pkT rfl rfl rfl) ?_
        simp only [zp]
        refine sm (.bool true) 15 rfl rfl rfl rfl ?_
        simp only [zp]
        refine sm (.int .i64 x) 16 rfl rfl rfl rfl ?_
        simp only [zp]
        refine sv (.bool false) 17 rfl rfl (ex_bin (u := (.int .i64 x)) (r := (.int .i64 0)) rfl rfl rfl (eg3 _ _ _ _ _ _) (geq3 _ (decide_eq_false (by omega)))) ?_
        simp only [zp]
        refine sv (.bool false) 18 rfl rfl (ex_pkT rfl rfl rfl) ?_
        simp only [zp]
        refine sm (.bool false) 19 rfl rfl rfl rfl ?_
        simp only [zp]
        refine sn 20 rfl rfl ?_
        simp only [zp]
        refine sn 21 rfl rfl ?_
        simp only [zp]
        refine sv (.bool false) 22 rfl rfl (ex_pkF rfl rfl rfl) ?_
        simp only [zp]
        refine sm (.bool false) 23 rfl rfl rfl rfl ?_
        simp only [zp]
        refine sn 24 rfl rfl ?_
        simp only [zp]
        refine sn 25 rfl rfl ?_
        simp only [zp]
        refine sv (.bool false) 26 rfl rfl (ex_pkF rfl rfl rfl) ?_
        simp only [zp]
        refine sm (.bool false) 27 rfl rfl rfl rfl ?_
        simp only [zp]
        refine sn 28 rfl rfl ?_
        simp only [zp]
        refine sn 29 rfl rfl ?_
        simp only [zp]
        refine sv (.bool false) 30 rfl rfl (ex_pkF rfl rfl rfl) ?_
        simp only [zp]
        refine sg (.bool false) 8 rfl rfl rfl rfl ?_
        simp only [zp]
        refine st_end ?_
        subst hQ
        refine wp_ret ?_
        repeat (first | refine ret_out ?_ | refine ret_blk ?_)
        refine bodyPost_ret (results_tmp Try.results35 _ _ _) rfl ⟨?_, E⟩
        show Ending.returned (.bool false) = _
        simp [wrongB, okH, e0, e1, e2]
  · skip
    replace e0 := Bool.eq_false_iff.2 e0
    have E : Below w.heap.size w w := Below.refl _ _
    go_enter Try.func35, Try.ntmps35
    refine wq fun Q hQ => ?_
    refine st_new (fun b => .pointer (some ⟨b, 0, none⟩)) (some 4) rfl rfl (ex_box rfl rfl) ?_
    intro b1 W1 k1 g1 B
    simp only [zp]
    have ge_b1 := Nat.le_trans E.size g1
    replace E := below_next E B
    clear B
    refine sg (.bool false) 8 rfl rfl rfl rfl ?_
    simp only [zp]
    refine st_end ?_
    subst hQ
    refine wq fun Q hQ => ?_
    refine sv (.agg (RL q)) 9 rfl rfl (ex_load (p := (.pointer (some ⟨b1, 0, none⟩))) rfl rfl (ld_all k1 Try.underlying25 rfl inf25)) ?_
    simp only [zp]
    refine st_call (some 10) rfl rfl (rmay_any W1 e0) (ex_call (f := 10) (vs := [(.agg (RL q))]) rfl (cf10 _) rfl) ?_
    rintro e W2 ⟨rfl, B⟩
    refine ⟨_, rfl, ?_⟩
    simp only [zp]
    replace E := below_next E B
    replace k1 := keep B k1
    refine sm (.bool false) 11 rfl rfl rfl rfl ?_
    simp only [zp]
    refine sn 12 rfl rfl ?_
    simp only [zp]
    refine sn 13 rfl rfl ?_
    simp only [zp]
    refine sv (.bool false) 14 rfl rfl (ex_pkF rfl rfl rfl) ?_
    simp only [zp]
    refine sm (.bool false) 15 rfl rfl rfl rfl ?_
    simp only [zp]
    refine sn 16 rfl rfl ?_
    simp only [zp]
    refine sn 17 rfl rfl ?_
    simp only [zp]
    refine sv (.bool false) 18 rfl rfl (ex_pkF rfl rfl rfl) ?_
    simp only [zp]
    refine sm (.bool false) 19 rfl rfl rfl rfl ?_
    simp only [zp]
    refine sn 20 rfl rfl ?_
    simp only [zp]
    refine sn 21 rfl rfl ?_
    simp only [zp]
    refine sv (.bool false) 22 rfl rfl (ex_pkF rfl rfl rfl) ?_
    simp only [zp]
    refine sm (.bool false) 23 rfl rfl rfl rfl ?_
    simp only [zp]
    refine sn 24 rfl rfl ?_
    simp only [zp]
    refine sn 25 rfl rfl ?_
    simp only [zp]
    refine sv (.bool false) 26 rfl rfl (ex_pkF rfl rfl rfl) ?_
    simp only [zp]
    refine sm (.bool false) 27 rfl rfl rfl rfl ?_
    simp only [zp]
    refine sn 28 rfl rfl ?_
    simp only [zp]
    refine sn 29 rfl rfl ?_
    simp only [zp]
    refine sv (.bool false) 30 rfl rfl (ex_pkF rfl rfl rfl) ?_
    simp only [zp]
    refine sg (.bool false) 8 rfl rfl rfl rfl ?_
    simp only [zp]
    refine st_end ?_
    subst hQ
    refine wp_ret ?_
    repeat (first | refine ret_out ?_ | refine ret_blk ?_)
    refine bodyPost_ret (results_tmp Try.results35 _ _ _) rfl ⟨?_, E⟩
    show Ending.returned (.bool false) = _
    simp [wrongB, okH, e0]
set_option maxHeartbeats 2000000 in
theorem rsoon_any {q : RV} {h y : Int} (w : World) (h0 : 0 ≤ h) (h1 : h ≤ 2147483647) (g0 : 0 ≤ q.g) (g1 : q.g ≤ 1000) (y1 : y ≤ 9223372036854775807) {c : Bool} (hc : decide (y ≤ h + q.g) = c) :
    Calls Try.prog 36 #[.agg (RL q), .int .i64 y, .int .i64 h] w fun e w' => e = .returned (.bool c) ∧ Below w.heap.size w w' := by
  subst hc
  by_cases e0 : y < h
  · skip
    have E : Below w.heap.size w w := Below.refl _ _
    go_enter Try.func36, Try.ntmps36
    refine wq fun Q hQ => ?_
    refine st_new (fun b => .pointer (some ⟨b, 0, none⟩)) (some 3) rfl rfl (ex_box rfl rfl) ?_
    intro b1 W1 k1 g1 B
    simp only [zp]
    have ge_b1 := Nat.le_trans E.size g1
    replace E := below_next E B
    clear B
    refine sg (.bool false) 6 rfl rfl rfl rfl ?_
    simp only [zp]
    refine st_end ?_
    subst hQ
    refine wq fun Q hQ => ?_
    refine sm (.int .i64 y) 7 rfl rfl rfl rfl ?_
    simp only [zp]
    refine sm (.int .i64 h) 8 rfl rfl rfl rfl ?_
    simp only [zp]
    refine sv (.bool true) 9 rfl rfl (ex_bin (u := (.int .i64 y)) (r := (.int .i64 h)) rfl rfl rfl (eg3 _ _ _ _ _ _) (lss3 _ (decide_eq_true (by omega)))) ?_
    simp only [zp]
    refine sm (.bool true) 10 rfl rfl rfl rfl ?_
    simp only [zp]
    refine sn 11 rfl rfl ?_
    simp only [zp]
    refine sn 12 rfl rfl ?_
    simp only [zp]
    refine sn 13 rfl rfl ?_
    simp only [zp]
    refine sn 14 rfl rfl ?_
    simp only [zp]
    refine sn 15 rfl rfl ?_
    simp only [zp]
    refine sn 16 rfl rfl ?_
    simp only [zp]
    refine sv (.bool true) 17 rfl rfl (ex_pkT rfl rfl rfl) ?_
    simp only [zp]
    refine sg (.bool true) 6 rfl rfl rfl rfl ?_
    simp only [zp]
    refine st_end ?_
    subst hQ
    refine wp_ret ?_
    repeat (first | refine ret_out ?_ | refine ret_blk ?_)
    refine bodyPost_ret (results_tmp Try.results36 _ _ _) rfl ⟨?_, E⟩
    show Ending.returned (.bool true) = _
    rw [decide_eq_true (show (y ≤ h + q.g) by omega)]
  · skip
    by_cases e1 : y - h ≤ q.g
    · skip
      have E : Below w.heap.size w w := Below.refl _ _
      go_enter Try.func36, Try.ntmps36
      refine wq fun Q hQ => ?_
      refine st_new (fun b => .pointer (some ⟨b, 0, none⟩)) (some 3) rfl rfl (ex_box rfl rfl) ?_
      intro b1 W1 k1 g1 B
      simp only [zp]
      have ge_b1 := Nat.le_trans E.size g1
      replace E := below_next E B
      clear B
      refine sg (.bool false) 6 rfl rfl rfl rfl ?_
      simp only [zp]
      refine st_end ?_
      subst hQ
      refine wq fun Q hQ => ?_
      refine sm (.int .i64 y) 7 rfl rfl rfl rfl ?_
      simp only [zp]
      refine sm (.int .i64 h) 8 rfl rfl rfl rfl ?_
      simp only [zp]
      refine sv (.bool false) 9 rfl rfl (ex_bin (u := (.int .i64 y)) (r := (.int .i64 h)) rfl rfl rfl (eg3 _ _ _ _ _ _) (lss3 _ (decide_eq_false (by omega)))) ?_
      simp only [zp]
      refine sm (.bool false) 10 rfl rfl rfl rfl ?_
      simp only [zp]
      refine sm (.int .i64 y) 11 rfl rfl rfl rfl ?_
      simp only [zp]
      refine sm (.int .i64 h) 12 rfl rfl rfl rfl ?_
      simp only [zp]
      refine sv (.int .i64 (y - h)) 13 rfl rfl (ex_bin (u := (.int .i64 y)) (r := (.int .i64 h)) rfl rfl rfl (eg3 _ _ _ _ _ _) (sub3 _ rfl (by omega))) ?_
      simp only [zp]
      refine sv (.pointer (some ⟨b1, 3, none⟩)) 14 rfl rfl (ex_fa (p := (.pointer (some ⟨b1, 0, none⟩))) rfl rfl (fa25_2 _ _)) ?_
      simp only [zp]
      refine sv (.int .i64 q.g) 15 rfl rfl (ex_load (p := (.pointer (some ⟨b1, 3, none⟩))) rfl rfl (ld3 (at_cell k1 rfl))) ?_
      simp only [zp]
      refine sv (.bool true) 16 rfl rfl (ex_bin (u := (.int .i64 (y - h))) (r := (.int .i64 q.g)) rfl rfl rfl (eg3 _ _ _ _ _ _) (leq3 _ (decide_eq_true (by omega)))) ?_
      simp only [zp]
      refine sv (.bool true) 17 rfl rfl (ex_pkF rfl rfl rfl) ?_
      simp only [zp]
      refine sg (.bool true) 6 rfl rfl rfl rfl ?_
      simp only [zp]
      refine st_end ?_
      subst hQ
      refine wp_ret ?_
      repeat (first | refine ret_out ?_ | refine ret_blk ?_)
      refine bodyPost_ret (results_tmp Try.results36 _ _ _) rfl ⟨?_, E⟩
      show Ending.returned (.bool true) = _
      rw [decide_eq_true (show (y ≤ h + q.g) by omega)]
    · skip
      have E : Below w.heap.size w w := Below.refl _ _
      go_enter Try.func36, Try.ntmps36
      refine wq fun Q hQ => ?_
      refine st_new (fun b => .pointer (some ⟨b, 0, none⟩)) (some 3) rfl rfl (ex_box rfl rfl) ?_
      intro b1 W1 k1 g1 B
      simp only [zp]
      have ge_b1 := Nat.le_trans E.size g1
      replace E := below_next E B
      clear B
      refine sg (.bool false) 6 rfl rfl rfl rfl ?_
      simp only [zp]
      refine st_end ?_
      subst hQ
      refine wq fun Q hQ => ?_
      refine sm (.int .i64 y) 7 rfl rfl rfl rfl ?_
      simp only [zp]
      refine sm (.int .i64 h) 8 rfl rfl rfl rfl ?_
      simp only [zp]
      refine sv (.bool false) 9 rfl rfl (ex_bin (u := (.int .i64 y)) (r := (.int .i64 h)) rfl rfl rfl (eg3 _ _ _ _ _ _) (lss3 _ (decide_eq_false (by omega)))) ?_
      simp only [zp]
      refine sm (.bool false) 10 rfl rfl rfl rfl ?_
      simp only [zp]
      refine sm (.int .i64 y) 11 rfl rfl rfl rfl ?_
      simp only [zp]
      refine sm (.int .i64 h) 12 rfl rfl rfl rfl ?_
      simp only [zp]
      refine sv (.int .i64 (y - h)) 13 rfl rfl (ex_bin (u := (.int .i64 y)) (r := (.int .i64 h)) rfl rfl rfl (eg3 _ _ _ _ _ _) (sub3 _ rfl (by omega))) ?_
      simp only [zp]
      refine sv (.pointer (some ⟨b1, 3, none⟩)) 14 rfl rfl (ex_fa (p := (.pointer (some ⟨b1, 0, none⟩))) rfl rfl (fa25_2 _ _)) ?_
      simp only [zp]
      refine sv (.int .i64 q.g) 15 rfl rfl (ex_load (p := (.pointer (some ⟨b1, 3, none⟩))) rfl rfl (ld3 (at_cell k1 rfl))) ?_
      simp only [zp]
      refine sv (.bool false) 16 rfl rfl (ex_bin (u := (.int .i64 (y - h))) (r := (.int .i64 q.g)) rfl rfl rfl (eg3 _ _ _ _ _ _) (leq3 _ (decide_eq_false (by omega)))) ?_
      simp only [zp]
      refine sv (.bool false) 17 rfl rfl (ex_pkF rfl rfl rfl) ?_
      simp only [zp]
      refine sg (.bool false) 6 rfl rfl rfl rfl ?_
      simp only [zp]
      refine st_end ?_
      subst hQ
      refine wp_ret ?_
      repeat (first | refine ret_out ?_ | refine ret_blk ?_)
      refine bodyPost_ret (results_tmp Try.results36 _ _ _) rfl ⟨?_, E⟩
      show Ending.returned (.bool false) = _
      rw [decide_eq_false (show ¬ (y ≤ h + q.g) by omega)]
set_option maxHeartbeats 4000000 in
theorem rfwd_any {q : RV} {H : Array Value} {v : HP} {a x h : Int} (w : World) (hH : IsHop H v) (hb : q.b ≤ 9223372036854775807) (y0 : -9223372036854775808 ≤ v.am) (y1 : v.am ≤ 9223372036854775807) (z1 : v.ex ≤ 9223372036854775807) {c : Int} (hc : fwdN q v a x h = c) :
    Calls Try.prog 12 #[.agg (RL q), .agg H, .int .i64 a, .int .i64 x, .int .i64 h] w fun e w' => e = .returned (.int .i64 c) ∧ Below w.heap.size w w' := by
  subst hc
  by_cases e0 : wrongB q a x h = true
  · skip
    have E : Below w.heap.size w w := Below.refl _ _
    go_enter Try.func12, Try.ntmps12
    refine wq fun Q hQ => ?_
    refine st_new (fun b => .pointer (some ⟨b, 0, none⟩)) (some 5) rfl rfl (ex_box rfl rfl) ?_
    intro b1 W1 k1 g1 B
    simp only [zp]
    have ge_b1 := Nat.le_trans E.size g1
    replace E := below_next E B
    clear B
    refine st_new (fun b => .pointer (some ⟨b, 0, none⟩)) (some 6) rfl rfl (ex_box rfl rfl) ?_
    intro b2 W2 k2 g2 B
    simp only [zp]
    have ne_b2_b1 : b2 ≠ b1 := fun e => by have := lt_of k1; omega
    have ge_b2 := Nat.le_trans E.size g2
    replace E := below_next E B
    replace k1 := keep B k1
    clear B
    refine sg (.int .i64 0) 10 rfl rfl rfl rfl ?_
    simp only [zp]
    refine st_end ?_
    subst hQ
    refine wp_seq ?_
    refine wq fun Q hQ => ?_
    refine sv (.agg (RL q)) 13 rfl rfl (ex_load (p := (.pointer (some ⟨b1, 0, none⟩))) rfl rfl (ld_all k1 Try.underlying25 rfl inf25)) ?_
    simp only [zp]
    refine sm (.int .i64 a) 14 rfl rfl rfl rfl ?_
    simp only [zp]
    refine sm (.int .i64 x) 15 rfl rfl rfl rfl ?_
    simp only [zp]
    refine sm (.int .i64 h) 16 rfl rfl rfl rfl ?_
    simp only [zp]
    refine st_call (some 17) rfl rfl (rright_any W2 e0) (ex_call (f := 35) (vs := [(.agg (RL q)), (.int .i64 a), (.int .i64 x), (.int .i64 h)]) rfl (cf35 _) rfl) ?_
    rintro e W3 ⟨rfl, B⟩
    refine ⟨_, rfl, ?_⟩
    simp only [zp]
    replace E := below_next E B
    replace k1 := keep B k1
    replace k2 := keep B k2
    refine sv (.bool true) 18 rfl rfl (ex_not rfl rfl rfl) ?_
    simp only [zp]
    refine sm (.bool true) 19 rfl rfl rfl rfl ?_
    simp only [zp]
    refine sn 20 rfl rfl ?_
    simp only [zp]
    refine sn 21 rfl rfl ?_
    simp only [zp]
    refine sn 22 rfl rfl ?_
    simp only [zp]
    refine sv (.bool true) 23 rfl rfl (ex_pkT rfl rfl rfl) ?_
    simp only [zp]
    refine st_end ?_
    subst hQ
    refine wp_cond_true rfl ?_
    refine wq fun Q hQ => ?_
    refine sg (.int .i64 1) 10 rfl rfl rfl rfl ?_
    simp only [zp]
    refine st_end ?_
    subst hQ
    refine wp_ret ?_
    repeat (first | refine ret_out ?_ | refine ret_blk ?_)
    refine bodyPost_ret (results_tmp Try.results12 _ _ _) rfl ⟨?_, E⟩
    show Ending.returned (.int .i64 1) = _
    simp [fwdN, belowB, e0]
  · skip
    replace e0 := Bool.eq_false_iff.2 e0
    obtain ⟨hm, a0, x0, x1, h0, h1⟩ := not_wrong e0
    have MR := mayR_of hm
    have MD := MR.2
    by_cases e1 : v.ch < 1
    · skip
      have E : Below w.heap.size w w := Below.refl _ _
      go_enter Try.func12, Try.ntmps12
      refine wq fun Q hQ => ?_
      refine st_new (fun b => .pointer (some ⟨b, 0, none⟩)) (some 5) rfl rfl (ex_box rfl rfl) ?_
      intro b1 W1 k1 g1 B
      simp only [zp]
      have ge_b1 := Nat.le_trans E.size g1
      replace E := below_next E B
      clear B
      refine st_new (fun b => .pointer (some ⟨b, 0, none⟩)) (some 6) rfl rfl (ex_box rfl rfl) ?_
      intro b2 W2 k2 g2 B
      simp only [zp]
      have ne_b2_b1 : b2 ≠ b1 := fun e => by have := lt_of k1; omega
      have ge_b2 := Nat.le_trans E.size g2
      replace E := below_next E B
      replace k1 := keep B k1
      clear B
      refine sg (.int .i64 0) 10 rfl rfl rfl rfl ?_
      simp only [zp]
      refine st_end ?_
      subst hQ
      refine wp_seq ?_
      refine wq fun Q hQ => ?_
      refine sv (.agg (RL q)) 13 rfl rfl (ex_load (p := (.pointer (some ⟨b1, 0, none⟩))) rfl rfl (ld_all k1 Try.underlying25 rfl inf25)) ?_
      simp only [zp]
      refine sm (.int .i64 a) 14 rfl rfl rfl rfl ?_
      simp only [zp]
      refine sm (.int .i64 x) 15 rfl rfl rfl rfl ?_
      simp only [zp]
      refine sm (.int .i64 h) 16 rfl rfl rfl rfl ?_
      simp only [zp]
      refine st_call (some 17) rfl rfl (rright_any W2 e0) (ex_call (f := 35) (vs := [(.agg (RL q)), (.int .i64 a), (.int .i64 x), (.int .i64 h)]) rfl (cf35 _) rfl) ?_
      rintro e W3 ⟨rfl, B⟩
      refine ⟨_, rfl, ?_⟩
      simp only [zp]
      replace E := below_next E B
      replace k1 := keep B k1
      replace k2 := keep B k2
      refine sv (.bool false) 18 rfl rfl (ex_not rfl rfl rfl) ?_
      simp only [zp]
      refine sm (.bool false) 19 rfl rfl rfl rfl ?_
      simp only [zp]
      refine sv (.pointer (some ⟨b2, 0, none⟩)) 20 rfl rfl (ex_fa (p := (.pointer (some ⟨b2, 0, none⟩))) rfl rfl (fa28_0 _ _)) ?_
      simp only [zp]
      refine sv (.int .i64 v.ch) 21 rfl rfl (ex_load (p := (.pointer (some ⟨b2, 0, none⟩))) rfl rfl (ld3 (at_cell k2 hH.c0))) ?_
      simp only [zp]
      refine sv (.bool true) 22 rfl rfl (ex_bin (u := (.int .i64 v.ch)) (r := (.int .i64 1)) rfl rfl rfl (eg3 _ _ _ _ _ _) (lss3 _ (decide_eq_true (by omega)))) ?_
      simp only [zp]
      refine sv (.bool true) 23 rfl rfl (ex_pkF rfl rfl rfl) ?_
      simp only [zp]
      refine st_end ?_
      subst hQ
      refine wp_cond_true rfl ?_
      refine wq fun Q hQ => ?_
      refine sg (.int .i64 1) 10 rfl rfl rfl rfl ?_
      simp only [zp]
      refine st_end ?_
      subst hQ
      refine wp_ret ?_
      repeat (first | refine ret_out ?_ | refine ret_blk ?_)
      refine bodyPost_ret (results_tmp Try.results12 _ _ _) rfl ⟨?_, E⟩
      show Ending.returned (.int .i64 1) = _
      simp [fwdN, belowB, e0, e1]
    · skip
      by_cases e2 : h < x
      · skip
        by_cases e3 : q.f < x - h
        · skip
          have E : Below w.heap.size w w := Below.refl _ _
          go_enter Try.func12, Try.ntmps12
          refine wq fun Q hQ => ?_
          refine st_new (fun b => .pointer (some ⟨b, 0, none⟩)) (some 5) rfl rfl (ex_box rfl rfl) ?_
          intro b1 W1 k1 g1 B
          simp only [zp]
          have ge_b1 := Nat.le_trans E.size g1
          replace E := below_next E B
          clear B
          refine st_new (fun b => .pointer (some ⟨b, 0, none⟩)) (some 6) rfl rfl (ex_box rfl rfl) ?_
          intro b2 W2 k2 g2 B
          simp only [zp]
          have ne_b2_b1 : b2 ≠ b1 := fun e => by have := lt_of k1; omega
          have ge_b2 := Nat.le_trans E.size g2
          replace E := below_next E B
          replace k1 := keep B k1
          clear B
          refine sg (.int .i64 0) 10 rfl rfl rfl rfl ?_
          simp only [zp]
          refine st_end ?_
          subst hQ
          refine wp_seq ?_
          refine wq fun Q hQ => ?_
          refine sv (.agg (RL q)) 13 rfl rfl (ex_load (p := (.pointer (some ⟨b1, 0, none⟩))) rfl rfl (ld_all k1 Try.underlying25 rfl inf25)) ?_
          simp only [zp]
          refine sm (.int .i64 a) 14 rfl rfl rfl rfl ?_
          simp only [zp]
          refine sm (.int .i64 x) 15 rfl rfl rfl rfl ?_
          simp only [zp]
          refine sm (.int .i64 h) 16 rfl rfl rfl rfl ?_
          simp only [zp]
          refine st_call (some 17) rfl rfl (rright_any W2 e0) (ex_call (f := 35) (vs := [(.agg (RL q)), (.int .i64 a), (.int .i64 x), (.int .i64 h)]) rfl (cf35 _) rfl) ?_
          rintro e W3 ⟨rfl, B⟩
          refine ⟨_, rfl, ?_⟩
          simp only [zp]
          replace E := below_next E B
          replace k1 := keep B k1
          replace k2 := keep B k2
          refine sv (.bool false) 18 rfl rfl (ex_not rfl rfl rfl) ?_
          simp only [zp]
          refine sm (.bool false) 19 rfl rfl rfl rfl ?_
          simp only [zp]
          refine sv (.pointer (some ⟨b2, 0, none⟩)) 20 rfl rfl (ex_fa (p := (.pointer (some ⟨b2, 0, none⟩))) rfl rfl (fa28_0 _ _)) ?_
          simp only [zp]
          refine sv (.int .i64 v.ch) 21 rfl rfl (ex_load (p := (.pointer (some ⟨b2, 0, none⟩))) rfl rfl (ld3 (at_cell k2 hH.c0))) ?_
          simp only [zp]
          refine sv (.bool false) 22 rfl rfl (ex_bin (u := (.int .i64 v.ch)) (r := (.int .i64 1)) rfl rfl rfl (eg3 _ _ _ _ _ _) (lss3 _ (decide_eq_false (by omega)))) ?_
          simp only [zp]
          refine sv (.bool false) 23 rfl rfl (ex_pkF rfl rfl rfl) ?_
          simp only [zp]
          refine st_end ?_
          subst hQ
          refine wp_cond_false rfl ?_
          refine wp_skip ?_
          refine wp_seq ?_
          refine wq fun Q hQ => ?_
          refine sm (.int .i64 x) 24 rfl rfl rfl rfl ?_
          simp only [zp]
          refine sm (.int .i64 h) 25 rfl rfl rfl rfl ?_
          simp only [zp]
          refine sv (.bool true) 26 rfl rfl (ex_bin (u := (.int .i64 x)) (r := (.int .i64 h)) rfl rfl rfl (eg3 _ _ _ _ _ _) (gtr3 _ (decide_eq_true (by omega)))) ?_
          simp only [zp]
          refine sm (.bool true) 27 rfl rfl rfl rfl ?_
          simp only [zp]
          refine sm (.int .i64 x) 28 rfl rfl rfl rfl ?_
          simp only [zp]
          refine sm (.int .i64 h) 29 rfl rfl rfl rfl ?_
          simp only [zp]
          refine sv (.int .i64 (x - h)) 30 rfl rfl (ex_bin (u := (.int .i64 x)) (r := (.int .i64 h)) rfl rfl rfl (eg3 _ _ _ _ _ _) (sub3 _ rfl (by omega))) ?_
          simp only [zp]
          refine sv (.pointer (some ⟨b1, 4, none⟩)) 31 rfl rfl (ex_fa (p := (.pointer (some ⟨b1, 0, none⟩))) rfl rfl (fa25_3 _ _)) ?_
          simp only [zp]
          refine sv (.int .i64 q.f) 32 rfl rfl (ex_load (p := (.pointer (some ⟨b1, 4, none⟩))) rfl rfl (ld3 (at_cell k1 rfl))) ?_
          simp only [zp]
          refine sv (.bool true) 33 rfl rfl (ex_bin (u := (.int .i64 (x - h))) (r := (.int .i64 q.f)) rfl rfl rfl (eg3 _ _ _ _ _ _) (gtr3 _ (decide_eq_true (by omega)))) ?_
          simp only [zp]
          refine sv (.bool true) 34 rfl rfl (ex_pkT rfl rfl rfl) ?_
          simp only [zp]
          refine st_end ?_
          subst hQ
          refine wp_cond_true rfl ?_
          refine wq fun Q hQ => ?_
          refine sg (.int .i64 6) 10 rfl rfl rfl rfl ?_
          simp only [zp]
          refine st_end ?_
          subst hQ
          refine wp_ret ?_
          repeat (first | refine ret_out ?_ | refine ret_blk ?_)
          refine bodyPost_ret (results_tmp Try.results12 _ _ _) rfl ⟨?_, E⟩
          show Ending.returned (.int .i64 6) = _
          simp [fwdN, belowB, e0, e1, e2, e3]
        · skip
          by_cases e4 : v.ex ≤ h + q.g
          · skip
            have E : Below w.heap.size w w := Below.refl _ _
            go_enter Try.func12, Try.ntmps12
            refine wq fun Q hQ => ?_
            refine st_new (fun b => .pointer (some ⟨b, 0, none⟩)) (some 5) rfl rfl (ex_box rfl rfl) ?_
            intro b1 W1 k1 g1 B
            simp only [zp]
            have ge_b1 := Nat.le_trans E.size g1
            replace E := below_next E B
            clear B
            refine st_new (fun b => .pointer (some ⟨b, 0, none⟩)) (some 6) rfl rfl (ex_box rfl rfl) ?_
            intro b2 W2 k2 g2 B
            simp only [zp]
            have ne_b2_b1 : b2 ≠ b1 := fun e => by have := lt_of k1; omega
            have ge_b2 := Nat.le_trans E.size g2
            replace E := below_next E B
            replace k1 := keep B k1
            clear B
            refine sg (.int .i64 0) 10 rfl rfl rfl rfl ?_
            simp only [zp]
            refine st_end ?_
            subst hQ
            refine wp_seq ?_
            refine wq fun Q hQ => ?_
            refine sv (.agg (RL q)) 13 rfl rfl (ex_load (p := (.pointer (some ⟨b1, 0, none⟩))) rfl rfl (ld_all k1 Try.underlying25 rfl inf25)) ?_
            simp only [zp]
            refine sm (.int .i64 a) 14 rfl rfl rfl rfl ?_
            simp only [zp]
            refine sm (.int .i64 x) 15 rfl rfl rfl rfl ?_
            simp only [zp]
            refine sm (.int .i64 h) 16 rfl rfl rfl rfl ?_
            simp only [zp]
            refine st_call (some 17) rfl rfl (rright_any W2 e0) (ex_call (f := 35) (vs := [(.agg (RL q)), (.int .i64 a), (.int .i64 x), (.int .i64 h)]) rfl (cf35 _) rfl) ?_
            rintro e W3 ⟨rfl, B⟩
            refine ⟨_, rfl, ?_⟩
            simp only [zp]
            replace E := below_next E B
            replace k1 := keep B k1
            replace k2 := keep B k2
            refine sv (.bool false) 18 rfl rfl (ex_not rfl rfl rfl) ?_
            simp only [zp]
            refine sm (.bool false) 19 rfl rfl rfl rfl ?_
            simp only [zp]
            refine sv (.pointer (some ⟨b2, 0, none⟩)) 20 rfl rfl (ex_fa (p := (.pointer (some ⟨b2, 0, none⟩))) rfl rfl (fa28_0 _ _)) ?_
            simp only [zp]
            refine sv (.int .i64 v.ch) 21 rfl rfl (ex_load (p := (.pointer (some ⟨b2, 0, none⟩))) rfl rfl (ld3 (at_cell k2 hH.c0))) ?_
            simp only [zp]
            refine sv (.bool false) 22 rfl rfl (ex_bin (u := (.int .i64 v.ch)) (r := (.int .i64 1)) rfl rfl rfl (eg3 _ _ _ _ _ _) (lss3 _ (decide_eq_false (by omega)))) ?_
            simp only [zp]
            refine sv (.bool false) 23 rfl rfl (ex_pkF rfl rfl rfl) ?_
            simp only [zp]
            refine st_end ?_
            subst hQ
            refine wp_cond_false rfl ?_
            refine wp_skip ?_
            refine wp_seq ?_
            refine wq fun Q hQ => ?_
            refine sm (.int .i64 x) 24 rfl rfl rfl rfl ?_
            simp only [zp]
            refine sm (.int .i64 h) 25 rfl rfl rfl rfl ?_
            simp only [zp]
            refine sv (.bool true) 26 rfl rfl (ex_bin (u := (.int .i64 x)) (r := (.int .i64 h)) rfl rfl rfl (eg3 _ _ _ _ _ _) (gtr3 _ (decide_eq_true (by omega)))) ?_
            simp only [zp]
            refine sm (.bool true) 27 rfl rfl rfl rfl ?_
            simp only [zp]
            refine sm (.int .i64 x) 28 rfl rfl rfl rfl ?_
            simp only [zp]
            refine sm (.int .i64 h) 29 rfl rfl rfl rfl ?_
            simp only [zp]
            refine sv (.int .i64 (x - h)) 30 rfl rfl (ex_bin (u := (.int .i64 x)) (r := (.int .i64 h)) rfl rfl rfl (eg3 _ _ _ _ _ _) (sub3 _ rfl (by omega))) ?_
            simp only [zp]
            refine sv (.pointer (some ⟨b1, 4, none⟩)) 31 rfl rfl (ex_fa (p := (.pointer (some ⟨b1, 0, none⟩))) rfl rfl (fa25_3 _ _)) ?_
            simp only [zp]
            refine sv (.int .i64 q.f) 32 rfl rfl (ex_load (p := (.pointer (some ⟨b1, 4, none⟩))) rfl rfl (ld3 (at_cell k1 rfl))) ?_
            simp only [zp]
            refine sv (.bool false) 33 rfl rfl (ex_bin (u := (.int .i64 (x - h))) (r := (.int .i64 q.f)) rfl rfl rfl (eg3 _ _ _ _ _ _) (gtr3 _ (decide_eq_false (by omega)))) ?_
            simp only [zp]
            refine sv (.bool false) 34 rfl rfl (ex_pkT rfl rfl rfl) ?_
            simp only [zp]
            refine st_end ?_
            subst hQ
            refine wp_cond_false rfl ?_
            refine wp_skip ?_
            refine wp_seq ?_
            refine wq fun Q hQ => ?_
            refine sv (.agg (RL q)) 35 rfl rfl (ex_load (p := (.pointer (some ⟨b1, 0, none⟩))) rfl rfl (ld_all k1 Try.underlying25 rfl inf25)) ?_
            simp only [zp]
            refine sv (.pointer (some ⟨b2, 2, none⟩)) 36 rfl rfl (ex_fa (p := (.pointer (some ⟨b2, 0, none⟩))) rfl rfl (fa28_2 _ _)) ?_
            simp only [zp]
            refine sv (.int .i64 v.ex) 37 rfl rfl (ex_load (p := (.pointer (some ⟨b2, 2, none⟩))) rfl rfl (ld3 (at_cell k2 hH.c2))) ?_
            simp only [zp]
            refine sm (.int .i64 h) 38 rfl rfl rfl rfl ?_
            simp only [zp]
            refine st_call (some 39) rfl rfl (rsoon_any W3 h0 h1 MR.2.2.2.1 MR.2.2.2.2.1 z1 (decide_eq_true (by omega))) (ex_call (f := 36) (vs := [(.agg (RL q)), (.int .i64 v.ex), (.int .i64 h)]) rfl (cf36 _) rfl) ?_
            rintro e W4 ⟨rfl, B⟩
            refine ⟨_, rfl, ?_⟩
            simp only [zp]
            replace E := below_next E B
            replace k1 := keep B k1
            replace k2 := keep B k2
            refine st_end ?_
            subst hQ
            refine wp_cond_true rfl ?_
            refine wq fun Q hQ => ?_
            refine sg (.int .i64 5) 10 rfl rfl rfl rfl ?_
            simp only [zp]
            refine st_end ?_
            subst hQ
            refine wp_ret ?_
            repeat (first | refine ret_out ?_ | refine ret_blk ?_)
            refine bodyPost_ret (results_tmp Try.results12 _ _ _) rfl ⟨?_, E⟩
            show Ending.returned (.int .i64 5) = _
            simp [fwdN, belowB, e0, e1, e2, e3, e4]
          · skip
            by_cases e5 : x < v.ex
            · skip
              by_cases e6 : x - q.d < v.ex
              · skip
                have E : Below w.heap.size w w := Below.refl _ _
                go_enter Try.func12, Try.ntmps12
                refine wq fun Q hQ => ?_
                refine st_new (fun b => .pointer (some ⟨b, 0, none⟩)) (some 5) rfl rfl (ex_box rfl rfl) ?_
                intro b1 W1 k1 g1 B
                simp only [zp]
                have ge_b1 := Nat.le_trans E.size g1
                replace E := below_next E B
                clear B
                refine st_new (fun b => .pointer (some ⟨b, 0, none⟩)) (some 6) rfl rfl (ex_box rfl rfl) ?_
                intro b2 W2 k2 g2 B
                simp only [zp]
                have ne_b2_b1 : b2 ≠ b1 := fun e => by have := lt_of k1; omega
                have ge_b2 := Nat.le_trans E.size g2
                replace E := below_next E B
                replace k1 := keep B k1
                clear B
                refine sg (.int .i64 0) 10 rfl rfl rfl rfl ?_
                simp only [zp]
                refine st_end ?_
                subst hQ
                refine wp_seq ?_
                refine wq fun Q hQ => ?_
                refine sv (.agg (RL q)) 13 rfl rfl (ex_load (p := (.pointer (some ⟨b1, 0, none⟩))) rfl rfl (ld_all k1 Try.underlying25 rfl inf25)) ?_
                simp only [zp]
                refine sm (.int .i64 a) 14 rfl rfl rfl rfl ?_
                simp only [zp]
                refine sm (.int .i64 x) 15 rfl rfl rfl rfl ?_
                simp only [zp]
                refine sm (.int .i64 h) 16 rfl rfl rfl rfl ?_
                simp only [zp]
                refine st_call (some 17) rfl rfl (rright_any W2 e0) (ex_call (f := 35) (vs := [(.agg (RL q)), (.int .i64 a), (.int .i64 x), (.int .i64 h)]) rfl (cf35 _) rfl) ?_
                rintro e W3 ⟨rfl, B⟩
                refine ⟨_, rfl, ?_⟩
                simp only [zp]
                replace E := below_next E B
                replace k1 := keep B k1
                replace k2 := keep B k2
                refine sv (.bool false) 18 rfl rfl (ex_not rfl rfl rfl) ?_
                simp only [zp]
                refine sm (.bool false) 19 rfl rfl rfl rfl ?_
                simp only [zp]
                refine sv (.pointer (some ⟨b2, 0, none⟩)) 20 rfl rfl (ex_fa (p := (.pointer (some ⟨b2, 0, none⟩))) rfl rfl (fa28_0 _ _)) ?_
                simp only [zp]
                refine sv (.int .i64 v.ch) 21 rfl rfl (ex_load (p := (.pointer (some ⟨b2, 0, none⟩))) rfl rfl (ld3 (at_cell k2 hH.c0))) ?_
                simp only [zp]
                refine sv (.bool false) 22 rfl rfl (ex_bin (u := (.int .i64 v.ch)) (r := (.int .i64 1)) rfl rfl rfl (eg3 _ _ _ _ _ _) (lss3 _ (decide_eq_false (by omega)))) ?_
                simp only [zp]
                refine sv (.bool false) 23 rfl rfl (ex_pkF rfl rfl rfl) ?_
                simp only [zp]
                refine st_end ?_
                subst hQ
                refine wp_cond_false rfl ?_
                refine wp_skip ?_
                refine wp_seq ?_
                refine wq fun Q hQ => ?_
                refine sm (.int .i64 x) 24 rfl rfl rfl rfl ?_
                simp only [zp]
                refine sm (.int .i64 h) 25 rfl rfl rfl rfl ?_
                simp only [zp]
                refine sv (.bool true) 26 rfl rfl (ex_bin (u := (.int .i64 x)) (r := (.int .i64 h)) rfl rfl rfl (eg3 _ _ _ _ _ _) (gtr3 _ (decide_eq_true (by omega)))) ?_
                simp only [zp]
                refine sm (.bool true) 27 rfl rfl rfl rfl ?_
                simp only [zp]
                refine sm (.int .i64 x) 28 rfl rfl rfl rfl ?_
                simp only [zp]
                refine sm (.int .i64 h) 29 rfl rfl rfl rfl ?_
                simp only [zp]
                refine sv (.int .i64 (x - h)) 30 rfl rfl (ex_bin (u := (.int .i64 x)) (r := (.int .i64 h)) rfl rfl rfl (eg3 _ _ _ _ _ _) (sub3 _ rfl (by omega))) ?_
                simp only [zp]
                refine sv (.pointer (some ⟨b1, 4, none⟩)) 31 rfl rfl (ex_fa (p := (.pointer (some ⟨b1, 0, none⟩))) rfl rfl (fa25_3 _ _)) ?_
                simp only [zp]
                refine sv (.int .i64 q.f) 32 rfl rfl (ex_load (p := (.pointer (some ⟨b1, 4, none⟩))) rfl rfl (ld3 (at_cell k1 rfl))) ?_
                simp only [zp]
                refine sv (.bool false) 33 rfl rfl (ex_bin (u := (.int .i64 (x - h))) (r := (.int .i64 q.f)) rfl rfl rfl (eg3 _ _ _ _ _ _) (gtr3 _ (decide_eq_false (by omega)))) ?_
                simp only [zp]
                refine sv (.bool false) 34 rfl rfl (ex_pkT rfl rfl rfl) ?_
                simp only [zp]
                refine st_end ?_
                subst hQ
                refine wp_cond_false rfl ?_
                refine wp_skip ?_
                refine wp_seq ?_
                refine wq fun Q hQ => ?_
                refine sv (.agg (RL q)) 35 rfl rfl (ex_load (p := (.pointer (some ⟨b1, 0, none⟩))) rfl rfl (ld_all k1 Try.underlying25 rfl inf25)) ?_
                simp only [zp]
                refine sv (.pointer (some ⟨b2, 2, none⟩)) 36 rfl rfl (ex_fa (p := (.pointer (some ⟨b2, 0, none⟩))) rfl rfl (fa28_2 _ _)) ?_
                simp only [zp]
                refine sv (.int .i64 v.ex) 37 rfl rfl (ex_load (p := (.pointer (some ⟨b2, 2, none⟩))) rfl rfl (ld3 (at_cell k2 hH.c2))) ?_
                simp only [zp]
                refine sm (.int .i64 h) 38 rfl rfl rfl rfl ?_
                simp only [zp]
                refine st_call (some 39) rfl rfl (rsoon_any W3 h0 h1 MR.2.2.2.1 MR.2.2.2.2.1 z1 (decide_eq_false (by omega))) (ex_call (f := 36) (vs := [(.agg (RL q)), (.int .i64 v.ex), (.int .i64 h)]) rfl (cf36 _) rfl) ?_
                rintro e W4 ⟨rfl, B⟩
                refine ⟨_, rfl, ?_⟩
                simp only [zp]
                replace E := below_next E B
                replace k1 := keep B k1
                replace k2 := keep B k2
                refine st_end ?_
                subst hQ
                refine wp_cond_false rfl ?_
                refine wp_skip ?_
                refine wp_seq ?_
                refine wq fun Q hQ => ?_
                refine sv (.pointer (some ⟨b2, 2, none⟩)) 40 rfl rfl (ex_fa (p := (.pointer (some ⟨b2, 0, none⟩))) rfl rfl (fa28_2 _ _)) ?_
                simp only [zp]
                refine sv (.int .i64 v.ex) 41 rfl rfl (ex_load (p := (.pointer (some ⟨b2, 2, none⟩))) rfl rfl (ld3 (at_cell k2 hH.c2))) ?_
                simp only [zp]
                refine sm (.int .i64 x) 42 rfl rfl rfl rfl ?_
                simp only [zp]
                refine sv (.bool true) 43 rfl rfl (ex_bin (u := (.int .i64 v.ex)) (r := (.int .i64 x)) rfl rfl rfl (eg3 _ _ _ _ _ _) (gtr3 _ (decide_eq_true (by omega)))) ?_
                simp only [zp]
                refine sm (.bool true) 44 rfl rfl rfl rfl ?_
                simp only [zp]
                refine sn 45 rfl rfl ?_
                simp only [zp]
                refine sn 46 rfl rfl ?_
                simp only [zp]
                refine sn 47 rfl rfl ?_
                simp only [zp]
                refine sn 48 rfl rfl ?_
                simp only [zp]
                refine sn 49 rfl rfl ?_
                simp only [zp]
                refine sn 50 rfl rfl ?_
                simp only [zp]
                refine sn 51 rfl rfl ?_
                simp only [zp]
                refine sv (.bool true) 52 rfl rfl (ex_pkT rfl rfl rfl) ?_
                simp only [zp]
                refine st_end ?_
                subst hQ
                refine wp_cond_true rfl ?_
                refine wq fun Q hQ => ?_
                refine sg (.int .i64 4) 10 rfl rfl rfl rfl ?_
                simp only [zp]
                refine st_end ?_
                subst hQ
                refine wp_ret ?_
                repeat (first | refine ret_out ?_ | refine ret_blk ?_)
                refine bodyPost_ret (results_tmp Try.results12 _ _ _) rfl ⟨?_, E⟩
                show Ending.returned (.int .i64 4) = _
                simp [fwdN, belowB, e0, e1, e2, e3, e4, e5, e6]
              · skip
                exfalso
                omega
            · skip
              by_cases e6 : x - q.d < v.ex
              · skip
                have E : Below w.heap.size w w := Below.refl _ _
                go_enter Try.func12, Try.ntmps12
                refine wq fun Q hQ => ?_
                refine st_new (fun b => .pointer (some ⟨b, 0, none⟩)) (some 5) rfl rfl (ex_box rfl rfl) ?_
                intro b1 W1 k1 g1 B
                simp only [zp]
                have ge_b1 := Nat.le_trans E.size g1
                replace E := below_next E B
                clear B
                refine st_new (fun b => .pointer (some ⟨b, 0, none⟩)) (some 6) rfl rfl (ex_box rfl rfl) ?_
                intro b2 W2 k2 g2 B
                simp only [zp]
                have ne_b2_b1 : b2 ≠ b1 := fun e => by have := lt_of k1; omega
                have ge_b2 := Nat.le_trans E.size g2
                replace E := below_next E B
                replace k1 := keep B k1
                clear B
                refine sg (.int .i64 0) 10 rfl rfl rfl rfl ?_
                simp only [zp]
                refine st_end ?_
                subst hQ
                refine wp_seq ?_
                refine wq fun Q hQ => ?_
                refine sv (.agg (RL q)) 13 rfl rfl (ex_load (p := (.pointer (some ⟨b1, 0, none⟩))) rfl rfl (ld_all k1 Try.underlying25 rfl inf25)) ?_
                simp only [zp]
                refine sm (.int .i64 a) 14 rfl rfl rfl rfl ?_
                simp only [zp]
                refine sm (.int .i64 x) 15 rfl rfl rfl rfl ?_
                simp only [zp]
                refine sm (.int .i64 h) 16 rfl rfl rfl rfl ?_
                simp only [zp]
                refine st_call (some 17) rfl rfl (rright_any W2 e0) (ex_call (f := 35) (vs := [(.agg (RL q)), (.int .i64 a), (.int .i64 x), (.int .i64 h)]) rfl (cf35 _) rfl) ?_
                rintro e W3 ⟨rfl, B⟩
                refine ⟨_, rfl, ?_⟩
                simp only [zp]
                replace E := below_next E B
                replace k1 := keep B k1
                replace k2 := keep B k2
                refine sv (.bool false) 18 rfl rfl (ex_not rfl rfl rfl) ?_
                simp only [zp]
                refine sm (.bool false) 19 rfl rfl rfl rfl ?_
                simp only [zp]
                refine sv (.pointer (some ⟨b2, 0, none⟩)) 20 rfl rfl (ex_fa (p := (.pointer (some ⟨b2, 0, none⟩))) rfl rfl (fa28_0 _ _)) ?_
                simp only [zp]
                refine sv (.int .i64 v.ch) 21 rfl rfl (ex_load (p := (.pointer (some ⟨b2, 0, none⟩))) rfl rfl (ld3 (at_cell k2 hH.c0))) ?_
                simp only [zp]
                refine sv (.bool false) 22 rfl rfl (ex_bin (u := (.int .i64 v.ch)) (r := (.int .i64 1)) rfl rfl rfl (eg3 _ _ _ _ _ _) (lss3 _ (decide_eq_false (by omega)))) ?_
                simp only [zp]
                refine sv (.bool false) 23 rfl rfl (ex_pkF rfl rfl rfl) ?_
                simp only [zp]
                refine st_end ?_
                subst hQ
                refine wp_cond_false rfl ?_
                refine wp_skip ?_
                refine wp_seq ?_
                refine wq fun Q hQ => ?_
                refine sm (.int .i64 x) 24 rfl rfl rfl rfl ?_
                simp only [zp]
                refine sm (.int .i64 h) 25 rfl rfl rfl rfl ?_
                simp only [zp]
                refine sv (.bool true) 26 rfl rfl (ex_bin (u := (.int .i64 x)) (r := (.int .i64 h)) rfl rfl rfl (eg3 _ _ _ _ _ _) (gtr3 _ (decide_eq_true (by omega)))) ?_
                simp only [zp]
                refine sm (.bool true) 27 rfl rfl rfl rfl ?_
                simp only [zp]
                refine sm (.int .i64 x) 28 rfl rfl rfl rfl ?_
                simp only [zp]
                refine sm (.int .i64 h) 29 rfl rfl rfl rfl ?_
                simp only [zp]
                refine sv (.int .i64 (x - h)) 30 rfl rfl (ex_bin (u := (.int .i64 x)) (r := (.int .i64 h)) rfl rfl rfl (eg3 _ _ _ _ _ _) (sub3 _ rfl (by omega))) ?_
                simp only [zp]
                refine sv (.pointer (some ⟨b1, 4, none⟩)) 31 rfl rfl (ex_fa (p := (.pointer (some ⟨b1, 0, none⟩))) rfl rfl (fa25_3 _ _)) ?_
                simp only [zp]
                refine sv (.int .i64 q.f) 32 rfl rfl (ex_load (p := (.pointer (some ⟨b1, 4, none⟩))) rfl rfl (ld3 (at_cell k1 rfl))) ?_
                simp only [zp]
                refine sv (.bool false) 33 rfl rfl (ex_bin (u := (.int .i64 (x - h))) (r := (.int .i64 q.f)) rfl rfl rfl (eg3 _ _ _ _ _ _) (gtr3 _ (decide_eq_false (by omega)))) ?_
                simp only [zp]
                refine sv (.bool false) 34 rfl rfl (ex_pkT rfl rfl rfl) ?_
                simp only [zp]
                refine st_end ?_
                subst hQ
                refine wp_cond_false rfl ?_
                refine wp_skip ?_
                refine wp_seq ?_
                refine wq fun Q hQ => ?_
                refine sv (.agg (RL q)) 35 rfl rfl (ex_load (p := (.pointer (some ⟨b1, 0, none⟩))) rfl rfl (ld_all k1 Try.underlying25 rfl inf25)) ?_
                simp only [zp]
                refine sv (.pointer (some ⟨b2, 2, none⟩)) 36 rfl rfl (ex_fa (p := (.pointer (some ⟨b2, 0, none⟩))) rfl rfl (fa28_2 _ _)) ?_
                simp only [zp]
                refine sv (.int .i64 v.ex) 37 rfl rfl (ex_load (p := (.pointer (some ⟨b2, 2, none⟩))) rfl rfl (ld3 (at_cell k2 hH.c2))) ?_
                simp only [zp]
                refine sm (.int .i64 h) 38 rfl rfl rfl rfl ?_
                simp only [zp]
                refine st_call (some 39) rfl rfl (rsoon_any W3 h0 h1 MR.2.2.2.1 MR.2.2.2.2.1 z1 (decide_eq_false (by omega))) (ex_call (f := 36) (vs := [(.agg (RL q)), (.int .i64 v.ex), (.int .i64 h)]) rfl (cf36 _) rfl) ?_
                rintro e W4 ⟨rfl, B⟩
                refine ⟨_, rfl, ?_⟩
                simp only [zp]
                replace E := below_next E B
                replace k1 := keep B k1
                replace k2 := keep B k2
                refine st_end ?_
                subst hQ
                refine wp_cond_false rfl ?_
                refine wp_skip ?_
                refine wp_seq ?_
                refine wq fun Q hQ => ?_
                refine sv (.pointer (some ⟨b2, 2, none⟩)) 40 rfl rfl (ex_fa (p := (.pointer (some ⟨b2, 0, none⟩))) rfl rfl (fa28_2 _ _)) ?_
                simp only [zp]
                refine sv (.int .i64 v.ex) 41 rfl rfl (ex_load (p := (.pointer (some ⟨b2, 2, none⟩))) rfl rfl (ld3 (at_cell k2 hH.c2))) ?_
                simp only [zp]
                refine sm (.int .i64 x) 42 rfl rfl rfl rfl ?_
                simp only [zp]
                refine sv (.bool false) 43 rfl rfl (ex_bin (u := (.int .i64 v.ex)) (r := (.int .i64 x)) rfl rfl rfl (eg3 _ _ _ _ _ _) (gtr3 _ (decide_eq_false (by omega)))) ?_
                simp only [zp]
                refine sm (.bool false) 44 rfl rfl rfl rfl ?_
                simp only [zp]
                refine sm (.int .i64 x) 45 rfl rfl rfl rfl ?_
                simp only [zp]
                refine sv (.pointer (some ⟨b2, 2, none⟩)) 46 rfl rfl (ex_fa (p := (.pointer (some ⟨b2, 0, none⟩))) rfl rfl (fa28_2 _ _)) ?_
                simp only [zp]
                refine sv (.int .i64 v.ex) 47 rfl rfl (ex_load (p := (.pointer (some ⟨b2, 2, none⟩))) rfl rfl (ld3 (at_cell k2 hH.c2))) ?_
                simp only [zp]
                refine sv (.int .i64 (x - v.ex)) 48 rfl rfl (ex_bin (u := (.int .i64 x)) (r := (.int .i64 v.ex)) rfl rfl rfl (eg3 _ _ _ _ _ _) (sub3 _ rfl (by omega))) ?_
                simp only [zp]
                refine sv (.pointer (some ⟨b1, 2, none⟩)) 49 rfl rfl (ex_fa (p := (.pointer (some ⟨b1, 0, none⟩))) rfl rfl (fa25_1 _ _)) ?_
                simp only [zp]
                refine sv (.int .i64 q.d) 50 rfl rfl (ex_load (p := (.pointer (some ⟨b1, 2, none⟩))) rfl rfl (ld3 (at_cell k1 rfl))) ?_
                simp only [zp]
                refine sv (.bool true) 51 rfl rfl (ex_bin (u := (.int .i64 (x - v.ex))) (r := (.int .i64 q.d)) rfl rfl rfl (eg3 _ _ _ _ _ _) (lss3 _ (decide_eq_true (by omega)))) ?_
                simp only [zp]
                refine sv (.bool true) 52 rfl rfl (ex_pkF rfl rfl rfl) ?_
                simp only [zp]
                refine st_end ?_
                subst hQ
                refine wp_cond_true rfl ?_
                refine wq fun Q hQ => ?_
                refine sg (.int .i64 4) 10 rfl rfl rfl rfl ?_
                simp only [zp]
                refine st_end ?_
                subst hQ
                refine wp_ret ?_
                repeat (first | refine ret_out ?_ | refine ret_blk ?_)
                refine bodyPost_ret (results_tmp Try.results12 _ _ _) rfl ⟨?_, E⟩
                show Ending.returned (.int .i64 4) = _
                simp [fwdN, belowB, e0, e1, e2, e3, e4, e5, e6]
              · skip
                by_cases e7 : v.am < 1
                · skip
                  have E : Below w.heap.size w w := Below.refl _ _
                  go_enter Try.func12, Try.ntmps12
                  refine wq fun Q hQ => ?_
                  refine st_new (fun b => .pointer (some ⟨b, 0, none⟩)) (some 5) rfl rfl (ex_box rfl rfl) ?_
                  intro b1 W1 k1 g1 B
                  simp only [zp]
                  have ge_b1 := Nat.le_trans E.size g1
                  replace E := below_next E B
                  clear B
                  refine st_new (fun b => .pointer (some ⟨b, 0, none⟩)) (some 6) rfl rfl (ex_box rfl rfl) ?_
                  intro b2 W2 k2 g2 B
                  simp only [zp]
                  have ne_b2_b1 : b2 ≠ b1 := fun e => by have := lt_of k1; omega
                  have ge_b2 := Nat.le_trans E.size g2
                  replace E := below_next E B
                  replace k1 := keep B k1
                  clear B
                  refine sg (.int .i64 0) 10 rfl rfl rfl rfl ?_
                  simp only [zp]
                  refine st_end ?_
                  subst hQ
                  refine wp_seq ?_
                  refine wq fun Q hQ => ?_
                  refine sv (.agg (RL q)) 13 rfl rfl (ex_load (p := (.pointer (some ⟨b1, 0, none⟩))) rfl rfl (ld_all k1 Try.underlying25 rfl inf25)) ?_
                  simp only [zp]
                  refine sm (.int .i64 a) 14 rfl rfl rfl rfl ?_
                  simp only [zp]
                  refine sm (.int .i64 x) 15 rfl rfl rfl rfl ?_
                  simp only [zp]
                  refine sm (.int .i64 h) 16 rfl rfl rfl rfl ?_
                  simp only [zp]
                  refine st_call (some 17) rfl rfl (rright_any W2 e0) (ex_call (f := 35) (vs := [(.agg (RL q)), (.int .i64 a), (.int .i64 x), (.int .i64 h)]) rfl (cf35 _) rfl) ?_
                  rintro e W3 ⟨rfl, B⟩
                  refine ⟨_, rfl, ?_⟩
                  simp only [zp]
                  replace E := below_next E B
                  replace k1 := keep B k1
                  replace k2 := keep B k2
                  refine sv (.bool false) 18 rfl rfl (ex_not rfl rfl rfl) ?_
                  simp only [zp]
                  refine sm (.bool false) 19 rfl rfl rfl rfl ?_
                  simp only [zp]
                  refine sv (.pointer (some ⟨b2, 0, none⟩)) 20 rfl rfl (ex_fa (p := (.pointer (some ⟨b2, 0, none⟩))) rfl rfl (fa28_0 _ _)) ?_
                  simp only [zp]
                  refine sv (.int .i64 v.ch) 21 rfl rfl (ex_load (p := (.pointer (some ⟨b2, 0, none⟩))) rfl rfl (ld3 (at_cell k2 hH.c0))) ?_
                  simp only [zp]
                  refine sv (.bool false) 22 rfl rfl (ex_bin (u := (.int .i64 v.ch)) (r := (.int .i64 1)) rfl rfl rfl (eg3 _ _ _ _ _ _) (lss3 _ (decide_eq_false (by omega)))) ?_
                  simp only [zp]
                  refine sv (.bool false) 23 rfl rfl (ex_pkF rfl rfl rfl) ?_
                  simp only [zp]
                  refine st_end ?_
                  subst hQ
                  refine wp_cond_false rfl ?_
                  refine wp_skip ?_
                  refine wp_seq ?_
                  refine wq fun Q hQ => ?_
                  refine sm (.int .i64 x) 24 rfl rfl rfl rfl ?_
                  simp only [zp]
                  refine sm (.int .i64 h) 25 rfl rfl rfl rfl ?_
                  simp only [zp]
                  refine sv (.bool true) 26 rfl rfl (ex_bin (u := (.int .i64 x)) (r := (.int .i64 h)) rfl rfl rfl (eg3 _ _ _ _ _ _) (gtr3 _ (decide_eq_true (by omega)))) ?_
                  simp only [zp]
                  refine sm (.bool true) 27 rfl rfl rfl rfl ?_
                  simp only [zp]
                  refine sm (.int .i64 x) 28 rfl rfl rfl rfl ?_
                  simp only [zp]
                  refine sm (.int .i64 h) 29 rfl rfl rfl rfl ?_
                  simp only [zp]
                  refine sv (.int .i64 (x - h)) 30 rfl rfl (ex_bin (u := (.int .i64 x)) (r := (.int .i64 h)) rfl rfl rfl (eg3 _ _ _ _ _ _) (sub3 _ rfl (by omega))) ?_
                  simp only [zp]
                  refine sv (.pointer (some ⟨b1, 4, none⟩)) 31 rfl rfl (ex_fa (p := (.pointer (some ⟨b1, 0, none⟩))) rfl rfl (fa25_3 _ _)) ?_
                  simp only [zp]
                  refine sv (.int .i64 q.f) 32 rfl rfl (ex_load (p := (.pointer (some ⟨b1, 4, none⟩))) rfl rfl (ld3 (at_cell k1 rfl))) ?_
                  simp only [zp]
                  refine sv (.bool false) 33 rfl rfl (ex_bin (u := (.int .i64 (x - h))) (r := (.int .i64 q.f)) rfl rfl rfl (eg3 _ _ _ _ _ _) (gtr3 _ (decide_eq_false (by omega)))) ?_
                  simp only [zp]
                  refine sv (.bool false) 34 rfl rfl (ex_pkT rfl rfl rfl) ?_
                  simp only [zp]
                  refine st_end ?_
                  subst hQ
                  refine wp_cond_false rfl ?_
                  refine wp_skip ?_
                  refine wp_seq ?_
                  refine wq fun Q hQ => ?_
                  refine sv (.agg (RL q)) 35 rfl rfl (ex_load (p := (.pointer (some ⟨b1, 0, none⟩))) rfl rfl (ld_all k1 Try.underlying25 rfl inf25)) ?_
                  simp only [zp]
                  refine sv (.pointer (some ⟨b2, 2, none⟩)) 36 rfl rfl (ex_fa (p := (.pointer (some ⟨b2, 0, none⟩))) rfl rfl (fa28_2 _ _)) ?_
                  simp only [zp]
                  refine sv (.int .i64 v.ex) 37 rfl rfl (ex_load (p := (.pointer (some ⟨b2, 2, none⟩))) rfl rfl (ld3 (at_cell k2 hH.c2))) ?_
                  simp only [zp]
                  refine sm (.int .i64 h) 38 rfl rfl rfl rfl ?_
                  simp only [zp]
                  refine st_call (some 39) rfl rfl (rsoon_any W3 h0 h1 MR.2.2.2.1 MR.2.2.2.2.1 z1 (decide_eq_false (by omega))) (ex_call (f := 36) (vs := [(.agg (RL q)), (.int .i64 v.ex), (.int .i64 h)]) rfl (cf36 _) rfl) ?_
                  rintro e W4 ⟨rfl, B⟩
                  refine ⟨_, rfl, ?_⟩
                  simp only [zp]
                  replace E := below_next E B
                  replace k1 := keep B k1
                  replace k2 := keep B k2
                  refine st_end ?_
                  subst hQ
                  refine wp_cond_false rfl ?_
                  refine wp_skip ?_
                  refine wp_seq ?_
                  refine wq fun Q hQ => ?_
                  refine sv (.pointer (some ⟨b2, 2, none⟩)) 40 rfl rfl (ex_fa (p := (.pointer (some ⟨b2, 0, none⟩))) rfl rfl (fa28_2 _ _)) ?_
                  simp only [zp]
                  refine sv (.int .i64 v.ex) 41 rfl rfl (ex_load (p := (.pointer (some ⟨b2, 2, none⟩))) rfl rfl (ld3 (at_cell k2 hH.c2))) ?_
                  simp only [zp]
                  refine sm (.int .i64 x) 42 rfl rfl rfl rfl ?_
                  simp only [zp]
                  refine sv (.bool false) 43 rfl rfl (ex_bin (u := (.int .i64 v.ex)) (r := (.int .i64 x)) rfl rfl rfl (eg3 _ _ _ _ _ _) (gtr3 _ (decide_eq_false (by omega)))) ?_
                  simp only [zp]
                  refine sm (.bool false) 44 rfl rfl rfl rfl ?_
                  simp only [zp]
                  refine sm (.int .i64 x) 45 rfl rfl rfl rfl ?_
                  simp only [zp]
                  refine sv (.pointer (some ⟨b2, 2, none⟩)) 46 rfl rfl (ex_fa (p := (.pointer (some ⟨b2, 0, none⟩))) rfl rfl (fa28_2 _ _)) ?_
                  simp only [zp]
                  refine sv (.int .i64 v.ex) 47 rfl rfl (ex_load (p := (.pointer (some ⟨b2, 2, none⟩))) rfl rfl (ld3 (at_cell k2 hH.c2))) ?_
                  simp only [zp]
                  refine sv (.int .i64 (x - v.ex)) 48 rfl rfl (ex_bin (u := (.int .i64 x)) (r := (.int .i64 v.ex)) rfl rfl rfl (eg3 _ _ _ _ _ _) (sub3 _ rfl (by omega))) ?_
                  simp only [zp]
                  refine sv (.pointer (some ⟨b1, 2, none⟩)) 49 rfl rfl (ex_fa (p := (.pointer (some ⟨b1, 0, none⟩))) rfl rfl (fa25_1 _ _)) ?_
                  simp only [zp]
                  refine sv (.int .i64 q.d) 50 rfl rfl (ex_load (p := (.pointer (some ⟨b1, 2, none⟩))) rfl rfl (ld3 (at_cell k1 rfl))) ?_
                  simp only [zp]
                  refine sv (.bool false) 51 rfl rfl (ex_bin (u := (.int .i64 (x - v.ex))) (r := (.int .i64 q.d)) rfl rfl rfl (eg3 _ _ _ _ _ _) (lss3 _ (decide_eq_false (by omega)))) ?_
                  simp only [zp]
                  refine sv (.bool false) 52 rfl rfl (ex_pkF rfl rfl rfl) ?_
                  simp only [zp]
                  refine st_end ?_
                  subst hQ
                  refine wp_cond_false rfl ?_
                  refine wp_skip ?_
                  refine wp_seq ?_
                  refine wq fun Q hQ => ?_
                  refine sv (.pointer (some ⟨b2, 1, none⟩)) 53 rfl rfl (ex_fa (p := (.pointer (some ⟨b2, 0, none⟩))) rfl rfl (fa28_1 _ _)) ?_
                  simp only [zp]
                  refine sv (.int .i64 v.am) 54 rfl rfl (ex_load (p := (.pointer (some ⟨b2, 1, none⟩))) rfl rfl (ld3 (at_cell k2 hH.c1))) ?_
                  simp only [zp]
                  refine sv (.bool true) 55 rfl rfl (ex_bin (u := (.int .i64 v.am)) (r := (.int .i64 1)) rfl rfl rfl (eg3 _ _ _ _ _ _) (lss3 _ (decide_eq_true (by omega)))) ?_
                  simp only [zp]
                  refine st_end ?_
                  subst hQ
                  refine wp_cond_true rfl ?_
                  refine wq fun Q hQ => ?_
                  refine sg (.int .i64 8) 10 rfl rfl rfl rfl ?_
                  simp only [zp]
                  refine st_end ?_
                  subst hQ
                  refine wp_ret ?_
                  repeat (first | refine ret_out ?_ | refine ret_blk ?_)
                  refine bodyPost_ret (results_tmp Try.results12 _ _ _) rfl ⟨?_, E⟩
                  show Ending.returned (.int .i64 8) = _
                  simp [fwdN, belowB, e0, e1, e2, e3, e4, e5, e6, e7]
                · skip
                  by_cases e8 : inE q.b q.r v.am = 0
                  · skip
                    by_cases e9 : a < inN q.b q.r v.am
                    · skip
                      have E : Below w.heap.size w w := Below.refl _ _
                      go_enter Try.func12, Try.ntmps12
                      refine wq fun Q hQ => ?_
                      refine st_new (fun b => .pointer (some ⟨b, 0, none⟩)) (some 5) rfl rfl (ex_box rfl rfl) ?_
                      intro b1 W1 k1 g1 B
                      simp only [zp]
                      have ge_b1 := Nat.le_trans E.size g1
                      replace E := below_next E B
                      clear B
                      refine st_new (fun b => .pointer (some ⟨b, 0, none⟩)) (some 6) rfl rfl (ex_box rfl rfl) ?_
                      intro b2 W2 k2 g2 B
                      simp only [zp]
                      have ne_b2_b1 : b2 ≠ b1 := fun e => by have := lt_of k1; omega
                      have ge_b2 := Nat.le_trans E.size g2
                      replace E := below_next E B
                      replace k1 := keep B k1
                      clear B
                      refine sg (.int .i64 0) 10 rfl rfl rfl rfl ?_
                      simp only [zp]
                      refine st_end ?_
                      subst hQ
                      refine wp_seq ?_
                      refine wq fun Q hQ => ?_
                      refine sv (.agg (RL q)) 13 rfl rfl (ex_load (p := (.pointer (some ⟨b1, 0, none⟩))) rfl rfl (ld_all k1 Try.underlying25 rfl inf25)) ?_
                      simp only [zp]
                      refine sm (.int .i64 a) 14 rfl rfl rfl rfl ?_
                      simp only [zp]
                      refine sm (.int .i64 x) 15 rfl rfl rfl rfl ?_
                      simp only [zp]
                      refine sm (.int .i64 h) 16 rfl rfl rfl rfl ?_
                      simp only [zp]
                      refine st_call (some 17) rfl rfl (rright_any W2 e0) (ex_call (f := 35) (vs := [(.agg (RL q)), (.int .i64 a), (.int .i64 x), (.int .i64 h)]) rfl (cf35 _) rfl) ?_
                      rintro e W3 ⟨rfl, B⟩
                      refine ⟨_, rfl, ?_⟩
                      simp only [zp]
                      replace E := below_next E B
                      replace k1 := keep B k1
                      replace k2 := keep B k2
                      refine sv (.bool false) 18 rfl rfl (ex_not rfl rfl rfl) ?_
                      simp only [zp]
                      refine sm (.bool false) 19 rfl rfl rfl rfl ?_
                      simp only [zp]
                      refine sv (.pointer (some ⟨b2, 0, none⟩)) 20 rfl rfl (ex_fa (p := (.pointer (some ⟨b2, 0, none⟩))) rfl rfl (fa28_0 _ _)) ?_
                      simp only [zp]
                      refine sv (.int .i64 v.ch) 21 rfl rfl (ex_load (p := (.pointer (some ⟨b2, 0, none⟩))) rfl rfl (ld3 (at_cell k2 hH.c0))) ?_
                      simp only [zp]
                      refine sv (.bool false) 22 rfl rfl (ex_bin (u := (.int .i64 v.ch)) (r := (.int .i64 1)) rfl rfl rfl (eg3 _ _ _ _ _ _) (lss3 _ (decide_eq_false (by omega)))) ?_
                      simp only [zp]
                      refine sv (.bool false) 23 rfl rfl (ex_pkF rfl rfl rfl) ?_
                      simp only [zp]
                      refine st_end ?_
                      subst hQ
                      refine wp_cond_false rfl ?_
                      refine wp_skip ?_
                      refine wp_seq ?_
                      refine wq fun Q hQ => ?_
                      refine sm (.int .i64 x) 24 rfl rfl rfl rfl ?_
                      simp only [zp]
                      refine sm (.int .i64 h) 25 rfl rfl rfl rfl ?_
                      simp only [zp]
                      refine sv (.bool true) 26 rfl rfl (ex_bin (u := (.int .i64 x)) (r := (.int .i64 h)) rfl rfl rfl (eg3 _ _ _ _ _ _) (gtr3 _ (decide_eq_true (by omega)))) ?_
                      simp only [zp]
                      refine sm (.bool true) 27 rfl rfl rfl rfl ?_
                      simp only [zp]
                      refine sm (.int .i64 x) 28 rfl rfl rfl rfl ?_
                      simp only [zp]
                      refine sm (.int .i64 h) 29 rfl rfl rfl rfl ?_
                      simp only [zp]
                      refine sv (.int .i64 (x - h)) 30 rfl rfl (ex_bin (u := (.int .i64 x)) (r := (.int .i64 h)) rfl rfl rfl (eg3 _ _ _ _ _ _) (sub3 _ rfl (by omega))) ?_
                      simp only [zp]
                      refine sv (.pointer (some ⟨b1, 4, none⟩)) 31 rfl rfl (ex_fa (p := (.pointer (some ⟨b1, 0, none⟩))) rfl rfl (fa25_3 _ _)) ?_
                      simp only [zp]
                      refine sv (.int .i64 q.f) 32 rfl rfl (ex_load (p := (.pointer (some ⟨b1, 4, none⟩))) rfl rfl (ld3 (at_cell k1 rfl))) ?_
                      simp only [zp]
                      refine sv (.bool false) 33 rfl rfl (ex_bin (u := (.int .i64 (x - h))) (r := (.int .i64 q.f)) rfl rfl rfl (eg3 _ _ _ _ _ _) (gtr3 _ (decide_eq_false (by omega)))) ?_
                      simp only [zp]
                      refine sv (.bool false) 34 rfl rfl (ex_pkT rfl rfl rfl) ?_
                      simp only [zp]
                      refine st_end ?_
                      subst hQ
                      refine wp_cond_false rfl ?_
                      refine wp_skip ?_
                      refine wp_seq ?_
                      refine wq fun Q hQ => ?_
                      refine sv (.agg (RL q)) 35 rfl rfl (ex_load (p := (.pointer (some ⟨b1, 0, none⟩))) rfl rfl (ld_all k1 Try.underlying25 rfl inf25)) ?_
                      simp only [zp]
                      refine sv (.pointer (some ⟨b2, 2, none⟩)) 36 rfl rfl (ex_fa (p := (.pointer (some ⟨b2, 0, none⟩))) rfl rfl (fa28_2 _ _)) ?_
                      simp only [zp]
                      refine sv (.int .i64 v.ex) 37 rfl rfl (ex_load (p := (.pointer (some ⟨b2, 2, none⟩))) rfl rfl (ld3 (at_cell k2 hH.c2))) ?_
                      simp only [zp]
                      refine sm (.int .i64 h) 38 rfl rfl rfl rfl ?_
                      simp only [zp]
                      refine st_call (some 39) rfl rfl (rsoon_any W3 h0 h1 MR.2.2.2.1 MR.2.2.2.2.1 z1 (decide_eq_false (by omega))) (ex_call (f := 36) (vs := [(.agg (RL q)), (.int .i64 v.ex), (.int .i64 h)]) rfl (cf36 _) rfl) ?_
                      rintro e W4 ⟨rfl, B⟩
                      refine ⟨_, rfl, ?_⟩
                      simp only [zp]
                      replace E := below_next E B
                      replace k1 := keep B k1
                      replace k2 := keep B k2
                      refine st_end ?_
                      subst hQ
                      refine wp_cond_false rfl ?_
                      refine wp_skip ?_
                      refine wp_seq ?_
                      refine wq fun Q hQ => ?_
                      refine sv (.pointer (some ⟨b2, 2, none⟩)) 40 rfl rfl (ex_fa (p := (.pointer (some ⟨b2, 0, none⟩))) rfl rfl (fa28_2 _ _)) ?_
                      simp only [zp]
                      refine sv (.int .i64 v.ex) 41 rfl rfl (ex_load (p := (.pointer (some ⟨b2, 2, none⟩))) rfl rfl (ld3 (at_cell k2 hH.c2))) ?_
                      simp only [zp]
                      refine sm (.int .i64 x) 42 rfl rfl rfl rfl ?_
                      simp only [zp]
                      refine sv (.bool false) 43 rfl rfl (ex_bin (u := (.int .i64 v.ex)) (r := (.int .i64 x)) rfl rfl rfl (eg3 _ _ _ _ _ _) (gtr3 _ (decide_eq_false (by omega)))) ?_
                      simp only [zp]
                      refine sm (.bool false) 44 rfl rfl rfl rfl ?_
                      simp only [zp]
                      refine sm (.int .i64 x) 45 rfl rfl rfl rfl ?_
                      simp only [zp]
                      refine sv (.pointer (some ⟨b2, 2, none⟩)) 46 rfl rfl (ex_fa (p := (.pointer (some ⟨b2, 0, none⟩))) rfl rfl (fa28_2 _ _)) ?_
                      simp only [zp]
                      refine sv (.int .i64 v.ex) 47 rfl rfl (ex_load (p := (.pointer (some ⟨b2, 2, none⟩))) rfl rfl (ld3 (at_cell k2 hH.c2))) ?_
                      simp only [zp]
                      refine sv (.int .i64 (x - v.ex)) 48 rfl rfl (ex_bin (u := (.int .i64 x)) (r := (.int .i64 v.ex)) rfl rfl rfl (eg3 _ _ _ _ _ _) (sub3 _ rfl (by omega))) ?_
                      simp only [zp]
                      refine sv (.pointer (some ⟨b1, 2, none⟩)) 49 rfl rfl (ex_fa (p := (.pointer (some ⟨b1, 0, none⟩))) rfl rfl (fa25_1 _ _)) ?_
                      simp only [zp]
                      refine sv (.int .i64 q.d) 50 rfl rfl (ex_load (p := (.pointer (some ⟨b1, 2, none⟩))) rfl rfl (ld3 (at_cell k1 rfl))) ?_
                      simp only [zp]
                      refine sv (.bool false) 51 rfl rfl (ex_bin (u := (.int .i64 (x - v.ex))) (r := (.int .i64 q.d)) rfl rfl rfl (eg3 _ _ _ _ _ _) (lss3 _ (decide_eq_false (by omega)))) ?_
                      simp only [zp]
                      refine sv (.bool false) 52 rfl rfl (ex_pkF rfl rfl rfl) ?_
                      simp only [zp]
                      refine st_end ?_
                      subst hQ
                      refine wp_cond_false rfl ?_
                      refine wp_skip ?_
                      refine wp_seq ?_
                      refine wq fun Q hQ => ?_
                      refine sv (.pointer (some ⟨b2, 1, none⟩)) 53 rfl rfl (ex_fa (p := (.pointer (some ⟨b2, 0, none⟩))) rfl rfl (fa28_1 _ _)) ?_
                      simp only [zp]
                      refine sv (.int .i64 v.am) 54 rfl rfl (ex_load (p := (.pointer (some ⟨b2, 1, none⟩))) rfl rfl (ld3 (at_cell k2 hH.c1))) ?_
                      simp only [zp]
                      refine sv (.bool false) 55 rfl rfl (ex_bin (u := (.int .i64 v.am)) (r := (.int .i64 1)) rfl rfl rfl (eg3 _ _ _ _ _ _) (lss3 _ (decide_eq_false (by omega)))) ?_
                      simp only [zp]
                      refine st_end ?_
                      subst hQ
                      refine wp_cond_false rfl ?_
                      refine wp_skip ?_
                      refine wq fun Q hQ => ?_
                      refine sv (.pointer (some ⟨b1, 0, none⟩)) 57 rfl rfl (ex_fa (p := (.pointer (some ⟨b1, 0, none⟩))) rfl rfl (fa25_0 _ _)) ?_
                      simp only [zp]
                      refine sv (.agg (FL q)) 58 rfl rfl (ex_load (p := (.pointer (some ⟨b1, 0, none⟩))) rfl rfl (ldF k1)) ?_
                      simp only [zp]
                      refine sv (.pointer (some ⟨b2, 1, none⟩)) 59 rfl rfl (ex_fa (p := (.pointer (some ⟨b2, 0, none⟩))) rfl rfl (fa28_1 _ _)) ?_
                      simp only [zp]
                      refine sv (.int .i64 v.am) 60 rfl rfl (ex_load (p := (.pointer (some ⟨b2, 1, none⟩))) rfl rfl (ld3 (at_cell k2 hH.c1))) ?_
                      simp only [zp]
                      refine st_call (some 61) rfl rfl (rin_any q.b q.r v.am W4 hb y0 y1) (ex_call (f := 37) (vs := [(.agg (FL q)), (.int .i64 v.am)]) rfl (cf37 _) rfl) ?_
                      rintro e W5 ⟨rfl, B⟩
                      refine ⟨_, rfl, ?_⟩
                      simp only [zp]
                      replace E := below_next E B
                      replace k1 := keep B k1
                      replace k2 := keep B k2
                      refine sm (.tuple #[(.int .i64 (inN q.b q.r v.am)), (.int .i64 (inE q.b q.r v.am))]) 56 rfl rfl rfl rfl ?_
                      simp only [zp]
                      refine sv (.int .i64 (inN q.b q.r v.am)) 62 rfl rfl (ex_ext rfl rfl rfl) ?_
                      simp only [zp]
                      refine sv (.int .i64 (inE q.b q.r v.am)) 63 rfl rfl (ex_ext rfl rfl rfl) ?_
                      simp only [zp]
                      refine sg (.int .i64 (inN q.b q.r v.am)) 11 rfl rfl rfl rfl ?_
                      simp only [zp]
                      refine sg (.int .i64 (inE q.b q.r v.am)) 12 rfl rfl rfl rfl ?_
                      simp only [zp]
                      refine st_end ?_
                      subst hQ
                      refine wp_seq ?_
                      refine wq fun Q hQ => ?_
                      refine sm (.int .i64 (inE q.b q.r v.am)) 64 rfl rfl rfl rfl ?_
                      simp only [zp]
                      refine sv (.bool false) 65 rfl rfl (ex_bin (u := (.int .i64 (inE q.b q.r v.am))) (r := (.int .i64 0)) rfl rfl rfl (eg37 _ _ _ _ _ _) (neq37 _ (decide_eq_false (fun h => h e8)))) ?_
                      simp only [zp]
                      refine sm (.bool false) 66 rfl rfl rfl rfl ?_
                      simp only [zp]
                      refine sm (.int .i64 a) 67 rfl rfl rfl rfl ?_
                      simp only [zp]
                      refine sm (.int .i64 (inN q.b q.r v.am)) 68 rfl rfl rfl rfl ?_
                      simp only [zp]
                      refine sv (.bool true) 69 rfl rfl (ex_bin (u := (.int .i64 a)) (r := (.int .i64 (inN q.b q.r v.am))) rfl rfl rfl (eg3 _ _ _ _ _ _) (lss3 _ (decide_eq_true e9))) ?_
                      simp only [zp]
                      refine sv (.bool true) 70 rfl rfl (ex_pkF rfl rfl rfl) ?_
                      simp only [zp]
                      refine st_end ?_
                      subst hQ
                      refine wp_cond_true rfl ?_
                      refine wq fun Q hQ => ?_
                      refine sg (.int .i64 3) 10 rfl rfl rfl rfl ?_
                      simp only [zp]
                      refine st_end ?_
                      subst hQ
                      refine wp_ret ?_
                      repeat (first | refine ret_out ?_ | refine ret_blk ?_)
                      refine bodyPost_ret (results_tmp Try.results12 _ _ _) rfl ⟨?_, E⟩
                      show Ending.returned (.int .i64 3) = _
                      simp [fwdN, belowB, e0, e1, e2, e3, e4, e5, e6, e7, e8, e9]
                    · skip
                      have E : Below w.heap.size w w := Below.refl _ _
                      go_enter Try.func12, Try.ntmps12
                      refine wq fun Q hQ => ?_
                      refine st_new (fun b => .pointer (some ⟨b, 0, none⟩)) (some 5) rfl rfl (ex_box rfl rfl) ?_
                      intro b1 W1 k1 g1 B
                      simp only [zp]
                      have ge_b1 := Nat.le_trans E.size g1
                      replace E := below_next E B
                      clear B
                      refine st_new (fun b => .pointer (some ⟨b, 0, none⟩)) (some 6) rfl rfl (ex_box rfl rfl) ?_
                      intro b2 W2 k2 g2 B
                      simp only [zp]
                      have ne_b2_b1 : b2 ≠ b1 := fun e => by have := lt_of k1; omega
                      have ge_b2 := Nat.le_trans E.size g2
                      replace E := below_next E B
                      replace k1 := keep B k1
                      clear B
                      refine sg (.int .i64 0) 10 rfl rfl rfl rfl ?_
                      simp only [zp]
                      refine st_end ?_
                      subst hQ
                      refine wp_seq ?_
                      refine wq fun Q hQ => ?_
                      refine sv (.agg (RL q)) 13 rfl rfl (ex_load (p := (.pointer (some ⟨b1, 0, none⟩))) rfl rfl (ld_all k1 Try.underlying25 rfl inf25)) ?_
                      simp only [zp]
                      refine sm (.int .i64 a) 14 rfl rfl rfl rfl ?_
                      simp only [zp]
                      refine sm (.int .i64 x) 15 rfl rfl rfl rfl ?_
                      simp only [zp]
                      refine sm (.int .i64 h) 16 rfl rfl rfl rfl ?_
                      simp only [zp]
                      refine st_call (some 17) rfl rfl (rright_any W2 e0) (ex_call (f := 35) (vs := [(.agg (RL q)), (.int .i64 a), (.int .i64 x), (.int .i64 h)]) rfl (cf35 _) rfl) ?_
                      rintro e W3 ⟨rfl, B⟩
                      refine ⟨_, rfl, ?_⟩
                      simp only [zp]
                      replace E := below_next E B
                      replace k1 := keep B k1
                      replace k2 := keep B k2
                      refine sv (.bool false) 18 rfl rfl (ex_not rfl rfl rfl) ?_
                      simp only [zp]
                      refine sm (.bool false) 19 rfl rfl rfl rfl ?_
                      simp only [zp]
                      refine sv (.pointer (some ⟨b2, 0, none⟩)) 20 rfl rfl (ex_fa (p := (.pointer (some ⟨b2, 0, none⟩))) rfl rfl (fa28_0 _ _)) ?_
                      simp only [zp]
                      refine sv (.int .i64 v.ch) 21 rfl rfl (ex_load (p := (.pointer (some ⟨b2, 0, none⟩))) rfl rfl (ld3 (at_cell k2 hH.c0))) ?_
                      simp only [zp]
                      refine sv (.bool false) 22 rfl rfl (ex_bin (u := (.int .i64 v.ch)) (r := (.int .i64 1)) rfl rfl rfl (eg3 _ _ _ _ _ _) (lss3 _ (decide_eq_false (by omega)))) ?_
                      simp only [zp]
                      refine sv (.bool false) 23 rfl rfl (ex_pkF rfl rfl rfl) ?_
                      simp only [zp]
                      refine st_end ?_
                      subst hQ
                      refine wp_cond_false rfl ?_
                      refine wp_skip ?_
                      refine wp_seq ?_
                      refine wq fun Q hQ => ?_
                      refine sm (.int .i64 x) 24 rfl rfl rfl rfl ?_
                      simp only [zp]
                      refine sm (.int .i64 h) 25 rfl rfl rfl rfl ?_
                      simp only [zp]
                      refine sv (.bool true) 26 rfl rfl (ex_bin (u := (.int .i64 x)) (r := (.int .i64 h)) rfl rfl rfl (eg3 _ _ _ _ _ _) (gtr3 _ (decide_eq_true (by omega)))) ?_
                      simp only [zp]
                      refine sm (.bool true) 27 rfl rfl rfl rfl ?_
                      simp only [zp]
                      refine sm (.int .i64 x) 28 rfl rfl rfl rfl ?_
                      simp only [zp]
                      refine sm (.int .i64 h) 29 rfl rfl rfl rfl ?_
                      simp only [zp]
                      refine sv (.int .i64 (x - h)) 30 rfl rfl (ex_bin (u := (.int .i64 x)) (r := (.int .i64 h)) rfl rfl rfl (eg3 _ _ _ _ _ _) (sub3 _ rfl (by omega))) ?_
                      simp only [zp]
                      refine sv (.pointer (some ⟨b1, 4, none⟩)) 31 rfl rfl (ex_fa (p := (.pointer (some ⟨b1, 0, none⟩))) rfl rfl (fa25_3 _ _)) ?_
                      simp only [zp]
                      refine sv (.int .i64 q.f) 32 rfl rfl (ex_load (p := (.pointer (some ⟨b1, 4, none⟩))) rfl rfl (ld3 (at_cell k1 rfl))) ?_
                      simp only [zp]
                      refine sv (.bool false) 33 rfl rfl (ex_bin (u := (.int .i64 (x - h))) (r := (.int .i64 q.f)) rfl rfl rfl (eg3 _ _ _ _ _ _) (gtr3 _ (decide_eq_false (by omega)))) ?_
                      simp only [zp]
                      refine sv (.bool false) 34 rfl rfl (ex_pkT rfl rfl rfl) ?_
                      simp only [zp]
                      refine st_end ?_
                      subst hQ
                      refine wp_cond_false rfl ?_
                      refine wp_skip ?_
                      refine wp_seq ?_
                      refine wq fun Q hQ => ?_
                      refine sv (.agg (RL q)) 35 rfl rfl (ex_load (p := (.pointer (some ⟨b1, 0, none⟩))) rfl rfl (ld_all k1 Try.underlying25 rfl inf25)) ?_
                      simp only [zp]
                      refine sv (.pointer (some ⟨b2, 2, none⟩)) 36 rfl rfl (ex_fa (p := (.pointer (some ⟨b2, 0, none⟩))) rfl rfl (fa28_2 _ _)) ?_
                      simp only [zp]
                      refine sv (.int .i64 v.ex) 37 rfl rfl (ex_load (p := (.pointer (some ⟨b2, 2, none⟩))) rfl rfl (ld3 (at_cell k2 hH.c2))) ?_
                      simp only [zp]
                      refine sm (.int .i64 h) 38 rfl rfl rfl rfl ?_
                      simp only [zp]
                      refine st_call (some 39) rfl rfl (rsoon_any W3 h0 h1 MR.2.2.2.1 MR.2.2.2.2.1 z1 (decide_eq_false (by omega))) (ex_call (f := 36) (vs := [(.agg (RL q)), (.int .i64 v.ex), (.int .i64 h)]) rfl (cf36 _) rfl) ?_
                      rintro e W4 ⟨rfl, B⟩
                      refine ⟨_, rfl, ?_⟩
                      simp only [zp]
                      replace E := below_next E B
                      replace k1 := keep B k1
                      replace k2 := keep B k2
                      refine st_end ?_
                      subst hQ
                      refine wp_cond_false rfl ?_
                      refine wp_skip ?_
                      refine wp_seq ?_
                      refine wq fun Q hQ => ?_
                      refine sv (.pointer (some ⟨b2, 2, none⟩)) 40 rfl rfl (ex_fa (p := (.pointer (some ⟨b2, 0, none⟩))) rfl rfl (fa28_2 _ _)) ?_
                      simp only [zp]
                      refine sv (.int .i64 v.ex) 41 rfl rfl (ex_load (p := (.pointer (some ⟨b2, 2, none⟩))) rfl rfl (ld3 (at_cell k2 hH.c2))) ?_
                      simp only [zp]
                      refine sm (.int .i64 x) 42 rfl rfl rfl rfl ?_
                      simp only [zp]
                      refine sv (.bool false) 43 rfl rfl (ex_bin (u := (.int .i64 v.ex)) (r := (.int .i64 x)) rfl rfl rfl (eg3 _ _ _ _ _ _) (gtr3 _ (decide_eq_false (by omega)))) ?_
                      simp only [zp]
                      refine sm (.bool false) 44 rfl rfl rfl rfl ?_
                      simp only [zp]
                      refine sm (.int .i64 x) 45 rfl rfl rfl rfl ?_
                      simp only [zp]
                      refine sv (.pointer (some ⟨b2, 2, none⟩)) 46 rfl rfl (ex_fa (p := (.pointer (some ⟨b2, 0, none⟩))) rfl rfl (fa28_2 _ _)) ?_
                      simp only [zp]
                      refine sv (.int .i64 v.ex) 47 rfl rfl (ex_load (p := (.pointer (some ⟨b2, 2, none⟩))) rfl rfl (ld3 (at_cell k2 hH.c2))) ?_
                      simp only [zp]
                      refine sv (.int .i64 (x - v.ex)) 48 rfl rfl (ex_bin (u := (.int .i64 x)) (r := (.int .i64 v.ex)) rfl rfl rfl (eg3 _ _ _ _ _ _) (sub3 _ rfl (by omega))) ?_
                      simp only [zp]
                      refine sv (.pointer (some ⟨b1, 2, none⟩)) 49 rfl rfl (ex_fa (p := (.pointer (some ⟨b1, 0, none⟩))) rfl rfl (fa25_1 _ _)) ?_
                      simp only [zp]
                      refine sv (.int .i64 q.d) 50 rfl rfl (ex_load (p := (.pointer (some ⟨b1, 2, none⟩))) rfl rfl (ld3 (at_cell k1 rfl))) ?_
                      simp only [zp]
                      refine sv (.bool false) 51 rfl rfl (ex_bin (u := (.int .i64 (x - v.ex))) (r := (.int .i64 q.d)) rfl rfl rfl (eg3 _ _ _ _ _ _) (lss3 _ (decide_eq_false (by omega)))) ?_
                      simp only [zp]
                      refine sv (.bool false) 52 rfl rfl (ex_pkF rfl rfl rfl) ?_
                      simp only [zp]
                      refine st_end ?_
                      subst hQ
                      refine wp_cond_false rfl ?_
                      refine wp_skip ?_
                      refine wp_seq ?_
                      refine wq fun Q hQ => ?_
                      refine sv (.pointer (some ⟨b2, 1, none⟩)) 53 rfl rfl (ex_fa (p := (.pointer (some ⟨b2, 0, none⟩))) rfl rfl (fa28_1 _ _)) ?_
                      simp only [zp]
                      refine sv (.int .i64 v.am) 54 rfl rfl (ex_load (p := (.pointer (some ⟨b2, 1, none⟩))) rfl rfl (ld3 (at_cell k2 hH.c1))) ?_
                      simp only [zp]
                      refine sv (.bool false) 55 rfl rfl (ex_bin (u := (.int .i64 v.am)) (r := (.int .i64 1)) rfl rfl rfl (eg3 _ _ _ _ _ _) (lss3 _ (decide_eq_false (by omega)))) ?_
                      simp only [zp]
                      refine st_end ?_
                      subst hQ
                      refine wp_cond_false rfl ?_
                      refine wp_skip ?_
                      refine wq fun Q hQ => ?_
                      refine sv (.pointer (some ⟨b1, 0, none⟩)) 57 rfl rfl (ex_fa (p := (.pointer (some ⟨b1, 0, none⟩))) rfl rfl (fa25_0 _ _)) ?_
                      simp only [zp]
                      refine sv (.agg (FL q)) 58 rfl rfl (ex_load (p := (.pointer (some ⟨b1, 0, none⟩))) rfl rfl (ldF k1)) ?_
                      simp only [zp]
                      refine sv (.pointer (some ⟨b2, 1, none⟩)) 59 rfl rfl (ex_fa (p := (.pointer (some ⟨b2, 0, none⟩))) rfl rfl (fa28_1 _ _)) ?_
                      simp only [zp]
                      refine sv (.int .i64 v.am) 60 rfl rfl (ex_load (p := (.pointer (some ⟨b2, 1, none⟩))) rfl rfl (ld3 (at_cell k2 hH.c1))) ?_
                      simp only [zp]
                      refine st_call (some 61) rfl rfl (rin_any q.b q.r v.am W4 hb y0 y1) (ex_call (f := 37) (vs := [(.agg (FL q)), (.int .i64 v.am)]) rfl (cf37 _) rfl) ?_
                      rintro e W5 ⟨rfl, B⟩
                      refine ⟨_, rfl, ?_⟩
                      simp only [zp]
                      replace E := below_next E B
                      replace k1 := keep B k1
                      replace k2 := keep B k2
                      refine sm (.tuple #[(.int .i64 (inN q.b q.r v.am)), (.int .i64 (inE q.b q.r v.am))]) 56 rfl rfl rfl rfl ?_
                      simp only [zp]
                      refine sv (.int .i64 (inN q.b q.r v.am)) 62 rfl rfl (ex_ext rfl rfl rfl) ?_
                      simp only [zp]
                      refine sv (.int .i64 (inE q.b q.r v.am)) 63 rfl rfl (ex_ext rfl rfl rfl) ?_
                      simp only [zp]
                      refine sg (.int .i64 (inN q.b q.r v.am)) 11 rfl rfl rfl rfl ?_
                      simp only [zp]
                      refine sg (.int .i64 (inE q.b q.r v.am)) 12 rfl rfl rfl rfl ?_
                      simp only [zp]
                      refine st_end ?_
                      subst hQ
                      refine wp_seq ?_
                      refine wq fun Q hQ => ?_
                      refine sm (.int .i64 (inE q.b q.r v.am)) 64 rfl rfl rfl rfl ?_
                      simp only [zp]
                      refine sv (.bool false) 65 rfl rfl (ex_bin (u := (.int .i64 (inE q.b q.r v.am))) (r := (.int .i64 0)) rfl rfl rfl (eg37 _ _ _ _ _ _) (neq37 _ (decide_eq_false (fun h => h e8)))) ?_
                      simp only [zp]
                      refine sm (.bool false) 66 rfl rfl rfl rfl ?_
                      simp only [zp]
                      refine sm (.int .i64 a) 67 rfl rfl rfl rfl ?_
                      simp only [zp]
                      refine sm (.int .i64 (inN q.b q.r v.am)) 68 rfl rfl rfl rfl ?_
                      simp only [zp]
                      refine sv (.bool false) 69 rfl rfl (ex_bin (u := (.int .i64 a)) (r := (.int .i64 (inN q.b q.r v.am))) rfl rfl rfl (eg3 _ _ _ _ _ _) (lss3 _ (decide_eq_false e9))) ?_
                      simp only [zp]
                      refine sv (.bool false) 70 rfl rfl (ex_pkF rfl rfl rfl) ?_
                      simp only [zp]
                      refine st_end ?_
                      subst hQ
                      refine wp_cond_false rfl ?_
                      refine wp_skip ?_
                      refine wq fun Q hQ => ?_
                      refine sg (.int .i64 0) 10 rfl rfl rfl rfl ?_
                      simp only [zp]
                      refine st_end ?_
                      subst hQ
                      refine wp_ret ?_
                      repeat (first | refine ret_out ?_ | refine ret_blk ?_)
                      refine bodyPost_ret (results_tmp Try.results12 _ _ _) rfl ⟨?_, E⟩
                      show Ending.returned (.int .i64 0) = _
                      simp [fwdN, belowB, e0, e1, e2, e3, e4, e5, e6, e7, e8, e9]
                  · skip
                    have E : Below w.heap.size w w := Below.refl _ _
                    go_enter Try.func12, Try.ntmps12
                    refine wq fun Q hQ => ?_
                    refine st_new (fun b => .pointer (some ⟨b, 0, none⟩)) (some 5) rfl rfl (ex_box rfl rfl) ?_
                    intro b1 W1 k1 g1 B
                    simp only [zp]
                    have ge_b1 := Nat.le_trans E.size g1
                    replace E := below_next E B
                    clear B
                    refine st_new (fun b => .pointer (some ⟨b, 0, none⟩)) (some 6) rfl rfl (ex_box rfl rfl) ?_
                    intro b2 W2 k2 g2 B
                    simp only [zp]
                    have ne_b2_b1 : b2 ≠ b1 := fun e => by have := lt_of k1; omega
                    have ge_b2 := Nat.le_trans E.size g2
                    replace E := below_next E B
                    replace k1 := keep B k1
                    clear B
                    refine sg (.int .i64 0) 10 rfl rfl rfl rfl ?_
                    simp only [zp]
                    refine st_end ?_
                    subst hQ
                    refine wp_seq ?_
                    refine wq fun Q hQ => ?_
                    refine sv (.agg (RL q)) 13 rfl rfl (ex_load (p := (.pointer (some ⟨b1, 0, none⟩))) rfl rfl (ld_all k1 Try.underlying25 rfl inf25)) ?_
                    simp only [zp]
                    refine sm (.int .i64 a) 14 rfl rfl rfl rfl ?_
                    simp only [zp]
                    refine sm (.int .i64 x) 15 rfl rfl rfl rfl ?_
                    simp only [zp]
                    refine sm (.int .i64 h) 16 rfl rfl rfl rfl ?_
                    simp only [zp]
                    refine st_call (some 17) rfl rfl (rright_any W2 e0) (ex_call (f := 35) (vs := [(.agg (RL q)), (.int .i64 a), (.int .i64 x), (.int .i64 h)]) rfl (cf35 _) rfl) ?_
                    rintro e W3 ⟨rfl, B⟩
                    refine ⟨_, rfl, ?_⟩
                    simp only [zp]
                    replace E := below_next E B
                    replace k1 := keep B k1
                    replace k2 := keep B k2
                    refine sv (.bool false) 18 rfl rfl (ex_not rfl rfl rfl) ?_
                    simp only [zp]
                    refine sm (.bool false) 19 rfl rfl rfl rfl ?_
                    simp only [zp]
                    refine sv (.pointer (some ⟨b2, 0, none⟩)) 20 rfl rfl (ex_fa (p := (.pointer (some ⟨b2, 0, none⟩))) rfl rfl (fa28_0 _ _)) ?_
                    simp only [zp]
                    refine sv (.int .i64 v.ch) 21 rfl rfl (ex_load (p := (.pointer (some ⟨b2, 0, none⟩))) rfl rfl (ld3 (at_cell k2 hH.c0))) ?_
                    simp only [zp]
                    refine sv (.bool false) 22 rfl rfl (ex_bin (u := (.int .i64 v.ch)) (r := (.int .i64 1)) rfl rfl rfl (eg3 _ _ _ _ _ _) (lss3 _ (decide_eq_false (by omega)))) ?_
                    simp only [zp]
                    refine sv (.bool false) 23 rfl rfl (ex_pkF rfl rfl rfl) ?_
                    simp only [zp]
                    refine st_end ?_
                    subst hQ
                    refine wp_cond_false rfl ?_
                    refine wp_skip ?_
                    refine wp_seq ?_
                    refine wq fun Q hQ => ?_
                    refine sm (.int .i64 x) 24 rfl rfl rfl rfl ?_
                    simp only [zp]
                    refine sm (.int .i64 h) 25 rfl rfl rfl rfl ?_
                    simp only [zp]
                    refine sv (.bool true) 26 rfl rfl (ex_bin (u := (.int .i64 x)) (r := (.int .i64 h)) rfl rfl rfl (eg3 _ _ _ _ _ _) (gtr3 _ (decide_eq_true (by omega)))) ?_
                    simp only [zp]
                    refine sm (.bool true) 27 rfl rfl rfl rfl ?_
                    simp only [zp]
                    refine sm (.int .i64 x) 28 rfl rfl rfl rfl ?_
                    simp only [zp]
                    refine sm (.int .i64 h) 29 rfl rfl rfl rfl ?_
                    simp only [zp]
                    refine sv (.int .i64 (x - h)) 30 rfl rfl (ex_bin (u := (.int .i64 x)) (r := (.int .i64 h)) rfl rfl rfl (eg3 _ _ _ _ _ _) (sub3 _ rfl (by omega))) ?_
                    simp only [zp]
                    refine sv (.pointer (some ⟨b1, 4, none⟩)) 31 rfl rfl (ex_fa (p := (.pointer (some ⟨b1, 0, none⟩))) rfl rfl (fa25_3 _ _)) ?_
                    simp only [zp]
                    refine sv (.int .i64 q.f) 32 rfl rfl (ex_load (p := (.pointer (some ⟨b1, 4, none⟩))) rfl rfl (ld3 (at_cell k1 rfl))) ?_
                    simp only [zp]
                    refine sv (.bool false) 33 rfl rfl (ex_bin (u := (.int .i64 (x - h))) (r := (.int .i64 q.f)) rfl rfl rfl (eg3 _ _ _ _ _ _) (gtr3 _ (decide_eq_false (by omega)))) ?_
                    simp only [zp]
                    refine sv (.bool false) 34 rfl rfl (ex_pkT rfl rfl rfl) ?_
                    simp only [zp]
                    refine st_end ?_
                    subst hQ
                    refine wp_cond_false rfl ?_
                    refine wp_skip ?_
                    refine wp_seq ?_
                    refine wq fun Q hQ => ?_
                    refine sv (.agg (RL q)) 35 rfl rfl (ex_load (p := (.pointer (some ⟨b1, 0, none⟩))) rfl rfl (ld_all k1 Try.underlying25 rfl inf25)) ?_
                    simp only [zp]
                    refine sv (.pointer (some ⟨b2, 2, none⟩)) 36 rfl rfl (ex_fa (p := (.pointer (some ⟨b2, 0, none⟩))) rfl rfl (fa28_2 _ _)) ?_
                    simp only [zp]
                    refine sv (.int .i64 v.ex) 37 rfl rfl (ex_load (p := (.pointer (some ⟨b2, 2, none⟩))) rfl rfl (ld3 (at_cell k2 hH.c2))) ?_
                    simp only [zp]
                    refine sm (.int .i64 h) 38 rfl rfl rfl rfl ?_
                    simp only [zp]
                    refine st_call (some 39) rfl rfl (rsoon_any W3 h0 h1 MR.2.2.2.1 MR.2.2.2.2.1 z1 (decide_eq_false (by omega))) (ex_call (f := 36) (vs := [(.agg (RL q)), (.int .i64 v.ex), (.int .i64 h)]) rfl (cf36 _) rfl) ?_
                    rintro e W4 ⟨rfl, B⟩
                    refine ⟨_, rfl, ?_⟩
                    simp only [zp]
                    replace E := below_next E B
                    replace k1 := keep B k1
                    replace k2 := keep B k2
                    refine st_end ?_
                    subst hQ
                    refine wp_cond_false rfl ?_
                    refine wp_skip ?_
                    refine wp_seq ?_
                    refine wq fun Q hQ => ?_
                    refine sv (.pointer (some ⟨b2, 2, none⟩)) 40 rfl rfl (ex_fa (p := (.pointer (some ⟨b2, 0, none⟩))) rfl rfl (fa28_2 _ _)) ?_
                    simp only [zp]
                    refine sv (.int .i64 v.ex) 41 rfl rfl (ex_load (p := (.pointer (some ⟨b2, 2, none⟩))) rfl rfl (ld3 (at_cell k2 hH.c2))) ?_
                    simp only [zp]
                    refine sm (.int .i64 x) 42 rfl rfl rfl rfl ?_
                    simp only [zp]
                    refine sv (.bool false) 43 rfl rfl (ex_bin (u := (.int .i64 v.ex)) (r := (.int .i64 x)) rfl rfl rfl (eg3 _ _ _ _ _ _) (gtr3 _ (decide_eq_false (by omega)))) ?_
                    simp only [zp]
                    refine sm (.bool false) 44 rfl rfl rfl rfl ?_
                    simp only [zp]
                    refine sm (.int .i64 x) 45 rfl rfl rfl rfl ?_
                    simp only [zp]
                    refine sv (.pointer (some ⟨b2, 2, none⟩)) 46 rfl rfl (ex_fa (p := (.pointer (some ⟨b2, 0, none⟩))) rfl rfl (fa28_2 _ _)) ?_
                    simp only [zp]
                    refine sv (.int .i64 v.ex) 47 rfl rfl (ex_load (p := (.pointer (some ⟨b2, 2, none⟩))) rfl rfl (ld3 (at_cell k2 hH.c2))) ?_
                    simp only [zp]
                    refine sv (.int .i64 (x - v.ex)) 48 rfl rfl (ex_bin (u := (.int .i64 x)) (r := (.int .i64 v.ex)) rfl rfl rfl (eg3 _ _ _ _ _ _) (sub3 _ rfl (by omega))) ?_
                    simp only [zp]
                    refine sv (.pointer (some ⟨b1, 2, none⟩)) 49 rfl rfl (ex_fa (p := (.pointer (some ⟨b1, 0, none⟩))) rfl rfl (fa25_1 _ _)) ?_
                    simp only [zp]
                    refine sv (.int .i64 q.d) 50 rfl rfl (ex_load (p := (.pointer (some ⟨b1, 2, none⟩))) rfl rfl (ld3 (at_cell k1 rfl))) ?_
                    simp only [zp]
                    refine sv (.bool false) 51 rfl rfl (ex_bin (u := (.int .i64 (x - v.ex))) (r := (.int .i64 q.d)) rfl rfl rfl (eg3 _ _ _ _ _ _) (lss3 _ (decide_eq_false (by omega)))) ?_
                    simp only [zp]
                    refine sv (.bool false) 52 rfl rfl (ex_pkF rfl rfl rfl) ?_
                    simp only [zp]
                    refine st_end ?_
                    subst hQ
                    refine wp_cond_false rfl ?_
                    refine wp_skip ?_
                    refine wp_seq ?_
                    refine wq fun Q hQ => ?_
                    refine sv (.pointer (some ⟨b2, 1, none⟩)) 53 rfl rfl (ex_fa (p := (.pointer (some ⟨b2, 0, none⟩))) rfl rfl (fa28_1 _ _)) ?_
                    simp only [zp]
                    refine sv (.int .i64 v.am) 54 rfl rfl (ex_load (p := (.pointer (some ⟨b2, 1, none⟩))) rfl rfl (ld3 (at_cell k2 hH.c1))) ?_
                    simp only [zp]
                    refine sv (.bool false) 55 rfl rfl (ex_bin (u := (.int .i64 v.am)) (r := (.int .i64 1)) rfl rfl rfl (eg3 _ _ _ _ _ _) (lss3 _ (decide_eq_false (by omega)))) ?_
                    simp only [zp]
                    refine st_end ?_
                    subst hQ
                    refine wp_cond_false rfl ?_
                    refine wp_skip ?_
                    refine wq fun Q hQ => ?_
                    refine sv (.pointer (some ⟨b1, 0, none⟩)) 57 rfl rfl (ex_fa (p := (.pointer (some ⟨b1, 0, none⟩))) rfl rfl (fa25_0 _ _)) ?_
                    simp only [zp]
                    refine sv (.agg (FL q)) 58 rfl rfl (ex_load (p := (.pointer (some ⟨b1, 0, none⟩))) rfl rfl (ldF k1)) ?_
                    simp only [zp]
                    refine sv (.pointer (some ⟨b2, 1, none⟩)) 59 rfl rfl (ex_fa (p := (.pointer (some ⟨b2, 0, none⟩))) rfl rfl (fa28_1 _ _)) ?_
                    simp only [zp]
                    refine sv (.int .i64 v.am) 60 rfl rfl (ex_load (p := (.pointer (some ⟨b2, 1, none⟩))) rfl rfl (ld3 (at_cell k2 hH.c1))) ?_
                    simp only [zp]
                    refine st_call (some 61) rfl rfl (rin_any q.b q.r v.am W4 hb y0 y1) (ex_call (f := 37) (vs := [(.agg (FL q)), (.int .i64 v.am)]) rfl (cf37 _) rfl) ?_
                    rintro e W5 ⟨rfl, B⟩
                    refine ⟨_, rfl, ?_⟩
                    simp only [zp]
                    replace E := below_next E B
                    replace k1 := keep B k1
                    replace k2 := keep B k2
                    refine sm (.tuple #[(.int .i64 (inN q.b q.r v.am)), (.int .i64 (inE q.b q.r v.am))]) 56 rfl rfl rfl rfl ?_
                    simp only [zp]
                    refine sv (.int .i64 (inN q.b q.r v.am)) 62 rfl rfl (ex_ext rfl rfl rfl) ?_
                    simp only [zp]
                    refine sv (.int .i64 (inE q.b q.r v.am)) 63 rfl rfl (ex_ext rfl rfl rfl) ?_
                    simp only [zp]
                    refine sg (.int .i64 (inN q.b q.r v.am)) 11 rfl rfl rfl rfl ?_
                    simp only [zp]
                    refine sg (.int .i64 (inE q.b q.r v.am)) 12 rfl rfl rfl rfl ?_
                    simp only [zp]
                    refine st_end ?_
                    subst hQ
                    refine wp_seq ?_
                    refine wq fun Q hQ => ?_
                    refine sm (.int .i64 (inE q.b q.r v.am)) 64 rfl rfl rfl rfl ?_
                    simp only [zp]
                    refine sv (.bool true) 65 rfl rfl (ex_bin (u := (.int .i64 (inE q.b q.r v.am))) (r := (.int .i64 0)) rfl rfl rfl (eg37 _ _ _ _ _ _) (neq37 _ (decide_eq_true e8))) ?_
                    simp only [zp]
                    refine sm (.bool true) 66 rfl rfl rfl rfl ?_
                    simp only [zp]
                    refine sn 67 rfl rfl ?_
                    simp only [zp]
                    refine sn 68 rfl rfl ?_
                    simp only [zp]
                    refine sn 69 rfl rfl ?_
                    simp only [zp]
                    refine sv (.bool true) 70 rfl rfl (ex_pkT rfl rfl rfl) ?_
                    simp only [zp]
                    refine st_end ?_
                    subst hQ
                    refine wp_cond_true rfl ?_
                    refine wq fun Q hQ => ?_
                    refine sg (.int .i64 3) 10 rfl rfl rfl rfl ?_
                    simp only [zp]
                    refine st_end ?_
                    subst hQ
                    refine wp_ret ?_
                    repeat (first | refine ret_out ?_ | refine ret_blk ?_)
                    refine bodyPost_ret (results_tmp Try.results12 _ _ _) rfl ⟨?_, E⟩
                    show Ending.returned (.int .i64 3) = _
                    simp [fwdN, belowB, e0, e1, e2, e3, e4, e5, e6, e7, e8]
      · skip
        by_cases e3 : q.f < x - h
        · skip
          exfalso
          omega
        · skip
          by_cases e4 : v.ex ≤ h + q.g
          · skip
            have E : Below w.heap.size w w := Below.refl _ _
            go_enter Try.func12, Try.ntmps12
            refine wq fun Q hQ => ?_
            refine st_new (fun b => .pointer (some ⟨b, 0, none⟩)) (some 5) rfl rfl (ex_box rfl rfl) ?_
            intro b1 W1 k1 g1 B
            simp only [zp]
            have ge_b1 := Nat.le_trans E.size g1
            replace E := below_next E B
            clear B
            refine st_new (fun b => .pointer (some ⟨b, 0, none⟩)) (some 6) rfl rfl (ex_box rfl rfl) ?_
            intro b2 W2 k2 g2 B
            simp only [zp]
            have ne_b2_b1 : b2 ≠ b1 := fun e => by have := lt_of k1; omega
            have ge_b2 := Nat.le_trans E.size g2
            replace E := below_next E B
            replace k1 := keep B k1
            clear B
            refine sg (.int .i64 0) 10 rfl rfl rfl rfl ?_
            simp only [zp]
            refine st_end ?_
            subst hQ
            refine wp_seq ?_
            refine wq fun Q hQ => ?_
            refine sv (.agg (RL q)) 13 rfl rfl (ex_load (p := (.pointer (some ⟨b1, 0, none⟩))) rfl rfl (ld_all k1 Try.underlying25 rfl inf25)) ?_
            simp only [zp]
            refine sm (.int .i64 a) 14 rfl rfl rfl rfl ?_
            simp only [zp]
            refine sm (.int .i64 x) 15 rfl rfl rfl rfl ?_
            simp only [zp]
            refine sm (.int .i64 h) 16 rfl rfl rfl rfl ?_
            simp only [zp]
            refine st_call (some 17) rfl rfl (rright_any W2 e0) (ex_call (f := 35) (vs := [(.agg (RL q)), (.int .i64 a), (.int .i64 x), (.int .i64 h)]) rfl (cf35 _) rfl) ?_
            rintro e W3 ⟨rfl, B⟩
            refine ⟨_, rfl, ?_⟩
            simp only [zp]
            replace E := below_next E B
            replace k1 := keep B k1
            replace k2 := keep B k2
            refine sv (.bool false) 18 rfl rfl (ex_not rfl rfl rfl) ?_
            simp only [zp]
            refine sm (.bool false) 19 rfl rfl rfl rfl ?_
            simp only [zp]
            refine sv (.pointer (some ⟨b2, 0, none⟩)) 20 rfl rfl (ex_fa (p := (.pointer (some ⟨b2, 0, none⟩))) rfl rfl (fa28_0 _ _)) ?_
            simp only [zp]
            refine sv (.int .i64 v.ch) 21 rfl rfl (ex_load (p := (.pointer (some ⟨b2, 0, none⟩))) rfl rfl (ld3 (at_cell k2 hH.c0))) ?_
            simp only [zp]
            refine sv (.bool false) 22 rfl rfl (ex_bin (u := (.int .i64 v.ch)) (r := (.int .i64 1)) rfl rfl rfl (eg3 _ _ _ _ _ _) (lss3 _ (decide_eq_false (by omega)))) ?_
            simp only [zp]
            refine sv (.bool false) 23 rfl rfl (ex_pkF rfl rfl rfl) ?_
            simp only [zp]
            refine st_end ?_
            subst hQ
            refine wp_cond_false rfl ?_
            refine wp_skip ?_
            refine wp_seq ?_
            refine wq fun Q hQ => ?_
            refine sm (.int .i64 x) 24 rfl rfl rfl rfl ?_
            simp only [zp]
            refine sm (.int .i64 h) 25 rfl rfl rfl rfl ?_
            simp only [zp]
            refine sv (.bool false) 26 rfl rfl (ex_bin (u := (.int .i64 x)) (r := (.int .i64 h)) rfl rfl rfl (eg3 _ _ _ _ _ _) (gtr3 _ (decide_eq_false (by omega)))) ?_
            simp only [zp]
            refine sm (.bool false) 27 rfl rfl rfl rfl ?_
            simp only [zp]
            refine sn 28 rfl rfl ?_
            simp only [zp]
            refine sn 29 rfl rfl ?_
            simp only [zp]
            refine sn 30 rfl rfl ?_
            simp only [zp]
            refine sn 31 rfl rfl ?_
            simp only [zp]
            refine sn 32 rfl rfl ?_
            simp only [zp]
            refine sn 33 rfl rfl ?_
            simp only [zp]
            refine sv (.bool false) 34 rfl rfl (ex_pkF rfl rfl rfl) ?_
            simp only [zp]
            refine st_end ?_
            subst hQ
            refine wp_cond_false rfl ?_
            refine wp_skip ?_
            refine wp_seq ?_
            refine wq fun Q hQ => ?_
            refine sv (.agg (RL q)) 35 rfl rfl (ex_load (p := (.pointer (some ⟨b1, 0, none⟩))) rfl rfl (ld_all k1 Try.underlying25 rfl inf25)) ?_
            simp only [zp]
            refine sv (.pointer (some ⟨b2, 2, none⟩)) 36 rfl rfl (ex_fa (p := (.pointer (some ⟨b2, 0, none⟩))) rfl rfl (fa28_2 _ _)) ?_
            simp only [zp]
            refine sv (.int .i64 v.ex) 37 rfl rfl (ex_load (p := (.pointer (some ⟨b2, 2, none⟩))) rfl rfl (ld3 (at_cell k2 hH.c2))) ?_
            simp only [zp]
            refine sm (.int .i64 h) 38 rfl rfl rfl rfl ?_
            simp only [zp]
            refine st_call (some 39) rfl rfl (rsoon_any W3 h0 h1 MR.2.2.2.1 MR.2.2.2.2.1 z1 (decide_eq_true (by omega))) (ex_call (f := 36) (vs := [(.agg (RL q)), (.int .i64 v.ex), (.int .i64 h)]) rfl (cf36 _) rfl) ?_
            rintro e W4 ⟨rfl, B⟩
            refine ⟨_, rfl, ?_⟩
            simp only [zp]
            replace E := below_next E B
            replace k1 := keep B k1
            replace k2 := keep B k2
            refine st_end ?_
            subst hQ
            refine wp_cond_true rfl ?_
            refine wq fun Q hQ => ?_
            refine sg (.int .i64 5) 10 rfl rfl rfl rfl ?_
            simp only [zp]
            refine st_end ?_
            subst hQ
            refine wp_ret ?_
            repeat (first | refine ret_out ?_ | refine ret_blk ?_)
            refine bodyPost_ret (results_tmp Try.results12 _ _ _) rfl ⟨?_, E⟩
            show Ending.returned (.int .i64 5) = _
            simp [fwdN, belowB, e0, e1, e2, e3, e4]
          · skip
            by_cases e5 : x < v.ex
            · skip
              by_cases e6 : x - q.d < v.ex
              · skip
                have E : Below w.heap.size w w := Below.refl _ _
                go_enter Try.func12, Try.ntmps12
                refine wq fun Q hQ => ?_
                refine st_new (fun b => .pointer (some ⟨b, 0, none⟩)) (some 5) rfl rfl (ex_box rfl rfl) ?_
                intro b1 W1 k1 g1 B
                simp only [zp]
                have ge_b1 := Nat.le_trans E.size g1
                replace E := below_next E B
                clear B
                refine st_new (fun b => .pointer (some ⟨b, 0, none⟩)) (some 6) rfl rfl (ex_box rfl rfl) ?_
                intro b2 W2 k2 g2 B
                simp only [zp]
                have ne_b2_b1 : b2 ≠ b1 := fun e => by have := lt_of k1; omega
                have ge_b2 := Nat.le_trans E.size g2
                replace E := below_next E B
                replace k1 := keep B k1
                clear B
                refine sg (.int .i64 0) 10 rfl rfl rfl rfl ?_
                simp only [zp]
                refine st_end ?_
                subst hQ
                refine wp_seq ?_
                refine wq fun Q hQ => ?_
                refine sv (.agg (RL q)) 13 rfl rfl (ex_load (p := (.pointer (some ⟨b1, 0, none⟩))) rfl rfl (ld_all k1 Try.underlying25 rfl inf25)) ?_
                simp only [zp]
                refine sm (.int .i64 a) 14 rfl rfl rfl rfl ?_
                simp only [zp]
                refine sm (.int .i64 x) 15 rfl rfl rfl rfl ?_
                simp only [zp]
                refine sm (.int .i64 h) 16 rfl rfl rfl rfl ?_
                simp only [zp]
                refine st_call (some 17) rfl rfl (rright_any W2 e0) (ex_call (f := 35) (vs := [(.agg (RL q)), (.int .i64 a), (.int .i64 x), (.int .i64 h)]) rfl (cf35 _) rfl) ?_
                rintro e W3 ⟨rfl, B⟩
                refine ⟨_, rfl, ?_⟩
                simp only [zp]
                replace E := below_next E B
                replace k1 := keep B k1
                replace k2 := keep B k2
                refine sv (.bool false) 18 rfl rfl (ex_not rfl rfl rfl) ?_
                simp only [zp]
                refine sm (.bool false) 19 rfl rfl rfl rfl ?_
                simp only [zp]
                refine sv (.pointer (some ⟨b2, 0, none⟩)) 20 rfl rfl (ex_fa (p := (.pointer (some ⟨b2, 0, none⟩))) rfl rfl (fa28_0 _ _)) ?_
                simp only [zp]
                refine sv (.int .i64 v.ch) 21 rfl rfl (ex_load (p := (.pointer (some ⟨b2, 0, none⟩))) rfl rfl (ld3 (at_cell k2 hH.c0))) ?_
                simp only [zp]
                refine sv (.bool false) 22 rfl rfl (ex_bin (u := (.int .i64 v.ch)) (r := (.int .i64 1)) rfl rfl rfl (eg3 _ _ _ _ _ _) (lss3 _ (decide_eq_false (by omega)))) ?_
                simp only [zp]
                refine sv (.bool false) 23 rfl rfl (ex_pkF rfl rfl rfl) ?_
                simp only [zp]
                refine st_end ?_
                subst hQ
                refine wp_cond_false rfl ?_
                refine wp_skip ?_
                refine wp_seq ?_
                refine wq fun Q hQ => ?_
                refine sm (.int .i64 x) 24 rfl rfl rfl rfl ?_
                simp only [zp]
                refine sm (.int .i64 h) 25 rfl rfl rfl rfl ?_
                simp only [zp]
                refine sv (.bool false) 26 rfl rfl (ex_bin (u := (.int .i64 x)) (r := (.int .i64 h)) rfl rfl rfl (eg3 _ _ _ _ _ _) (gtr3 _ (decide_eq_false (by omega)))) ?_
                simp only [zp]
                refine sm (.bool false) 27 rfl rfl rfl rfl ?_
                simp only [zp]
                refine sn 28 rfl rfl ?_
                simp only [zp]
                refine sn 29 rfl rfl ?_
                simp only [zp]
                refine sn 30 rfl rfl ?_
                simp only [zp]
                refine sn 31 rfl rfl ?_
                simp only [zp]
                refine sn 32 rfl rfl ?_
                simp only [zp]
                refine sn 33 rfl rfl ?_
                simp only [zp]
                refine sv (.bool false) 34 rfl rfl (ex_pkF rfl rfl rfl) ?_
                simp only [zp]
                refine st_end ?_
                subst hQ
                refine wp_cond_false rfl ?_
                refine wp_skip ?_
                refine wp_seq ?_
                refine wq fun Q hQ => ?_
                refine sv (.agg (RL q)) 35 rfl rfl (ex_load (p := (.pointer (some ⟨b1, 0, none⟩))) rfl rfl (ld_all k1 Try.underlying25 rfl inf25)) ?_
                simp only [zp]
                refine sv (.pointer (some ⟨b2, 2, none⟩)) 36 rfl rfl (ex_fa (p := (.pointer (some ⟨b2, 0, none⟩))) rfl rfl (fa28_2 _ _)) ?_
                simp only [zp]
                refine sv (.int .i64 v.ex) 37 rfl rfl (ex_load (p := (.pointer (some ⟨b2, 2, none⟩))) rfl rfl (ld3 (at_cell k2 hH.c2))) ?_
                simp only [zp]
                refine sm (.int .i64 h) 38 rfl rfl rfl rfl ?_
                simp only [zp]
                refine st_call (some 39) rfl rfl (rsoon_any W3 h0 h1 MR.2.2.2.1 MR.2.2.2.2.1 z1 (decide_eq_false (by omega))) (ex_call (f := 36) (vs := [(.agg (RL q)), (.int .i64 v.ex), (.int .i64 h)]) rfl (cf36 _) rfl) ?_
                rintro e W4 ⟨rfl, B⟩
                refine ⟨_, rfl, ?_⟩
                simp only [zp]
                replace E := below_next E B
                replace k1 := keep B k1
                replace k2 := keep B k2
                refine st_end ?_
                subst hQ
                refine wp_cond_false rfl ?_
                refine wp_skip ?_
                refine wp_seq ?_
                refine wq fun Q hQ => ?_
                refine sv (.pointer (some ⟨b2, 2, none⟩)) 40 rfl rfl (ex_fa (p := (.pointer (some ⟨b2, 0, none⟩))) rfl rfl (fa28_2 _ _)) ?_
                simp only [zp]
                refine sv (.int .i64 v.ex) 41 rfl rfl (ex_load (p := (.pointer (some ⟨b2, 2, none⟩))) rfl rfl (ld3 (at_cell k2 hH.c2))) ?_
                simp only [zp]
                refine sm (.int .i64 x) 42 rfl rfl rfl rfl ?_
                simp only [zp]
                refine sv (.bool true) 43 rfl rfl (ex_bin (u := (.int .i64 v.ex)) (r := (.int .i64 x)) rfl rfl rfl (eg3 _ _ _ _ _ _) (gtr3 _ (decide_eq_true (by omega)))) ?_
                simp only [zp]
                refine sm (.bool true) 44 rfl rfl rfl rfl ?_
                simp only [zp]
                refine sn 45 rfl rfl ?_
                simp only [zp]
                refine sn 46 rfl rfl ?_
                simp only [zp]
                refine sn 47 rfl rfl ?_
                simp only [zp]
                refine sn 48 rfl rfl ?_
                simp only [zp]
                refine sn 49 rfl rfl ?_
                simp only [zp]
                refine sn 50 rfl rfl ?_
                simp only [zp]
                refine sn 51 rfl rfl ?_
                simp only [zp]
                refine sv (.bool true) 52 rfl rfl (ex_pkT rfl rfl rfl) ?_
                simp only [zp]
                refine st_end ?_
                subst hQ
                refine wp_cond_true rfl ?_
                refine wq fun Q hQ => ?_
                refine sg (.int .i64 4) 10 rfl rfl rfl rfl ?_
                simp only [zp]
                refine st_end ?_
                subst hQ
                refine wp_ret ?_
                repeat (first | refine ret_out ?_ | refine ret_blk ?_)
                refine bodyPost_ret (results_tmp Try.results12 _ _ _) rfl ⟨?_, E⟩
                show Ending.returned (.int .i64 4) = _
                simp [fwdN, belowB, e0, e1, e2, e3, e4, e5, e6]
              · skip
                exfalso
                omega
            · skip
              by_cases e6 : x - q.d < v.ex
              · skip
                have E : Below w.heap.size w w := Below.refl _ _
                go_enter Try.func12, Try.ntmps12
                refine wq fun Q hQ => ?_
                refine st_new (fun b => .pointer (some ⟨b, 0, none⟩)) (some 5) rfl rfl (ex_box rfl rfl) ?_
                intro b1 W1 k1 g1 B
                simp only [zp]
                have ge_b1 := Nat.le_trans E.size g1
                replace E := below_next E B
                clear B
                refine st_new (fun b => .pointer (some ⟨b, 0, none⟩)) (some 6) rfl rfl (ex_box rfl rfl) ?_
                intro b2 W2 k2 g2 B
                simp only [zp]
                have ne_b2_b1 : b2 ≠ b1 := fun e => by have := lt_of k1; omega
                have ge_b2 := Nat.le_trans E.size g2
                replace E := below_next E B
                replace k1 := keep B k1
                clear B
                refine sg (.int .i64 0) 10 rfl rfl rfl rfl ?_
                simp only [zp]
                refine st_end ?_
                subst hQ
                refine wp_seq ?_
                refine wq fun Q hQ => ?_
                refine sv (.agg (RL q)) 13 rfl rfl (ex_load (p := (.pointer (some ⟨b1, 0, none⟩))) rfl rfl (ld_all k1 Try.underlying25 rfl inf25)) ?_
                simp only [zp]
                refine sm (.int .i64 a) 14 rfl rfl rfl rfl ?_
                simp only [zp]
                refine sm (.int .i64 x) 15 rfl rfl rfl rfl ?_
                simp only [zp]
                refine sm (.int .i64 h) 16 rfl rfl rfl rfl ?_
                simp only [zp]
                refine st_call (some 17) rfl rfl (rright_any W2 e0) (ex_call (f := 35) (vs := [(.agg (RL q)), (.int .i64 a), (.int .i64 x), (.int .i64 h)]) rfl (cf35 _) rfl) ?_
                rintro e W3 ⟨rfl, B⟩
                refine ⟨_, rfl, ?_⟩
                simp only [zp]
                replace E := below_next E B
                replace k1 := keep B k1
                replace k2 := keep B k2
                refine sv (.bool false) 18 rfl rfl (ex_not rfl rfl rfl) ?_
                simp only [zp]
                refine sm (.bool false) 19 rfl rfl rfl rfl ?_
                simp only [zp]
                refine sv (.pointer (some ⟨b2, 0, none⟩)) 20 rfl rfl (ex_fa (p := (.pointer (some ⟨b2, 0, none⟩))) rfl rfl (fa28_0 _ _)) ?_
                simp only [zp]
                refine sv (.int .i64 v.ch) 21 rfl rfl (ex_load (p := (.pointer (some ⟨b2, 0, none⟩))) rfl rfl (ld3 (at_cell k2 hH.c0))) ?_
                simp only [zp]
                refine sv (.bool false) 22 rfl rfl (ex_bin (u := (.int .i64 v.ch)) (r := (.int .i64 1)) rfl rfl rfl (eg3 _ _ _ _ _ _) (lss3 _ (decide_eq_false (by omega)))) ?_
                simp only [zp]
                refine sv (.bool false) 23 rfl rfl (ex_pkF rfl rfl rfl) ?_
                simp only [zp]
                refine st_end ?_
                subst hQ
                refine wp_cond_false rfl ?_
                refine wp_skip ?_
                refine wp_seq ?_
                refine wq fun Q hQ => ?_
                refine sm (.int .i64 x) 24 rfl rfl rfl rfl ?_
                simp only [zp]
                refine sm (.int .i64 h) 25 rfl rfl rfl rfl ?_
                simp only [zp]
                refine sv (.bool false) 26 rfl rfl (ex_bin (u := (.int .i64 x)) (r := (.int .i64 h)) rfl rfl rfl (eg3 _ _ _ _ _ _) (gtr3 _ (decide_eq_false (by omega)))) ?_
                simp only [zp]
                refine sm (.bool false) 27 rfl rfl rfl rfl ?_
                simp only [zp]
                refine sn 28 rfl rfl ?_
                simp only [zp]
                refine sn 29 rfl rfl ?_
                simp only [zp]
                refine sn 30 rfl rfl ?_
                simp only [zp]
                refine sn 31 rfl rfl ?_
                simp only [zp]
                refine sn 32 rfl rfl ?_
                simp only [zp]
                refine sn 33 rfl rfl ?_
                simp only [zp]
                refine sv (.bool false) 34 rfl rfl (ex_pkF rfl rfl rfl) ?_
                simp only [zp]
                refine st_end ?_
                subst hQ
                refine wp_cond_false rfl ?_
                refine wp_skip ?_
                refine wp_seq ?_
                refine wq fun Q hQ => ?_
                refine sv (.agg (RL q)) 35 rfl rfl (ex_load (p := (.pointer (some ⟨b1, 0, none⟩))) rfl rfl (ld_all k1 Try.underlying25 rfl inf25)) ?_
                simp only [zp]
                refine sv (.pointer (some ⟨b2, 2, none⟩)) 36 rfl rfl (ex_fa (p := (.pointer (some ⟨b2, 0, none⟩))) rfl rfl (fa28_2 _ _)) ?_
                simp only [zp]
                refine sv (.int .i64 v.ex) 37 rfl rfl (ex_load (p := (.pointer (some ⟨b2, 2, none⟩))) rfl rfl (ld3 (at_cell k2 hH.c2))) ?_
                simp only [zp]
                refine sm (.int .i64 h) 38 rfl rfl rfl rfl ?_
                simp only [zp]
                refine st_call (some 39) rfl rfl (rsoon_any W3 h0 h1 MR.2.2.2.1 MR.2.2.2.2.1 z1 (decide_eq_false (by omega))) (ex_call (f := 36) (vs := [(.agg (RL q)), (.int .i64 v.ex), (.int .i64 h)]) rfl (cf36 _) rfl) ?_
                rintro e W4 ⟨rfl, B⟩
                refine ⟨_, rfl, ?_⟩
                simp only [zp]
                replace E := below_next E B
                replace k1 := keep B k1
                replace k2 := keep B k2
                refine st_end ?_
                subst hQ
                refine wp_cond_false rfl ?_
                refine wp_skip ?_
                refine wp_seq ?_
                refine wq fun Q hQ => ?_
                refine sv (.pointer (some ⟨b2, 2, none⟩)) 40 rfl rfl (ex_fa (p := (.pointer (some ⟨b2, 0, none⟩))) rfl rfl (fa28_2 _ _)) ?_
                simp only [zp]
                refine sv (.int .i64 v.ex) 41 rfl rfl (ex_load (p := (.pointer (some ⟨b2, 2, none⟩))) rfl rfl (ld3 (at_cell k2 hH.c2))) ?_
                simp only [zp]
                refine sm (.int .i64 x) 42 rfl rfl rfl rfl ?_
                simp only [zp]
                refine sv (.bool false) 43 rfl rfl (ex_bin (u := (.int .i64 v.ex)) (r := (.int .i64 x)) rfl rfl rfl (eg3 _ _ _ _ _ _) (gtr3 _ (decide_eq_false (by omega)))) ?_
                simp only [zp]
                refine sm (.bool false) 44 rfl rfl rfl rfl ?_
                simp only [zp]
                refine sm (.int .i64 x) 45 rfl rfl rfl rfl ?_
                simp only [zp]
                refine sv (.pointer (some ⟨b2, 2, none⟩)) 46 rfl rfl (ex_fa (p := (.pointer (some ⟨b2, 0, none⟩))) rfl rfl (fa28_2 _ _)) ?_
                simp only [zp]
                refine sv (.int .i64 v.ex) 47 rfl rfl (ex_load (p := (.pointer (some ⟨b2, 2, none⟩))) rfl rfl (ld3 (at_cell k2 hH.c2))) ?_
                simp only [zp]
                refine sv (.int .i64 (x - v.ex)) 48 rfl rfl (ex_bin (u := (.int .i64 x)) (r := (.int .i64 v.ex)) rfl rfl rfl (eg3 _ _ _ _ _ _) (sub3 _ rfl (by omega))) ?_
                simp only [zp]
                refine sv (.pointer (some ⟨b1, 2, none⟩)) 49 rfl rfl (ex_fa (p := (.pointer (some ⟨b1, 0, none⟩))) rfl rfl (fa25_1 _ _)) ?_
                simp only [zp]
                refine sv (.int .i64 q.d) 50 rfl rfl (ex_load (p := (.pointer (some ⟨b1, 2, none⟩))) rfl rfl (ld3 (at_cell k1 rfl))) ?_
                simp only [zp]
                refine sv (.bool true) 51 rfl rfl (ex_bin (u := (.int .i64 (x - v.ex))) (r := (.int .i64 q.d)) rfl rfl rfl (eg3 _ _ _ _ _ _) (lss3 _ (decide_eq_true (by omega)))) ?_
                simp only [zp]
                refine sv (.bool true) 52 rfl rfl (ex_pkF rfl rfl rfl) ?_
                simp only [zp]
                refine st_end ?_
                subst hQ
                refine wp_cond_true rfl ?_
                refine wq fun Q hQ => ?_
                refine sg (.int .i64 4) 10 rfl rfl rfl rfl ?_
                simp only [zp]
                refine st_end ?_
                subst hQ
                refine wp_ret ?_
                repeat (first | refine ret_out ?_ | refine ret_blk ?_)
                refine bodyPost_ret (results_tmp Try.results12 _ _ _) rfl ⟨?_, E⟩
                show Ending.returned (.int .i64 4) = _
                simp [fwdN, belowB, e0, e1, e2, e3, e4, e5, e6]
              · skip
                by_cases e7 : v.am < 1
                · skip
                  have E : Below w.heap.size w w := Below.refl _ _
                  go_enter Try.func12, Try.ntmps12
                  refine wq fun Q hQ => ?_
                  refine st_new (fun b => .pointer (some ⟨b, 0, none⟩)) (some 5) rfl rfl (ex_box rfl rfl) ?_
                  intro b1 W1 k1 g1 B
                  simp only [zp]
                  have ge_b1 := Nat.le_trans E.size g1
                  replace E := below_next E B
                  clear B
                  refine st_new (fun b => .pointer (some ⟨b, 0, none⟩)) (some 6) rfl rfl (ex_box rfl rfl) ?_
                  intro b2 W2 k2 g2 B
                  simp only [zp]
                  have ne_b2_b1 : b2 ≠ b1 := fun e => by have := lt_of k1; omega
                  have ge_b2 := Nat.le_trans E.size g2
                  replace E := below_next E B
                  replace k1 := keep B k1
                  clear B
                  refine sg (.int .i64 0) 10 rfl rfl rfl rfl ?_
                  simp only [zp]
                  refine st_end ?_
                  subst hQ
                  refine wp_seq ?_
                  refine wq fun Q hQ => ?_
                  refine sv (.agg (RL q)) 13 rfl rfl (ex_load (p := (.pointer (some ⟨b1, 0, none⟩))) rfl rfl (ld_all k1 Try.underlying25 rfl inf25)) ?_
                  simp only [zp]
                  refine sm (.int .i64 a) 14 rfl rfl rfl rfl ?_
                  simp only [zp]
                  refine sm (.int .i64 x) 15 rfl rfl rfl rfl ?_
                  simp only [zp]
                  refine sm (.int .i64 h) 16 rfl rfl rfl rfl ?_
                  simp only [zp]
                  refine st_call (some 17) rfl rfl (rright_any W2 e0) (ex_call (f := 35) (vs := [(.agg (RL q)), (.int .i64 a), (.int .i64 x), (.int .i64 h)]) rfl (cf35 _) rfl) ?_
                  rintro e W3 ⟨rfl, B⟩
                  refine ⟨_, rfl, ?_⟩
                  simp only [zp]
                  replace E := below_next E B
                  replace k1 := keep B k1
                  replace k2 := keep B k2
                  refine sv (.bool false) 18 rfl rfl (ex_not rfl rfl rfl) ?_
                  simp only [zp]
                  refine sm (.bool false) 19 rfl rfl rfl rfl ?_
                  simp only [zp]
                  refine sv (.pointer (some ⟨b2, 0, none⟩)) 20 rfl rfl (ex_fa (p := (.pointer (some ⟨b2, 0, none⟩))) rfl rfl (fa28_0 _ _)) ?_
                  simp only [zp]
                  refine sv (.int .i64 v.ch) 21 rfl rfl (ex_load (p := (.pointer (some ⟨b2, 0, none⟩))) rfl rfl (ld3 (at_cell k2 hH.c0))) ?_
                  simp only [zp]
                  refine sv (.bool false) 22 rfl rfl (ex_bin (u := (.int .i64 v.ch)) (r := (.int .i64 1)) rfl rfl rfl (eg3 _ _ _ _ _ _) (lss3 _ (decide_eq_false (by omega)))) ?_
                  simp only [zp]
                  refine sv (.bool false) 23 rfl rfl (ex_pkF rfl rfl rfl) ?_
                  simp only [zp]
                  refine st_end ?_
                  subst hQ
                  refine wp_cond_false rfl ?_
                  refine wp_skip ?_
                  refine wp_seq ?_
                  refine wq fun Q hQ => ?_
                  refine sm (.int .i64 x) 24 rfl rfl rfl rfl ?_
                  simp only [zp]
                  refine sm (.int .i64 h) 25 rfl rfl rfl rfl ?_
                  simp only [zp]
                  refine sv (.bool false) 26 rfl rfl (ex_bin (u := (.int .i64 x)) (r := (.int .i64 h)) rfl rfl rfl (eg3 _ _ _ _ _ _) (gtr3 _ (decide_eq_false (by omega)))) ?_
                  simp only [zp]
                  refine sm (.bool false) 27 rfl rfl rfl rfl ?_
                  simp only [zp]
                  refine sn 28 rfl rfl ?_
                  simp only [zp]
                  refine sn 29 rfl rfl ?_
                  simp only [zp]
                  refine sn 30 rfl rfl ?_
                  simp only [zp]
                  refine sn 31 rfl rfl ?_
                  simp only [zp]
                  refine sn 32 rfl rfl ?_
                  simp only [zp]
                  refine sn 33 rfl rfl ?_
                  simp only [zp]
                  refine sv (.bool false) 34 rfl rfl (ex_pkF rfl rfl rfl) ?_
                  simp only [zp]
                  refine st_end ?_
                  subst hQ
                  refine wp_cond_false rfl ?_
                  refine wp_skip ?_
                  refine wp_seq ?_
                  refine wq fun Q hQ => ?_
                  refine sv (.agg (RL q)) 35 rfl rfl (ex_load (p := (.pointer (some ⟨b1, 0, none⟩))) rfl rfl (ld_all k1 Try.underlying25 rfl inf25)) ?_
                  simp only [zp]
                  refine sv (.pointer (some ⟨b2, 2, none⟩)) 36 rfl rfl (ex_fa (p := (.pointer (some ⟨b2, 0, none⟩))) rfl rfl (fa28_2 _ _)) ?_
                  simp only [zp]
                  refine sv (.int .i64 v.ex) 37 rfl rfl (ex_load (p := (.pointer (some ⟨b2, 2, none⟩))) rfl rfl (ld3 (at_cell k2 hH.c2))) ?_
                  simp only [zp]
                  refine sm (.int .i64 h) 38 rfl rfl rfl rfl ?_
                  simp only [zp]
                  refine st_call (some 39) rfl rfl (rsoon_any W3 h0 h1 MR.2.2.2.1 MR.2.2.2.2.1 z1 (decide_eq_false (by omega))) (ex_call (f := 36) (vs := [(.agg (RL q)), (.int .i64 v.ex), (.int .i64 h)]) rfl (cf36 _) rfl) ?_
                  rintro e W4 ⟨rfl, B⟩
                  refine ⟨_, rfl, ?_⟩
                  simp only [zp]
                  replace E := below_next E B
                  replace k1 := keep B k1
                  replace k2 := keep B k2
                  refine st_end ?_
                  subst hQ
                  refine wp_cond_false rfl ?_
                  refine wp_skip ?_
                  refine wp_seq ?_
                  refine wq fun Q hQ => ?_
                  refine sv (.pointer (some ⟨b2, 2, none⟩)) 40 rfl rfl (ex_fa (p := (.pointer (some ⟨b2, 0, none⟩))) rfl rfl (fa28_2 _ _)) ?_
                  simp only [zp]
                  refine sv (.int .i64 v.ex) 41 rfl rfl (ex_load (p := (.pointer (some ⟨b2, 2, none⟩))) rfl rfl (ld3 (at_cell k2 hH.c2))) ?_
                  simp only [zp]
                  refine sm (.int .i64 x) 42 rfl rfl rfl rfl ?_
                  simp only [zp]
                  refine sv (.bool false) 43 rfl rfl (ex_bin (u := (.int .i64 v.ex)) (r := (.int .i64 x)) rfl rfl rfl (eg3 _ _ _ _ _ _) (gtr3 _ (decide_eq_false (by omega)))) ?_
                  simp only [zp]
                  refine sm (.bool false) 44 rfl rfl rfl rfl ?_
                  simp only [zp]
                  refine sm (.int .i64 x) 45 rfl rfl rfl rfl ?_
                  simp only [zp]
                  refine sv (.pointer (some ⟨b2, 2, none⟩)) 46 rfl rfl (ex_fa (p := (.pointer (some ⟨b2, 0, none⟩))) rfl rfl (fa28_2 _ _)) ?_
                  simp only [zp]
                  refine sv (.int .i64 v.ex) 47 rfl rfl (ex_load (p := (.pointer (some ⟨b2, 2, none⟩))) rfl rfl (ld3 (at_cell k2 hH.c2))) ?_
                  simp only [zp]
                  refine sv (.int .i64 (x - v.ex)) 48 rfl rfl (ex_bin (u := (.int .i64 x)) (r := (.int .i64 v.ex)) rfl rfl rfl (eg3 _ _ _ _ _ _) (sub3 _ rfl (by omega))) ?_
                  simp only [zp]
                  refine sv (.pointer (some ⟨b1, 2, none⟩)) 49 rfl rfl (ex_fa (p := (.pointer (some ⟨b1, 0, none⟩))) rfl rfl (fa25_1 _ _)) ?_
                  simp only [zp]
                  refine sv (.int .i64 q.d) 50 rfl rfl (ex_load (p := (.pointer (some ⟨b1, 2, none⟩))) rfl rfl (ld3 (at_cell k1 rfl))) ?_
                  simp only [zp]
                  refine sv (.bool false) 51 rfl rfl (ex_bin (u := (.int .i64 (x - v.ex))) (r := (.int .i64 q.d)) rfl rfl rfl (eg3 _ _ _ _ _ _) (lss3 _ (decide_eq_false (by omega)))) ?_
                  simp only [zp]
                  refine sv (.bool false) 52 rfl rfl (ex_pkF rfl rfl rfl) ?_
                  simp only [zp]
                  refine st_end ?_
                  subst hQ
                  refine wp_cond_false rfl ?_
                  refine wp_skip ?_
                  refine wp_seq ?_
                  refine wq fun Q hQ => ?_
                  refine sv (.pointer (some ⟨b2, 1, none⟩)) 53 rfl rfl (ex_fa (p := (.pointer (some ⟨b2, 0, none⟩))) rfl rfl (fa28_1 _ _)) ?_
                  simp only [zp]
                  refine sv (.int .i64 v.am) 54 rfl rfl (ex_load (p := (.pointer (some ⟨b2, 1, none⟩))) rfl rfl (ld3 (at_cell k2 hH.c1))) ?_
                  simp only [zp]
                  refine sv (.bool true) 55 rfl rfl (ex_bin (u := (.int .i64 v.am)) (r := (.int .i64 1)) rfl rfl rfl (eg3 _ _ _ _ _ _) (lss3 _ (decide_eq_true (by omega)))) ?_
                  simp only [zp]
                  refine st_end ?_
                  subst hQ
                  refine wp_cond_true rfl ?_
                  refine wq fun Q hQ => ?_
                  refine sg (.int .i64 8) 10 rfl rfl rfl rfl ?_
                  simp only [zp]
                  refine st_end ?_
                  subst hQ
                  refine wp_ret ?_
                  repeat (first | refine ret_out ?_ | refine ret_blk ?_)
                  refine bodyPost_ret (results_tmp Try.results12 _ _ _) rfl ⟨?_, E⟩
                  show Ending.returned (.int .i64 8) = _
                  simp [fwdN, belowB, e0, e1, e2, e3, e4, e5, e6, e7]
                · skip
                  by_cases e8 : inE q.b q.r v.am = 0
                  · skip
                    by_cases e9 : a < inN q.b q.r v.am
                    · skip
                      have E : Below w.heap.size w w := Below.refl _ _
                      go_enter Try.func12, Try.ntmps12
                      refine wq fun Q hQ => ?_
                      refine st_new (fun b => .pointer (some ⟨b, 0, none⟩)) (some 5) rfl rfl (ex_box rfl rfl) ?_
                      intro b1 W1 k1 g1 B
                      simp only [zp]
                      have ge_b1 := Nat.le_trans E.size g1
                      replace E := below_next E B
                      clear B
                      refine st_new (fun b => .pointer (some ⟨b, 0, none⟩)) (some 6) rfl rfl (ex_box rfl rfl) ?_
                      intro b2 W2 k2 g2 B
                      simp only [zp]
                      have ne_b2_b1 : b2 ≠ b1 := fun e => by have := lt_of k1; omega
                      have ge_b2 := Nat.le_trans E.size g2
                      replace E := below_next E B
                      replace k1 := keep B k1
                      clear B
                      refine sg (.int .i64 0) 10 rfl rfl rfl rfl ?_
                      simp only [zp]
                      refine st_end ?_
                      subst hQ
                      refine wp_seq ?_
                      refine wq fun Q hQ => ?_
                      refine sv (.agg (RL q)) 13 rfl rfl (ex_load (p := (.pointer (some ⟨b1, 0, none⟩))) rfl rfl (ld_all k1 Try.underlying25 rfl inf25)) ?_
                      simp only [zp]
                      refine sm (.int .i64 a) 14 rfl rfl rfl rfl ?_
                      simp only [zp]
                      refine sm (.int .i64 x) 15 rfl rfl rfl rfl ?_
                      simp only [zp]
                      refine sm (.int .i64 h) 16 rfl rfl rfl rfl ?_
                      simp only [zp]
                      refine st_call (some 17) rfl rfl (rright_any W2 e0) (ex_call (f := 35) (vs := [(.agg (RL q)), (.int .i64 a), (.int .i64 x), (.int .i64 h)]) rfl (cf35 _) rfl) ?_
                      rintro e W3 ⟨rfl, B⟩
                      refine ⟨_, rfl, ?_⟩
                      simp only [zp]
                      replace E := below_next E B
                      replace k1 := keep B k1
                      replace k2 := keep B k2
                      refine sv (.bool false) 18 rfl rfl (ex_not rfl rfl rfl) ?_
                      simp only [zp]
                      refine sm (.bool false) 19 rfl rfl rfl rfl ?_
                      simp only [zp]
                      refine sv (.pointer (some ⟨b2, 0, none⟩)) 20 rfl rfl (ex_fa (p := (.pointer (some ⟨b2, 0, none⟩))) rfl rfl (fa28_0 _ _)) ?_
                      simp only [zp]
                      refine sv (.int .i64 v.ch) 21 rfl rfl (ex_load (p := (.pointer (some ⟨b2, 0, none⟩))) rfl rfl (ld3 (at_cell k2 hH.c0))) ?_
                      simp only [zp]
                      refine sv (.bool false) 22 rfl rfl (ex_bin (u := (.int .i64 v.ch)) (r := (.int .i64 1)) rfl rfl rfl (eg3 _ _ _ _ _ _) (lss3 _ (decide_eq_false (by omega)))) ?_
                      simp only [zp]
                      refine sv (.bool false) 23 rfl rfl (ex_pkF rfl rfl rfl) ?_
                      simp only [zp]
                      refine st_end ?_
                      subst hQ
                      refine wp_cond_false rfl ?_
                      refine wp_skip ?_
                      refine wp_seq ?_
                      refine wq fun Q hQ => ?_
                      refine sm (.int .i64 x) 24 rfl rfl rfl rfl ?_
                      simp only [zp]
                      refine sm (.int .i64 h) 25 rfl rfl rfl rfl ?_
                      simp only [zp]
                      refine sv (.bool false) 26 rfl rfl (ex_bin (u := (.int .i64 x)) (r := (.int .i64 h)) rfl rfl rfl (eg3 _ _ _ _ _ _) (gtr3 _ (decide_eq_false (by omega)))) ?_
                      simp only [zp]
                      refine sm (.bool false) 27 rfl rfl rfl rfl ?_
                      simp only [zp]
                      refine sn 28 rfl rfl ?_
                      simp only [zp]
                      refine sn 29 rfl rfl ?_
                      simp only [zp]
                      refine sn 30 rfl rfl ?_
                      simp only [zp]
                      refine sn 31 rfl rfl ?_
                      simp only [zp]
                      refine sn 32 rfl rfl ?_
                      simp only [zp]
                      refine sn 33 rfl rfl ?_
                      simp only [zp]
                      refine sv (.bool false) 34 rfl rfl (ex_pkF rfl rfl rfl) ?_
                      simp only [zp]
                      refine st_end ?_
                      subst hQ
                      refine wp_cond_false rfl ?_
                      refine wp_skip ?_
                      refine wp_seq ?_
                      refine wq fun Q hQ => ?_
                      refine sv (.agg (RL q)) 35 rfl rfl (ex_load (p := (.pointer (some ⟨b1, 0, none⟩))) rfl rfl (ld_all k1 Try.underlying25 rfl inf25)) ?_
                      simp only [zp]
                      refine sv (.pointer (some ⟨b2, 2, none⟩)) 36 rfl rfl (ex_fa (p := (.pointer (some ⟨b2, 0, none⟩))) rfl rfl (fa28_2 _ _)) ?_
                      simp only [zp]
                      refine sv (.int .i64 v.ex) 37 rfl rfl (ex_load (p := (.pointer (some ⟨b2, 2, none⟩))) rfl rfl (ld3 (at_cell k2 hH.c2))) ?_
                      simp only [zp]
                      refine sm (.int .i64 h) 38 rfl rfl rfl rfl ?_
                      simp only [zp]
                      refine st_call (some 39) rfl rfl (rsoon_any W3 h0 h1 MR.2.2.2.1 MR.2.2.2.2.1 z1 (decide_eq_false (by omega))) (ex_call (f := 36) (vs := [(.agg (RL q)), (.int .i64 v.ex), (.int .i64 h)]) rfl (cf36 _) rfl) ?_
                      rintro e W4 ⟨rfl, B⟩
                      refine ⟨_, rfl, ?_⟩
                      simp only [zp]
                      replace E := below_next E B
                      replace k1 := keep B k1
                      replace k2 := keep B k2
                      refine st_end ?_
                      subst hQ
                      refine wp_cond_false rfl ?_
                      refine wp_skip ?_
                      refine wp_seq ?_
                      refine wq fun Q hQ => ?_
                      refine sv (.pointer (some ⟨b2, 2, none⟩)) 40 rfl rfl (ex_fa (p := (.pointer (some ⟨b2, 0, none⟩))) rfl rfl (fa28_2 _ _)) ?_
                      simp only [zp]
                      refine sv (.int .i64 v.ex) 41 rfl rfl (ex_load (p := (.pointer (some ⟨b2, 2, none⟩))) rfl rfl (ld3 (at_cell k2 hH.c2))) ?_
                      simp only [zp]
                      refine sm (.int .i64 x) 42 rfl rfl rfl rfl ?_
                      simp only [zp]
                      refine sv (.bool false) 43 rfl rfl (ex_bin (u := (.int .i64 v.ex)) (r := (.int .i64 x)) rfl rfl rfl (eg3 _ _ _ _ _ _) (gtr3 _ (decide_eq_false (by omega)))) ?_
                      simp only [zp]
                      refine sm (.bool false) 44 rfl rfl rfl rfl ?_
                      simp only [zp]
                      refine sm (.int .i64 x) 45 rfl rfl rfl rfl ?_
                      simp only [zp]
                      refine sv (.pointer (some ⟨b2, 2, none⟩)) 46 rfl rfl (ex_fa (p := (.pointer (some ⟨b2, 0, none⟩))) rfl rfl (fa28_2 _ _)) ?_
                      simp only [zp]
                      refine sv (.int .i64 v.ex) 47 rfl rfl (ex_load (p := (.pointer (some ⟨b2, 2, none⟩))) rfl rfl (ld3 (at_cell k2 hH.c2))) ?_
                      simp only [zp]
                      refine sv (.int .i64 (x - v.ex)) 48 rfl rfl (ex_bin (u := (.int .i64 x)) (r := (.int .i64 v.ex)) rfl rfl rfl (eg3 _ _ _ _ _ _) (sub3 _ rfl (by omega))) ?_
                      simp only [zp]
                      refine sv (.pointer (some ⟨b1, 2, none⟩)) 49 rfl rfl (ex_fa (p := (.pointer (some ⟨b1, 0, none⟩))) rfl rfl (fa25_1 _ _)) ?_
                      simp only [zp]
                      refine sv (.int .i64 q.d) 50 rfl rfl (ex_load (p := (.pointer (some ⟨b1, 2, none⟩))) rfl rfl (ld3 (at_cell k1 rfl))) ?_
                      simp only [zp]
                      refine sv (.bool false) 51 rfl rfl (ex_bin (u := (.int .i64 (x - v.ex))) (r := (.int .i64 q.d)) rfl rfl rfl (eg3 _ _ _ _ _ _) (lss3 _ (decide_eq_false (by omega)))) ?_
                      simp only [zp]
                      refine sv (.bool false) 52 rfl rfl (ex_pkF rfl rfl rfl) ?_
                      simp only [zp]
                      refine st_end ?_
                      subst hQ
                      refine wp_cond_false rfl ?_
                      refine wp_skip ?_
                      refine wp_seq ?_
                      refine wq fun Q hQ => ?_
                      refine sv (.pointer (some ⟨b2, 1, none⟩)) 53 rfl rfl (ex_fa (p := (.pointer (some ⟨b2, 0, none⟩))) rfl rfl (fa28_1 _ _)) ?_
                      simp only [zp]
                      refine sv (.int .i64 v.am) 54 rfl rfl (ex_load (p := (.pointer (some ⟨b2, 1, none⟩))) rfl rfl (ld3 (at_cell k2 hH.c1))) ?_
                      simp only [zp]
                      refine sv (.bool false) 55 rfl rfl (ex_bin (u := (.int .i64 v.am)) (r := (.int .i64 1)) rfl rfl rfl (eg3 _ _ _ _ _ _) (lss3 _ (decide_eq_false (by omega)))) ?_
                      simp only [zp]
                      refine st_end ?_
                      subst hQ
                      refine wp_cond_false rfl ?_
                      refine wp_skip ?_
                      refine wq fun Q hQ => ?_
                      refine sv (.pointer (some ⟨b1, 0, none⟩)) 57 rfl rfl (ex_fa (p := (.pointer (some ⟨b1, 0, none⟩))) rfl rfl (fa25_0 _ _)) ?_
                      simp only [zp]
                      refine sv (.agg (FL q)) 58 rfl rfl (ex_load (p := (.pointer (some ⟨b1, 0, none⟩))) rfl rfl (ldF k1)) ?_
                      simp only [zp]
                      refine sv (.pointer (some ⟨b2, 1, none⟩)) 59 rfl rfl (ex_fa (p := (.pointer (some ⟨b2, 0, none⟩))) rfl rfl (fa28_1 _ _)) ?_
                      simp only [zp]
                      refine sv (.int .i64 v.am) 60 rfl rfl (ex_load (p := (.pointer (some ⟨b2, 1, none⟩))) rfl rfl (ld3 (at_cell k2 hH.c1))) ?_
                      simp only [zp]
                      refine st_call (some 61) rfl rfl (rin_any q.b q.r v.am W4 hb y0 y1) (ex_call (f := 37) (vs := [(.agg (FL q)), (.int .i64 v.am)]) rfl (cf37 _) rfl) ?_
                      rintro e W5 ⟨rfl, B⟩
                      refine ⟨_, rfl, ?_⟩
                      simp only [zp]
                      replace E := below_next E B
                      replace k1 := keep B k1
                      replace k2 := keep B k2
                      refine sm (.tuple #[(.int .i64 (inN q.b q.r v.am)), (.int .i64 (inE q.b q.r v.am))]) 56 rfl rfl rfl rfl ?_
                      simp only [zp]
                      refine sv (.int .i64 (inN q.b q.r v.am)) 62 rfl rfl (ex_ext rfl rfl rfl) ?_
                      simp only [zp]
                      refine sv (.int .i64 (inE q.b q.r v.am)) 63 rfl rfl (ex_ext rfl rfl rfl) ?_
                      simp only [zp]
                      refine sg (.int .i64 (inN q.b q.r v.am)) 11 rfl rfl rfl rfl ?_
                      simp only [zp]
                      refine sg (.int .i64 (inE q.b q.r v.am)) 12 rfl rfl rfl rfl ?_
                      simp only [zp]
                      refine st_end ?_
                      subst hQ
                      refine wp_seq ?_
                      refine wq fun Q hQ => ?_
                      refine sm (.int .i64 (inE q.b q.r v.am)) 64 rfl rfl rfl rfl ?_
                      simp only [zp]
                      refine sv (.bool false) 65 rfl rfl (ex_bin (u := (.int .i64 (inE q.b q.r v.am))) (r := (.int .i64 0)) rfl rfl rfl (eg37 _ _ _ _ _ _) (neq37 _ (decide_eq_false (fun h => h e8)))) ?_
                      simp only [zp]
                      refine sm (.bool false) 66 rfl rfl rfl rfl ?_
                      simp only [zp]
                      refine sm (.int .i64 a) 67 rfl rfl rfl rfl ?_
                      simp only [zp]
                      refine sm (.int .i64 (inN q.b q.r v.am)) 68 rfl rfl rfl rfl ?_
                      simp only [zp]
                      refine sv (.bool true) 69 rfl rfl (ex_bin (u := (.int .i64 a)) (r := (.int .i64 (inN q.b q.r v.am))) rfl rfl rfl (eg3 _ _ _ _ _ _) (lss3 _ (decide_eq_true e9))) ?_
                      simp only [zp]
                      refine sv (.bool true) 70 rfl rfl (ex_pkF rfl rfl rfl) ?_
                      simp only [zp]
                      refine st_end ?_
                      subst hQ
                      refine wp_cond_true rfl ?_
                      refine wq fun Q hQ => ?_
                      refine sg (.int .i64 3) 10 rfl rfl rfl rfl ?_
                      simp only [zp]
                      refine st_end ?_
                      subst hQ
                      refine wp_ret ?_
                      repeat (first | refine ret_out ?_ | refine ret_blk ?_)
                      refine bodyPost_ret (results_tmp Try.results12 _ _ _) rfl ⟨?_, E⟩
                      show Ending.returned (.int .i64 3) = _
                      simp [fwdN, belowB, e0, e1, e2, e3, e4, e5, e6, e7, e8, e9]
                    · skip
                      have E : Below w.heap.size w w := Below.refl _ _
                      go_enter Try.func12, Try.ntmps12
                      refine wq fun Q hQ => ?_
                      refine st_new (fun b => .pointer (some ⟨b, 0, none⟩)) (some 5) rfl rfl (ex_box rfl rfl) ?_
                      intro b1 W1 k1 g1 B
                      simp only [zp]
                      have ge_b1 := Nat.le_trans E.size g1
                      replace E := below_next E B
                      clear B
                      refine st_new (fun b => .pointer (some ⟨b, 0, none⟩)) (some 6) rfl rfl (ex_box rfl rfl) ?_
                      intro b2 W2 k2 g2 B
                      simp only [zp]
                      have ne_b2_b1 : b2 ≠ b1 := fun e => by have := lt_of k1; omega
                      have ge_b2 := Nat.le_trans E.size g2
                      replace E := below_next E B
                      replace k1 := keep B k1
                      clear B
                      refine sg (.int .i64 0) 10 rfl rfl rfl rfl ?_
                      simp only [zp]
                      refine st_end ?_
                      subst hQ
                      refine wp_seq ?_
                      refine wq fun Q hQ => ?_
                      refine sv (.agg (RL q)) 13 rfl rfl (ex_load (p := (.pointer (some ⟨b1, 0, none⟩))) rfl rfl (ld_all k1 Try.underlying25 rfl inf25)) ?_
                      simp only [zp]
                      refine sm (.int .i64 a) 14 rfl rfl rfl rfl ?_
                      simp only [zp]
                      refine sm (.int .i64 x) 15 rfl rfl rfl rfl ?_
                      simp only [zp]
                      refine sm (.int .i64 h) 16 rfl rfl rfl rfl ?_
                      simp only [zp]
                      refine st_call (some 17) rfl rfl (rright_any W2 e0) (ex_call (f := 35) (vs := [(.agg (RL q)), (.int .i64 a), (.int .i64 x), (.int .i64 h)]) rfl (cf35 _) rfl) ?_
                      rintro e W3 ⟨rfl, B⟩
                      refine ⟨_, rfl, ?_⟩
                      simp only [zp]
                      replace E := below_next E B
                      replace k1 := keep B k1
                      replace k2 := keep B k2
                      refine sv (.bool false) 18 rfl rfl (ex_not rfl rfl rfl) ?_
                      simp only [zp]
                      refine sm (.bool false) 19 rfl rfl rfl rfl ?_
                      simp only [zp]
                      refine sv (.pointer (some ⟨b2, 0, none⟩)) 20 rfl rfl (ex_fa (p := (.pointer (some ⟨b2, 0, none⟩))) rfl rfl (fa28_0 _ _)) ?_
                      simp only [zp]
                      refine sv (.int .i64 v.ch) 21 rfl rfl (ex_load (p := (.pointer (some ⟨b2, 0, none⟩))) rfl rfl (ld3 (at_cell k2 hH.c0))) ?_
                      simp only [zp]
                      refine sv (.bool false) 22 rfl rfl (ex_bin (u := (.int .i64 v.ch)) (r := (.int .i64 1)) rfl rfl rfl (eg3 _ _ _ _ _ _) (lss3 _ (decide_eq_false (by omega)))) ?_
                      simp only [zp]
                      refine sv (.bool false) 23 rfl rfl (ex_pkF rfl rfl rfl) ?_
                      simp only [zp]
                      refine st_end ?_
                      subst hQ
                      refine wp_cond_false rfl ?_
                      refine wp_skip ?_
                      refine wp_seq ?_
                      refine wq fun Q hQ => ?_
                      refine sm (.int .i64 x) 24 rfl rfl rfl rfl ?_
                      simp only [zp]
                      refine sm (.int .i64 h) 25 rfl rfl rfl rfl ?_
                      simp only [zp]
                      refine sv (.bool false) 26 rfl rfl (ex_bin (u := (.int .i64 x)) (r := (.int .i64 h)) rfl rfl rfl (eg3 _ _ _ _ _ _) (gtr3 _ (decide_eq_false (by omega)))) ?_
                      simp only [zp]
                      refine sm (.bool false) 27 rfl rfl rfl rfl ?_
                      simp only [zp]
                      refine sn 28 rfl rfl ?_
                      simp only [zp]
                      refine sn 29 rfl rfl ?_
                      simp only [zp]
                      refine sn 30 rfl rfl ?_
                      simp only [zp]
                      refine sn 31 rfl rfl ?_
                      simp only [zp]
                      refine sn 32 rfl rfl ?_
                      simp only [zp]
                      refine sn 33 rfl rfl ?_
                      simp only [zp]
                      refine sv (.bool false) 34 rfl rfl (ex_pkF rfl rfl rfl) ?_
                      simp only [zp]
                      refine st_end ?_
                      subst hQ
                      refine wp_cond_false rfl ?_
                      refine wp_skip ?_
                      refine wp_seq ?_
                      refine wq fun Q hQ => ?_
                      refine sv (.agg (RL q)) 35 rfl rfl (ex_load (p := (.pointer (some ⟨b1, 0, none⟩))) rfl rfl (ld_all k1 Try.underlying25 rfl inf25)) ?_
                      simp only [zp]
                      refine sv (.pointer (some ⟨b2, 2, none⟩)) 36 rfl rfl (ex_fa (p := (.pointer (some ⟨b2, 0, none⟩))) rfl rfl (fa28_2 _ _)) ?_
                      simp only [zp]
                      refine sv (.int .i64 v.ex) 37 rfl rfl (ex_load (p := (.pointer (some ⟨b2, 2, none⟩))) rfl rfl (ld3 (at_cell k2 hH.c2))) ?_
                      simp only [zp]
                      refine sm (.int .i64 h) 38 rfl rfl rfl rfl ?_
                      simp only [zp]
                      refine st_call (some 39) rfl rfl (rsoon_any W3 h0 h1 MR.2.2.2.1 MR.2.2.2.2.1 z1 (decide_eq_false (by omega))) (ex_call (f := 36) (vs := [(.agg (RL q)), (.int .i64 v.ex), (.int .i64 h)]) rfl (cf36 _) rfl) ?_
                      rintro e W4 ⟨rfl, B⟩
                      refine ⟨_, rfl, ?_⟩
                      simp only [zp]
                      replace E := below_next E B
                      replace k1 := keep B k1
                      replace k2 := keep B k2
                      refine st_end ?_
                      subst hQ
                      refine wp_cond_false rfl ?_
                      refine wp_skip ?_
                      refine wp_seq ?_
                      refine wq fun Q hQ => ?_
                      refine sv (.pointer (some ⟨b2, 2, none⟩)) 40 rfl rfl (ex_fa (p := (.pointer (some ⟨b2, 0, none⟩))) rfl rfl (fa28_2 _ _)) ?_
                      simp only [zp]
                      refine sv (.int .i64 v.ex) 41 rfl rfl (ex_load (p := (.pointer (some ⟨b2, 2, none⟩))) rfl rfl (ld3 (at_cell k2 hH.c2))) ?_
                      simp only [zp]
                      refine sm (.int .i64 x) 42 rfl rfl rfl rfl ?_
                      simp only [zp]
                      refine sv (.bool false) 43 rfl rfl (ex_bin (u := (.int .i64 v.ex)) (r := (.int .i64 x)) rfl rfl rfl (eg3 _ _ _ _ _ _) (gtr3 _ (decide_eq_false (by omega)))) ?_
                      simp only [zp]
                      refine sm (.bool false) 44 rfl rfl rfl rfl ?_
                      simp only [zp]
                      refine sm (.int .i64 x) 45 rfl rfl rfl rfl ?_
                      simp only [zp]
                      refine sv (.pointer (some ⟨b2, 2, none⟩)) 46 rfl rfl (ex_fa (p := (.pointer (some ⟨b2, 0, none⟩))) rfl rfl (fa28_2 _ _)) ?_
                      simp only [zp]
                      refine sv (.int .i64 v.ex) 47 rfl rfl (ex_load (p := (.pointer (some ⟨b2, 2, none⟩))) rfl rfl (ld3 (at_cell k2 hH.c2))) ?_
                      simp only [zp]
                      refine sv (.int .i64 (x - v.ex)) 48 rfl rfl (ex_bin (u := (.int .i64 x)) (r := (.int .i64 v.ex)) rfl rfl rfl (eg3 _ _ _ _ _ _) (sub3 _ rfl (by omega))) ?_
                      simp only [zp]
                      refine sv (.pointer (some ⟨b1, 2, none⟩)) 49 rfl rfl (ex_fa (p := (.pointer (some ⟨b1, 0, none⟩))) rfl rfl (fa25_1 _ _)) ?_
                      simp only [zp]
                      refine sv (.int .i64 q.d) 50 rfl rfl (ex_load (p := (.pointer (some ⟨b1, 2, none⟩))) rfl rfl (ld3 (at_cell k1 rfl))) ?_
                      simp only [zp]
                      refine sv (.bool false) 51 rfl rfl (ex_bin (u := (.int .i64 (x - v.ex))) (r := (.int .i64 q.d)) rfl rfl rfl (eg3 _ _ _ _ _ _) (lss3 _ (decide_eq_false (by omega)))) ?_
                      simp only [zp]
                      refine sv (.bool false) 52 rfl rfl (ex_pkF rfl rfl rfl) ?_
                      simp only [zp]
                      refine st_end ?_
                      subst hQ
                      refine wp_cond_false rfl ?_
                      refine wp_skip ?_
                      refine wp_seq ?_
                      refine wq fun Q hQ => ?_
                      refine sv (.pointer (some ⟨b2, 1, none⟩)) 53 rfl rfl (ex_fa (p := (.pointer (some ⟨b2, 0, none⟩))) rfl rfl (fa28_1 _ _)) ?_
                      simp only [zp]
                      refine sv (.int .i64 v.am) 54 rfl rfl (ex_load (p := (.pointer (some ⟨b2, 1, none⟩))) rfl rfl (ld3 (at_cell k2 hH.c1))) ?_
                      simp only [zp]
                      refine sv (.bool false) 55 rfl rfl (ex_bin (u := (.int .i64 v.am)) (r := (.int .i64 1)) rfl rfl rfl (eg3 _ _ _ _ _ _) (lss3 _ (decide_eq_false (by omega)))) ?_
                      simp only [zp]
                      refine st_end ?_
                      subst hQ
                      refine wp_cond_false rfl ?_
                      refine wp_skip ?_
                      refine wq fun Q hQ => ?_
                      refine sv (.pointer (some ⟨b1, 0, none⟩)) 57 rfl rfl (ex_fa (p := (.pointer (some ⟨b1, 0, none⟩))) rfl rfl (fa25_0 _ _)) ?_
                      simp only [zp]
                      refine sv (.agg (FL q)) 58 rfl rfl (ex_load (p := (.pointer (some ⟨b1, 0, none⟩))) rfl rfl (ldF k1)) ?_
                      simp only [zp]
                      refine sv (.pointer (some ⟨b2, 1, none⟩)) 59 rfl rfl (ex_fa (p := (.pointer (some ⟨b2, 0, none⟩))) rfl rfl (fa28_1 _ _)) ?_
                      simp only [zp]
                      refine sv (.int .i64 v.am) 60 rfl rfl (ex_load (p := (.pointer (some ⟨b2, 1, none⟩))) rfl rfl (ld3 (at_cell k2 hH.c1))) ?_
                      simp only [zp]
                      refine st_call (some 61) rfl rfl (rin_any q.b q.r v.am W4 hb y0 y1) (ex_call (f := 37) (vs := [(.agg (FL q)), (.int .i64 v.am)]) rfl (cf37 _) rfl) ?_
                      rintro e W5 ⟨rfl, B⟩
                      refine ⟨_, rfl, ?_⟩
                      simp only [zp]
                      replace E := below_next E B
                      replace k1 := keep B k1
                      replace k2 := keep B k2
                      refine sm (.tuple #[(.int .i64 (inN q.b q.r v.am)), (.int .i64 (inE q.b q.r v.am))]) 56 rfl rfl rfl rfl ?_
                      simp only [zp]
                      refine sv (.int .i64 (inN q.b q.r v.am)) 62 rfl rfl (ex_ext rfl rfl rfl) ?_
                      simp only [zp]
                      refine sv (.int .i64 (inE q.b q.r v.am)) 63 rfl rfl (ex_ext rfl rfl rfl) ?_
                      simp only [zp]
                      refine sg (.int .i64 (inN q.b q.r v.am)) 11 rfl rfl rfl rfl ?_
                      simp only [zp]
                      refine sg (.int .i64 (inE q.b q.r v.am)) 12 rfl rfl rfl rfl ?_
                      simp only [zp]
                      refine st_end ?_
                      subst hQ
                      refine wp_seq ?_
                      refine wq fun Q hQ => ?_
                      refine sm (.int .i64 (inE q.b q.r v.am)) 64 rfl rfl rfl rfl ?_
                      simp only [zp]
                      refine sv (.bool false) 65 rfl rfl (ex_bin (u := (.int .i64 (inE q.b q.r v.am))) (r := (.int .i64 0)) rfl rfl rfl (eg37 _ _ _ _ _ _) (neq37 _ (decide_eq_false (fun h => h e8)))) ?_
                      simp only [zp]
                      refine sm (.bool false) 66 rfl rfl rfl rfl ?_
                      simp only [zp]
                      refine sm (.int .i64 a) 67 rfl rfl rfl rfl ?_
                      simp only [zp]
                      refine sm (.int .i64 (inN q.b q.r v.am)) 68 rfl rfl rfl rfl ?_
                      simp only [zp]
                      refine sv (.bool false) 69 rfl rfl (ex_bin (u := (.int .i64 a)) (r := (.int .i64 (inN q.b q.r v.am))) rfl rfl rfl (eg3 _ _ _ _ _ _) (lss3 _ (decide_eq_false e9))) ?_
                      simp only [zp]
                      refine sv (.bool false) 70 rfl rfl (ex_pkF rfl rfl rfl) ?_
                      simp only [zp]
                      refine st_end ?_
                      subst hQ
                      refine wp_cond_false rfl ?_
                      refine wp_skip ?_
                      refine wq fun Q hQ => ?_
                      refine sg (.int .i64 0) 10 rfl rfl rfl rfl ?_
                      simp only [zp]
                      refine st_end ?_
                      subst hQ
                      refine wp_ret ?_
                      repeat (first | refine ret_out ?_ | refine ret_blk ?_)
                      refine bodyPost_ret (results_tmp Try.results12 _ _ _) rfl ⟨?_, E⟩
                      show Ending.returned (.int .i64 0) = _
                      simp [fwdN, belowB, e0, e1, e2, e3, e4, e5, e6, e7, e8, e9]
                  · skip
                    have E : Below w.heap.size w w := Below.refl _ _
                    go_enter Try.func12, Try.ntmps12
                    refine wq fun Q hQ => ?_
                    refine st_new (fun b => .pointer (some ⟨b, 0, none⟩)) (some 5) rfl rfl (ex_box rfl rfl) ?_
                    intro b1 W1 k1 g1 B
                    simp only [zp]
                    have ge_b1 := Nat.le_trans E.size g1
                    replace E := below_next E B
                    clear B
                    refine st_new (fun b => .pointer (some ⟨b, 0, none⟩)) (some 6) rfl rfl (ex_box rfl rfl) ?_
                    intro b2 W2 k2 g2 B
                    simp only [zp]
                    have ne_b2_b1 : b2 ≠ b1 := fun e => by have := lt_of k1; omega
                    have ge_b2 := Nat.le_trans E.size g2
                    replace E := below_next E B
                    replace k1 := keep B k1
                    clear B
                    refine sg (.int .i64 0) 10 rfl rfl rfl rfl ?_
                    simp only [zp]
                    refine st_end ?_
                    subst hQ
                    refine wp_seq ?_
                    refine wq fun Q hQ => ?_
                    refine sv (.agg (RL q)) 13 rfl rfl (ex_load (p := (.pointer (some ⟨b1, 0, none⟩))) rfl rfl (ld_all k1 Try.underlying25 rfl inf25)) ?_
                    simp only [zp]
                    refine sm (.int .i64 a) 14 rfl rfl rfl rfl ?_
                    simp only [zp]
                    refine sm (.int .i64 x) 15 rfl rfl rfl rfl ?_
                    simp only [zp]
                    refine sm (.int .i64 h) 16 rfl rfl rfl rfl ?_
                    simp only [zp]
                    refine st_call (some 17) rfl rfl (rright_any W2 e0) (ex_call (f := 35) (vs := [(.agg (RL q)), (.int .i64 a), (.int .i64 x), (.int .i64 h)]) rfl (cf35 _) rfl) ?_
                    rintro e W3 ⟨rfl, B⟩
                    refine ⟨_, rfl, ?_⟩
                    simp only [zp]
                    replace E := below_next E B
                    replace k1 := keep B k1
                    replace k2 := keep B k2
                    refine sv (.bool false) 18 rfl rfl (ex_not rfl rfl rfl) ?_
                    simp only [zp]
                    refine sm (.bool false) 19 rfl rfl rfl rfl ?_
                    simp only [zp]
                    refine sv (.pointer (some ⟨b2, 0, none⟩)) 20 rfl rfl (ex_fa (p := (.pointer (some ⟨b2, 0, none⟩))) rfl rfl (fa28_0 _ _)) ?_
                    simp only [zp]
                    refine sv (.int .i64 v.ch) 21 rfl rfl (ex_load (p := (.pointer (some ⟨b2, 0, none⟩))) rfl rfl (ld3 (at_cell k2 hH.c0))) ?_
                    simp only [zp]
                    refine sv (.bool false) 22 rfl rfl (ex_bin (u := (.int .i64 v.ch)) (r := (.int .i64 1)) rfl rfl rfl (eg3 _ _ _ _ _ _) (lss3 _ (decide_eq_false (by omega)))) ?_
                    simp only [zp]
                    refine sv (.bool false) 23 rfl rfl (ex_pkF rfl rfl rfl) ?_
                    simp only [zp]
                    refine st_end ?_
                    subst hQ
                    refine wp_cond_false rfl ?_
                    refine wp_skip ?_
                    refine wp_seq ?_
                    refine wq fun Q hQ => ?_
                    refine sm (.int .i64 x) 24 rfl rfl rfl rfl ?_
                    simp only [zp]
                    refine sm (.int .i64 h) 25 rfl rfl rfl rfl ?_
                    simp only [zp]
                    refine sv (.bool false) 26 rfl rfl (ex_bin (u := (.int .i64 x)) (r := (.int .i64 h)) rfl rfl rfl (eg3 _ _ _ _ _ _) (gtr3 _ (decide_eq_false (by omega)))) ?_
                    simp only [zp]
                    refine sm (.bool false) 27 rfl rfl rfl rfl ?_
                    simp only [zp]
                    refine sn 28 rfl rfl ?_
                    simp only [zp]
                    refine sn 29 rfl rfl ?_
                    simp only [zp]
                    refine sn 30 rfl rfl ?_
                    simp only [zp]
                    refine sn 31 rfl rfl ?_
                    simp only [zp]
                    refine sn 32 rfl rfl ?_
                    simp only [zp]
                    refine sn 33 rfl rfl ?_
                    simp only [zp]
                    refine sv (.bool false) 34 rfl rfl (ex_pkF rfl rfl rfl) ?_
                    simp only [zp]
                    refine st_end ?_
                    subst hQ
                    refine wp_cond_false rfl ?_
                    refine wp_skip ?_
                    refine wp_seq ?_
                    refine wq fun Q hQ => ?_
                    refine sv (.agg (RL q)) 35 rfl rfl (ex_load (p := (.pointer (some ⟨b1, 0, none⟩))) rfl rfl (ld_all k1 Try.underlying25 rfl inf25)) ?_
                    simp only [zp]
                    refine sv (.pointer (some ⟨b2, 2, none⟩)) 36 rfl rfl (ex_fa (p := (.pointer (some ⟨b2, 0, none⟩))) rfl rfl (fa28_2 _ _)) ?_
                    simp only [zp]
                    refine sv (.int .i64 v.ex) 37 rfl rfl (ex_load (p := (.pointer (some ⟨b2, 2, none⟩))) rfl rfl (ld3 (at_cell k2 hH.c2))) ?_
                    simp only [zp]
                    refine sm (.int .i64 h) 38 rfl rfl rfl rfl ?_
                    simp only [zp]
                    refine st_call (some 39) rfl rfl (rsoon_any W3 h0 h1 MR.2.2.2.1 MR.2.2.2.2.1 z1 (decide_eq_false (by omega))) (ex_call (f := 36) (vs := [(.agg (RL q)), (.int .i64 v.ex), (.int .i64 h)]) rfl (cf36 _) rfl) ?_
                    rintro e W4 ⟨rfl, B⟩
                    refine ⟨_, rfl, ?_⟩
                    simp only [zp]
                    replace E := below_next E B
                    replace k1 := keep B k1
                    replace k2 := keep B k2
                    refine st_end ?_
                    subst hQ
                    refine wp_cond_false rfl ?_
                    refine wp_skip ?_
                    refine wp_seq ?_
                    refine wq fun Q hQ => ?_
                    refine sv (.pointer (some ⟨b2, 2, none⟩)) 40 rfl rfl (ex_fa (p := (.pointer (some ⟨b2, 0, none⟩))) rfl rfl (fa28_2 _ _)) ?_
                    simp only [zp]
                    refine sv (.int .i64 v.ex) 41 rfl rfl (ex_load (p := (.pointer (some ⟨b2, 2, none⟩))) rfl rfl (ld3 (at_cell k2 hH.c2))) ?_
                    simp only [zp]
                    refine sm (.int .i64 x) 42 rfl rfl rfl rfl ?_
                    simp only [zp]
                    refine sv (.bool false) 43 rfl rfl (ex_bin (u := (.int .i64 v.ex)) (r := (.int .i64 x)) rfl rfl rfl (eg3 _ _ _ _ _ _) (gtr3 _ (decide_eq_false (by omega)))) ?_
                    simp only [zp]
                    refine sm (.bool false) 44 rfl rfl rfl rfl ?_
                    simp only [zp]
                    refine sm (.int .i64 x) 45 rfl rfl rfl rfl ?_
                    simp only [zp]
                    refine sv (.pointer (some ⟨b2, 2, none⟩)) 46 rfl rfl (ex_fa (p := (.pointer (some ⟨b2, 0, none⟩))) rfl rfl (fa28_2 _ _)) ?_
                    simp only [zp]
                    refine sv (.int .i64 v.ex) 47 rfl rfl (ex_load (p := (.pointer (some ⟨b2, 2, none⟩))) rfl rfl (ld3 (at_cell k2 hH.c2))) ?_
                    simp only [zp]
                    refine sv (.int .i64 (x - v.ex)) 48 rfl rfl (ex_bin (u := (.int .i64 x)) (r := (.int .i64 v.ex)) rfl rfl rfl (eg3 _ _ _ _ _ _) (sub3 _ rfl (by omega))) ?_
                    simp only [zp]
                    refine sv (.pointer (some ⟨b1, 2, none⟩)) 49 rfl rfl (ex_fa (p := (.pointer (some ⟨b1, 0, none⟩))) rfl rfl (fa25_1 _ _)) ?_
                    simp only [zp]
                    refine sv (.int .i64 q.d) 50 rfl rfl (ex_load (p := (.pointer (some ⟨b1, 2, none⟩))) rfl rfl (ld3 (at_cell k1 rfl))) ?_
                    simp only [zp]
                    refine sv (.bool false) 51 rfl rfl (ex_bin (u := (.int .i64 (x - v.ex))) (r := (.int .i64 q.d)) rfl rfl rfl (eg3 _ _ _ _ _ _) (lss3 _ (decide_eq_false (by omega)))) ?_
                    simp only [zp]
                    refine sv (.bool false) 52 rfl rfl (ex_pkF rfl rfl rfl) ?_
                    simp only [zp]
                    refine st_end ?_
                    subst hQ
                    refine wp_cond_false rfl ?_
                    refine wp_skip ?_
                    refine wp_seq ?_
                    refine wq fun Q hQ => ?_
                    refine sv (.pointer (some ⟨b2, 1, none⟩)) 53 rfl rfl (ex_fa (p := (.pointer (some ⟨b2, 0, none⟩))) rfl rfl (fa28_1 _ _)) ?_
                    simp only [zp]
                    refine sv (.int .i64 v.am) 54 rfl rfl (ex_load (p := (.pointer (some ⟨b2, 1, none⟩))) rfl rfl (ld3 (at_cell k2 hH.c1))) ?_
                    simp only [zp]
                    refine sv (.bool false) 55 rfl rfl (ex_bin (u := (.int .i64 v.am)) (r := (.int .i64 1)) rfl rfl rfl (eg3 _ _ _ _ _ _) (lss3 _ (decide_eq_false (by omega)))) ?_
                    simp only [zp]
                    refine st_end ?_
                    subst hQ
                    refine wp_cond_false rfl ?_
                    refine wp_skip ?_
                    refine wq fun Q hQ => ?_
                    refine sv (.pointer (some ⟨b1, 0, none⟩)) 57 rfl rfl (ex_fa (p := (.pointer (some ⟨b1, 0, none⟩))) rfl rfl (fa25_0 _ _)) ?_
                    simp only [zp]
                    refine sv (.agg (FL q)) 58 rfl rfl (ex_load (p := (.pointer (some ⟨b1, 0, none⟩))) rfl rfl (ldF k1)) ?_
                    simp only [zp]
                    refine sv (.pointer (some ⟨b2, 1, none⟩)) 59 rfl rfl (ex_fa (p := (.pointer (some ⟨b2, 0, none⟩))) rfl rfl (fa28_1 _ _)) ?_
                    simp only [zp]
                    refine sv (.int .i64 v.am) 60 rfl rfl (ex_load (p := (.pointer (some ⟨b2, 1, none⟩))) rfl rfl (ld3 (at_cell k2 hH.c1))) ?_
                    simp only [zp]
                    refine st_call (some 61) rfl rfl (rin_any q.b q.r v.am W4 hb y0 y1) (ex_call (f := 37) (vs := [(.agg (FL q)), (.int .i64 v.am)]) rfl (cf37 _) rfl) ?_
                    rintro e W5 ⟨rfl, B⟩
                    refine ⟨_, rfl, ?_⟩
                    simp only [zp]
                    replace E := below_next E B
                    replace k1 := keep B k1
                    replace k2 := keep B k2
                    refine sm (.tuple #[(.int .i64 (inN q.b q.r v.am)), (.int .i64 (inE q.b q.r v.am))]) 56 rfl rfl rfl rfl ?_
                    simp only [zp]
                    refine sv (.int .i64 (inN q.b q.r v.am)) 62 rfl rfl (ex_ext rfl rfl rfl) ?_
                    simp only [zp]
                    refine sv (.int .i64 (inE q.b q.r v.am)) 63 rfl rfl (ex_ext rfl rfl rfl) ?_
                    simp only [zp]
                    refine sg (.int .i64 (inN q.b q.r v.am)) 11 rfl rfl rfl rfl ?_
                    simp only [zp]
                    refine sg (.int .i64 (inE q.b q.r v.am)) 12 rfl rfl rfl rfl ?_
                    simp only [zp]
                    refine st_end ?_
                    subst hQ
                    refine wp_seq ?_
                    refine wq fun Q hQ => ?_
                    refine sm (.int .i64 (inE q.b q.r v.am)) 64 rfl rfl rfl rfl ?_
                    simp only [zp]
                    refine sv (.bool true) 65 rfl rfl (ex_bin (u := (.int .i64 (inE q.b q.r v.am))) (r := (.int .i64 0)) rfl rfl rfl (eg37 _ _ _ _ _ _) (neq37 _ (decide_eq_true e8))) ?_
                    simp only [zp]
                    refine sm (.bool true) 66 rfl rfl rfl rfl ?_
                    simp only [zp]
                    refine sn 67 rfl rfl ?_
                    simp only [zp]
                    refine sn 68 rfl rfl ?_
                    simp only [zp]
                    refine sn 69 rfl rfl ?_
                    simp only [zp]
                    refine sv (.bool true) 70 rfl rfl (ex_pkT rfl rfl rfl) ?_
                    simp only [zp]
                    refine st_end ?_
                    subst hQ
                    refine wp_cond_true rfl ?_
                    refine wq fun Q hQ => ?_
                    refine sg (.int .i64 3) 10 rfl rfl rfl rfl ?_
                    simp only [zp]
                    refine st_end ?_
                    subst hQ
                    refine wp_ret ?_
                    repeat (first | refine ret_out ?_ | refine ret_blk ?_)
                    refine bodyPost_ret (results_tmp Try.results12 _ _ _) rfl ⟨?_, E⟩
                    show Ending.returned (.int .i64 3) = _
                    simp [fwdN, belowB, e0, e1, e2, e3, e4, e5, e6, e7, e8]
end Go.Proofs.Ytfbaidmnnkcaeaa
