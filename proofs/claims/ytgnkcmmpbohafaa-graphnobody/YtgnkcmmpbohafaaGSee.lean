/- What is done with each way that leads there. -/
import Derived.Test.YtgnkcmmpbohafaaGLay
namespace Go.Proofs.Ytgnkcmmpbohafaa
open Go.RowKit
set_option linter.unusedVariables false
set_option linter.unusedSimpArgs false
set_option maxRecDepth 100000

def betC (n co m cb : Nat) : Bool := decide (m = 0) || (lsN co cb || (!lsN cb co && decide (n < m)))
set_option maxHeartbeats 8000000 in
theorem better_any {a1 a2 a3 d1 d2 d3 : Option Addr} {n c1 n2 c2 n3 c3 m r1 m2 r2 m3 r3 co cb : Nat} {fx fy : Int} (w : World) {c : Bool} (hc : betC n co m cb = c) : Calls Try.prog 38 #[.agg #[.slice a1 n c1, .slice a2 n2 c2, .slice a3 n3 c3, .int .i64 fx, .float .f64 co], .agg #[.slice d1 m r1, .slice d2 m2 r2, .slice d3 m3 r3, .int .i64 fy, .float .f64 cb]] w fun e w' => e = .returned (.bool c) ∧ Below w.heap.size w w' := by
  subst hc
  by_cases e0 : m = 0
  · skip
    have E : Below w.heap.size w w := Below.refl _ _
    go_enter Try.func38, Try.ntmps38
    refine wq fun Q hQ => ?_
    refine st_new (fun b => .pointer (some ⟨b, 0, none⟩)) (some 2) rfl rfl (ex_box rfl rfl) ?_
    intro b1 W1 k1 g1 B
    simp only [zp]
    have ge_b1 := Nat.le_trans E.size g1
    replace E := below_next E B
    clear B
    refine st_new (fun b => .pointer (some ⟨b, 0, none⟩)) (some 3) rfl rfl (ex_box rfl rfl) ?_
    intro b2 W2 k2 g2 B
    simp only [zp]
    have ne_b2_b1 : b2 ≠ b1 := fun e => by have := lt_of k1; omega
    have ge_b2 := Nat.le_trans E.size g2
    replace E := below_next E B
    replace k1 := keep B k1
    clear B
    refine sg (.bool false) 4 rfl rfl rfl rfl ?_
    simp only [zp]
    refine st_end ?_
    subst hQ
    refine wp_seq ?_
    refine wp_block ?_
    refine wq fun Q hQ => ?_
    refine sv (.pointer (some ⟨b2, 0, none⟩)) 6 rfl rfl (ex_fa (p := (.pointer (some ⟨b2, 0, none⟩))) rfl rfl (fa36_0 _ _)) ?_
    simp only [zp]
    refine sv (.slice d1 m r1) 7 rfl rfl (ex_load (p := (.pointer (some ⟨b2, 0, none⟩))) rfl rfl (ld33 (at_cell k2 rfl))) ?_
    simp only [zp]
    refine sv (.int .i64 (m : Nat)) 8 rfl rfl (ex_len rfl rfl (len33 _ _ _ _ _)) ?_
    simp only [zp]
    refine sv (.bool true) 9 rfl rfl (ex_bin (u := (.int .i64 (m : Nat))) (r := (.int .i64 0)) rfl rfl rfl (eg3 _ _ _ _ _ _) (eql3 _ (decide_eq_true (by omega)))) ?_
    simp only [zp]
    refine sm (.bool true) 10 rfl rfl rfl rfl ?_
    simp only [zp]
    refine sn 11 rfl rfl ?_
    simp only [zp]
    refine sn 12 rfl rfl ?_
    simp only [zp]
    refine sn 13 rfl rfl ?_
    simp only [zp]
    refine sn 14 rfl rfl ?_
    simp only [zp]
    refine sn 15 rfl rfl ?_
    simp only [zp]
    refine sv (.bool true) 16 rfl rfl (ex_pkT rfl rfl rfl) ?_
    simp only [zp]
    refine sg (.bool true) 5 rfl rfl rfl rfl ?_
    simp only [zp]
    refine st_end ?_
    subst hQ
    refine wp_cond_true rfl ?_
    refine wq fun Q hQ => ?_
    refine sg (.bool true) 4 rfl rfl rfl rfl ?_
    simp only [zp]
    refine st_end ?_
    subst hQ
    refine wp_ret ?_
    repeat (first | refine ret_out ?_ | refine ret_blk ?_)
    refine bodyPost_ret (results_tmp Try.results38 _ _ _) rfl ⟨?_, E⟩
    show Ending.returned (.bool true) = _
    simp [betC, e0]
  · skip
    by_cases e1 : lsN co cb = true
    · skip
      have E : Below w.heap.size w w := Below.refl _ _
      go_enter Try.func38, Try.ntmps38
      refine wq fun Q hQ => ?_
      refine st_new (fun b => .pointer (some ⟨b, 0, none⟩)) (some 2) rfl rfl (ex_box rfl rfl) ?_
      intro b1 W1 k1 g1 B
      simp only [zp]
      have ge_b1 := Nat.le_trans E.size g1
      replace E := below_next E B
      clear B
      refine st_new (fun b => .pointer (some ⟨b, 0, none⟩)) (some 3) rfl rfl (ex_box rfl rfl) ?_
      intro b2 W2 k2 g2 B
      simp only [zp]
      have ne_b2_b1 : b2 ≠ b1 := fun e => by have := lt_of k1; omega
      have ge_b2 := Nat.le_trans E.size g2
      replace E := below_next E B
      replace k1 := keep B k1
      clear B
      refine sg (.bool false) 4 rfl rfl rfl rfl ?_
      simp only [zp]
      refine st_end ?_
      subst hQ
      refine wp_seq ?_
      refine wp_block ?_
      refine wq fun Q hQ => ?_
      refine sv (.pointer (some ⟨b2, 0, none⟩)) 6 rfl rfl (ex_fa (p := (.pointer (some ⟨b2, 0, none⟩))) rfl rfl (fa36_0 _ _)) ?_
      simp only [zp]
      refine sv (.slice d1 m r1) 7 rfl rfl (ex_load (p := (.pointer (some ⟨b2, 0, none⟩))) rfl rfl (ld33 (at_cell k2 rfl))) ?_
      simp only [zp]
      refine sv (.int .i64 (m : Nat)) 8 rfl rfl (ex_len rfl rfl (len33 _ _ _ _ _)) ?_
      simp only [zp]
      refine sv (.bool false) 9 rfl rfl (ex_bin (u := (.int .i64 (m : Nat))) (r := (.int .i64 0)) rfl rfl rfl (eg3 _ _ _ _ _ _) (eql3 _ (decide_eq_false (by omega)))) ?_
      simp only [zp]
      refine sm (.bool false) 10 rfl rfl rfl rfl ?_
      simp only [zp]
      refine sv (.pointer (some ⟨b1, 4, none⟩)) 11 rfl rfl (ex_fa (p := (.pointer (some ⟨b1, 0, none⟩))) rfl rfl (fa36_4 _ _)) ?_
      simp only [zp]
      refine sv (.float .f64 co) 12 rfl rfl (ex_load (p := (.pointer (some ⟨b1, 4, none⟩))) rfl rfl (ld34 (at_cell k1 rfl))) ?_
      simp only [zp]
      refine sv (.pointer (some ⟨b2, 4, none⟩)) 13 rfl rfl (ex_fa (p := (.pointer (some ⟨b2, 0, none⟩))) rfl rfl (fa36_4 _ _)) ?_
      simp only [zp]
      refine sv (.float .f64 cb) 14 rfl rfl (ex_load (p := (.pointer (some ⟨b2, 4, none⟩))) rfl rfl (ld34 (at_cell k2 rfl))) ?_
      simp only [zp]
      refine st_call (some 15) rfl rfl (sless_any co cb W2 e1) (ex_call (f := 26) (vs := [(.float .f64 co), (.float .f64 cb)]) rfl (cf26 _) rfl) ?_
      rintro e W3 ⟨rfl, B⟩
      refine ⟨_, rfl, ?_⟩
      simp only [zp]
      replace E := below_next E B
      replace k1 := keep B k1
      replace k2 := keep B k2
      refine sv (.bool true) 16 rfl rfl (ex_pkF rfl rfl rfl) ?_
      simp only [zp]
      refine sg (.bool true) 5 rfl rfl rfl rfl ?_
      simp only [zp]
      refine st_end ?_
      subst hQ
      refine wp_cond_true rfl ?_
      refine wq fun Q hQ => ?_
      refine sg (.bool true) 4 rfl rfl rfl rfl ?_
      simp only [zp]
      refine st_end ?_
      subst hQ
      refine wp_ret ?_
      repeat (first | refine ret_out ?_ | refine ret_blk ?_)
      refine bodyPost_ret (results_tmp Try.results38 _ _ _) rfl ⟨?_, E⟩
      show Ending.returned (.bool true) = _
      simp [betC, e0, e1]
    · skip
      replace e1 := Bool.eq_false_iff.2 e1
      by_cases e2 : lsN cb co = true
      · skip
        have E : Below w.heap.size w w := Below.refl _ _
        go_enter Try.func38, Try.ntmps38
        refine wq fun Q hQ => ?_
        refine st_new (fun b => .pointer (some ⟨b, 0, none⟩)) (some 2) rfl rfl (ex_box rfl rfl) ?_
        intro b1 W1 k1 g1 B
        simp only [zp]
        have ge_b1 := Nat.le_trans E.size g1
        replace E := below_next E B
        clear B
        refine st_new (fun b => .pointer (some ⟨b, 0, none⟩)) (some 3) rfl rfl (ex_box rfl rfl) ?_
        intro b2 W2 k2 g2 B
        simp only [zp]
        have ne_b2_b1 : b2 ≠ b1 := fun e => by have := lt_of k1; omega
        have ge_b2 := Nat.le_trans E.size g2
        replace E := below_next E B
        replace k1 := keep B k1
        clear B
        refine sg (.bool false) 4 rfl rfl rfl rfl ?_
        simp only [zp]
        refine st_end ?_
        subst hQ
        refine wp_seq ?_
        refine wp_block ?_
        refine wq fun Q hQ => ?_
        refine sv (.pointer (some ⟨b2, 0, none⟩)) 6 rfl rfl (ex_fa (p := (.pointer (some ⟨b2, 0, none⟩))) rfl rfl (fa36_0 _ _)) ?_
        simp only [zp]
        refine sv (.slice d1 m r1) 7 rfl rfl (ex_load (p := (.pointer (some ⟨b2, 0, none⟩))) rfl rfl (ld33 (at_cell k2 rfl))) ?_
        simp only [zp]
        refine sv (.int .i64 (m : Nat)) 8 rfl rfl (ex_len rfl rfl (len33 _ _ _ _ _)) ?_
        simp only [zp]
        refine sv (.bool false) 9 rfl rfl (ex_bin (u := (.int .i64 (m : Nat))) (r := (.int .i64 0)) rfl rfl rfl (eg3 _ _ _ _ _ _) (eql3 _ (decide_eq_false (by omega)))) ?_
        simp only [zp]
        refine sm (.bool false) 10 rfl rfl rfl rfl ?_
        simp only [zp]
        refine sv (.pointer (some ⟨b1, 4, none⟩)) 11 rfl rfl (ex_fa (p := (.pointer (some ⟨b1, 0, none⟩))) rfl rfl (fa36_4 _ _)) ?_
        simp only [zp]
        refine sv (.float .f64 co) 12 rfl rfl (ex_load (p := (.pointer (some ⟨b1, 4, none⟩))) rfl rfl (ld34 (at_cell k1 rfl))) ?_
        simp only [zp]
        refine sv (.pointer (some ⟨b2, 4, none⟩)) 13 rfl rfl (ex_fa (p := (.pointer (some ⟨b2, 0, none⟩))) rfl rfl (fa36_4 _ _)) ?_
        simp only [zp]
        refine sv (.float .f64 cb) 14 rfl rfl (ex_load (p := (.pointer (some ⟨b2, 4, none⟩))) rfl rfl (ld34 (at_cell k2 rfl))) ?_
        simp only [zp]
        refine st_call (some 15) rfl rfl (sless_any co cb W2 e1) (ex_call (f := 26) (vs := [(.float .f64 co), (.float .f64 cb)]) rfl (cf26 _) rfl) ?_
        rintro e W3 ⟨rfl, B⟩
        refine ⟨_, rfl, ?_⟩
        simp only [zp]
        replace E := below_next E B
        replace k1 := keep B k1
        replace k2 := keep B k2
        refine sv (.bool false) 16 rfl rfl (ex_pkF rfl rfl rfl) ?_
        simp only [zp]
        refine sg (.bool false) 5 rfl rfl rfl rfl ?_
        simp only [zp]
        refine st_end ?_
        subst hQ
        refine wp_cond_false rfl ?_
        refine wq fun Q hQ => ?_
        refine sv (.pointer (some ⟨b2, 4, none⟩)) 18 rfl rfl (ex_fa (p := (.pointer (some ⟨b2, 0, none⟩))) rfl rfl (fa36_4 _ _)) ?_
        simp only [zp]
        refine sv (.float .f64 cb) 19 rfl rfl (ex_load (p := (.pointer (some ⟨b2, 4, none⟩))) rfl rfl (ld34 (at_cell k2 rfl))) ?_
        simp only [zp]
        refine sv (.pointer (some ⟨b1, 4, none⟩)) 20 rfl rfl (ex_fa (p := (.pointer (some ⟨b1, 0, none⟩))) rfl rfl (fa36_4 _ _)) ?_
        simp only [zp]
        refine sv (.float .f64 co) 21 rfl rfl (ex_load (p := (.pointer (some ⟨b1, 4, none⟩))) rfl rfl (ld34 (at_cell k1 rfl))) ?_
        simp only [zp]
        refine st_call (some 22) rfl rfl (sless_any cb co W3 e2) (ex_call (f := 26) (vs := [(.float .f64 cb), (.float .f64 co)]) rfl (cf26 _) rfl) ?_
        rintro e W4 ⟨rfl, B⟩
        refine ⟨_, rfl, ?_⟩
        simp only [zp]
        replace E := below_next E B
        replace k1 := keep B k1
        replace k2 := keep B k2
        refine sg (.bool true) 17 rfl rfl rfl rfl ?_
        simp only [zp]
        refine st_end ?_
        subst hQ
        refine wp_cond_true rfl ?_
        refine wq fun Q hQ => ?_
        refine sg (.bool false) 4 rfl rfl rfl rfl ?_
        simp only [zp]
        refine st_end ?_
        subst hQ
        refine wp_ret ?_
        repeat (first | refine ret_out ?_ | refine ret_blk ?_)
        refine bodyPost_ret (results_tmp Try.results38 _ _ _) rfl ⟨?_, E⟩
        show Ending.returned (.bool false) = _
        simp [betC, e0, e1, e2]
      · skip
        replace e2 := Bool.eq_false_iff.2 e2
        by_cases e3 : n < m
        · skip
          have E : Below w.heap.size w w := Below.refl _ _
          go_enter Try.func38, Try.ntmps38
          refine wq fun Q hQ => ?_
          refine st_new (fun b => .pointer (some ⟨b, 0, none⟩)) (some 2) rfl rfl (ex_box rfl rfl) ?_
          intro b1 W1 k1 g1 B
          simp only [zp]
          have ge_b1 := Nat.le_trans E.size g1
          replace E := below_next E B
          clear B
          refine st_new (fun b => .pointer (some ⟨b, 0, none⟩)) (some 3) rfl rfl (ex_box rfl rfl) ?_
          intro b2 W2 k2 g2 B
          simp only [zp]
          have ne_b2_b1 : b2 ≠ b1 := fun e => by have := lt_of k1; omega
          have ge_b2 := Nat.le_trans E.size g2
          replace E := below_next E B
          replace k1 := keep B k1
          clear B
          refine sg (.bool false) 4 rfl rfl rfl rfl ?_
          simp only [zp]
          refine st_end ?_
          subst hQ
          refine wp_seq ?_
          refine wp_block ?_
          refine wq fun Q hQ => ?_
          refine sv (.pointer (some ⟨b2, 0, none⟩)) 6 rfl rfl (ex_fa (p := (.pointer (some ⟨b2, 0, none⟩))) rfl rfl (fa36_0 _ _)) ?_
          simp only [zp]
          refine sv (.slice d1 m r1) 7 rfl rfl (ex_load (p := (.pointer (some ⟨b2, 0, none⟩))) rfl rfl (ld33 (at_cell k2 rfl))) ?_
          simp only [zp]
          refine sv (.int .i64 (m : Nat)) 8 rfl rfl (ex_len rfl rfl (len33 _ _ _ _ _)) ?_
          simp only [zp]
          refine sv (.bool false) 9 rfl rfl (ex_bin (u := (.int .i64 (m : Nat))) (r := (.int .i64 0)) rfl rfl rfl (eg3 _ _ _ _ _ _) (eql3 _ (decide_eq_false (by omega)))) ?_
          simp only [zp]
          refine sm (.bool false) 10 rfl rfl rfl rfl ?_
          simp only [zp]
          refine sv (.pointer (some ⟨b1, 4, none⟩)) 11 rfl rfl (ex_fa (p := (.pointer (some ⟨b1, 0, none⟩))) rfl rfl (fa36_4 _ _)) ?_
          simp only [zp]
          refine sv (.float .f64 co) 12 rfl rfl (ex_load (p := (.pointer (some ⟨b1, 4, none⟩))) rfl rfl (ld34 (at_cell k1 rfl))) ?_
          simp only [zp]
          refine sv (.pointer (some ⟨b2, 4, none⟩)) 13 rfl rfl (ex_fa (p := (.pointer (some ⟨b2, 0, none⟩))) rfl rfl (fa36_4 _ _)) ?_
          simp only [zp]
          refine sv (.float .f64 cb) 14 rfl rfl (ex_load (p := (.pointer (some ⟨b2, 4, none⟩))) rfl rfl (ld34 (at_cell k2 rfl))) ?_
          simp only [zp]
          refine st_call (some 15) rfl rfl (sless_any co cb W2 e1) (ex_call (f := 26) (vs := [(.float .f64 co), (.float .f64 cb)]) rfl (cf26 _) rfl) ?_
          rintro e W3 ⟨rfl, B⟩
          refine ⟨_, rfl, ?_⟩
          simp only [zp]
          replace E := below_next E B
          replace k1 := keep B k1
          replace k2 := keep B k2
          refine sv (.bool false) 16 rfl rfl (ex_pkF rfl rfl rfl) ?_
          simp only [zp]
          refine sg (.bool false) 5 rfl rfl rfl rfl ?_
          simp only [zp]
          refine st_end ?_
          subst hQ
          refine wp_cond_false rfl ?_
          refine wq fun Q hQ => ?_
          refine sv (.pointer (some ⟨b2, 4, none⟩)) 18 rfl rfl (ex_fa (p := (.pointer (some ⟨b2, 0, none⟩))) rfl rfl (fa36_4 _ _)) ?_
          simp only [zp]
          refine sv (.float .f64 cb) 19 rfl rfl (ex_load (p := (.pointer (some ⟨b2, 4, none⟩))) rfl rfl (ld34 (at_cell k2 rfl))) ?_
          simp only [zp]
          refine sv (.pointer (some ⟨b1, 4, none⟩)) 20 rfl rfl (ex_fa (p := (.pointer (some ⟨b1, 0, none⟩))) rfl rfl (fa36_4 _ _)) ?_
          simp only [zp]
          refine sv (.float .f64 co) 21 rfl rfl (ex_load (p := (.pointer (some ⟨b1, 4, none⟩))) rfl rfl (ld34 (at_cell k1 rfl))) ?_
          simp only [zp]
          refine st_call (some 22) rfl rfl (sless_any cb co W3 e2) (ex_call (f := 26) (vs := [(.float .f64 cb), (.float .f64 co)]) rfl (cf26 _) rfl) ?_
          rintro e W4 ⟨rfl, B⟩
          refine ⟨_, rfl, ?_⟩
          simp only [zp]
          replace E := below_next E B
          replace k1 := keep B k1
          replace k2 := keep B k2
          refine sg (.bool false) 17 rfl rfl rfl rfl ?_
          simp only [zp]
          refine st_end ?_
          subst hQ
          refine wp_cond_false rfl ?_
          refine wp_skip ?_
          refine wq fun Q hQ => ?_
          refine sv (.pointer (some ⟨b1, 0, none⟩)) 23 rfl rfl (ex_fa (p := (.pointer (some ⟨b1, 0, none⟩))) rfl rfl (fa36_0 _ _)) ?_
          simp only [zp]
          refine sv (.slice a1 n c1) 24 rfl rfl (ex_load (p := (.pointer (some ⟨b1, 0, none⟩))) rfl rfl (ld33 (at_cell k1 rfl))) ?_
          simp only [zp]
          refine sv (.int .i64 (n : Nat)) 25 rfl rfl (ex_len rfl rfl (len33 _ _ _ _ _)) ?_
          simp only [zp]
          refine sv (.pointer (some ⟨b2, 0, none⟩)) 26 rfl rfl (ex_fa (p := (.pointer (some ⟨b2, 0, none⟩))) rfl rfl (fa36_0 _ _)) ?_
          simp only [zp]
          refine sv (.slice d1 m r1) 27 rfl rfl (ex_load (p := (.pointer (some ⟨b2, 0, none⟩))) rfl rfl (ld33 (at_cell k2 rfl))) ?_
          simp only [zp]
          refine sv (.int .i64 (m : Nat)) 28 rfl rfl (ex_len rfl rfl (len33 _ _ _ _ _)) ?_
          simp only [zp]
          refine sv (.bool true) 29 rfl rfl (ex_bin (u := (.int .i64 (n : Nat))) (r := (.int .i64 (m : Nat))) rfl rfl rfl (eg3 _ _ _ _ _ _) (lss3 _ (decide_eq_true (by omega)))) ?_
          simp only [zp]
          refine sg (.bool true) 4 rfl rfl rfl rfl ?_
          simp only [zp]
          refine st_end ?_
          subst hQ
          refine wp_ret ?_
          repeat (first | refine ret_out ?_ | refine ret_blk ?_)
          refine bodyPost_ret (results_tmp Try.results38 _ _ _) rfl ⟨?_, E⟩
          show Ending.returned (.bool true) = _
          simp [betC, e0, e1, e2, e3]
        · skip
          have E : Below w.heap.size w w := Below.refl _ _
          go_enter Try.func38, Try.ntmps38
          refine wq fun Q hQ => ?_
          refine st_new (fun b => .pointer (some ⟨b, 0, none⟩)) (some 2) rfl rfl (ex_box rfl rfl) ?_
          intro b1 W1 k1 g1 B
          simp only [zp]
          have ge_b1 := Nat.le_trans E.size g1
          replace E := below_next E B
          clear B
          refine st_new (fun b => .pointer (some ⟨b, 0, none⟩)) (some 3) rfl rfl (ex_box rfl rfl) ?_
          intro b2 W2 k2 g2 B
          simp only [zp]
          have ne_b2_b1 : b2 ≠ b1 := fun e => by have := lt_of k1; omega
          have ge_b2 := Nat.le_trans E.size g2
          replace E := below_next E B
          replace k1 := keep B k1
          clear B
          refine sg (.bool false) 4 rfl rfl rfl rfl ?_
          simp only [zp]
          refine st_end ?_
          subst hQ
          refine wp_seq ?_
          refine wp_block ?_
          refine wq fun Q hQ => ?_
          refine sv (.pointer (some ⟨b2, 0, none⟩)) 6 rfl rfl (ex_fa (p := (.pointer (some ⟨b2, 0, none⟩))) rfl rfl (fa36_0 _ _)) ?_
          simp only [zp]
          refine sv (.slice d1 m r1) 7 rfl rfl (ex_load (p := (.pointer (some ⟨b2, 0, none⟩))) rfl rfl (ld33 (at_cell k2 rfl))) ?_
          simp only [zp]
          refine sv (.int .i64 (m : Nat)) 8 rfl rfl (ex_len rfl rfl (len33 _ _ _ _ _)) ?_
          simp only [zp]
          refine sv (.bool false) 9 rfl rfl (ex_bin (u := (.int .i64 (m : Nat))) (r := (.int .i64 0)) rfl rfl rfl (eg3 _ _ _ _ _ _) (eql3 _ (decide_eq_false (by omega)))) ?_
          simp only [zp]
          refine sm (.bool false) 10 rfl rfl rfl rfl ?_
          simp only [zp]
          refine sv (.pointer (some ⟨b1, 4, none⟩)) 11 rfl rfl (ex_fa (p := (.pointer (some ⟨b1, 0, none⟩))) rfl rfl (fa36_4 _ _)) ?_
          simp only [zp]
          refine sv (.float .f64 co) 12 rfl rfl (ex_load (p := (.pointer (some ⟨b1, 4, none⟩))) rfl rfl (ld34 (at_cell k1 rfl))) ?_
          simp only [zp]
          refine sv (.pointer (some ⟨b2, 4, none⟩)) 13 rfl rfl (ex_fa (p := (.pointer (some ⟨b2, 0, none⟩))) rfl rfl (fa36_4 _ _)) ?_
          simp only [zp]
          refine sv (.float .f64 cb) 14 rfl rfl (ex_load (p := (.pointer (some ⟨b2, 4, none⟩))) rfl rfl (ld34 (at_cell k2 rfl))) ?_
          simp only [zp]
          refine st_call (some 15) rfl rfl (sless_any co cb W2 e1) (ex_call (f := 26) (vs := [(.float .f64 co), (.float .f64 cb)]) rfl (cf26 _) rfl) ?_
          rintro e W3 ⟨rfl, B⟩
          refine ⟨_, rfl, ?_⟩
          simp only [zp]
          replace E := below_next E B
          replace k1 := keep B k1
          replace k2 := keep B k2
          refine sv (.bool false) 16 rfl rfl (ex_pkF rfl rfl rfl) ?_
          simp only [zp]
          refine sg (.bool false) 5 rfl rfl rfl rfl ?_
          simp only [zp]
          refine st_end ?_
          subst hQ
          refine wp_cond_false rfl ?_
          refine wq fun Q hQ => ?_
          refine sv (.pointer (some ⟨b2, 4, none⟩)) 18 rfl rfl (ex_fa (p := (.pointer (some ⟨b2, 0, none⟩))) rfl rfl (fa36_4 _ _)) ?_
          simp only [zp]
          refine sv (.float .f64 cb) 19 rfl rfl (ex_load (p := (.pointer (some ⟨b2, 4, none⟩))) rfl rfl (ld34 (at_cell k2 rfl))) ?_
          simp only [zp]
          refine sv (.pointer (some ⟨b1, 4, none⟩)) 20 rfl rfl (ex_fa (p := (.pointer (some ⟨b1, 0, none⟩))) rfl rfl (fa36_4 _ _)) ?_
          simp only [zp]
          refine sv (.float .f64 co) 21 rfl rfl (ex_load (p := (.pointer (some ⟨b1, 4, none⟩))) rfl rfl (ld34 (at_cell k1 rfl))) ?_
          simp only [zp]
          refine st_call (some 22) rfl rfl (sless_any cb co W3 e2) (ex_call (f := 26) (vs := [(.float .f64 cb), (.float .f64 co)]) rfl (cf26 _) rfl) ?_
          rintro e W4 ⟨rfl, B⟩
          refine ⟨_, rfl, ?_⟩
          simp only [zp]
          replace E := below_next E B
          replace k1 := keep B k1
          replace k2 := keep B k2
          refine sg (.bool false) 17 rfl rfl rfl rfl ?_
          simp only [zp]
          refine st_end ?_
          subst hQ
          refine wp_cond_false rfl ?_
          refine wp_skip ?_
          refine wq fun Q hQ => ?_
          refine sv (.pointer (some ⟨b1, 0, none⟩)) 23 rfl rfl (ex_fa (p := (.pointer (some ⟨b1, 0, none⟩))) rfl rfl (fa36_0 _ _)) ?_
          simp only [zp]
          refine sv (.slice a1 n c1) 24 rfl rfl (ex_load (p := (.pointer (some ⟨b1, 0, none⟩))) rfl rfl (ld33 (at_cell k1 rfl))) ?_
          simp only [zp]
          refine sv (.int .i64 (n : Nat)) 25 rfl rfl (ex_len rfl rfl (len33 _ _ _ _ _)) ?_
          simp only [zp]
          refine sv (.pointer (some ⟨b2, 0, none⟩)) 26 rfl rfl (ex_fa (p := (.pointer (some ⟨b2, 0, none⟩))) rfl rfl (fa36_0 _ _)) ?_
          simp only [zp]
          refine sv (.slice d1 m r1) 27 rfl rfl (ex_load (p := (.pointer (some ⟨b2, 0, none⟩))) rfl rfl (ld33 (at_cell k2 rfl))) ?_
          simp only [zp]
          refine sv (.int .i64 (m : Nat)) 28 rfl rfl (ex_len rfl rfl (len33 _ _ _ _ _)) ?_
          simp only [zp]
          refine sv (.bool false) 29 rfl rfl (ex_bin (u := (.int .i64 (n : Nat))) (r := (.int .i64 (m : Nat))) rfl rfl rfl (eg3 _ _ _ _ _ _) (lss3 _ (decide_eq_false (by omega)))) ?_
          simp only [zp]
          refine sg (.bool false) 4 rfl rfl rfl rfl ?_
          simp only [zp]
          refine st_end ?_
          subst hQ
          refine wp_ret ?_
          repeat (first | refine ret_out ?_ | refine ret_blk ?_)
          refine bodyPost_ret (results_tmp Try.results38 _ _ _) rfl ⟨?_, E⟩
          show Ending.returned (.bool false) = _
          simp [betC, e0, e1, e2, e3]
theorem bsl0 (W : World) : (Instr.buildSlice 33 0 #[]).run Try.prog W = .ok (.slice (some ⟨W.heap.size, 0, none⟩) 0 0) (W.alloc (.cells #[] 49)) := by kernel_rfl
set_option maxHeartbeats 8000000 in
theorem clone_any {bE oE n cE_ N : Nat} {es : List EV} (w : World) (hE : Es w N (some ⟨bE, oE, none⟩) es) (hn : n = es.length) (h1 : 1 ≤ n) (hn2 : n ≤ 64) : Calls Try.prog 39 #[.slice (some ⟨bE, oE, none⟩) n cE_] w fun e w' => ∃ g c, e = .returned (.slice (some ⟨g, 0, none⟩) n c) ∧ w'.ownsRow w.heap.size 49 13 (.slice (some ⟨g, 0, none⟩) n c) n (cE es) ∧ Below w.heap.size w w' := by
  have E : Below w.heap.size w w := Below.refl _ _
  go_enter Try.func39, Try.ntmps39
  refine wq fun Q hQ => ?_
  refine sg (.slice none 0 0) 2 rfl rfl rfl rfl ?_
  simp only [zp]
  refine st_end ?_
  subst hQ
  refine wp_seq ?_
  refine wq fun Q hQ => ?_
  refine sm (.slice (some ⟨bE, oE, none⟩) n cE_) 3 rfl rfl rfl rfl ?_
  simp only [zp]
  refine sv (.bool false) 4 rfl rfl (ex_snil (t := 0) rfl rfl rfl rfl) ?_
  simp only [zp]
  refine st_end ?_
  subst hQ
  refine wp_cond_false rfl ?_
  refine wp_skip ?_
  refine wq fun Q hQ => ?_
  refine st_new (fun b => .slice (some ⟨b, 0, none⟩) 0 0) (some 5) rfl rfl (ex_bsl0  rfl (bsl0 _)) ?_
  intro b1 W1 k1 g1 B
  simp only [zp]
  have ge_b1 := Nat.le_trans E.size g1
  replace E := below_next E B
  clear B
  refine sm (.slice (some ⟨bE, oE, none⟩) n cE_) 6 rfl rfl rfl rfl ?_
  simp only [zp]
  have hne : es ≠ [] := fun q => by rw [q] at hn; simp at hn; omega
  rcases (show Es W1 N (some ⟨bE, oE, none⟩) es from hE.blk fun b cur hl hc => E.block b (lt_of hc)) with q | ⟨b', o', q, hbN, ⟨cur0, hcur0⟩, hr⟩
  · exact absurd q hne
  cases q
  obtain ⟨g', cap', W2, hr2, hown2, hK2, hloc2⟩ := own_add (c := cE_) (m := n) (t := 33) (show W1.ownsRow w.heap.size 49 13 (.slice (some ⟨b1, 0, none⟩) 0 0) 0 [] from ⟨rfl, .inr ⟨b1, 0, _, rfl, ge_b1, k1, by decide, by decide, rfl, rfl⟩⟩) hr (by rw [cE_len, hn]) (cE_one1 es) Try.underlying33 Try.inf49b rfl (by decide) (by omega) (by omega) (by simp only [maxLen]; omega) E.size
  replace E : Below w.heap.size w W2 := E.trans (hK2.below E.size (fun k e => by have : b1 = k := Option.some.inj e; omega))
  rw [Nat.zero_add] at hr2 hown2
  refine st_to (v := (.slice (some ⟨g', 0, none⟩) n cap')) (some 7) rfl rfl (ex_app rfl rfl rfl hr2) ?_
  simp only [zp]
  refine sg (.slice (some ⟨g', 0, none⟩) n cap') 2 rfl rfl rfl rfl ?_
  simp only [zp]
  refine st_end ?_
  subst hQ
  refine wp_ret ?_
  exact bodyPost_ret (results_tmp Try.results39 _ _ _) rfl ⟨g', cap', rfl, by simpa using hown2, E⟩
/-- the best one so far -/
def Bst (W : World) (base b : Nat) : Option YV → Prop
  | none => W.heap[b]? = some (.cells #[.slice none 0 0, .slice none 0 0, .slice none 0 0, .int .i64 0, .float .f64 0] 36)
  | some y => ∃ g c bA bX, W.heap[b]? = some (.cells #[.slice (some ⟨g, 0, none⟩) y.es.length c, .slice (some ⟨bA, 0, none⟩) y.es.length y.es.length, .slice (some ⟨bX, 0, none⟩) y.es.length y.es.length, .int .i64 y.fee, .float .f64 y.cost] 36) ∧ W.ownsRow base 49 13 (.slice (some ⟨g, 0, none⟩) y.es.length c) y.es.length (cE y.es) ∧ (base ≤ bA ∧ base ≤ bX) ∧ W.heap[bA]? = some (.cells (Il y.am).toArray 3) ∧ W.heap[bX]? = some (.cells (Il y.xs).toArray 3) ∧ y.es ≠ []
theorem Bst.box {W : World} {base b : Nat} {B : Option YV} (h : Bst W base b B) : ∃ C, W.heap[b]? = some (.cells C 36) := by
  cases B with
  | none => exact ⟨_, h⟩
  | some y =>
    obtain ⟨g, c, bA, bX, h1, _⟩ := h
    exact ⟨_, h1⟩
theorem Bst.blk {W W' : World} {base b : Nat} {B : Option YV} (h : Bst W base b B) (h6 : W'.heap[b]? = W.heap[b]?) (hb : ∀ k C T, base ≤ k → W.heap[k]? = some (.cells C T) → T = 49 ∨ T = 3 → W'.heap[k]? = W.heap[k]?) : Bst W' base b B := by
  cases B with
  | none => exact h6.trans h
  | some y =>
    obtain ⟨g, c, bA, bX, h1, h2, h3, h4, h5, h6'⟩ := h
    refine ⟨g, c, bA, bX, h6.trans h1, ⟨h2.1, ?_⟩, h3, (hb bA _ _ h3.1 h4 (.inr rfl)).trans h4, (hb bX _ _ h3.2 h5 (.inr rfl)).trans h5, h6'⟩
    rcases h2.2 with q | ⟨g', cap', cur, e, hbg, hh, r⟩
    · exact .inl q
    · exact .inr ⟨g', cap', cur, e, hbg, (hb g' _ _ hbg hh (.inl rfl)).trans hh, r⟩
theorem Bst.keep {W W' : World} {base b : Nat} {B : Option YV} (h : Bst W base b B) (hB : Below W.heap.size W W') : Bst W' base b B := by
  obtain ⟨C, hC⟩ := h.box
  exact h.blk (hB.block b (lt_of hC)) (fun k C T _ hk _ => hB.block k (lt_of hk))
theorem bet_some (x : YV) (B : Option YV) (hB : ∀ y, B = some y → y.es ≠ []) : betB x B = betC x.es.length x.cost (match B with | none => 0 | some y => y.es.length) (match B with | none => 0 | some y => y.cost) := by
  cases B with
  | none => rfl
  | some y =>
    have h : ¬ y.es.length = 0 := fun e => hB y rfl (List.eq_nil_of_length_eq_zero e)
    simp [betB, betC, h]
theorem lay_no {ao aE : Option Addr} {nw cw n cE N : Nat} {v : WV} {es : List EV} (w : World) (hE : Es w N aE es) (hN : N ≤ w.heap.size) (hn : n = es.length) (h1 : 1 ≤ n) (hn2 : n ≤ 8) (hb : ∀ e ∈ es, EB e) (hv : WB v) (h : wayN v es = none) : Calls Try.prog 37 #[.agg (WL_ v ao nw cw), .slice aE n cE] w fun e w' => ∃ C : Array Value, e = .returned (.tuple #[.agg C, .bool false]) ∧ C.size = 5 ∧ C.all (·.oneCell') = true ∧ Below w.heap.size w w' := by
  refine (lay_any w hE hN hn h1 hn2 hb hv).mono fun e w' hh => ?_
  obtain ⟨hB, hm⟩ := hh
  rw [h] at hm
  obtain ⟨C, q1, q2, q3⟩ := hm
  exact ⟨C, q1, q2, q3, hB⟩
theorem lay_yes {ao aE : Option Addr} {nw cw n cE N : Nat} {v : WV} {es : List EV} (w : World) (hE : Es w N aE es) (hN : N ≤ w.heap.size) (hn : n = es.length) (h1 : 1 ≤ n) (hn2 : n ≤ 8) (hb : ∀ e ∈ es, EB e) (hv : WB v) {y : YV} (h : wayN v es = some y) : Calls Try.prog 37 #[.agg (WL_ v ao nw cw), .slice aE n cE] w fun e w' => ∃ bA bX, e = .returned (.tuple #[.agg #[.slice aE n cE, .slice (some ⟨bA, 0, none⟩) n n, .slice (some ⟨bX, 0, none⟩) n n, .int .i64 y.fee, .float .f64 y.cost], .bool true]) ∧ w.heap.size ≤ bA ∧ w.heap.size ≤ bX ∧ w'.heap[bA]? = some (.cells (Il y.am).toArray 3) ∧ w'.heap[bX]? = some (.cells (Il y.xs).toArray 3) ∧ Below w.heap.size w w' := by
  refine (lay_any w hE hN hn h1 hn2 hb hv).mono fun e w' hh => ?_
  obtain ⟨hB, hm⟩ := hh
  rw [h] at hm
  obtain ⟨bA, bX, q1, q2, q3, q4, q5⟩ := hm
  exact ⟨bA, bX, q1, q2, q3, q4, q5, hB⟩
theorem way_es {v : WV} {es : List EV} {y : YV} (h : wayN v es = some y) : y.es = es := by
  unfold wayN at h
  cases h1 : layN v es with
  | none => rw [h1] at h; cases h
  | some z =>
    rw [h1] at h
    have h : (if _ then _ else if _ then _ else _) = _ := h
    split at h
    · cases h
    · split at h
      · cases h; rfl
      · cases h
set_option maxHeartbeats 16000000 in
theorem see_any {bE oE b3 b6 base n c0 N nw cw : Nat} {ao : Option Addr} {v : WV} {B : Option YV} {es : List EV} (w : World) (k3 : w.heap[b3]? = some (.cells (WL_ v ao nw cw) 32)) (hB : Bst w base b6 B) (hbs : base ≤ w.heap.size) (hE : Es w N (some ⟨bE, oE, none⟩) es) (hN : N ≤ w.heap.size) (hn : n = es.length) (h1 : 1 ≤ n) (hn2 : n ≤ 8) (hb : ∀ e ∈ es, EB e) (hv : WB v) (hy : ∀ y, B = some y → y.es ≠ []) : Calls Try.prog 36 #[.slice (some ⟨bE, oE, none⟩) n c0, .pointer (some ⟨b3, 0, none⟩), .pointer (some ⟨b6, 0, none⟩)] w fun e w' => e = .returned (.bool (seeN v B es).isSome) ∧ Bst w' base b6 (seeN v B es) ∧ Kept (· = b6) w w' := by
  have hne : es ≠ [] := fun q => by rw [q] at hn; simp at hn; omega
  cases B with
  | none =>
    have k6 : w.heap[b6]? = some (.cells #[.slice none 0 0, .slice none 0 0, .slice none 0 0, .int .i64 0, .float .f64 0] 36) := hB
    have k60 := k6
    cases hwy : wayN v es with
    | none =>
      have hsee : seeN v none es = none := by unfold seeN; rw [hwy]
      have E : Kept (· = b6) w w := Kept.refl _ _
      go_enter Try.func36, Try.ntmps36
      refine wq fun Q hQ => ?_
      refine sg (.bool false) 4 rfl rfl rfl rfl ?_
      simp only [zp]
      refine st_end ?_
      subst hQ
      refine wp_seq ?_
      refine wq fun Q hQ => ?_
      refine sv (.agg (WL_ v ao nw cw)) 8 rfl rfl (ex_load (p := (.pointer (some ⟨b3, 0, none⟩))) rfl rfl (ld_all k3 Try.underlying32 rfl inf32)) ?_
      simp only [zp]
      refine sm (.slice (some ⟨bE, oE, none⟩) n c0) 9 rfl rfl rfl rfl ?_
      simp only [zp]
      refine st_call (some 10) rfl rfl (lay_no w (Es.blk hE fun b cur hl hc => E.block b (lt_of hc) (fun e => ne_tag k60 hc (by decide) e.symm)) (Nat.le_trans hN E.size) hn h1 hn2 hb hv hwy) (ex_call (f := 37) (vs := [(.agg (WL_ v ao nw cw)), (.slice (some ⟨bE, oE, none⟩) n c0)]) rfl (cf37 _) rfl) ?_
      rintro e W1 ⟨C, rfl, hCs, hC1, B⟩
      refine ⟨_, rfl, ?_⟩
      simp only [zp]
      replace E := E.next B
      replace k3 := keep B k3
      replace k6 := keep B k6
      refine sm (.tuple #[(.agg C), (.bool false)]) 7 rfl rfl rfl rfl ?_
      simp only [zp]
      refine sv (.agg C) 11 rfl rfl (ex_ext rfl rfl rfl) ?_
      simp only [zp]
      refine sv (.bool false) 12 rfl rfl (ex_ext rfl rfl rfl) ?_
      simp only [zp]
      refine st_new (fun b => .pointer (some ⟨b, 0, none⟩)) (some 5) rfl rfl (ex_alloc rfl zero36) ?_
      intro b1 W2 k1 g1 B
      simp only [zp]
      have ne_b1_b3 : b1 ≠ b3 := fun e => by have := lt_of k3; omega
      have ne_b1_b6 : b1 ≠ b6 := fun e => by have := lt_of k6; omega
      have ge_b1 := Nat.le_trans E.size g1
      replace E := E.next B
      replace k3 := keep B k3
      replace k6 := keep B k6
      clear B
      obtain ⟨W3, hst, kn, K⟩ := put_all (D := C) k1 (((show (#[.slice none 0 0, .slice none 0 0, .slice none 0 0, .int .i64 0, .float .f64 0] : Array Value).size = 5 from rfl)).trans (hCs).symm) (inf36.trans (congrArg some (hCs).symm)) hC1
      refine st_sk rfl rfl (ex_store rfl rfl rfl hst) ?_
      replace E := E.putN K ge_b1
      replace k3 := keepK K k3 (fun e => ne_tag k3 k1 (by decide) e)
      replace k6 := keepK K k6 (fun e => by first | exact ne_b6_b1 e | exact ne_b1_b6 e.symm)
      replace k1 := kn
      clear kn K hst
      refine sg (.bool false) 6 rfl rfl rfl rfl ?_
      simp only [zp]
      refine st_end ?_
      subst hQ
      refine wq fun Q hQ => ?_
      refine sm (.bool false) 13 rfl rfl rfl rfl ?_
      simp only [zp]
      refine sm (.bool false) 14 rfl rfl rfl rfl ?_
      simp only [zp]
      refine sn 15 rfl rfl ?_
      simp only [zp]
      refine sn 16 rfl rfl ?_
      simp only [zp]
      refine sn 17 rfl rfl ?_
      simp only [zp]
      refine sv (.bool false) 18 rfl rfl (ex_pkF rfl rfl rfl) ?_
      simp only [zp]
      refine st_end ?_
      subst hQ
      refine wp_cond_false rfl ?_
      refine wp_skip ?_
      refine wq fun Q hQ => ?_
      refine sv (.pointer (some ⟨b6, 0, none⟩)) 23 rfl rfl (ex_fa (p := (.pointer (some ⟨b6, 0, none⟩))) rfl rfl (fa36_0 _ _)) ?_
      simp only [zp]
      refine sv (.slice none 0 0) 24 rfl rfl (ex_load (p := (.pointer (some ⟨b6, 0, none⟩))) rfl rfl (ld33 (at_cell k6 rfl))) ?_
      simp only [zp]
      refine sv (.int .i64 (0 : Nat)) 25 rfl rfl (ex_len rfl rfl (len33 _ _ _ _ _)) ?_
      simp only [zp]
      refine sv (.bool false) 26 rfl rfl (ex_bin (u := (.int .i64 (0 : Nat))) (r := (.int .i64 0)) rfl rfl rfl (eg3 _ _ _ _ _ _) (gtr3 _ (decide_eq_false (by omega)))) ?_
      simp only [zp]
      refine sg (.bool false) 4 rfl rfl rfl rfl ?_
      simp only [zp]
      refine st_end ?_
      subst hQ
      refine wp_ret ?_
      repeat (first | refine ret_out ?_ | refine ret_blk ?_)
      refine bodyPost_ret (results_tmp Try.results36 _ _ _) rfl ⟨?_, ?_, E⟩
      · rw [hsee]
        rfl
      · rw [hsee]
        exact hB.blk (k6.trans k60.symm) (fun k C T _ hk hT => E.block k (lt_of hk) (fun e => by subst e; rw [k60] at hk; cases hk; rcases hT with h | h <;> cases h))
    | some y =>
      have hes := way_es hwy
      have hbe := bet_some y none hy
      rw [hes, ← hn] at hbe
      cases hbt : betB y none with
      | true =>
        have hsee : seeN v none es = some y := by unfold seeN; rw [hwy]; exact if_pos hbt
        rw [hbe] at hbt
        have E : Kept (· = b6) w w := Kept.refl _ _
        go_enter Try.func36, Try.ntmps36
        refine wq fun Q hQ => ?_
        refine sg (.bool false) 4 rfl rfl rfl rfl ?_
        simp only [zp]
        refine st_end ?_
        subst hQ
        refine wp_seq ?_
        refine wq fun Q hQ => ?_
        refine sv (.agg (WL_ v ao nw cw)) 8 rfl rfl (ex_load (p := (.pointer (some ⟨b3, 0, none⟩))) rfl rfl (ld_all k3 Try.underlying32 rfl inf32)) ?_
        simp only [zp]
        refine sm (.slice (some ⟨bE, oE, none⟩) n c0) 9 rfl rfl rfl rfl ?_
        simp only [zp]
        refine st_call (some 10) rfl rfl (lay_yes w (Es.blk hE fun b cur hl hc => E.block b (lt_of hc) (fun e => ne_tag k60 hc (by decide) e.symm)) (Nat.le_trans hN E.size) hn h1 hn2 hb hv hwy) (ex_call (f := 37) (vs := [(.agg (WL_ v ao nw cw)), (.slice (some ⟨bE, oE, none⟩) n c0)]) rfl (cf37 _) rfl) ?_
        rintro e W1 ⟨bA, bX, rfl, gA, gX, kA, kX, B⟩
        have gA := Nat.le_trans (Nat.le_trans hbs E.size) gA
        have gX := Nat.le_trans (Nat.le_trans hbs E.size) gX
        refine ⟨_, rfl, ?_⟩
        simp only [zp]
        replace E := E.next B
        replace k3 := keep B k3
        replace k6 := keep B k6
        refine sm (.tuple #[(.agg #[.slice (some ⟨bE, oE, none⟩) n c0, .slice (some ⟨bA, 0, none⟩) n n, .slice (some ⟨bX, 0, none⟩) n n, .int .i64 y.fee, .float .f64 y.cost]), (.bool true)]) 7 rfl rfl rfl rfl ?_
        simp only [zp]
        refine sv (.agg #[.slice (some ⟨bE, oE, none⟩) n c0, .slice (some ⟨bA, 0, none⟩) n n, .slice (some ⟨bX, 0, none⟩) n n, .int .i64 y.fee, .float .f64 y.cost]) 11 rfl rfl (ex_ext rfl rfl rfl) ?_
        simp only [zp]
        refine sv (.bool true) 12 rfl rfl (ex_ext rfl rfl rfl) ?_
        simp only [zp]
        refine st_new (fun b => .pointer (some ⟨b, 0, none⟩)) (some 5) rfl rfl (ex_alloc rfl zero36) ?_
        intro b1 W2 k1 g1 B
        simp only [zp]
        have ne_b1_b3 : b1 ≠ b3 := fun e => by have := lt_of k3; omega
        have ne_b1_b6 : b1 ≠ b6 := fun e => by have := lt_of k6; omega
        have ne_b1_bA : b1 ≠ bA := fun e => by have := lt_of kA; omega
        have ne_b1_bX : b1 ≠ bX := fun e => by have := lt_of kX; omega
        have ge_b1 := Nat.le_trans E.size g1
        replace E := E.next B
        replace k3 := keep B k3
        replace k6 := keep B k6
        replace kA := keep B kA
        replace kX := keep B kX
        clear B
        obtain ⟨W3, hst, kn, K⟩ := put_all (D := #[.slice (some ⟨bE, oE, none⟩) n c0, .slice (some ⟨bA, 0, none⟩) n n, .slice (some ⟨bX, 0, none⟩) n n, .int .i64 y.fee, .float .f64 y.cost]) k1 rfl inf36 one5
        refine st_sk rfl rfl (ex_store rfl rfl rfl hst) ?_
        replace E := E.putN K ge_b1
        replace k3 := keepK K k3 (fun e => ne_tag k3 k1 (by decide) e)
        replace k6 := keepK K k6 (fun e => by first | exact ne_b6_b1 e | exact ne_b1_b6 e.symm)
        replace kA := keepK K kA (fun e => ne_tag kA k1 (by decide) e)
        replace kX := keepK K kX (fun e => ne_tag kX k1 (by decide) e)
        replace k1 := kn
        clear kn K hst
        refine sg (.bool true) 6 rfl rfl rfl rfl ?_
        simp only [zp]
        refine st_end ?_
        subst hQ
        refine wq fun Q hQ => ?_
        refine sm (.bool true) 13 rfl rfl rfl rfl ?_
        simp only [zp]
        refine sm (.bool true) 14 rfl rfl rfl rfl ?_
        simp only [zp]
        refine sv (.agg #[.slice (some ⟨bE, oE, none⟩) n c0, .slice (some ⟨bA, 0, none⟩) n n, .slice (some ⟨bX, 0, none⟩) n n, .int .i64 y.fee, .float .f64 y.cost]) 15 rfl rfl (ex_load (p := (.pointer (some ⟨b1, 0, none⟩))) rfl rfl (ld_all k1 Try.underlying36 rfl inf36)) ?_
        simp only [zp]
        refine sv (.agg #[.slice none 0 0, .slice none 0 0, .slice none 0 0, .int .i64 0, .float .f64 0]) 16 rfl rfl (ex_load (p := (.pointer (some ⟨b6, 0, none⟩))) rfl rfl (ld_all k6 Try.underlying36 rfl inf36)) ?_
        simp only [zp]
        refine st_call (some 17) rfl rfl (better_any W3 hbt) (ex_call (f := 38) (vs := [(.agg #[.slice (some ⟨bE, oE, none⟩) n c0, .slice (some ⟨bA, 0, none⟩) n n, .slice (some ⟨bX, 0, none⟩) n n, .int .i64 y.fee, .float .f64 y.cost]), (.agg #[.slice none 0 0, .slice none 0 0, .slice none 0 0, .int .i64 0, .float .f64 0])]) rfl (cf38 _) rfl) ?_
        rintro e W4 ⟨rfl, B⟩
        refine ⟨_, rfl, ?_⟩
        simp only [zp]
        replace E := E.next B
        replace k3 := keep B k3
        replace k6 := keep B k6
        replace kA := keep B kA
        replace kX := keep B kX
        replace k1 := keep B k1
        refine sv (.bool true) 18 rfl rfl (ex_pkT rfl rfl rfl) ?_
        simp only [zp]
        refine st_end ?_
        subst hQ
        refine wp_cond_true rfl ?_
        refine wq fun Q hQ => ?_
        refine sm (.slice (some ⟨bE, oE, none⟩) n c0) 19 rfl rfl rfl rfl ?_
        simp only [zp]
        refine st_call (some 20) rfl rfl (clone_any W4 (Es.blk hE fun b cur hl hc => E.block b (lt_of hc) (fun e => ne_tag k60 hc (by decide) e.symm)) hn h1 (by omega)) (ex_call (f := 39) (vs := [(.slice (some ⟨bE, oE, none⟩) n c0)]) rfl (cf39 _) rfl) ?_
        rintro e W5 ⟨g, cg, rfl, hcl, B⟩
        have hsz := E.size
        refine ⟨_, rfl, ?_⟩
        simp only [zp]
        replace E := E.next B
        replace k3 := keep B k3
        replace k6 := keep B k6
        replace kA := keep B kA
        replace kX := keep B kX
        replace k1 := keep B k1
        refine sv (.pointer (some ⟨b1, 0, none⟩)) 21 rfl rfl (ex_fa (p := (.pointer (some ⟨b1, 0, none⟩))) rfl rfl (fa36_0 _ _)) ?_
        simp only [zp]
        obtain ⟨kn, K⟩ := put_cell (i := 0) (.slice (some ⟨g, 0, none⟩) n cg) k1
        refine st_sk rfl rfl (ex_store rfl rfl rfl (sto33 (at_cell k1 rfl) (unfrozen k1))) ?_
        obtain ⟨W6, hW2⟩ : ∃ W', W5.setCell ⟨b1, 0, none⟩ (.slice (some ⟨g, 0, none⟩) n cg) = W' := ⟨_, rfl⟩
        rw [hW2] at kn K ⊢
        replace E := E.putN K ge_b1
        replace k3 := keepK K k3 (fun e => ne_tag k3 k1 (by decide) e)
        replace k6 := keepK K k6 (fun e => by first | exact ne_b6_b1 e | exact ne_b1_b6 e.symm)
        replace kA := keepK K kA (fun e => ne_tag kA k1 (by decide) e)
        replace kX := keepK K kX (fun e => ne_tag kX k1 (by decide) e)
        replace hcl := own_keepK hcl K (fun q hq e => by have hq : g = q := Option.some.inj hq; subst hq; subst e; exact own_ne hcl k1 (by decide) rfl)
        replace k1 := kn
        clear kn K
        refine st_end ?_
        subst hQ
        refine wl_in (wl_cap fun Q hQ => ?_)
        refine sv (.agg #[(.slice (some ⟨g, 0, none⟩) n cg), (.slice (some ⟨bA, 0, none⟩) n n), (.slice (some ⟨bX, 0, none⟩) n n), (.int .i64 y.fee), (.float .f64 y.cost)]) 22 rfl rfl (ex_load (p := (.pointer (some ⟨b1, 0, none⟩))) rfl rfl (ld_all k1 Try.underlying36 rfl inf36)) ?_
        simp only [zp]
        obtain ⟨W7, hst, kn, K⟩ := put_all (D := #[(.slice (some ⟨g, 0, none⟩) n cg), (.slice (some ⟨bA, 0, none⟩) n n), (.slice (some ⟨bX, 0, none⟩) n n), (.int .i64 y.fee), (.float .f64 y.cost)]) k6 rfl inf36 (by kernel_rfl)
        refine st_sk rfl rfl (ex_store rfl rfl rfl hst) ?_
        replace E := E.putX K
        replace k3 := keepK K k3 (fun e => ne_tag k3 k6 (by decide) e)
        replace kA := keepK K kA (fun e => ne_tag kA k6 (by decide) e)
        replace kX := keepK K kX (fun e => ne_tag kX k6 (by decide) e)
        replace hcl := own_keepK hcl K (fun q hq e => by have hq : g = q := Option.some.inj hq; subst hq; subst e; exact own_ne hcl k6 (by decide) rfl)
        replace k1 := keepK K k1 (fun e => by first | exact ne_b1_b6 e | exact ne_b6_b1 e.symm)
        replace k6 := kn
        clear kn K hst
        refine st_end ?_
        subst hQ
        refine wq fun Q hQ => ?_
        refine sv (.pointer (some ⟨b6, 0, none⟩)) 23 rfl rfl (ex_fa (p := (.pointer (some ⟨b6, 0, none⟩))) rfl rfl (fa36_0 _ _)) ?_
        simp only [zp]
        refine sv (.slice (some ⟨g, 0, none⟩) n cg) 24 rfl rfl (ex_load (p := (.pointer (some ⟨b6, 0, none⟩))) rfl rfl (ld33 (at_cell k6 rfl))) ?_
        simp only [zp]
        refine sv (.int .i64 (n : Nat)) 25 rfl rfl (ex_len rfl rfl (len33 _ _ _ _ _)) ?_
        simp only [zp]
        refine sv (.bool true) 26 rfl rfl (ex_bin (u := (.int .i64 (n : Nat))) (r := (.int .i64 0)) rfl rfl rfl (eg3 _ _ _ _ _ _) (gtr3 _ (decide_eq_true (by omega)))) ?_
        simp only [zp]
        refine sg (.bool true) 4 rfl rfl rfl rfl ?_
        simp only [zp]
        refine st_end ?_
        subst hQ
        refine wp_ret ?_
        repeat (first | refine ret_out ?_ | refine ret_blk ?_)
        refine bodyPost_ret (results_tmp Try.results36 _ _ _) rfl ⟨?_, ?_, E⟩
        · rw [hsee]
          rfl
        · rw [hsee]
          have hes := way_es hwy
          refine ⟨g, cg, bA, bX, ?_, ?_, ⟨gA, gX⟩, kA, kX, by rw [hes]; exact hne⟩
          · rw [hes, ← hn]; exact k6
          · rw [hes, ← hn]; exact ⟨hcl.1, hcl.2.imp id (fun ⟨g', cap', cur, e, hbg, r⟩ => ⟨g', cap', cur, e, Nat.le_trans (Nat.le_trans hbs hsz) hbg, r⟩)⟩
      | false =>
        have hsee : seeN v none es = none := by unfold seeN; rw [hwy]; exact if_neg (by rw [hbt]; decide)
        rw [hbe] at hbt
        cases hbt
  | some y0 =>
    have hB' := hB
    obtain ⟨g0, cc0, bA0, bX0, k6, _, _, _, _, hyn⟩ := hB'
    have k60 := k6
    have hy0 : 0 < y0.es.length := List.length_pos_iff.2 hyn
    cases hwy : wayN v es with
    | none =>
      have hsee : seeN v (some y0) es = (some y0) := by unfold seeN; rw [hwy]
      have E : Kept (· = b6) w w := Kept.refl _ _
      go_enter Try.func36, Try.ntmps36
      refine wq fun Q hQ => ?_
      refine sg (.bool false) 4 rfl rfl rfl rfl ?_
      simp only [zp]
      refine st_end ?_
      subst hQ
      refine wp_seq ?_
      refine wq fun Q hQ => ?_
      refine sv (.agg (WL_ v ao nw cw)) 8 rfl rfl (ex_load (p := (.pointer (some ⟨b3, 0, none⟩))) rfl rfl (ld_all k3 Try.underlying32 rfl inf32)) ?_
      simp only [zp]
      refine sm (.slice (some ⟨bE, oE, none⟩) n c0) 9 rfl rfl rfl rfl ?_
      simp only [zp]
      refine st_call (some 10) rfl rfl (lay_no w (Es.blk hE fun b cur hl hc => E.block b (lt_of hc) (fun e => ne_tag k60 hc (by decide) e.symm)) (Nat.le_trans hN E.size) hn h1 hn2 hb hv hwy) (ex_call (f := 37) (vs := [(.agg (WL_ v ao nw cw)), (.slice (some ⟨bE, oE, none⟩) n c0)]) rfl (cf37 _) rfl) ?_
      rintro e W1 ⟨C, rfl, hCs, hC1, B⟩
      refine ⟨_, rfl, ?_⟩
      simp only [zp]
      replace E := E.next B
      replace k3 := keep B k3
      replace k6 := keep B k6
      refine sm (.tuple #[(.agg C), (.bool false)]) 7 rfl rfl rfl rfl ?_
      simp only [zp]
      refine sv (.agg C) 11 rfl rfl (ex_ext rfl rfl rfl) ?_
      simp only [zp]
      refine sv (.bool false) 12 rfl rfl (ex_ext rfl rfl rfl) ?_
      simp only [zp]
      refine st_new (fun b => .pointer (some ⟨b, 0, none⟩)) (some 5) rfl rfl (ex_alloc rfl zero36) ?_
      intro b1 W2 k1 g1 B
      simp only [zp]
      have ne_b1_b3 : b1 ≠ b3 := fun e => by have := lt_of k3; omega
      have ne_b1_b6 : b1 ≠ b6 := fun e => by have := lt_of k6; omega
      have ge_b1 := Nat.le_trans E.size g1
      replace E := E.next B
      replace k3 := keep B k3
      replace k6 := keep B k6
      clear B
      obtain ⟨W3, hst, kn, K⟩ := put_all (D := C) k1 (((show (#[.slice none 0 0, .slice none 0 0, .slice none 0 0, .int .i64 0, .float .f64 0] : Array Value).size = 5 from rfl)).trans (hCs).symm) (inf36.trans (congrArg some (hCs).symm)) hC1
      refine st_sk rfl rfl (ex_store rfl rfl rfl hst) ?_
      replace E := E.putN K ge_b1
      replace k3 := keepK K k3 (fun e => ne_tag k3 k1 (by decide) e)
      replace k6 := keepK K k6 (fun e => by first | exact ne_b6_b1 e | exact ne_b1_b6 e.symm)
      replace k1 := kn
      clear kn K hst
      refine sg (.bool false) 6 rfl rfl rfl rfl ?_
      simp only [zp]
      refine st_end ?_
      subst hQ
      refine wq fun Q hQ => ?_
      refine sm (.bool false) 13 rfl rfl rfl rfl ?_
      simp only [zp]
      refine sm (.bool false) 14 rfl rfl rfl rfl ?_
      simp only [zp]
      refine sn 15 rfl rfl ?_
      simp only [zp]
      refine sn 16 rfl rfl ?_
      simp only [zp]
      refine sn 17 rfl rfl ?_
      simp only [zp]
      refine sv (.bool false) 18 rfl rfl (ex_pkF rfl rfl rfl) ?_
      simp only [zp]
      refine st_end ?_
      subst hQ
      refine wp_cond_false rfl ?_
      refine wp_skip ?_
      refine wq fun Q hQ => ?_
      refine sv (.pointer (some ⟨b6, 0, none⟩)) 23 rfl rfl (ex_fa (p := (.pointer (some ⟨b6, 0, none⟩))) rfl rfl (fa36_0 _ _)) ?_
      simp only [zp]
      refine sv (.slice (some ⟨g0, 0, none⟩) y0.es.length cc0) 24 rfl rfl (ex_load (p := (.pointer (some ⟨b6, 0, none⟩))) rfl rfl (ld33 (at_cell k6 rfl))) ?_
      simp only [zp]
      refine sv (.int .i64 (y0.es.length : Nat)) 25 rfl rfl (ex_len rfl rfl (len33 _ _ _ _ _)) ?_
      simp only [zp]
      refine sv (.bool true) 26 rfl rfl (ex_bin (u := (.int .i64 (y0.es.length : Nat))) (r := (.int .i64 0)) rfl rfl rfl (eg3 _ _ _ _ _ _) (gtr3 _ (decide_eq_true (by omega)))) ?_
      simp only [zp]
      refine sg (.bool true) 4 rfl rfl rfl rfl ?_
      simp only [zp]
      refine st_end ?_
      subst hQ
      refine wp_ret ?_
      repeat (first | refine ret_out ?_ | refine ret_blk ?_)
      refine bodyPost_ret (results_tmp Try.results36 _ _ _) rfl ⟨?_, ?_, E⟩
      · rw [hsee]
        rfl
      · rw [hsee]
        exact hB.blk (k6.trans k60.symm) (fun k C T _ hk hT => E.block k (lt_of hk) (fun e => by subst e; rw [k60] at hk; cases hk; rcases hT with h | h <;> cases h))
    | some y =>
      have hes := way_es hwy
      have hbe := bet_some y (some y0) hy
      rw [hes, ← hn] at hbe
      cases hbt : betB y (some y0) with
      | true =>
        have hsee : seeN v (some y0) es = some y := by unfold seeN; rw [hwy]; exact if_pos hbt
        rw [hbe] at hbt
        have E : Kept (· = b6) w w := Kept.refl _ _
        go_enter Try.func36, Try.ntmps36
        refine wq fun Q hQ => ?_
        refine sg (.bool false) 4 rfl rfl rfl rfl ?_
        simp only [zp]
        refine st_end ?_
        subst hQ
        refine wp_seq ?_
        refine wq fun Q hQ => ?_
        refine sv (.agg (WL_ v ao nw cw)) 8 rfl rfl (ex_load (p := (.pointer (some ⟨b3, 0, none⟩))) rfl rfl (ld_all k3 Try.underlying32 rfl inf32)) ?_
        simp only [zp]
        refine sm (.slice (some ⟨bE, oE, none⟩) n c0) 9 rfl rfl rfl rfl ?_
        simp only [zp]
        refine st_call (some 10) rfl rfl (lay_yes w (Es.blk hE fun b cur hl hc => E.block b (lt_of hc) (fun e => ne_tag k60 hc (by decide) e.symm)) (Nat.le_trans hN E.size) hn h1 hn2 hb hv hwy) (ex_call (f := 37) (vs := [(.agg (WL_ v ao nw cw)), (.slice (some ⟨bE, oE, none⟩) n c0)]) rfl (cf37 _) rfl) ?_
        rintro e W1 ⟨bA, bX, rfl, gA, gX, kA, kX, B⟩
        have gA := Nat.le_trans (Nat.le_trans hbs E.size) gA
        have gX := Nat.le_trans (Nat.le_trans hbs E.size) gX
        refine ⟨_, rfl, ?_⟩
        simp only [zp]
        replace E := E.next B
        replace k3 := keep B k3
        replace k6 := keep B k6
        refine sm (.tuple #[(.agg #[.slice (some ⟨bE, oE, none⟩) n c0, .slice (some ⟨bA, 0, none⟩) n n, .slice (some ⟨bX, 0, none⟩) n n, .int .i64 y.fee, .float .f64 y.cost]), (.bool true)]) 7 rfl rfl rfl rfl ?_
        simp only [zp]
        refine sv (.agg #[.slice (some ⟨bE, oE, none⟩) n c0, .slice (some ⟨bA, 0, none⟩) n n, .slice (some ⟨bX, 0, none⟩) n n, .int .i64 y.fee, .float .f64 y.cost]) 11 rfl rfl (ex_ext rfl rfl rfl) ?_
        simp only [zp]
        refine sv (.bool true) 12 rfl rfl (ex_ext rfl rfl rfl) ?_
        simp only [zp]
        refine st_new (fun b => .pointer (some ⟨b, 0, none⟩)) (some 5) rfl rfl (ex_alloc rfl zero36) ?_
        intro b1 W2 k1 g1 B
        simp only [zp]
        have ne_b1_b3 : b1 ≠ b3 := fun e => by have := lt_of k3; omega
        have ne_b1_b6 : b1 ≠ b6 := fun e => by have := lt_of k6; omega
        have ne_b1_bA : b1 ≠ bA := fun e => by have := lt_of kA; omega
        have ne_b1_bX : b1 ≠ bX := fun e => by have := lt_of kX; omega
        have ge_b1 := Nat.le_trans E.size g1
        replace E := E.next B
        replace k3 := keep B k3
        replace k6 := keep B k6
        replace kA := keep B kA
        replace kX := keep B kX
        clear B
        obtain ⟨W3, hst, kn, K⟩ := put_all (D := #[.slice (some ⟨bE, oE, none⟩) n c0, .slice (some ⟨bA, 0, none⟩) n n, .slice (some ⟨bX, 0, none⟩) n n, .int .i64 y.fee, .float .f64 y.cost]) k1 rfl inf36 one5
        refine st_sk rfl rfl (ex_store rfl rfl rfl hst) ?_
        replace E := E.putN K ge_b1
        replace k3 := keepK K k3 (fun e => ne_tag k3 k1 (by decide) e)
        replace k6 := keepK K k6 (fun e => by first | exact ne_b6_b1 e | exact ne_b1_b6 e.symm)
        replace kA := keepK K kA (fun e => ne_tag kA k1 (by decide) e)
        replace kX := keepK K kX (fun e => ne_tag kX k1 (by decide) e)
        replace k1 := kn
        clear kn K hst
        refine sg (.bool true) 6 rfl rfl rfl rfl ?_
        simp only [zp]
        refine st_end ?_
        subst hQ
        refine wq fun Q hQ => ?_
        refine sm (.bool true) 13 rfl rfl rfl rfl ?_
        simp only [zp]
        refine sm (.bool true) 14 rfl rfl rfl rfl ?_
        simp only [zp]
        refine sv (.agg #[.slice (some ⟨bE, oE, none⟩) n c0, .slice (some ⟨bA, 0, none⟩) n n, .slice (some ⟨bX, 0, none⟩) n n, .int .i64 y.fee, .float .f64 y.cost]) 15 rfl rfl (ex_load (p := (.pointer (some ⟨b1, 0, none⟩))) rfl rfl (ld_all k1 Try.underlying36 rfl inf36)) ?_
        simp only [zp]
        refine sv (.agg #[.slice (some ⟨g0, 0, none⟩) y0.es.length cc0, .slice (some ⟨bA0, 0, none⟩) y0.es.length y0.es.length, .slice (some ⟨bX0, 0, none⟩) y0.es.length y0.es.length, .int .i64 y0.fee, .float .f64 y0.cost]) 16 rfl rfl (ex_load (p := (.pointer (some ⟨b6, 0, none⟩))) rfl rfl (ld_all k6 Try.underlying36 rfl inf36)) ?_
        simp only [zp]
        refine st_call (some 17) rfl rfl (better_any W3 hbt) (ex_call (f := 38) (vs := [(.agg #[.slice (some ⟨bE, oE, none⟩) n c0, .slice (some ⟨bA, 0, none⟩) n n, .slice (some ⟨bX, 0, none⟩) n n, .int .i64 y.fee, .float .f64 y.cost]), (.agg #[.slice (some ⟨g0, 0, none⟩) y0.es.length cc0, .slice (some ⟨bA0, 0, none⟩) y0.es.length y0.es.length, .slice (some ⟨bX0, 0, none⟩) y0.es.length y0.es.length, .int .i64 y0.fee, .float .f64 y0.cost])]) rfl (cf38 _) rfl) ?_
        rintro e W4 ⟨rfl, B⟩
        refine ⟨_, rfl, ?_⟩
        simp only [zp]
        replace E := E.next B
        replace k3 := keep B k3
        replace k6 := keep B k6
        replace kA := keep B kA
        replace kX := keep B kX
        replace k1 := keep B k1
        refine sv (.bool true) 18 rfl rfl (ex_pkT rfl rfl rfl) ?_
        simp only [zp]
        refine st_end ?_
        subst hQ
        refine wp_cond_true rfl ?_
        refine wq fun Q hQ => ?_
        refine sm (.slice (some ⟨bE, oE, none⟩) n c0) 19 rfl rfl rfl rfl ?_
        simp only [zp]
        refine st_call (some 20) rfl rfl (clone_any W4 (Es.blk hE fun b cur hl hc => E.block b (lt_of hc) (fun e => ne_tag k60 hc (by decide) e.symm)) hn h1 (by omega)) (ex_call (f := 39) (vs := [(.slice (some ⟨bE, oE, none⟩) n c0)]) rfl (cf39 _) rfl) ?_
        rintro e W5 ⟨g, cg, rfl, hcl, B⟩
        have hsz := E.size
        refine ⟨_, rfl, ?_⟩
        simp only [zp]
        replace E := E.next B
        replace k3 := keep B k3
        replace k6 := keep B k6
        replace kA := keep B kA
        replace kX := keep B kX
        replace k1 := keep B k1
        refine sv (.pointer (some ⟨b1, 0, none⟩)) 21 rfl rfl (ex_fa (p := (.pointer (some ⟨b1, 0, none⟩))) rfl rfl (fa36_0 _ _)) ?_
        simp only [zp]
        obtain ⟨kn, K⟩ := put_cell (i := 0) (.slice (some ⟨g, 0, none⟩) n cg) k1
        refine st_sk rfl rfl (ex_store rfl rfl rfl (sto33 (at_cell k1 rfl) (unfrozen k1))) ?_
        obtain ⟨W6, hW2⟩ : ∃ W', W5.setCell ⟨b1, 0, none⟩ (.slice (some ⟨g, 0, none⟩) n cg) = W' := ⟨_, rfl⟩
        rw [hW2] at kn K ⊢
        replace E := E.putN K ge_b1
        replace k3 := keepK K k3 (fun e => ne_tag k3 k1 (by decide) e)
        replace k6 := keepK K k6 (fun e => by first | exact ne_b6_b1 e | exact ne_b1_b6 e.symm)
        replace kA := keepK K kA (fun e => ne_tag kA k1 (by decide) e)
        replace kX := keepK K kX (fun e => ne_tag kX k1 (by decide) e)
        replace hcl := own_keepK hcl K (fun q hq e => by have hq : g = q := Option.some.inj hq; subst hq; subst e; exact own_ne hcl k1 (by decide) rfl)
        replace k1 := kn
        clear kn K
        refine st_end ?_
        subst hQ
        refine wl_in (wl_cap fun Q hQ => ?_)
        refine sv (.agg #[(.slice (some ⟨g, 0, none⟩) n cg), (.slice (some ⟨bA, 0, none⟩) n n), (.slice (some ⟨bX, 0, none⟩) n n), (.int .i64 y.fee), (.float .f64 y.cost)]) 22 rfl rfl (ex_load (p := (.pointer (some ⟨b1, 0, none⟩))) rfl rfl (ld_all k1 Try.underlying36 rfl inf36)) ?_
        simp only [zp]
        obtain ⟨W7, hst, kn, K⟩ := put_all (D := #[(.slice (some ⟨g, 0, none⟩) n cg), (.slice (some ⟨bA, 0, none⟩) n n), (.slice (some ⟨bX, 0, none⟩) n n), (.int .i64 y.fee), (.float .f64 y.cost)]) k6 rfl inf36 (by kernel_rfl)
        refine st_sk rfl rfl (ex_store rfl rfl rfl hst) ?_
        replace E := E.putX K
        replace k3 := keepK K k3 (fun e => ne_tag k3 k6 (by decide) e)
        replace kA := keepK K kA (fun e => ne_tag kA k6 (by decide) e)
        replace kX := keepK K kX (fun e => ne_tag kX k6 (by decide) e)
        replace hcl := own_keepK hcl K (fun q hq e => by have hq : g = q := Option.some.inj hq; subst hq; subst e; exact own_ne hcl k6 (by decide) rfl)
        replace k1 := keepK K k1 (fun e => by first | exact ne_b1_b6 e | exact ne_b6_b1 e.symm)
        replace k6 := kn
        clear kn K hst
        refine st_end ?_
        subst hQ
        refine wq fun Q hQ => ?_
        refine sv (.pointer (some ⟨b6, 0, none⟩)) 23 rfl rfl (ex_fa (p := (.pointer (some ⟨b6, 0, none⟩))) rfl rfl (fa36_0 _ _)) ?_
        simp only [zp]
        refine sv (.slice (some ⟨g, 0, none⟩) n cg) 24 rfl rfl (ex_load (p := (.pointer (some ⟨b6, 0, none⟩))) rfl rfl (ld33 (at_cell k6 rfl))) ?_
        simp only [zp]
        refine sv (.int .i64 (n : Nat)) 25 rfl rfl (ex_len rfl rfl (len33 _ _ _ _ _)) ?_
        simp only [zp]
        refine sv (.bool true) 26 rfl rfl (ex_bin (u := (.int .i64 (n : Nat))) (r := (.int .i64 0)) rfl rfl rfl (eg3 _ _ _ _ _ _) (gtr3 _ (decide_eq_true (by omega)))) ?_
        simp only [zp]
        refine sg (.bool true) 4 rfl rfl rfl rfl ?_
        simp only [zp]
        refine st_end ?_
        subst hQ
        refine wp_ret ?_
        repeat (first | refine ret_out ?_ | refine ret_blk ?_)
        refine bodyPost_ret (results_tmp Try.results36 _ _ _) rfl ⟨?_, ?_, E⟩
        · rw [hsee]
          rfl
        · rw [hsee]
          have hes := way_es hwy
          refine ⟨g, cg, bA, bX, ?_, ?_, ⟨gA, gX⟩, kA, kX, by rw [hes]; exact hne⟩
          · rw [hes, ← hn]; exact k6
          · rw [hes, ← hn]; exact ⟨hcl.1, hcl.2.imp id (fun ⟨g', cap', cur, e, hbg, r⟩ => ⟨g', cap', cur, e, Nat.le_trans (Nat.le_trans hbs hsz) hbg, r⟩)⟩
      | false =>
        have hsee : seeN v (some y0) es = (some y0) := by unfold seeN; rw [hwy]; exact if_neg (by rw [hbt]; decide)
        rw [hbe] at hbt
        have E : Kept (· = b6) w w := Kept.refl _ _
        go_enter Try.func36, Try.ntmps36
        refine wq fun Q hQ => ?_
        refine sg (.bool false) 4 rfl rfl rfl rfl ?_
        simp only [zp]
        refine st_end ?_
        subst hQ
        refine wp_seq ?_
        refine wq fun Q hQ => ?_
        refine sv (.agg (WL_ v ao nw cw)) 8 rfl rfl (ex_load (p := (.pointer (some ⟨b3, 0, none⟩))) rfl rfl (ld_all k3 Try.underlying32 rfl inf32)) ?_
        simp only [zp]
        refine sm (.slice (some ⟨bE, oE, none⟩) n c0) 9 rfl rfl rfl rfl ?_
        simp only [zp]
        refine st_call (some 10) rfl rfl (lay_yes w (Es.blk hE fun b cur hl hc => E.block b (lt_of hc) (fun e => ne_tag k60 hc (by decide) e.symm)) (Nat.le_trans hN E.size) hn h1 hn2 hb hv hwy) (ex_call (f := 37) (vs := [(.agg (WL_ v ao nw cw)), (.slice (some ⟨bE, oE, none⟩) n c0)]) rfl (cf37 _) rfl) ?_
        rintro e W1 ⟨bA, bX, rfl, gA, gX, kA, kX, B⟩
        have gA := Nat.le_trans (Nat.le_trans hbs E.size) gA
        have gX := Nat.le_trans (Nat.le_trans hbs E.size) gX
        refine ⟨_, rfl, ?_⟩
        simp only [zp]
        replace E := E.next B
        replace k3 := keep B k3
        replace k6 := keep B k6
        refine sm (.tuple #[(.agg #[.slice (some ⟨bE, oE, none⟩) n c0, .slice (some ⟨bA, 0, none⟩) n n, .slice (some ⟨bX, 0, none⟩) n n, .int .i64 y.fee, .float .f64 y.cost]), (.bool true)]) 7 rfl rfl rfl rfl ?_
        simp only [zp]
        refine sv (.agg #[.slice (some ⟨bE, oE, none⟩) n c0, .slice (some ⟨bA, 0, none⟩) n n, .slice (some ⟨bX, 0, none⟩) n n, .int .i64 y.fee, .float .f64 y.cost]) 11 rfl rfl (ex_ext rfl rfl rfl) ?_
        simp only [zp]
        refine sv (.bool true) 12 rfl rfl (ex_ext rfl rfl rfl) ?_
        simp only [zp]
        refine st_new (fun b => .pointer (some ⟨b, 0, none⟩)) (some 5) rfl rfl (ex_alloc rfl zero36) ?_
        intro b1 W2 k1 g1 B
        simp only [zp]
        have ne_b1_b3 : b1 ≠ b3 := fun e => by have := lt_of k3; omega
        have ne_b1_b6 : b1 ≠ b6 := fun e => by have := lt_of k6; omega
        have ne_b1_bA : b1 ≠ bA := fun e => by have := lt_of kA; omega
        have ne_b1_bX : b1 ≠ bX := fun e => by have := lt_of kX; omega
        have ge_b1 := Nat.le_trans E.size g1
        replace E := E.next B
        replace k3 := keep B k3
        replace k6 := keep B k6
        replace kA := keep B kA
        replace kX := keep B kX
        clear B
        obtain ⟨W3, hst, kn, K⟩ := put_all (D := #[.slice (some ⟨bE, oE, none⟩) n c0, .slice (some ⟨bA, 0, none⟩) n n, .slice (some ⟨bX, 0, none⟩) n n, .int .i64 y.fee, .float .f64 y.cost]) k1 rfl inf36 one5
        refine st_sk rfl rfl (ex_store rfl rfl rfl hst) ?_
        replace E := E.putN K ge_b1
        replace k3 := keepK K k3 (fun e => ne_tag k3 k1 (by decide) e)
        replace k6 := keepK K k6 (fun e => by first | exact ne_b6_b1 e | exact ne_b1_b6 e.symm)
        replace kA := keepK K kA (fun e => ne_tag kA k1 (by decide) e)
        replace kX := keepK K kX (fun e => ne_tag kX k1 (by decide) e)
        replace k1 := kn
        clear kn K hst
        refine sg (.bool true) 6 rfl rfl rfl rfl ?_
        simp only [zp]
        refine st_end ?_
        subst hQ
        refine wq fun Q hQ => ?_
        refine sm (.bool true) 13 rfl rfl rfl rfl ?_
        simp only [zp]
        refine sm (.bool true) 14 rfl rfl rfl rfl ?_
        simp only [zp]
        refine sv (.agg #[.slice (some ⟨bE, oE, none⟩) n c0, .slice (some ⟨bA, 0, none⟩) n n, .slice (some ⟨bX, 0, none⟩) n n, .int .i64 y.fee, .float .f64 y.cost]) 15 rfl rfl (ex_load (p := (.pointer (some ⟨b1, 0, none⟩))) rfl rfl (ld_all k1 Try.underlying36 rfl inf36)) ?_
        simp only [zp]
        refine sv (.agg #[.slice (some ⟨g0, 0, none⟩) y0.es.length cc0, .slice (some ⟨bA0, 0, none⟩) y0.es.length y0.es.length, .slice (some ⟨bX0, 0, none⟩) y0.es.length y0.es.length, .int .i64 y0.fee, .float .f64 y0.cost]) 16 rfl rfl (ex_load (p := (.pointer (some ⟨b6, 0, none⟩))) rfl rfl (ld_all k6 Try.underlying36 rfl inf36)) ?_
        simp only [zp]
        refine st_call (some 17) rfl rfl (better_any W3 hbt) (ex_call (f := 38) (vs := [(.agg #[.slice (some ⟨bE, oE, none⟩) n c0, .slice (some ⟨bA, 0, none⟩) n n, .slice (some ⟨bX, 0, none⟩) n n, .int .i64 y.fee, .float .f64 y.cost]), (.agg #[.slice (some ⟨g0, 0, none⟩) y0.es.length cc0, .slice (some ⟨bA0, 0, none⟩) y0.es.length y0.es.length, .slice (some ⟨bX0, 0, none⟩) y0.es.length y0.es.length, .int .i64 y0.fee, .float .f64 y0.cost])]) rfl (cf38 _) rfl) ?_
        rintro e W4 ⟨rfl, B⟩
        refine ⟨_, rfl, ?_⟩
        simp only [zp]
        replace E := E.next B
        replace k3 := keep B k3
        replace k6 := keep B k6
        replace kA := keep B kA
        replace kX := keep B kX
        replace k1 := keep B k1
        refine sv (.bool false) 18 rfl rfl (ex_pkT rfl rfl rfl) ?_
        simp only [zp]
        refine st_end ?_
        subst hQ
        refine wp_cond_false rfl ?_
        refine wp_skip ?_
        refine wq fun Q hQ => ?_
        refine sv (.pointer (some ⟨b6, 0, none⟩)) 23 rfl rfl (ex_fa (p := (.pointer (some ⟨b6, 0, none⟩))) rfl rfl (fa36_0 _ _)) ?_
        simp only [zp]
        refine sv (.slice (some ⟨g0, 0, none⟩) y0.es.length cc0) 24 rfl rfl (ex_load (p := (.pointer (some ⟨b6, 0, none⟩))) rfl rfl (ld33 (at_cell k6 rfl))) ?_
        simp only [zp]
        refine sv (.int .i64 (y0.es.length : Nat)) 25 rfl rfl (ex_len rfl rfl (len33 _ _ _ _ _)) ?_
        simp only [zp]
        refine sv (.bool true) 26 rfl rfl (ex_bin (u := (.int .i64 (y0.es.length : Nat))) (r := (.int .i64 0)) rfl rfl rfl (eg3 _ _ _ _ _ _) (gtr3 _ (decide_eq_true (by omega)))) ?_
        simp only [zp]
        refine sg (.bool true) 4 rfl rfl rfl rfl ?_
        simp only [zp]
        refine st_end ?_
        subst hQ
        refine wp_ret ?_
        repeat (first | refine ret_out ?_ | refine ret_blk ?_)
        refine bodyPost_ret (results_tmp Try.results36 _ _ _) rfl ⟨?_, ?_, E⟩
        · rw [hsee]
          rfl
        · rw [hsee]
          exact hB.blk (k6.trans k60.symm) (fun k C T _ hk hT => E.block k (lt_of hk) (fun e => by subst e; rw [k60] at hk; cases hk; rcases hT with h | h <;> cases h))
end Go.Proofs.Ytgnkcmmpbohafaa
