/- Policy: more comes in, or more time is left: the walk of PolicyRises. -/
import Derived.Test.YtfbaidmnnkcaeaaPLaw
namespace Go.Proofs.Ytfbaidmnnkcaeaa
open Go.RowKit
set_option linter.unusedVariables false
set_option linter.unusedSimpArgs false
set_option maxRecDepth 100000

theorem fwd_zero {q : RV} {v : HP} {a x h : Int} (e : fwdN q v a x h = 0) : wrongB q a x h = false ∧ ¬ v.ch < 1 ∧ ¬ q.f < x - h ∧ ¬ v.ex ≤ h + q.g ∧ ¬ x - q.d < v.ex ∧ ¬ v.am < 1 ∧ inE q.b q.r v.am = 0 ∧ ¬ a < inN q.b q.r v.am := by
  unfold fwdN at e
  cases e0 : (wrongB q a x h || decide (v.ch < 1)) with
  | true => rw [e0] at e; simp at e
  | false =>
    rw [e0] at e
    obtain ⟨w1, w2⟩ := Bool.or_eq_false_iff.1 e0
    have w2 := of_decide_eq_false w2
    by_cases e1 : q.f < x - h
    · simp [e1] at e
    by_cases e2 : v.ex ≤ h + q.g
    · simp [e1, e2] at e
    by_cases e3 : x - q.d < v.ex
    · simp [e1, e2, e3] at e
    by_cases e4 : v.am < 1
    · simp [e1, e2, e3, e4] at e
    cases e5 : belowB q a v.am with
    | true => simp [e1, e2, e3, e4, e5] at e
    | false =>
      obtain ⟨b1, b2⟩ := Bool.or_eq_false_iff.1 e5
      have b1 := of_decide_eq_false b1
      exact ⟨w1, w2, e1, e2, e3, e4, Classical.not_not.1 b1, of_decide_eq_false b2⟩
theorem wrong_no {q : RV} {a x h : Int} (hm : mayR q = true) (a0 : 0 ≤ a) (x0 : 0 ≤ x) (x1 : x ≤ 2147483647) (h0 : 0 ≤ h) (h1 : h ≤ 2147483647) : wrongB q a x h = false := by
  have e : ¬ a < 0 := by omega
  simp [wrongB, okH, hm, e, x0, x1, h0, h1]
theorem rise_a {q : RV} {v : HP} {a x h : Int} (m : Int) (e : fwdN q v a x h = 0) (hm : 0 ≤ m) : fwdN q v (a + m) x h = 0 := by
  obtain ⟨w, e1, e2, e3, e4, e5, e6, e7⟩ := fwd_zero e
  obtain ⟨m0, a0, x0, x1, h0, h1⟩ := not_wrong w
  have w' : wrongB q (a + m) x h = false := wrong_no m0 (by omega) x0 x1 h0 h1
  have e8 : ¬ a + m < inN q.b q.r v.am := by omega
  simp [fwdN, belowB, w', e1, e2, e3, e4, e5, e6, e8]
theorem rise_x0 {q : RV} {v : HP} {a x h : Int} (l : Int) (e : fwdN q v a x h = 0) (hl : 0 ≤ l) (hx : x + l ≤ 2147483647) (hf : ¬ q.f < x + l - h) : fwdN q v a (x + l) h = 0 := by
  obtain ⟨w, e1, e2, e3, e4, e5, e6, e7⟩ := fwd_zero e
  obtain ⟨m0, a0, x0, x1, h0, h1⟩ := not_wrong w
  have w' : wrongB q a (x + l) h = false := wrong_no m0 a0 (by omega) hx h0 h1
  have e8 : ¬ x + l - q.d < v.ex := by omega
  simp [fwdN, belowB, w', e1, hf, e3, e8, e5, e6, e7]
theorem rise_x6 {q : RV} {v : HP} {a x h : Int} (l : Int) (e : fwdN q v a x h = 0) (hl : 0 ≤ l) (hx : x + l ≤ 2147483647) (hf : q.f < x + l - h) : fwdN q v a (x + l) h = 6 := by
  obtain ⟨w, e1, e2, e3, e4, e5, e6, e7⟩ := fwd_zero e
  obtain ⟨m0, a0, x0, x1, h0, h1⟩ := not_wrong w
  have w' : wrongB q a (x + l) h = false := wrong_no m0 a0 (by omega) hx h0 h1
  simp [fwdN, w', e1, hf]
theorem rise_x1 {q : RV} {v : HP} {a x h : Int} (l : Int) (hx : ¬ x + l ≤ 2147483647) : fwdN q v a (x + l) h = 1 := by
  have w' : wrongB q a (x + l) h = true := by simp [wrongB, okH, hx]
  simp [fwdN, w']
set_option maxHeartbeats 8000000 in
theorem rises_any {q : RV} {H : Array Value} {v : HP} {a x h m l : Int} (w : World) (hH : IsHop H v) (hb : q.b ≤ 9223372036854775807) (y0 : -9223372036854775808 ≤ v.am) (y1 : v.am ≤ 9223372036854775807) (z1 : v.ex ≤ 9223372036854775807) :
    Calls Try.prog 7 #[.agg (RL q), .agg H, .int .i64 a, .int .i64 x, .int .i64 h, .int .i64 m, .int .i64 l] w fun e w' => e = .returned (.bool true) ∧ Below w.heap.size w w' := by
  by_cases e0 : fwdN q v a x h = 0
  · skip
    obtain ⟨nw, _⟩ := fwd_zero e0
    obtain ⟨hm, a0, x0, x1, h0, h1⟩ := not_wrong nw
    by_cases e1 : m < 0
    · skip
      have E : Below w.heap.size w w := Below.refl _ _
      go_enter Try.func7, Try.ntmps7
      refine wq fun Q hQ => ?_
      refine st_new (fun b => .pointer (some ⟨b, 0, none⟩)) (some 7) rfl rfl (ex_box rfl rfl) ?_
      intro b1 W1 k1 g1 B
      simp only [zp]
      have ge_b1 := Nat.le_trans E.size g1
      replace E := below_next E B
      clear B
      refine st_new (fun b => .pointer (some ⟨b, 0, none⟩)) (some 8) rfl rfl (ex_box rfl rfl) ?_
      intro b2 W2 k2 g2 B
      simp only [zp]
      have ne_b2_b1 : b2 ≠ b1 := fun e => by have := lt_of k1; omega
      have ge_b2 := Nat.le_trans E.size g2
      replace E := below_next E B
      replace k1 := keep B k1
      clear B
      refine sg (.bool false) 14 rfl rfl rfl rfl ?_
      simp only [zp]
      refine st_end ?_
      subst hQ
      refine wp_seq ?_
      refine wq fun Q hQ => ?_
      refine st_call (some 17) rfl rfl (lives_any W2) (ex_call (f := 8) (vs := []) rfl (cf8 _) rfl) ?_
      rintro e W3 ⟨rfl, B⟩
      refine ⟨_, rfl, ?_⟩
      simp only [zp]
      replace E := below_next E B
      replace k1 := keep B k1
      replace k2 := keep B k2
      refine sv (.bool false) 18 rfl rfl (ex_not rfl rfl rfl) ?_
      simp only [zp]
      refine sm (.bool false) 19 rfl rfl rfl rfl ?_
      simp only [zp]
      refine sv (.agg (RL q)) 20 rfl rfl (ex_load (p := (.pointer (some ⟨b1, 0, none⟩))) rfl rfl (ld_all k1 Try.underlying25 rfl inf25)) ?_
      simp only [zp]
      refine sv (.agg H) 21 rfl rfl (ex_load (p := (.pointer (some ⟨b2, 0, none⟩))) rfl rfl (ld_all k2 Try.underlying28 rfl (inf28.trans (congrArg some (hH.size).symm)))) ?_
      simp only [zp]
      refine sm (.int .i64 a) 22 rfl rfl rfl rfl ?_
      simp only [zp]
      refine sm (.int .i64 x) 23 rfl rfl rfl rfl ?_
      simp only [zp]
      refine sm (.int .i64 h) 24 rfl rfl rfl rfl ?_
      simp only [zp]
      refine st_call (some 25) rfl rfl (fwd_any W3 hH hb y0 y1 rfl) (ex_call (f := 11) (vs := [(.agg (RL q)), (.agg H), (.int .i64 a), (.int .i64 x), (.int .i64 h)]) rfl (cf11 _) rfl) ?_
      rintro e W4 ⟨rfl, B⟩
      refine ⟨_, rfl, ?_⟩
      simp only [zp]
      replace E := below_next E B
      replace k1 := keep B k1
      replace k2 := keep B k2
      refine sv (.bool false) 26 rfl rfl (ex_bin (u := (.int .i64 (fwdN q v a x h))) (r := (.int .i64 0)) rfl rfl rfl (eg3 _ _ _ _ _ _) (neq3 _ (decide_eq_false (fun h => h e0)))) ?_
      simp only [zp]
      refine sv (.bool false) 27 rfl rfl (ex_pkF rfl rfl rfl) ?_
      simp only [zp]
      refine sm (.bool false) 28 rfl rfl rfl rfl ?_
      simp only [zp]
      refine sm (.int .i64 m) 29 rfl rfl rfl rfl ?_
      simp only [zp]
      refine sv (.bool true) 30 rfl rfl (ex_bin (u := (.int .i64 m)) (r := (.int .i64 0)) rfl rfl rfl (eg3 _ _ _ _ _ _) (lss3 _ (decide_eq_true (by omega)))) ?_
      simp only [zp]
      refine sv (.bool true) 31 rfl rfl (ex_pkF rfl rfl rfl) ?_
      simp only [zp]
      refine sm (.bool true) 32 rfl rfl rfl rfl ?_
      simp only [zp]
      refine sn 33 rfl rfl ?_
      simp only [zp]
      refine sn 34 rfl rfl ?_
      simp only [zp]
      refine sv (.bool true) 35 rfl rfl (ex_pkT rfl rfl rfl) ?_
      simp only [zp]
      refine sm (.bool true) 36 rfl rfl rfl rfl ?_
      simp only [zp]
      refine sn 37 rfl rfl ?_
      simp only [zp]
      refine sn 38 rfl rfl ?_
      simp only [zp]
      refine sv (.bool true) 39 rfl rfl (ex_pkT rfl rfl rfl) ?_
      simp only [zp]
      refine sm (.bool true) 40 rfl rfl rfl rfl ?_
      simp only [zp]
      refine sn 41 rfl rfl ?_
      simp only [zp]
      refine sn 42 rfl rfl ?_
      simp only [zp]
      refine sv (.bool true) 43 rfl rfl (ex_pkT rfl rfl rfl) ?_
      simp only [zp]
      refine sm (.bool true) 44 rfl rfl rfl rfl ?_
      simp only [zp]
      refine sn 45 rfl rfl ?_
      simp only [zp]
      refine sn 46 rfl rfl ?_
      simp only [zp]
      refine sv (.bool true) 47 rfl rfl (ex_pkT rfl rfl rfl) ?_
      simp only [zp]
      refine st_end ?_
      subst hQ
      refine wp_cond_true rfl ?_
      refine wq fun Q hQ => ?_
      refine st_call (some 48) rfl rfl (lives_any W4) (ex_call (f := 8) (vs := []) rfl (cf8 _) rfl) ?_
      rintro e W5 ⟨rfl, B⟩
      refine ⟨_, rfl, ?_⟩
      simp only [zp]
      replace E := below_next E B
      replace k1 := keep B k1
      replace k2 := keep B k2
      refine sg (.bool true) 14 rfl rfl rfl rfl ?_
      simp only [zp]
      refine st_end ?_
      subst hQ
      refine wp_ret ?_
      repeat (first | refine ret_out ?_ | refine ret_blk ?_)
      exact bodyPost_ret (results_tmp Try.results7 _ _ _) rfl ⟨rfl, E⟩
    · skip
      by_cases e2 : l < 0
      · skip
        have E : Below w.heap.size w w := Below.refl _ _
        go_enter Try.func7, Try.ntmps7
        refine wq fun Q hQ => ?_
        refine st_new (fun b => .pointer (some ⟨b, 0, none⟩)) (some 7) rfl rfl (ex_box rfl rfl) ?_
        intro b1 W1 k1 g1 B
        simp only [zp]
        have ge_b1 := Nat.le_trans E.size g1
        replace E := below_next E B
        clear B
        refine st_new (fun b => .pointer (some ⟨b, 0, none⟩)) (some 8) rfl rfl (ex_box rfl rfl) ?_
        intro b2 W2 k2 g2 B
        simp only [zp]
        have ne_b2_b1 : b2 ≠ b1 := fun e => by have := lt_of k1; omega
        have ge_b2 := Nat.le_trans E.size g2
        replace E := below_next E B
        replace k1 := keep B k1
        clear B
        refine sg (.bool false) 14 rfl rfl rfl rfl ?_
        simp only [zp]
        refine st_end ?_
        subst hQ
        refine wp_seq ?_
        refine wq fun Q hQ => ?_
        refine st_call (some 17) rfl rfl (lives_any W2) (ex_call (f := 8) (vs := []) rfl (cf8 _) rfl) ?_
        rintro e W3 ⟨rfl, B⟩
        refine ⟨_, rfl, ?_⟩
        simp only [zp]
        replace E := below_next E B
        replace k1 := keep B k1
        replace k2 := keep B k2
        refine sv (.bool false) 18 rfl rfl (ex_not rfl rfl rfl) ?_
        simp only [zp]
        refine sm (.bool false) 19 rfl rfl rfl rfl ?_
        simp only [zp]
        refine sv (.agg (RL q)) 20 rfl rfl (ex_load (p := (.pointer (some ⟨b1, 0, none⟩))) rfl rfl (ld_all k1 Try.underlying25 rfl inf25)) ?_
        simp only [zp]
        refine sv (.agg H) 21 rfl rfl (ex_load (p := (.pointer (some ⟨b2, 0, none⟩))) rfl rfl (ld_all k2 Try.underlying28 rfl (inf28.trans (congrArg some (hH.size).symm)))) ?_
        simp only [zp]
        refine sm (.int .i64 a) 22 rfl rfl rfl rfl ?_
        simp only [zp]
        refine sm (.int .i64 x) 23 rfl rfl rfl rfl ?_
        simp only [zp]
        refine sm (.int .i64 h) 24 rfl rfl rfl rfl ?_
        simp only [zp]
        refine st_call (some 25) rfl rfl (fwd_any W3 hH hb y0 y1 rfl) (ex_call (f := 11) (vs := [(.agg (RL q)), (.agg H), (.int .i64 a), (.int .i64 x), (.int .i64 h)]) rfl (cf11 _) rfl) ?_
        rintro e W4 ⟨rfl, B⟩
        refine ⟨_, rfl, ?_⟩
        simp only [zp]
        replace E := below_next E B
        replace k1 := keep B k1
        replace k2 := keep B k2
        refine sv (.bool false) 26 rfl rfl (ex_bin (u := (.int .i64 (fwdN q v a x h))) (r := (.int .i64 0)) rfl rfl rfl (eg3 _ _ _ _ _ _) (neq3 _ (decide_eq_false (fun h => h e0)))) ?_
        simp only [zp]
        refine sv (.bool false) 27 rfl rfl (ex_pkF rfl rfl rfl) ?_
        simp only [zp]
        refine sm (.bool false) 28 rfl rfl rfl rfl ?_
        simp only [zp]
        refine sm (.int .i64 m) 29 rfl rfl rfl rfl ?_
        simp only [zp]
        refine sv (.bool false) 30 rfl rfl (ex_bin (u := (.int .i64 m)) (r := (.int .i64 0)) rfl rfl rfl (eg3 _ _ _ _ _ _) (lss3 _ (decide_eq_false (by omega)))) ?_
        simp only [zp]
        refine sv (.bool false) 31 rfl rfl (ex_pkF rfl rfl rfl) ?_
        simp only [zp]
        refine sm (.bool false) 32 rfl rfl rfl rfl ?_
        simp only [zp]
        refine sm (.int .i64 l) 33 rfl rfl rfl rfl ?_
        simp only [zp]
        refine sv (.bool true) 34 rfl rfl (ex_bin (u := (.int .i64 l)) (r := (.int .i64 0)) rfl rfl rfl (eg3 _ _ _ _ _ _) (lss3 _ (decide_eq_true (by omega)))) ?_
        simp only [zp]
        refine sv (.bool true) 35 rfl rfl (ex_pkF rfl rfl rfl) ?_
        simp only [zp]
        refine sm (.bool true) 36 rfl rfl rfl rfl ?_
        simp only [zp]
        refine sn 37 rfl rfl ?_
        simp only [zp]
        refine sn 38 rfl rfl ?_
        simp only [zp]
        refine sv (.bool true) 39 rfl rfl (ex_pkT rfl rfl rfl) ?_
        simp only [zp]
        refine sm (.bool true) 40 rfl rfl rfl rfl ?_
        simp only [zp]
        refine sn 41 rfl rfl ?_
        simp only [zp]
        refine sn 42 rfl rfl ?_
        simp only [zp]
        refine sv (.bool true) 43 rfl rfl (ex_pkT rfl rfl rfl) ?_
        simp only [zp]
        refine sm (.bool true) 44 rfl rfl rfl rfl ?_
        simp only [zp]
        refine sn 45 rfl rfl ?_
        simp only [zp]
        refine sn 46 rfl rfl ?_
        simp only [zp]
        refine sv (.bool true) 47 rfl rfl (ex_pkT rfl rfl rfl) ?_
        simp only [zp]
        refine st_end ?_
        subst hQ
        refine wp_cond_true rfl ?_
        refine wq fun Q hQ => ?_
        refine st_call (some 48) rfl rfl (lives_any W4) (ex_call (f := 8) (vs := []) rfl (cf8 _) rfl) ?_
        rintro e W5 ⟨rfl, B⟩
        refine ⟨_, rfl, ?_⟩
        simp only [zp]
        replace E := below_next E B
        replace k1 := keep B k1
        replace k2 := keep B k2
        refine sg (.bool true) 14 rfl rfl rfl rfl ?_
        simp only [zp]
        refine st_end ?_
        subst hQ
        refine wp_ret ?_
        repeat (first | refine ret_out ?_ | refine ret_blk ?_)
        exact bodyPost_ret (results_tmp Try.results7 _ _ _) rfl ⟨rfl, E⟩
      · skip
        by_cases e3 : 1073741824 < l
        · skip
          have E : Below w.heap.size w w := Below.refl _ _
          go_enter Try.func7, Try.ntmps7
          refine wq fun Q hQ => ?_
          refine st_new (fun b => .pointer (some ⟨b, 0, none⟩)) (some 7) rfl rfl (ex_box rfl rfl) ?_
          intro b1 W1 k1 g1 B
          simp only [zp]
          have ge_b1 := Nat.le_trans E.size g1
          replace E := below_next E B
          clear B
          refine st_new (fun b => .pointer (some ⟨b, 0, none⟩)) (some 8) rfl rfl (ex_box rfl rfl) ?_
          intro b2 W2 k2 g2 B
          simp only [zp]
          have ne_b2_b1 : b2 ≠ b1 := fun e => by have := lt_of k1; omega
          have ge_b2 := Nat.le_trans E.size g2
          replace E := below_next E B
          replace k1 := keep B k1
          clear B
          refine sg (.bool false) 14 rfl rfl rfl rfl ?_
          simp only [zp]
          refine st_end ?_
          subst hQ
          refine wp_seq ?_
          refine wq fun Q hQ => ?_
          refine st_call (some 17) rfl rfl (lives_any W2) (ex_call (f := 8) (vs := []) rfl (cf8 _) rfl) ?_
          rintro e W3 ⟨rfl, B⟩
          refine ⟨_, rfl, ?_⟩
          simp only [zp]
          replace E := below_next E B
          replace k1 := keep B k1
          replace k2 := keep B k2
          refine sv (.bool false) 18 rfl rfl (ex_not rfl rfl rfl) ?_
          simp only [zp]
          refine sm (.bool false) 19 rfl rfl rfl rfl ?_
          simp only [zp]
          refine sv (.agg (RL q)) 20 rfl rfl (ex_load (p := (.pointer (some ⟨b1, 0, none⟩))) rfl rfl (ld_all k1 Try.underlying25 rfl inf25)) ?_
          simp only [zp]
          refine sv (.agg H) 21 rfl rfl (ex_load (p := (.pointer (some ⟨b2, 0, none⟩))) rfl rfl (ld_all k2 Try.underlying28 rfl (inf28.trans (congrArg some (hH.size).symm)))) ?_
          simp only [zp]
          refine sm (.int .i64 a) 22 rfl rfl rfl rfl ?_
          simp only [zp]
          refine sm (.int .i64 x) 23 rfl rfl rfl rfl ?_
          simp only [zp]
          refine sm (.int .i64 h) 24 rfl rfl rfl rfl ?_
          simp only [zp]
          refine st_call (some 25) rfl rfl (fwd_any W3 hH hb y0 y1 rfl) (ex_call (f := 11) (vs := [(.agg (RL q)), (.agg H), (.int .i64 a), (.int .i64 x), (.int .i64 h)]) rfl (cf11 _) rfl) ?_
          rintro e W4 ⟨rfl, B⟩
          refine ⟨_, rfl, ?_⟩
          simp only [zp]
          replace E := below_next E B
          replace k1 := keep B k1
          replace k2 := keep B k2
          refine sv (.bool false) 26 rfl rfl (ex_bin (u := (.int .i64 (fwdN q v a x h))) (r := (.int .i64 0)) rfl rfl rfl (eg3 _ _ _ _ _ _) (neq3 _ (decide_eq_false (fun h => h e0)))) ?_
          simp only [zp]
          refine sv (.bool false) 27 rfl rfl (ex_pkF rfl rfl rfl) ?_
          simp only [zp]
          refine sm (.bool false) 28 rfl rfl rfl rfl ?_
          simp only [zp]
          refine sm (.int .i64 m) 29 rfl rfl rfl rfl ?_
          simp only [zp]
          refine sv (.bool false) 30 rfl rfl (ex_bin (u := (.int .i64 m)) (r := (.int .i64 0)) rfl rfl rfl (eg3 _ _ _ _ _ _) (lss3 _ (decide_eq_false (by omega)))) ?_
          simp only [zp]
          refine sv (.bool false) 31 rfl rfl (ex_pkF rfl rfl rfl) ?_
          simp only [zp]
          refine sm (.bool false) 32 rfl rfl rfl rfl ?_
          simp only [zp]
          refine sm (.int .i64 l) 33 rfl rfl rfl rfl ?_
          simp only [zp]
          refine sv (.bool false) 34 rfl rfl (ex_bin (u := (.int .i64 l)) (r := (.int .i64 0)) rfl rfl rfl (eg3 _ _ _ _ _ _) (lss3 _ (decide_eq_false (by omega)))) ?_
          simp only [zp]
          refine sv (.bool false) 35 rfl rfl (ex_pkF rfl rfl rfl) ?_
          simp only [zp]
          refine sm (.bool false) 36 rfl rfl rfl rfl ?_
          simp only [zp]
          refine sm (.int .i64 l) 37 rfl rfl rfl rfl ?_
          simp only [zp]
          refine sv (.bool true) 38 rfl rfl (ex_bin (u := (.int .i64 l)) (r := (.int .i64 1073741824)) rfl rfl rfl (eg3 _ _ _ _ _ _) (gtr3 _ (decide_eq_true (by omega)))) ?_
          simp only [zp]
          refine sv (.bool true) 39 rfl rfl (ex_pkF rfl rfl rfl) ?_
          simp only [zp]
          refine sm (.bool true) 40 rfl rfl rfl rfl ?_
          simp only [zp]
          refine sn 41 rfl rfl ?_
          simp only [zp]
          refine sn 42 rfl rfl ?_
          simp only [zp]
          refine sv (.bool true) 43 rfl rfl (ex_pkT rfl rfl rfl) ?_
          simp only [zp]
          refine sm (.bool true) 44 rfl rfl rfl rfl ?_
          simp only [zp]
          refine sn 45 rfl rfl ?_
          simp only [zp]
          refine sn 46 rfl rfl ?_
          simp only [zp]
          refine sv (.bool true) 47 rfl rfl (ex_pkT rfl rfl rfl) ?_
          simp only [zp]
          refine st_end ?_
          subst hQ
          refine wp_cond_true rfl ?_
          refine wq fun Q hQ => ?_
          refine st_call (some 48) rfl rfl (lives_any W4) (ex_call (f := 8) (vs := []) rfl (cf8 _) rfl) ?_
          rintro e W5 ⟨rfl, B⟩
          refine ⟨_, rfl, ?_⟩
          simp only [zp]
          replace E := below_next E B
          replace k1 := keep B k1
          replace k2 := keep B k2
          refine sg (.bool true) 14 rfl rfl rfl rfl ?_
          simp only [zp]
          refine st_end ?_
          subst hQ
          refine wp_ret ?_
          repeat (first | refine ret_out ?_ | refine ret_blk ?_)
          exact bodyPost_ret (results_tmp Try.results7 _ _ _) rfl ⟨rfl, E⟩
        · skip
          by_cases e4 : 4611686018427387903 < a
          · skip
            have E : Below w.heap.size w w := Below.refl _ _
            go_enter Try.func7, Try.ntmps7
            refine wq fun Q hQ => ?_
            refine st_new (fun b => .pointer (some ⟨b, 0, none⟩)) (some 7) rfl rfl (ex_box rfl rfl) ?_
            intro b1 W1 k1 g1 B
            simp only [zp]
            have ge_b1 := Nat.le_trans E.size g1
            replace E := below_next E B
            clear B
            refine st_new (fun b => .pointer (some ⟨b, 0, none⟩)) (some 8) rfl rfl (ex_box rfl rfl) ?_
            intro b2 W2 k2 g2 B
            simp only [zp]
            have ne_b2_b1 : b2 ≠ b1 := fun e => by have := lt_of k1; omega
            have ge_b2 := Nat.le_trans E.size g2
            replace E := below_next E B
            replace k1 := keep B k1
            clear B
            refine sg (.bool false) 14 rfl rfl rfl rfl ?_
            simp only [zp]
            refine st_end ?_
            subst hQ
            refine wp_seq ?_
            refine wq fun Q hQ => ?_
            refine st_call (some 17) rfl rfl (lives_any W2) (ex_call (f := 8) (vs := []) rfl (cf8 _) rfl) ?_
            rintro e W3 ⟨rfl, B⟩
            refine ⟨_, rfl, ?_⟩
            simp only [zp]
            replace E := below_next E B
            replace k1 := keep B k1
            replace k2 := keep B k2
            refine sv (.bool false) 18 rfl rfl (ex_not rfl rfl rfl) ?_
            simp only [zp]
            refine sm (.bool false) 19 rfl rfl rfl rfl ?_
            simp only [zp]
            refine sv (.agg (RL q)) 20 rfl rfl (ex_load (p := (.pointer (some ⟨b1, 0, none⟩))) rfl rfl (ld_all k1 Try.underlying25 rfl inf25)) ?_
            simp only [zp]
            refine sv (.agg H) 21 rfl rfl (ex_load (p := (.pointer (some ⟨b2, 0, none⟩))) rfl rfl (ld_all k2 Try.underlying28 rfl (inf28.trans (congrArg some (hH.size).symm)))) ?_
            simp only [zp]
            refine sm (.int .i64 a) 22 rfl rfl rfl rfl ?_
            simp only [zp]
            refine sm (.int .i64 x) 23 rfl rfl rfl rfl ?_
            simp only [zp]
            refine sm (.int .i64 h) 24 rfl rfl rfl rfl ?_
            simp only [zp]
            refine st_call (some 25) rfl rfl (fwd_any W3 hH hb y0 y1 rfl) (ex_call (f := 11) (vs := [(.agg (RL q)), (.agg H), (.int .i64 a), (.int .i64 x), (.int .i64 h)]) rfl (cf11 _) rfl) ?_
            rintro e W4 ⟨rfl, B⟩
            refine ⟨_, rfl, ?_⟩
            simp only [zp]
            replace E := below_next E B
            replace k1 := keep B k1
            replace k2 := keep B k2
            refine sv (.bool false) 26 rfl rfl (ex_bin (u := (.int .i64 (fwdN q v a x h))) (r := (.int .i64 0)) rfl rfl rfl (eg3 _ _ _ _ _ _) (neq3 _ (decide_eq_false (fun h => h e0)))) ?_
            simp only [zp]
            refine sv (.bool false) 27 rfl rfl (ex_pkF rfl rfl rfl) ?_
            simp only [zp]
            refine sm (.bool false) 28 rfl rfl rfl rfl ?_
            simp only [zp]
            refine sm (.int .i64 m) 29 rfl rfl rfl rfl ?_
            simp only [zp]
            refine sv (.bool false) 30 rfl rfl (ex_bin (u := (.int .i64 m)) (r := (.int .i64 0)) rfl rfl rfl (eg3 _ _ _ _ _ _) (lss3 _ (decide_eq_false (by omega)))) ?_
            simp only [zp]
            refine sv (.bool false) 31 rfl rfl (ex_pkF rfl rfl rfl) ?_
            simp only [zp]
            refine sm (.bool false) 32 rfl rfl rfl rfl ?_
            simp only [zp]
            refine sm (.int .i64 l) 33 rfl rfl rfl rfl ?_
            simp only [zp]
            refine sv (.bool false) 34 rfl rfl (ex_bin (u := (.int .i64 l)) (r := (.int .i64 0)) rfl rfl rfl (eg3 _ _ _ _ _ _) (lss3 _ (decide_eq_false (by omega)))) ?_
            simp only [zp]
            refine sv (.bool false) 35 rfl rfl (ex_pkF rfl rfl rfl) ?_
            simp only [zp]
            refine sm (.bool false) 36 rfl rfl rfl rfl ?_
            simp only [zp]
            refine sm (.int .i64 l) 37 rfl rfl rfl rfl ?_
            simp only [zp]
            refine sv (.bool false) 38 rfl rfl (ex_bin (u := (.int .i64 l)) (r := (.int .i64 1073741824)) rfl rfl rfl (eg3 _ _ _ _ _ _) (gtr3 _ (decide_eq_false (by omega)))) ?_
            simp only [zp]
            refine sv (.bool false) 39 rfl rfl (ex_pkF rfl rfl rfl) ?_
            simp only [zp]
            refine sm (.bool false) 40 rfl rfl rfl rfl ?_
            simp only [zp]
            refine sm (.int .i64 a) 41 rfl rfl rfl rfl ?_
            simp only [zp]
            refine sv (.bool true) 42 rfl rfl (ex_bin (u := (.int .i64 a)) (r := (.int .i64 4611686018427387903)) rfl rfl rfl (eg3 _ _ _ _ _ _) (gtr3 _ (decide_eq_true (by omega)))) ?_
            simp only [zp]
            refine sv (.bool true) 43 rfl rfl (ex_pkF rfl rfl rfl) ?_
            simp only [zp]
            refine sm (.bool true) 44 rfl rfl rfl rfl ?_
            simp only [zp]
            refine sn 45 rfl rfl ?_
            simp only [zp]
            refine sn 46 rfl rfl ?_
            simp only [zp]
            refine sv (.bool true) 47 rfl rfl (ex_pkT rfl rfl rfl) ?_
            simp only [zp]
            refine st_end ?_
            subst hQ
            refine wp_cond_true rfl ?_
            refine wq fun Q hQ => ?_
            refine st_call (some 48) rfl rfl (lives_any W4) (ex_call (f := 8) (vs := []) rfl (cf8 _) rfl) ?_
            rintro e W5 ⟨rfl, B⟩
            refine ⟨_, rfl, ?_⟩
            simp only [zp]
            replace E := below_next E B
            replace k1 := keep B k1
            replace k2 := keep B k2
            refine sg (.bool true) 14 rfl rfl rfl rfl ?_
            simp only [zp]
            refine st_end ?_
            subst hQ
            refine wp_ret ?_
            repeat (first | refine ret_out ?_ | refine ret_blk ?_)
            exact bodyPost_ret (results_tmp Try.results7 _ _ _) rfl ⟨rfl, E⟩
          · skip
            by_cases e5 : 4611686018427387904 < m
            · skip
              have E : Below w.heap.size w w := Below.refl _ _
              go_enter Try.func7, Try.ntmps7
              refine wq fun Q hQ => ?_
              refine st_new (fun b => .pointer (some ⟨b, 0, none⟩)) (some 7) rfl rfl (ex_box rfl rfl) ?_
              intro b1 W1 k1 g1 B
              simp only [zp]
              have ge_b1 := Nat.le_trans E.size g1
              replace E := below_next E B
              clear B
              refine st_new (fun b => .pointer (some ⟨b, 0, none⟩)) (some 8) rfl rfl (ex_box rfl rfl) ?_
              intro b2 W2 k2 g2 B
              simp only [zp]
              have ne_b2_b1 : b2 ≠ b1 := fun e => by have := lt_of k1; omega
              have ge_b2 := Nat.le_trans E.size g2
              replace E := below_next E B
              replace k1 := keep B k1
              clear B
              refine sg (.bool false) 14 rfl rfl rfl rfl ?_
              simp only [zp]
              refine st_end ?_
              subst hQ
              refine wp_seq ?_
              refine wq fun Q hQ => ?_
              refine st_call (some 17) rfl rfl (lives_any W2) (ex_call (f := 8) (vs := []) rfl (cf8 _) rfl) ?_
              rintro e W3 ⟨rfl, B⟩
              refine ⟨_, rfl, ?_⟩
              simp only [zp]
              replace E := below_next E B
              replace k1 := keep B k1
              replace k2 := keep B k2
              refine sv (.bool false) 18 rfl rfl (ex_not rfl rfl rfl) ?_
              simp only [zp]
              refine sm (.bool false) 19 rfl rfl rfl rfl ?_
              simp only [zp]
              refine sv (.agg (RL q)) 20 rfl rfl (ex_load (p := (.pointer (some ⟨b1, 0, none⟩))) rfl rfl (ld_all k1 Try.underlying25 rfl inf25)) ?_
              simp only [zp]
              refine sv (.agg H) 21 rfl rfl (ex_load (p := (.pointer (some ⟨b2, 0, none⟩))) rfl rfl (ld_all k2 Try.underlying28 rfl (inf28.trans (congrArg some (hH.size).symm)))) ?_
              simp only [zp]
              refine sm (.int .i64 a) 22 rfl rfl rfl rfl ?_
              simp only [zp]
              refine sm (.int .i64 x) 23 rfl rfl rfl rfl ?_
              simp only [zp]
              refine sm (.int .i64 h) 24 rfl rfl rfl rfl ?_
              simp only [zp]
              refine st_call (some 25) rfl rfl (fwd_any W3 hH hb y0 y1 rfl) (ex_call (f := 11) (vs := [(.agg (RL q)), (.agg H), (.int .i64 a), (.int .i64 x), (.int .i64 h)]) rfl (cf11 _) rfl) ?_
              rintro e W4 ⟨rfl, B⟩
              refine ⟨_, rfl, ?_⟩
              simp only [zp]
              replace E := below_next E B
              replace k1 := keep B k1
              replace k2 := keep B k2
              refine sv (.bool false) 26 rfl rfl (ex_bin (u := (.int .i64 (fwdN q v a x h))) (r := (.int .i64 0)) rfl rfl rfl (eg3 _ _ _ _ _ _) (neq3 _ (decide_eq_false (fun h => h e0)))) ?_
              simp only [zp]
              refine sv (.bool false) 27 rfl rfl (ex_pkF rfl rfl rfl) ?_
              simp only [zp]
              refine sm (.bool false) 28 rfl rfl rfl rfl ?_
              simp only [zp]
              refine sm (.int .i64 m) 29 rfl rfl rfl rfl ?_
              simp only [zp]
              refine sv (.bool false) 30 rfl rfl (ex_bin (u := (.int .i64 m)) (r := (.int .i64 0)) rfl rfl rfl (eg3 _ _ _ _ _ _) (lss3 _ (decide_eq_false (by omega)))) ?_
              simp only [zp]
              refine sv (.bool false) 31 rfl rfl (ex_pkF rfl rfl rfl) ?_
              simp only [zp]
              refine sm (.bool false) 32 rfl rfl rfl rfl ?_
              simp only [zp]
              refine sm (.int .i64 l) 33 rfl rfl rfl rfl ?_
              simp only [zp]
              refine sv (.bool false) 34 rfl rfl (ex_bin (u := (.int .i64 l)) (r := (.int .i64 0)) rfl rfl rfl (eg3 _ _ _ _ _ _) (lss3 _ (decide_eq_false (by omega)))) ?_
              simp only [zp]
              refine sv (.bool false) 35 rfl rfl (ex_pkF rfl rfl rfl) ?_
              simp only [zp]
              refine sm (.bool false) 36 rfl rfl rfl rfl ?_
              simp only [zp]
              refine sm (.int .i64 l) 37 rfl rfl rfl rfl ?_
              simp only [zp]
              refine sv (.bool false) 38 rfl rfl (ex_bin (u := (.int .i64 l)) (r := (.int .i64 1073741824)) rfl rfl rfl (eg3 _ _ _ _ _ _) (gtr3 _ (decide_eq_false (by omega)))) ?_
              simp only [zp]
              refine sv (.bool false) 39 rfl rfl (ex_pkF rfl rfl rfl) ?_
              simp only [zp]
              refine sm (.bool false) 40 rfl rfl rfl rfl ?_
              simp only [zp]
              refine sm (.int .i64 a) 41 rfl rfl rfl rfl ?_
              simp only [zp]
              refine sv (.bool false) 42 rfl rfl (ex_bin (u := (.int .i64 a)) (r := (.int .i64 4611686018427387903)) rfl rfl rfl (eg3 _ _ _ _ _ _) (gtr3 _ (decide_eq_false (by omega)))) ?_
              simp only [zp]
              refine sv (.bool false) 43 rfl rfl (ex_pkF rfl rfl rfl) ?_
              simp only [zp]
              refine sm (.bool false) 44 rfl rfl rfl rfl ?_
              simp only [zp]
              refine sm (.int .i64 m) 45 rfl rfl rfl rfl ?_
              simp only [zp]
              refine sv (.bool true) 46 rfl rfl (ex_bin (u := (.int .i64 m)) (r := (.int .i64 4611686018427387904)) rfl rfl rfl (eg3 _ _ _ _ _ _) (gtr3 _ (decide_eq_true (by omega)))) ?_
              simp only [zp]
              refine sv (.bool true) 47 rfl rfl (ex_pkF rfl rfl rfl) ?_
              simp only [zp]
              refine st_end ?_
              subst hQ
              refine wp_cond_true rfl ?_
              refine wq fun Q hQ => ?_
              refine st_call (some 48) rfl rfl (lives_any W4) (ex_call (f := 8) (vs := []) rfl (cf8 _) rfl) ?_
              rintro e W5 ⟨rfl, B⟩
              refine ⟨_, rfl, ?_⟩
              simp only [zp]
              replace E := below_next E B
              replace k1 := keep B k1
              replace k2 := keep B k2
              refine sg (.bool true) 14 rfl rfl rfl rfl ?_
              simp only [zp]
              refine st_end ?_
              subst hQ
              refine wp_ret ?_
              repeat (first | refine ret_out ?_ | refine ret_blk ?_)
              exact bodyPost_ret (results_tmp Try.results7 _ _ _) rfl ⟨rfl, E⟩
            · skip
              by_cases e6 : x + l ≤ 2147483647
              · skip
                by_cases e7 : q.f < x + l - h
                · skip
                  have E : Below w.heap.size w w := Below.refl _ _
                  go_enter Try.func7, Try.ntmps7
                  refine wq fun Q hQ => ?_
                  refine st_new (fun b => .pointer (some ⟨b, 0, none⟩)) (some 7) rfl rfl (ex_box rfl rfl) ?_
                  intro b1 W1 k1 g1 B
                  simp only [zp]
                  have ge_b1 := Nat.le_trans E.size g1
                  replace E := below_next E B
                  clear B
                  refine st_new (fun b => .pointer (some ⟨b, 0, none⟩)) (some 8) rfl rfl (ex_box rfl rfl) ?_
                  intro b2 W2 k2 g2 B
                  simp only [zp]
                  have ne_b2_b1 : b2 ≠ b1 := fun e => by have := lt_of k1; omega
                  have ge_b2 := Nat.le_trans E.size g2
                  replace E := below_next E B
                  replace k1 := keep B k1
                  clear B
                  refine sg (.bool false) 14 rfl rfl rfl rfl ?_
                  simp only [zp]
                  refine st_end ?_
                  subst hQ
                  refine wp_seq ?_
                  refine wq fun Q hQ => ?_
                  refine st_call (some 17) rfl rfl (lives_any W2) (ex_call (f := 8) (vs := []) rfl (cf8 _) rfl) ?_
                  rintro e W3 ⟨rfl, B⟩
                  refine ⟨_, rfl, ?_⟩
                  simp only [zp]
                  replace E := below_next E B
                  replace k1 := keep B k1
                  replace k2 := keep B k2
                  refine sv (.bool false) 18 rfl rfl (ex_not rfl rfl rfl) ?_
                  simp only [zp]
                  refine sm (.bool false) 19 rfl rfl rfl rfl ?_
                  simp only [zp]
                  refine sv (.agg (RL q)) 20 rfl rfl (ex_load (p := (.pointer (some ⟨b1, 0, none⟩))) rfl rfl (ld_all k1 Try.underlying25 rfl inf25)) ?_
                  simp only [zp]
                  refine sv (.agg H) 21 rfl rfl (ex_load (p := (.pointer (some ⟨b2, 0, none⟩))) rfl rfl (ld_all k2 Try.underlying28 rfl (inf28.trans (congrArg some (hH.size).symm)))) ?_
                  simp only [zp]
                  refine sm (.int .i64 a) 22 rfl rfl rfl rfl ?_
                  simp only [zp]
                  refine sm (.int .i64 x) 23 rfl rfl rfl rfl ?_
                  simp only [zp]
                  refine sm (.int .i64 h) 24 rfl rfl rfl rfl ?_
                  simp only [zp]
                  refine st_call (some 25) rfl rfl (fwd_any W3 hH hb y0 y1 rfl) (ex_call (f := 11) (vs := [(.agg (RL q)), (.agg H), (.int .i64 a), (.int .i64 x), (.int .i64 h)]) rfl (cf11 _) rfl) ?_
                  rintro e W4 ⟨rfl, B⟩
                  refine ⟨_, rfl, ?_⟩
                  simp only [zp]
                  replace E := below_next E B
                  replace k1 := keep B k1
                  replace k2 := keep B k2
                  refine sv (.bool false) 26 rfl rfl (ex_bin (u := (.int .i64 (fwdN q v a x h))) (r := (.int .i64 0)) rfl rfl rfl (eg3 _ _ _ _ _ _) (neq3 _ (decide_eq_false (fun h => h e0)))) ?_
                  simp only [zp]
                  refine sv (.bool false) 27 rfl rfl (ex_pkF rfl rfl rfl) ?_
                  simp only [zp]
                  refine sm (.bool false) 28 rfl rfl rfl rfl ?_
                  simp only [zp]
                  refine sm (.int .i64 m) 29 rfl rfl rfl rfl ?_
                  simp only [zp]
                  refine sv (.bool false) 30 rfl rfl (ex_bin (u := (.int .i64 m)) (r := (.int .i64 0)) rfl rfl rfl (eg3 _ _ _ _ _ _) (lss3 _ (decide_eq_false (by omega)))) ?_
                  simp only [zp]
                  refine sv (.bool false) 31 rfl rfl (ex_pkF rfl rfl rfl) ?_
                  simp only [zp]
                  refine sm (.bool false) 32 rfl rfl rfl rfl ?_
                  simp only [zp]
                  refine sm (.int .i64 l) 33 rfl rfl rfl rfl ?_
                  simp only [zp]
                  refine sv (.bool false) 34 rfl rfl (ex_bin (u := (.int .i64 l)) (r := (.int .i64 0)) rfl rfl rfl (eg3 _ _ _ _ _ _) (lss3 _ (decide_eq_false (by omega)))) ?_
                  simp only [zp]
                  refine sv (.bool false) 35 rfl rfl (ex_pkF rfl rfl rfl) ?_
                  simp only [zp]
                  refine sm (.bool false) 36 rfl rfl rfl rfl ?_
                  simp only [zp]
                  refine sm (.int .i64 l) 37 rfl rfl rfl rfl ?_
                  simp only [zp]
                  refine sv (.bool false) 38 rfl rfl (ex_bin (u := (.int .i64 l)) (r := (.int .i64 1073741824)) rfl rfl rfl (eg3 _ _ _ _ _ _) (gtr3 _ (decide_eq_false (by omega)))) ?_
                  simp only [zp]
                  refine sv (.bool false) 39 rfl rfl (ex_pkF rfl rfl rfl) ?_
                  simp only [zp]
                  refine sm (.bool false) 40 rfl rfl rfl rfl ?_
                  simp only [zp]
                  refine sm (.int .i64 a) 41 rfl rfl rfl rfl ?_
                  simp only [zp]
                  refine sv (.bool false) 42 rfl rfl (ex_bin (u := (.int .i64 a)) (r := (.int .i64 4611686018427387903)) rfl rfl rfl (eg3 _ _ _ _ _ _) (gtr3 _ (decide_eq_false (by omega)))) ?_
                  simp only [zp]
                  refine sv (.bool false) 43 rfl rfl (ex_pkF rfl rfl rfl) ?_
                  simp only [zp]
                  refine sm (.bool false) 44 rfl rfl rfl rfl ?_
                  simp only [zp]
                  refine sm (.int .i64 m) 45 rfl rfl rfl rfl ?_
                  simp only [zp]
                  refine sv (.bool false) 46 rfl rfl (ex_bin (u := (.int .i64 m)) (r := (.int .i64 4611686018427387904)) rfl rfl rfl (eg3 _ _ _ _ _ _) (gtr3 _ (decide_eq_false (by omega)))) ?_
                  simp only [zp]
                  refine sv (.bool false) 47 rfl rfl (ex_pkF rfl rfl rfl) ?_
                  simp only [zp]
                  refine st_end ?_
                  subst hQ
                  refine wp_cond_false rfl ?_
                  refine wp_skip ?_
                  refine wq fun Q hQ => ?_
                  refine sv (.agg (RL q)) 49 rfl rfl (ex_load (p := (.pointer (some ⟨b1, 0, none⟩))) rfl rfl (ld_all k1 Try.underlying25 rfl inf25)) ?_
                  simp only [zp]
                  refine sv (.agg H) 50 rfl rfl (ex_load (p := (.pointer (some ⟨b2, 0, none⟩))) rfl rfl (ld_all k2 Try.underlying28 rfl (inf28.trans (congrArg some (hH.size).symm)))) ?_
                  simp only [zp]
                  refine sm (.int .i64 a) 51 rfl rfl rfl rfl ?_
                  simp only [zp]
                  refine sm (.int .i64 m) 52 rfl rfl rfl rfl ?_
                  simp only [zp]
                  refine sv (.int .i64 (a + m)) 53 rfl rfl (ex_bin (u := (.int .i64 a)) (r := (.int .i64 m)) rfl rfl rfl (eg3 _ _ _ _ _ _) (add3 _ rfl (by omega))) ?_
                  simp only [zp]
                  refine sm (.int .i64 x) 54 rfl rfl rfl rfl ?_
                  simp only [zp]
                  refine sm (.int .i64 h) 55 rfl rfl rfl rfl ?_
                  simp only [zp]
                  refine st_call (some 56) rfl rfl (fwd_any W4 hH hb y0 y1 (rise_a m e0 (by omega))) (ex_call (f := 11) (vs := [(.agg (RL q)), (.agg H), (.int .i64 (a + m)), (.int .i64 x), (.int .i64 h)]) rfl (cf11 _) rfl) ?_
                  rintro e W5 ⟨rfl, B⟩
                  refine ⟨_, rfl, ?_⟩
                  simp only [zp]
                  replace E := below_next E B
                  replace k1 := keep B k1
                  replace k2 := keep B k2
                  refine sg (.int .i64 0) 15 rfl rfl rfl rfl ?_
                  simp only [zp]
                  refine st_end ?_
                  subst hQ
                  refine wq fun Q hQ => ?_
                  refine sv (.agg (RL q)) 57 rfl rfl (ex_load (p := (.pointer (some ⟨b1, 0, none⟩))) rfl rfl (ld_all k1 Try.underlying25 rfl inf25)) ?_
                  simp only [zp]
                  refine sv (.agg H) 58 rfl rfl (ex_load (p := (.pointer (some ⟨b2, 0, none⟩))) rfl rfl (ld_all k2 Try.underlying28 rfl (inf28.trans (congrArg some (hH.size).symm)))) ?_
                  simp only [zp]
                  refine sm (.int .i64 a) 59 rfl rfl rfl rfl ?_
                  simp only [zp]
                  refine sm (.int .i64 x) 60 rfl rfl rfl rfl ?_
                  simp only [zp]
                  refine sm (.int .i64 l) 61 rfl rfl rfl rfl ?_
                  simp only [zp]
                  refine sv (.int .i64 (x + l)) 62 rfl rfl (ex_bin (u := (.int .i64 x)) (r := (.int .i64 l)) rfl rfl rfl (eg3 _ _ _ _ _ _) (add3 _ rfl (by omega))) ?_
                  simp only [zp]
                  refine sm (.int .i64 h) 63 rfl rfl rfl rfl ?_
                  simp only [zp]
                  refine st_call (some 64) rfl rfl (fwd_any W5 hH hb y0 y1 (rise_x6 l e0 (by omega) e6 e7)) (ex_call (f := 11) (vs := [(.agg (RL q)), (.agg H), (.int .i64 a), (.int .i64 (x + l)), (.int .i64 h)]) rfl (cf11 _) rfl) ?_
                  rintro e W6 ⟨rfl, B⟩
                  refine ⟨_, rfl, ?_⟩
                  simp only [zp]
                  replace E := below_next E B
                  replace k1 := keep B k1
                  replace k2 := keep B k2
                  refine sg (.int .i64 6) 16 rfl rfl rfl rfl ?_
                  simp only [zp]
                  refine st_end ?_
                  subst hQ
                  refine wq fun Q hQ => ?_
                  refine sm (.int .i64 0) 65 rfl rfl rfl rfl ?_
                  simp only [zp]
                  refine sv (.bool true) 66 rfl rfl (ex_bin (u := (.int .i64 0)) (r := (.int .i64 0)) rfl rfl rfl (eg3 _ _ _ _ _ _) (eql3 _ (by decide))) ?_
                  simp only [zp]
                  refine sm (.bool true) 67 rfl rfl rfl rfl ?_
                  simp only [zp]
                  refine sm (.int .i64 6) 68 rfl rfl rfl rfl ?_
                  simp only [zp]
                  refine sv (.bool false) 69 rfl rfl (ex_bin (u := (.int .i64 6)) (r := (.int .i64 0)) rfl rfl rfl (eg3 _ _ _ _ _ _) (eql3 _ (by decide))) ?_
                  simp only [zp]
                  refine sm (.bool false) 70 rfl rfl rfl rfl ?_
                  simp only [zp]
                  refine sm (.int .i64 6) 71 rfl rfl rfl rfl ?_
                  simp only [zp]
                  refine sv (.bool true) 72 rfl rfl (ex_bin (u := (.int .i64 6)) (r := (.int .i64 6)) rfl rfl rfl (eg3 _ _ _ _ _ _) (eql3 _ (by decide))) ?_
                  simp only [zp]
                  refine sv (.bool true) 73 rfl rfl (ex_pkF rfl rfl rfl) ?_
                  simp only [zp]
                  refine sm (.bool true) 74 rfl rfl rfl rfl ?_
                  simp only [zp]
                  refine sn 75 rfl rfl ?_
                  simp only [zp]
                  refine sn 76 rfl rfl ?_
                  simp only [zp]
                  refine sn 77 rfl rfl ?_
                  simp only [zp]
                  refine sn 78 rfl rfl ?_
                  simp only [zp]
                  refine sn 79 rfl rfl ?_
                  simp only [zp]
                  refine sn 80 rfl rfl ?_
                  simp only [zp]
                  refine sn 81 rfl rfl ?_
                  simp only [zp]
                  refine sn 82 rfl rfl ?_
                  simp only [zp]
                  refine sv (.bool true) 83 rfl rfl (ex_pkT rfl rfl rfl) ?_
                  simp only [zp]
                  refine sv (.bool true) 84 rfl rfl (ex_pkT rfl rfl rfl) ?_
                  simp only [zp]
                  refine sg (.bool true) 14 rfl rfl rfl rfl ?_
                  simp only [zp]
                  refine st_end ?_
                  subst hQ
                  refine wp_ret ?_
                  repeat (first | refine ret_out ?_ | refine ret_blk ?_)
                  exact bodyPost_ret (results_tmp Try.results7 _ _ _) rfl ⟨rfl, E⟩
                · skip
                  have E : Below w.heap.size w w := Below.refl _ _
                  go_enter Try.func7, Try.ntmps7
                  refine wq fun Q hQ => ?_
                  refine st_new (fun b => .pointer (some ⟨b, 0, none⟩)) (some 7) rfl rfl (ex_box rfl rfl) ?_
                  intro b1 W1 k1 g1 B
                  simp only [zp]
                  have ge_b1 := Nat.le_trans E.size g1
                  replace E := below_next E B
                  clear B
                  refine st_new (fun b => .pointer (some ⟨b, 0, none⟩)) (some 8) rfl rfl (ex_box rfl rfl) ?_
                  intro b2 W2 k2 g2 B
                  simp only [zp]
                  have ne_b2_b1 : b2 ≠ b1 := fun e => by have := lt_of k1; omega
                  have ge_b2 := Nat.le_trans E.size g2
                  replace E := below_next E B
                  replace k1 := keep B k1
                  clear B
                  refine sg (.bool false) 14 rfl rfl rfl rfl ?_
                  simp only [zp]
                  refine st_end ?_
                  subst hQ
                  refine wp_seq ?_
                  refine wq fun Q hQ => ?_
                  refine st_call (some 17) rfl rfl (lives_any W2) (ex_call (f := 8) (vs := []) rfl (cf8 _) rfl) ?_
                  rintro e W3 ⟨rfl, B⟩
                  refine ⟨_, rfl, ?_⟩
                  simp only [zp]
                  replace E := below_next E B
                  replace k1 := keep B k1
                  replace k2 := keep B k2
                  refine sv (.bool false) 18 rfl rfl (ex_not rfl rfl rfl) ?_
                  simp only [zp]
                  refine sm (.bool false) 19 rfl rfl rfl rfl ?_
                  simp only [zp]
                  refine sv (.agg (RL q)) 20 rfl rfl (ex_load (p := (.pointer (some ⟨b1, 0, none⟩))) rfl rfl (ld_all k1 Try.underlying25 rfl inf25)) ?_
                  simp only [zp]
                  refine sv (.agg H) 21 rfl rfl (ex_load (p := (.pointer (some ⟨b2, 0, none⟩))) rfl rfl (ld_all k2 Try.underlying28 rfl (inf28.trans (congrArg some (hH.size).symm)))) ?_
                  simp only [zp]
                  refine sm (.int .i64 a) 22 rfl rfl rfl rfl ?_
                  simp only [zp]
                  refine sm (.int .i64 x) 23 rfl rfl rfl rfl ?_
                  simp only [zp]
                  refine sm (.int .i64 h) 24 rfl rfl rfl rfl ?_
                  simp only [zp]
                  refine st_call (some 25) rfl rfl (fwd_any W3 hH hb y0 y1 rfl) (ex_call (f := 11) (vs := [(.agg (RL q)), (.agg H), (.int .i64 a), (.int .i64 x), (.int .i64 h)]) rfl (cf11 _) rfl) ?_
                  rintro e W4 ⟨rfl, B⟩
                  refine ⟨_, rfl, ?_⟩
                  simp only [zp]
                  replace E := below_next E B
                  replace k1 := keep B k1
                  replace k2 := keep B k2
                  refine sv (.bool false) 26 rfl rfl (ex_bin (u := (.int .i64 (fwdN q v a x h))) (r := (.int .i64 0)) rfl rfl rfl (eg3 _ _ _ _ _ _) (neq3 _ (decide_eq_false (fun h => h e0)))) ?_
                  simp only [zp]
                  refine sv (.bool false) 27 rfl rfl (ex_pkF rfl rfl rfl) ?_
                  simp only [zp]
                  refine sm (.bool false) 28 rfl rfl rfl rfl ?_
                  simp only [zp]
                  refine sm (.int .i64 m) 29 rfl rfl rfl rfl ?_
                  simp only [zp]
                  refine sv (.bool false) 30 rfl rfl (ex_bin (u := (.int .i64 m)) (r := (.int .i64 0)) rfl rfl rfl (eg3 _ _ _ _ _ _) (lss3 _ (decide_eq_false (by omega)))) ?_
                  simp only [zp]
                  refine sv (.bool false) 31 rfl rfl (ex_pkF rfl rfl rfl) ?_
                  simp only [zp]
                  refine sm (.bool false) 32 rfl rfl rfl rfl ?_
                  simp only [zp]
                  refine sm (.int .i64 l) 33 rfl rfl rfl rfl ?_
                  simp only [zp]
                  refine sv (.bool false) 34 rfl rfl (ex_bin (u := (.int .i64 l)) (r := (.int .i64 0)) rfl rfl rfl (eg3 _ _ _ _ _ _) (lss3 _ (decide_eq_false (by omega)))) ?_
                  simp only [zp]
                  refine sv (.bool false) 35 rfl rfl (ex_pkF rfl rfl rfl) ?_
                  simp only [zp]
                  refine sm (.bool false) 36 rfl rfl rfl rfl ?_
                  simp only [zp]
                  refine sm (.int .i64 l) 37 rfl rfl rfl rfl ?_
                  simp only [zp]
                  refine sv (.bool false) 38 rfl rfl (ex_bin (u := (.int .i64 l)) (r := (.int .i64 1073741824)) rfl rfl rfl (eg3 _ _ _ _ _ _) (gtr3 _ (decide_eq_false (by omega)))) ?_
                  simp only [zp]
                  refine sv (.bool false) 39 rfl rfl (ex_pkF rfl rfl rfl) ?_
                  simp only [zp]
                  refine sm (.bool false) 40 rfl rfl rfl rfl ?_
                  simp only [zp]
                  refine sm (.int .i64 a) 41 rfl rfl rfl rfl ?_
                  simp only [zp]
                  refine sv (.bool false) 42 rfl rfl (ex_bin (u := (.int .i64 a)) (r := (.int .i64 4611686018427387903)) rfl rfl rfl (eg3 _ _ _ _ _ _) (gtr3 _ (decide_eq_false (by omega)))) ?_
                  simp only [zp]
                  refine sv (.bool false) 43 rfl rfl (ex_pkF rfl rfl rfl) ?_
                  simp only [zp]
                  refine sm (.bool false) 44 rfl rfl rfl rfl ?_
                  simp only [zp]
                  refine sm (.int .i64 m) 45 rfl rfl rfl rfl ?_
                  simp only [zp]
                  refine sv (.bool false) 46 rfl rfl (ex_bin (u := (.int .i64 m)) (r := (.int .i64 4611686018427387904)) rfl rfl rfl (eg3 _ _ _ _ _ _) (gtr3 _ (decide_eq_false (by omega)))) ?_
                  simp only [zp]
                  refine sv (.bool false) 47 rfl rfl (ex_pkF rfl rfl rfl) ?_
                  simp only [zp]
                  refine st_end ?_
                  subst hQ
                  refine wp_cond_false rfl ?_
                  refine wp_skip ?_
                  refine wq fun Q hQ => ?_
                  refine sv (.agg (RL q)) 49 rfl rfl (ex_load (p := (.pointer (some ⟨b1, 0, none⟩))) rfl rfl (ld_all k1 Try.underlying25 rfl inf25)) ?_
                  simp only [zp]
                  refine sv (.agg H) 50 rfl rfl (ex_load (p := (.pointer (some ⟨b2, 0, none⟩))) rfl rfl (ld_all k2 Try.underlying28 rfl (inf28.trans (congrArg some (hH.size).symm)))) ?_
                  simp only [zp]
                  refine sm (.int .i64 a) 51 rfl rfl rfl rfl ?_
                  simp only [zp]
                  refine sm (.int .i64 m) 52 rfl rfl rfl rfl ?_
                  simp only [zp]
                  refine sv (.int .i64 (a + m)) 53 rfl rfl (ex_bin (u := (.int .i64 a)) (r := (.int .i64 m)) rfl rfl rfl (eg3 _ _ _ _ _ _) (add3 _ rfl (by omega))) ?_
                  simp only [zp]
                  refine sm (.int .i64 x) 54 rfl rfl rfl rfl ?_
                  simp only [zp]
                  refine sm (.int .i64 h) 55 rfl rfl rfl rfl ?_
                  simp only [zp]
                  refine st_call (some 56) rfl rfl (fwd_any W4 hH hb y0 y1 (rise_a m e0 (by omega))) (ex_call (f := 11) (vs := [(.agg (RL q)), (.agg H), (.int .i64 (a + m)), (.int .i64 x), (.int .i64 h)]) rfl (cf11 _) rfl) ?_
                  rintro e W5 ⟨rfl, B⟩
                  refine ⟨_, rfl, ?_⟩
                  simp only [zp]
                  replace E := below_next E B
                  replace k1 := keep B k1
                  replace k2 := keep B k2
                  refine sg (.int .i64 0) 15 rfl rfl rfl rfl ?_
                  simp only [zp]
                  refine st_end ?_
                  subst hQ
                  refine wq fun Q hQ => ?_
                  refine sv (.agg (RL q)) 57 rfl rfl (ex_load (p := (.pointer (some ⟨b1, 0, none⟩))) rfl rfl (ld_all k1 Try.underlying25 rfl inf25)) ?_
                  simp only [zp]
                  refine sv (.agg H) 58 rfl rfl (ex_load (p := (.pointer (some ⟨b2, 0, none⟩))) rfl rfl (ld_all k2 Try.underlying28 rfl (inf28.trans (congrArg some (hH.size).symm)))) ?_
                  simp only [zp]
                  refine sm (.int .i64 a) 59 rfl rfl rfl rfl ?_
                  simp only [zp]
                  refine sm (.int .i64 x) 60 rfl rfl rfl rfl ?_
                  simp only [zp]
                  refine sm (.int .i64 l) 61 rfl rfl rfl rfl ?_
                  simp only [zp]
                  refine sv (.int .i64 (x + l)) 62 rfl rfl (ex_bin (u := (.int .i64 x)) (r := (.int .i64 l)) rfl rfl rfl (eg3 _ _ _ _ _ _) (add3 _ rfl (by omega))) ?_
                  simp only [zp]
                  refine sm (.int .i64 h) 63 rfl rfl rfl rfl ?_
                  simp only [zp]
                  refine st_call (some 64) rfl rfl (fwd_any W5 hH hb y0 y1 (rise_x0 l e0 (by omega) e6 e7)) (ex_call (f := 11) (vs := [(.agg (RL q)), (.agg H), (.int .i64 a), (.int .i64 (x + l)), (.int .i64 h)]) rfl (cf11 _) rfl) ?_
                  rintro e W6 ⟨rfl, B⟩
                  refine ⟨_, rfl, ?_⟩
                  simp only [zp]
                  replace E := below_next E B
                  replace k1 := keep B k1
                  replace k2 := keep B k2
                  refine sg (.int .i64 0) 16 rfl rfl rfl rfl ?_
                  simp only [zp]
                  refine st_end ?_
                  subst hQ
                  refine wq fun Q hQ => ?_
                  refine sm (.int .i64 0) 65 rfl rfl rfl rfl ?_
                  simp only [zp]
                  refine sv (.bool true) 66 rfl rfl (ex_bin (u := (.int .i64 0)) (r := (.int .i64 0)) rfl rfl rfl (eg3 _ _ _ _ _ _) (eql3 _ (by decide))) ?_
                  simp only [zp]
                  refine sm (.bool true) 67 rfl rfl rfl rfl ?_
                  simp only [zp]
                  refine sm (.int .i64 0) 68 rfl rfl rfl rfl ?_
                  simp only [zp]
                  refine sv (.bool true) 69 rfl rfl (ex_bin (u := (.int .i64 0)) (r := (.int .i64 0)) rfl rfl rfl (eg3 _ _ _ _ _ _) (eql3 _ (by decide))) ?_
                  simp only [zp]
                  refine sm (.bool true) 70 rfl rfl rfl rfl ?_
                  simp only [zp]
                  refine sn 71 rfl rfl ?_
                  simp only [zp]
                  refine sn 72 rfl rfl ?_
                  simp only [zp]
                  refine sv (.bool true) 73 rfl rfl (ex_pkT rfl rfl rfl) ?_
                  simp only [zp]
                  refine sm (.bool true) 74 rfl rfl rfl rfl ?_
                  simp only [zp]
                  refine sn 75 rfl rfl ?_
                  simp only [zp]
                  refine sn 76 rfl rfl ?_
                  simp only [zp]
                  refine sn 77 rfl rfl ?_
                  simp only [zp]
                  refine sn 78 rfl rfl ?_
                  simp only [zp]
                  refine sn 79 rfl rfl ?_
                  simp only [zp]
                  refine sn 80 rfl rfl ?_
                  simp only [zp]
                  refine sn 81 rfl rfl ?_
                  simp only [zp]
                  refine sn 82 rfl rfl ?_
                  simp only [zp]
                  refine sv (.bool true) 83 rfl rfl (ex_pkT rfl rfl rfl) ?_
                  simp only [zp]
                  refine sv (.bool true) 84 rfl rfl (ex_pkT rfl rfl rfl) ?_
                  simp only [zp]
                  refine sg (.bool true) 14 rfl rfl rfl rfl ?_
                  simp only [zp]
                  refine st_end ?_
                  subst hQ
                  refine wp_ret ?_
                  repeat (first | refine ret_out ?_ | refine ret_blk ?_)
                  exact bodyPost_ret (results_tmp Try.results7 _ _ _) rfl ⟨rfl, E⟩
              · skip
                have E : Below w.heap.size w w := Below.refl _ _
                go_enter Try.func7, Try.ntmps7
                refine wq fun Q hQ => ?_
                refine st_new (fun b => .pointer (some ⟨b, 0, none⟩)) (some 7) rfl rfl (ex_box rfl rfl) ?_
                intro b1 W1 k1 g1 B
                simp only [zp]
                have ge_b1 := Nat.le_trans E.size g1
                replace E := below_next E B
                clear B
                refine st_new (fun b => .pointer (some ⟨b, 0, none⟩)) (some 8) rfl rfl (ex_box rfl rfl) ?_
                intro b2 W2 k2 g2 B
                simp only [zp]
                have ne_b2_b1 : b2 ≠ b1 := fun e => by have := lt_of k1; omega
                have ge_b2 := Nat.le_trans E.size g2
                replace E := below_next E B
                replace k1 := keep B k1
                clear B
                refine sg (.bool false) 14 rfl rfl rfl rfl ?_
                simp only [zp]
                refine st_end ?_
                subst hQ
                refine wp_seq ?_
                refine wq fun Q hQ => ?_
                refine st_call (some 17) rfl rfl (lives_any W2) (ex_call (f := 8) (vs := []) rfl (cf8 _) rfl) ?_
                rintro e W3 ⟨rfl, B⟩
                refine ⟨_, rfl, ?_⟩
                simp only [zp]
                replace E := below_next E B
                replace k1 := keep B k1
                replace k2 := keep B k2
                refine sv (.bool false) 18 rfl rfl (ex_not rfl rfl rfl) ?_
                simp only [zp]
                refine sm (.bool false) 19 rfl rfl rfl rfl ?_
                simp only [zp]
                refine sv (.agg (RL q)) 20 rfl rfl (ex_load (p := (.pointer (some ⟨b1, 0, none⟩))) rfl rfl (ld_all k1 Try.underlying25 rfl inf25)) ?_
                simp only [zp]
                refine sv (.agg H) 21 rfl rfl (ex_load (p := (.pointer (some ⟨b2, 0, none⟩))) rfl rfl (ld_all k2 Try.underlying28 rfl (inf28.trans (congrArg some (hH.size).symm)))) ?_
                simp only [zp]
                refine sm (.int .i64 a) 22 rfl rfl rfl rfl ?_
                simp only [zp]
                refine sm (.int .i64 x) 23 rfl rfl rfl rfl ?_
                simp only [zp]
                refine sm (.int .i64 h) 24 rfl rfl rfl rfl ?_
                simp only [zp]
                refine st_call (some 25) rfl rfl (fwd_any W3 hH hb y0 y1 rfl) (ex_call (f := 11) (vs := [(.agg (RL q)), (.agg H), (.int .i64 a), (.int .i64 x), (.int .i64 h)]) rfl (cf11 _) rfl) ?_
                rintro e W4 ⟨rfl, B⟩
                refine ⟨_, rfl, ?_⟩
                simp only [zp]
                replace E := below_next E B
                replace k1 := keep B k1
                replace k2 := keep B k2
                refine sv (.bool false) 26 rfl rfl (ex_bin (u := (.int .i64 (fwdN q v a x h))) (r := (.int .i64 0)) rfl rfl rfl (eg3 _ _ _ _ _ _) (neq3 _ (decide_eq_false (fun h => h e0)))) ?_
                simp only [zp]
                refine sv (.bool false) 27 rfl rfl (ex_pkF rfl rfl rfl) ?_
                simp only [zp]
                refine sm (.bool false) 28 rfl rfl rfl rfl ?_
                simp only [zp]
                refine sm (.int .i64 m) 29 rfl rfl rfl rfl ?_
                simp only [zp]
                refine sv (.bool false) 30 rfl rfl (ex_bin (u := (.int .i64 m)) (r := (.int .i64 0)) rfl rfl rfl (eg3 _ _ _ _ _ _) (lss3 _ (decide_eq_false (by omega)))) ?_
                simp only [zp]
                refine sv (.bool false) 31 rfl rfl (ex_pkF rfl rfl rfl) ?_
                simp only [zp]
                refine sm (.bool false) 32 rfl rfl rfl rfl ?_
                simp only [zp]
                refine sm (.int .i64 l) 33 rfl rfl rfl rfl ?_
                simp only [zp]
                refine sv (.bool false) 34 rfl rfl (ex_bin (u := (.int .i64 l)) (r := (.int .i64 0)) rfl rfl rfl (eg3 _ _ _ _ _ _) (lss3 _ (decide_eq_false (by omega)))) ?_
                simp only [zp]
                refine sv (.bool false) 35 rfl rfl (ex_pkF rfl rfl rfl) ?_
                simp only [zp]
                refine sm (.bool false) 36 rfl rfl rfl rfl ?_
                simp only [zp]
                refine sm (.int .i64 l) 37 rfl rfl rfl rfl ?_
                simp only [zp]
                refine sv (.bool false) 38 rfl rfl (ex_bin (u := (.int .i64 l)) (r := (.int .i64 1073741824)) rfl rfl rfl (eg3 _ _ _ _ _ _) (gtr3 _ (decide_eq_false (by omega)))) ?_
                simp only [zp]
                refine sv (.bool false) 39 rfl rfl (ex_pkF rfl rfl rfl) ?_
                simp only [zp]
                refine sm (.bool false) 40 rfl rfl rfl rfl ?_
                simp only [zp]
                refine sm (.int .i64 a) 41 rfl rfl rfl rfl ?_
                simp only [zp]
                refine sv (.bool false) 42 rfl rfl (ex_bin (u := (.int .i64 a)) (r := (.int .i64 4611686018427387903)) rfl rfl rfl (eg3 _ _ _ _ _ _) (gtr3 _ (decide_eq_false (by omega)))) ?_
                simp only [zp]
                refine sv (.bool false) 43 rfl rfl (ex_pkF rfl rfl rfl) ?_
                simp only [zp]
                refine sm (.bool false) 44 rfl rfl rfl rfl ?_
                simp only [zp]
                refine sm (.int .i64 m) 45 rfl rfl rfl rfl ?_
                simp only [zp]
                refine sv (.bool false) 46 rfl rfl (ex_bin (u := (.int .i64 m)) (r := (.int .i64 4611686018427387904)) rfl rfl rfl (eg3 _ _ _ _ _ _) (gtr3 _ (decide_eq_false (by omega)))) ?_
                simp only [zp]
                refine sv (.bool false) 47 rfl rfl (ex_pkF rfl rfl rfl) ?_
                simp only [zp]
                refine st_end ?_
                subst hQ
                refine wp_cond_false rfl ?_
                refine wp_skip ?_
                refine wq fun Q hQ => ?_
                refine sv (.agg (RL q)) 49 rfl rfl (ex_load (p := (.pointer (some ⟨b1, 0, none⟩))) rfl rfl (ld_all k1 Try.underlying25 rfl inf25)) ?_
                simp only [zp]
                refine sv (.agg H) 50 rfl rfl (ex_load (p := (.pointer (some ⟨b2, 0, none⟩))) rfl rfl (ld_all k2 Try.underlying28 rfl (inf28.trans (congrArg some (hH.size).symm)))) ?_
                simp only [zp]
                refine sm (.int .i64 a) 51 rfl rfl rfl rfl ?_
                simp only [zp]
                refine sm (.int .i64 m) 52 rfl rfl rfl rfl ?_
                simp only [zp]
                refine sv (.int .i64 (a + m)) 53 rfl rfl (ex_bin (u := (.int .i64 a)) (r := (.int .i64 m)) rfl rfl rfl (eg3 _ _ _ _ _ _) (add3 _ rfl (by omega))) ?_
                simp only [zp]
                refine sm (.int .i64 x) 54 rfl rfl rfl rfl ?_
                simp only [zp]
                refine sm (.int .i64 h) 55 rfl rfl rfl rfl ?_
                simp only [zp]
                refine st_call (some 56) rfl rfl (fwd_any W4 hH hb y0 y1 (rise_a m e0 (by omega))) (ex_call (f := 11) (vs := [(.agg (RL q)), (.agg H), (.int .i64 (a + m)), (.int .i64 x), (.int .i64 h)]) rfl (cf11 _) rfl) ?_
                rintro e W5 ⟨rfl, B⟩
                refine ⟨_, rfl, ?_⟩
                simp only [zp]
                replace E := below_next E B
                replace k1 := keep B k1
                replace k2 := keep B k2
                refine sg (.int .i64 0) 15 rfl rfl rfl rfl ?_
                simp only [zp]
                refine st_end ?_
                subst hQ
                refine wq fun Q hQ => ?_
                refine sv (.agg (RL q)) 57 rfl rfl (ex_load (p := (.pointer (some ⟨b1, 0, none⟩))) rfl rfl (ld_all k1 Try.underlying25 rfl inf25)) ?_
                simp only [zp]
                refine sv (.agg H) 58 rfl rfl (ex_load (p := (.pointer (some ⟨b2, 0, none⟩))) rfl rfl (ld_all k2 Try.underlying28 rfl (inf28.trans (congrArg some (hH.size).symm)))) ?_
                simp only [zp]
                refine sm (.int .i64 a) 59 rfl rfl rfl rfl ?_
                simp only [zp]
                refine sm (.int .i64 x) 60 rfl rfl rfl rfl ?_
                simp only [zp]
                refine sm (.int .i64 l) 61 rfl rfl rfl rfl ?_
                simp only [zp]
                refine sv (.int .i64 (x + l)) 62 rfl rfl (ex_bin (u := (.int .i64 x)) (r := (.int .i64 l)) rfl rfl rfl (eg3 _ _ _ _ _ _) (add3 _ rfl (by omega))) ?_
                simp only [zp]
                refine sm (.int .i64 h) 63 rfl rfl rfl rfl ?_
                simp only [zp]
                refine st_call (some 64) rfl rfl (fwd_any W5 hH hb y0 y1 (rise_x1 l e6)) (ex_call (f := 11) (vs := [(.agg (RL q)), (.agg H), (.int .i64 a), (.int .i64 (x + l)), (.int .i64 h)]) rfl (cf11 _) rfl) ?_
                rintro e W6 ⟨rfl, B⟩
                refine ⟨_, rfl, ?_⟩
                simp only [zp]
                replace E := below_next E B
                replace k1 := keep B k1
                replace k2 := keep B k2
                refine sg (.int .i64 1) 16 rfl rfl rfl rfl ?_
                simp only [zp]
                refine st_end ?_
                subst hQ
                refine wq fun Q hQ => ?_
                refine sm (.int .i64 0) 65 rfl rfl rfl rfl ?_
                simp only [zp]
                refine sv (.bool true) 66 rfl rfl (ex_bin (u := (.int .i64 0)) (r := (.int .i64 0)) rfl rfl rfl (eg3 _ _ _ _ _ _) (eql3 _ (by decide))) ?_
                simp only [zp]
                refine sm (.bool true) 67 rfl rfl rfl rfl ?_
                simp only [zp]
                refine sm (.int .i64 1) 68 rfl rfl rfl rfl ?_
                simp only [zp]
                refine sv (.bool false) 69 rfl rfl (ex_bin (u := (.int .i64 1)) (r := (.int .i64 0)) rfl rfl rfl (eg3 _ _ _ _ _ _) (eql3 _ (by decide))) ?_
                simp only [zp]
                refine sm (.bool false) 70 rfl rfl rfl rfl ?_
                simp only [zp]
                refine sm (.int .i64 1) 71 rfl rfl rfl rfl ?_
                simp only [zp]
                refine sv (.bool false) 72 rfl rfl (ex_bin (u := (.int .i64 1)) (r := (.int .i64 6)) rfl rfl rfl (eg3 _ _ _ _ _ _) (eql3 _ (by decide))) ?_
                simp only [zp]
                refine sv (.bool false) 73 rfl rfl (ex_pkF rfl rfl rfl) ?_
                simp only [zp]
                refine sm (.bool false) 74 rfl rfl rfl rfl ?_
                simp only [zp]
                refine sm (.int .i64 1) 75 rfl rfl rfl rfl ?_
                simp only [zp]
                refine sv (.bool true) 76 rfl rfl (ex_bin (u := (.int .i64 1)) (r := (.int .i64 1)) rfl rfl rfl (eg3 _ _ _ _ _ _) (eql3 _ (by decide))) ?_
                simp only [zp]
                refine sm (.bool true) 77 rfl rfl rfl rfl ?_
                simp only [zp]
                refine sm (.int .i64 x) 78 rfl rfl rfl rfl ?_
                simp only [zp]
                refine sm (.int .i64 l) 79 rfl rfl rfl rfl ?_
                simp only [zp]
                refine sv (.int .i64 (x + l)) 80 rfl rfl (ex_bin (u := (.int .i64 x)) (r := (.int .i64 l)) rfl rfl rfl (eg3 _ _ _ _ _ _) (add3 _ rfl (by omega))) ?_
                simp only [zp]
                refine sv (.bool true) 81 rfl rfl (ex_bin (u := (.int .i64 (x + l))) (r := (.int .i64 2147483647)) rfl rfl rfl (eg3 _ _ _ _ _ _) (gtr3 _ (decide_eq_true (by omega)))) ?_
                simp only [zp]
                refine sv (.bool true) 82 rfl rfl (ex_pkT rfl rfl rfl) ?_
                simp only [zp]
                refine sv (.bool true) 83 rfl rfl (ex_pkF rfl rfl rfl) ?_
                simp only [zp]
                refine sv (.bool true) 84 rfl rfl (ex_pkT rfl rfl rfl) ?_
                simp only [zp]
                refine sg (.bool true) 14 rfl rfl rfl rfl ?_
                simp only [zp]
                refine st_end ?_
                subst hQ
                refine wp_ret ?_
                repeat (first | refine ret_out ?_ | refine ret_blk ?_)
                exact bodyPost_ret (results_tmp Try.results7 _ _ _) rfl ⟨rfl, E⟩
  · skip
    have E : Below w.heap.size w w := Below.refl _ _
    go_enter Try.func7, Try.ntmps7
    refine wq fun Q hQ => ?_
    refine st_new (fun b => .pointer (some ⟨b, 0, none⟩)) (some 7) rfl rfl (ex_box rfl rfl) ?_
    intro b1 W1 k1 g1 B
    simp only [zp]
    have ge_b1 := Nat.le_trans E.size g1
    replace E := below_next E B
    clear B
    refine st_new (fun b => .pointer (some ⟨b, 0, none⟩)) (some 8) rfl rfl (ex_box rfl rfl) ?_
    intro b2 W2 k2 g2 B
    simp only [zp]
    have ne_b2_b1 : b2 ≠ b1 := fun e => by have := lt_of k1; omega
    have ge_b2 := Nat.le_trans E.size g2
    replace E := below_next E B
    replace k1 := keep B k1
    clear B
    refine sg (.bool false) 14 rfl rfl rfl rfl ?_
    simp only [zp]
    refine st_end ?_
    subst hQ
    refine wp_seq ?_
    refine wq fun Q hQ => ?_
    refine st_call (some 17) rfl rfl (lives_any W2) (ex_call (f := 8) (vs := []) rfl (cf8 _) rfl) ?_
    rintro e W3 ⟨rfl, B⟩
    refine ⟨_, rfl, ?_⟩
    simp only [zp]
    replace E := below_next E B
    replace k1 := keep B k1
    replace k2 := keep B k2
    refine sv (.bool false) 18 rfl rfl (ex_not rfl rfl rfl) ?_
    simp only [zp]
    refine sm (.bool false) 19 rfl rfl rfl rfl ?_
    simp only [zp]
    refine sv (.agg (RL q)) 20 rfl rfl (ex_load (p := (.pointer (some ⟨b1, 0, none⟩))) rfl rfl (ld_all k1 Try.underlying25 rfl inf25)) ?_
    simp only [zp]
    refine sv (.agg H) 21 rfl rfl (ex_load (p := (.pointer (some ⟨b2, 0, none⟩))) rfl rfl (ld_all k2 Try.underlying28 rfl (inf28.trans (congrArg some (hH.size).symm)))) ?_
    simp only [zp]
    refine sm (.int .i64 a) 22 rfl rfl rfl rfl ?_
    simp only [zp]
    refine sm (.int .i64 x) 23 rfl rfl rfl rfl ?_
    simp only [zp]
    refine sm (.int .i64 h) 24 rfl rfl rfl rfl ?_
    simp only [zp]
    refine st_call (some 25) rfl rfl (fwd_any W3 hH hb y0 y1 rfl) (ex_call (f := 11) (vs := [(.agg (RL q)), (.agg H), (.int .i64 a), (.int .i64 x), (.int .i64 h)]) rfl (cf11 _) rfl) ?_
    rintro e W4 ⟨rfl, B⟩
    refine ⟨_, rfl, ?_⟩
    simp only [zp]
    replace E := below_next E B
    replace k1 := keep B k1
    replace k2 := keep B k2
    refine sv (.bool true) 26 rfl rfl (ex_bin (u := (.int .i64 (fwdN q v a x h))) (r := (.int .i64 0)) rfl rfl rfl (eg3 _ _ _ _ _ _) (neq3 _ (decide_eq_true e0))) ?_
    simp only [zp]
    refine sv (.bool true) 27 rfl rfl (ex_pkF rfl rfl rfl) ?_
    simp only [zp]
    refine sm (.bool true) 28 rfl rfl rfl rfl ?_
    simp only [zp]
    refine sn 29 rfl rfl ?_
    simp only [zp]
    refine sn 30 rfl rfl ?_
    simp only [zp]
    refine sv (.bool true) 31 rfl rfl (ex_pkT rfl rfl rfl) ?_
    simp only [zp]
    refine sm (.bool true) 32 rfl rfl rfl rfl ?_
    simp only [zp]
    refine sn 33 rfl rfl ?_
    simp only [zp]
    refine sn 34 rfl rfl ?_
    simp only [zp]
    refine sv (.bool true) 35 rfl rfl (ex_pkT rfl rfl rfl) ?_
    simp only [zp]
    refine sm (.bool true) 36 rfl rfl rfl rfl ?_
    simp only [zp]
    refine sn 37 rfl rfl ?_
    simp only [zp]
    refine sn 38 rfl rfl ?_
    simp only [zp]
    refine sv (.bool true) 39 rfl rfl (ex_pkT rfl rfl rfl) ?_
    simp only [zp]
    refine sm (.bool true) 40 rfl rfl rfl rfl ?_
    simp only [zp]
    refine sn 41 rfl rfl ?_
    simp only [zp]
    refine sn 42 rfl rfl ?_
    simp only [zp]
    refine sv (.bool true) 43 rfl rfl (ex_pkT rfl rfl rfl) ?_
    simp only [zp]
    refine sm (.bool true) 44 rfl rfl rfl rfl ?_
    simp only [zp]
    refine sn 45 rfl rfl ?_
    simp only [zp]
    refine sn 46 rfl rfl ?_
    simp only [zp]
    refine sv (.bool true) 47 rfl rfl (ex_pkT rfl rfl rfl) ?_
    simp only [zp]
    refine st_end ?_
    subst hQ
    refine wp_cond_true rfl ?_
    refine wq fun Q hQ => ?_
    refine st_call (some 48) rfl rfl (lives_any W4) (ex_call (f := 8) (vs := []) rfl (cf8 _) rfl) ?_
    rintro e W5 ⟨rfl, B⟩
    refine ⟨_, rfl, ?_⟩
    simp only [zp]
    replace E := below_next E B
    replace k1 := keep B k1
    replace k2 := keep B k2
    refine sg (.bool true) 14 rfl rfl rfl rfl ?_
    simp only [zp]
    refine st_end ?_
    subst hQ
    refine wp_ret ?_
    repeat (first | refine ret_out ?_ | refine ret_blk ?_)
    exact bodyPost_ret (results_tmp Try.results7 _ _ _) rfl ⟨rfl, E⟩
end Go.Proofs.Ytfbaidmnnkcaeaa
