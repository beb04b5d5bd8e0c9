/- A way that is found leads there, is handed on, and costs what its edges cost. -/
import Derived.Test.YtgnkcmmpbohafaaWay17
namespace Go.Proofs.Ytgnkcmmpbohafaa
open Go.RowKit
set_option linter.unusedVariables false
set_option linter.unusedSimpArgs false
set_option maxRecDepth 100000

set_option maxHeartbeats 64000000 in
theorem ways_any {ao wo : Option Addr} {n c nw cw : Nat} {p : Nat → OV} {v : WV} {t : Int} (w : World) (hP : OpAt w ao n p) (hN : ∀ i, i < n → ON (p i)) (hn : n ≤ 140737488355328) (hA : Is w wo v.av) (hnw : nw = v.av.length) (hnw2 : nw ≤ 140737488355328) (hV : WN v) : Calls Try.prog 5 #[.slice ao n c, .agg (WL_ v wo nw cw), .int .i64 t] w fun e w' => e = .returned (.bool true) ∧ Below w.heap.size w w' := by
  have E : Below w.heap.size w w := Below.refl _ _
  go_enter Try.func5, Try.ntmps5; refine wq fun Q hQ => ?_; refine st_new (fun b => .pointer (some ⟨b, 0, none⟩)) (some 4) rfl rfl (ex_box rfl rfl) ?_; intro b21 W1 k21 g21 B; simp only [zp]; have ge_b21 := Nat.le_trans E.size g21; replace E := below_next E B; clear B; refine vg (.bool false) 6 rfl rfl rfl rfl ?_; refine st_end ?_; subst hQ; refine wq fun Q hQ => ?_; refine vm (.slice ao n c) 19 rfl rfl rfl rfl ?_; refine st_call (some 20) rfl rfl (both_any W1 (os_keep hP E) hN hn) (ex_call (f := 9) (vs := [(.slice ao n c)]) rfl (cf9 _) rfl) ?_; rintro e W2 ⟨g, b, x, u, L, rfl, hH0⟩
  have hH := gr_base hH0 E.size E; refine ⟨_, rfl, ?_⟩; simp only [zp]; replace E := below_next E hH0.E; replace k21 := keep hH0.E k21; refine vm (.tuple #[(Pz g 0), (Pz x 0), (.bool true)]) 18 rfl rfl rfl rfl ?_; refine vv (Pz g 0) 21 rfl rfl (ex_ext rfl rfl rfl) ?_; refine vv (Pz x 0) 22 rfl rfl (ex_ext rfl rfl rfl) ?_; refine vv (.bool true) 23 rfl rfl (ex_ext rfl rfl rfl) ?_; refine vg (Pz g 0) 7 rfl rfl rfl rfl ?_; refine vg (Pz x 0) 8 rfl rfl rfl rfl ?_; refine vg (.bool true) 9 rfl rfl rfl rfl ?_; refine st_end ?_; subst hQ; refine wp_seq ?_; refine wq fun Q hQ => ?_
  refine st_call (some 24) rfl rfl (lives_any W2) (ex_call (f := 10) (vs := []) rfl (cf10 _) rfl) ?_; rintro e W3 ⟨rfl, B⟩; refine ⟨_, rfl, ?_⟩; simp only [zp]; replace E := below_next E B; replace k21 := keep B k21; replace hH := hH.keep B; refine vv (.bool false) 25 rfl rfl (ex_not rfl rfl rfl) ?_; refine vm (.bool false) 26 rfl rfl rfl rfl ?_; refine vm (.bool true) 27 rfl rfl rfl rfl ?_; refine vv (.bool false) 28 rfl rfl (ex_not rfl rfl rfl) ?_; refine vv (.bool false) 29 rfl rfl (ex_pkF rfl rfl rfl) ?_; refine st_end ?_; subst hQ; refine wp_cond_false rfl ?_; refine wp_skip ?_
  refine wp_seq ?_
  by_cases q5 : (fndR L v).1 = 0
  rotate_left
  · skip
    refine wl_in (wl_cap fun Q hQ => ?_); refine vm (Pz g 0) 31 rfl rfl rfl rfl ?_; refine vv (.agg (WL_ v wo nw cw)) 32 rfl rfl (ex_load (p := (Pz b21 0)) rfl rfl (ld_all k21 Try.underlying32 rfl inf32)) ?_; refine st_call (some 33) rfl rfl (find_gr (v := v) W3 hH.G.gr hH.gl.n hH.gl.b (hA.keep E) hnw hnw2 hV.am hV.mo hV.t1 hV.t2) (ex_call (f := 12) (vs := [(Pz g 0), (.agg (WL_ v wo nw cw))]) rfl (cf12 _) rfl) ?_; rintro e W4 ⟨C, rfl, hC, B⟩; rw [fnd_none q5] at hC; obtain rfl := (show C = _ from hC); clear hC; refine ⟨_, rfl, ?_⟩; simp only [zp]; replace E := below_next E B
    replace k21 := keep B k21; replace hH := hH.keep B; refine vm (.tuple #[(.agg #[.slice none 0 0, .slice none 0 0, .slice none 0 0, .int .i64 0, .float .f64 0]), (.int .i64 (fndR L v).1)]) 30 rfl rfl rfl rfl ?_; refine vv (.agg #[.slice none 0 0, .slice none 0 0, .slice none 0 0, .int .i64 0, .float .f64 0]) 34 rfl rfl (ex_ext rfl rfl rfl) ?_; refine vv (.int .i64 (fndR L v).1) 35 rfl rfl (ex_ext rfl rfl rfl) ?_; refine st_new (fun b => .pointer (some ⟨b, 0, none⟩)) (some 10) rfl rfl (ex_alloc rfl zero36) ?_; intro b22 W5 k22 g22 B; simp only [zp]
    have ne_b22_b21 : b22 ≠ b21 := fun e => by have := lt_of k21; omega
    have ge_b22 := Nat.le_trans E.size g22; replace E := below_next E B; replace k21 := keep B k21; replace hH := hH.keep B; clear B; obtain ⟨W6, hst, kn, K⟩ := put_all (D := #[.slice none 0 0, .slice none 0 0, .slice none 0 0, .int .i64 0, .float .f64 0]) k22 rfl inf36 (by kernel_rfl); refine st_sk rfl rfl (ex_store rfl rfl rfl hst) ?_; replace E := below_put E ge_b22 K; replace k21 := keepK K k21 (fun e => ne_tag k21 k22 (by decide) e); replace hH := hH.put K k22 (by decide) (by decide) (by decide) ge_b22; replace k22 := kn; clear kn K hst
    refine vg (.int .i64 (fndR L v).1) 11 rfl rfl rfl rfl ?_; refine st_end ?_; subst hQ; refine wp_seq ?_; refine wq fun Q hQ => ?_; refine vm (.int .i64 (fndR L v).1) 36 rfl rfl rfl rfl ?_; refine vv (.bool true) 37 rfl rfl (ex_bin (u := (.int .i64 (fndR L v).1)) (r := (.int .i64 0)) rfl rfl rfl (eg37 _ _ _ _ _ _) (neq37 _ (decide_eq_true q5))) ?_; refine st_end ?_; subst hQ; refine wp_cond_true rfl ?_; refine wq fun Q hQ => ?_; refine vv (Pz b22 0) 38 rfl rfl (ex_fa (p := (Pz b22 0)) rfl rfl (fa36_0 _ _)) ?_
    refine vv (.slice none 0 0) 39 rfl rfl (ex_load (p := (Pz b22 0)) rfl rfl (ld33 (at_cell k22 rfl))) ?_; refine vv (.int .i64 (0 : Nat)) 40 rfl rfl (ex_len rfl rfl (len33 _ _ _ _ _)) ?_; refine vv (.bool true) 41 rfl rfl (ex_bin (u := (.int .i64 (0 : Nat))) (r := (.int .i64 0)) rfl rfl rfl (eg3 _ _ _ _ _ _) (eql3 _ (by decide))) ?_; refine vg (.bool true) 6 rfl rfl rfl rfl ?_; refine st_end ?_; subst hQ; refine wp_ret ?_
    repeat (first | refine ret_out ?_ | refine ret_blk ?_)
    exact bodyPost_ret (results_tmp Try.results5 _ _ _) rfl ⟨rfl, E⟩
  obtain ⟨y, hy⟩ := fnd_ok q5; have hK9 := find_ok hH.gl.b hy; have hn1 := hK9.n1; have hn8 := hK9.n8; refine wl_in (wl_cap fun Q hQ => ?_); refine vm (Pz g 0) 31 rfl rfl rfl rfl ?_; refine vv (.agg (WL_ v wo nw cw)) 32 rfl rfl (ex_load (p := (Pz b21 0)) rfl rfl (ld_all k21 Try.underlying32 rfl inf32)) ?_; refine st_call (some 33) rfl rfl (find_gr (v := v) W3 hH.G.gr hH.gl.n hH.gl.b (hA.keep E) hnw hnw2 hV.am hV.mo hV.t1 hV.t2) (ex_call (f := 12) (vs := [(Pz g 0), (.agg (WL_ v wo nw cw))]) rfl (cf12 _) rfl) ?_; rintro e W7 ⟨C, rfl, hC, B⟩; rw [hy] at hC
  obtain ⟨gE, cE0, bA, bX, rfl, hrE, hrA, hrX, lgE, lbA, lbX⟩ := wyd_some hC; obtain ⟨N3, hN3⟩ : ∃ N3, N3 = W7.heap.size := ⟨_, rfl⟩; rw [← hN3] at lgE lbA lbX; clear hC; refine ⟨_, rfl, ?_⟩; simp only [zp]; replace E := below_next E B; replace k21 := keep B k21; replace hH := hH.keep B; refine vm (.tuple #[(.agg #[.slice (some ⟨gE, 0, none⟩) y.es.length cE0, .slice (some ⟨bA, 0, none⟩) y.es.length y.es.length, .slice (some ⟨bX, 0, none⟩) y.es.length y.es.length, .int .i64 y.fee, .float .f64 y.cost]), (.int .i64 (fndR L v).1)]) 30 rfl rfl rfl rfl ?_
  refine vv (.agg #[.slice (some ⟨gE, 0, none⟩) y.es.length cE0, .slice (some ⟨bA, 0, none⟩) y.es.length y.es.length, .slice (some ⟨bX, 0, none⟩) y.es.length y.es.length, .int .i64 y.fee, .float .f64 y.cost]) 34 rfl rfl (ex_ext rfl rfl rfl) ?_; refine vv (.int .i64 (fndR L v).1) 35 rfl rfl (ex_ext rfl rfl rfl) ?_; refine st_new (fun b => .pointer (some ⟨b, 0, none⟩)) (some 10) rfl rfl (ex_alloc rfl zero36) ?_; intro b23 W8 k23 g23 B; simp only [zp]
  have nl_b23 : N3 ≤ b23 := by rw [hN3]; exact g23
  have ne_b23_b21 : b23 ≠ b21 := fun e => by have := lt_of k21; omega
  have ge_b23 := Nat.le_trans E.size g23; replace E := below_next E B; replace k21 := keep B k21; replace hH := hH.keep B; replace hrE := range_below hrE B; replace hrA := range_below hrA B; replace hrX := range_below hrX B; clear B; obtain ⟨W9, hst, kn, K⟩ := put_all (D := #[.slice (some ⟨gE, 0, none⟩) y.es.length cE0, .slice (some ⟨bA, 0, none⟩) y.es.length y.es.length, .slice (some ⟨bX, 0, none⟩) y.es.length y.es.length, .int .i64 y.fee, .float .f64 y.cost]) k23 rfl inf36 one5; refine st_sk rfl rfl (ex_store rfl rfl rfl hst) ?_; replace E := below_put E ge_b23 K
  replace k21 := keepK K k21 (fun e => ne_tag k21 k23 (by decide) e); replace hH := hH.put K k23 (by decide) (by decide) (by decide) ge_b23; replace hrE := range_keepK hrE K (fun e => by have := nl_b23; have := lgE; omega); replace hrA := range_keepK hrA K (fun e => by have := nl_b23; have := lbA; omega); replace hrX := range_keepK hrX K (fun e => by have := nl_b23; have := lbX; omega); replace k23 := kn; clear kn K hst; refine vg (.int .i64 (fndR L v).1) 11 rfl rfl rfl rfl ?_; refine st_end ?_; subst hQ; refine wp_seq ?_; refine wq fun Q hQ => ?_
  refine vm (.int .i64 (fndR L v).1) 36 rfl rfl rfl rfl ?_; refine vv (.bool false) 37 rfl rfl (ex_bin (u := (.int .i64 (fndR L v).1)) (r := (.int .i64 0)) rfl rfl rfl (eg37 _ _ _ _ _ _) (neq37 _ (decide_eq_false (fun h => h q5)))) ?_; refine st_end ?_; subst hQ; refine wp_cond_false rfl ?_; refine wp_skip ?_; refine wq fun Q hQ => ?_; refine vv (Pz b23 0) 42 rfl rfl (ex_fa (p := (Pz b23 0)) rfl rfl (fa36_0 _ _)) ?_; refine vv (.slice (some ⟨gE, 0, none⟩) y.es.length cE0) 43 rfl rfl (ex_load (p := (Pz b23 0)) rfl rfl (ld33 (at_cell k23 rfl))) ?_
  refine vv (.int .i64 (y.es.length : Nat)) 44 rfl rfl (ex_len rfl rfl (len33 _ _ _ _ _)) ?_; refine vg (.int .i64 (y.es.length : Nat)) 12 rfl rfl rfl rfl ?_; refine st_end ?_; subst hQ; refine wp_seq ?_; refine wp_seq ?_; refine way_head W9 hK9 k21 k23 hrE hrA hrX hV (fun _ _ _ _ _ h => h) ?_
  intro j45 j46 j47 j48 j49 j50 j51 j52 j53 j54 j55 j56 j57 j58 j59 j60 j61 j62 j63 j64 j65 j66 j67 j68 j69 j70 j71 j72 j73 j74 j75 j76 j77 j78 j79 j80 j81 j82 j83 j84 j85 j86 j87 j88 j89 j90 j91 j92 j93 j94 j95 j96 j97 j98 j99 j100 j101 j102 j103 j104 j105 j106 j107 j108 j109 j110 j111 j112 j113 j114 j115 j116 j117 j118 j119 j120 j121 j122 j123 j124 j125 j126 W10 B8; replace E := below_next E B8; replace k21 := keep B8 k21; replace hH := hH.keep B8; replace hrE := range_below hrE B8; replace hrA := range_below hrA B8; replace hrX := range_below hrX B8; replace k23 := keep B8 k23; clear B8
  refine wp_cond_false rfl ?_; refine wp_skip ?_; refine wq fun Q hQ => ?_; refine vg (.slice none 0 0) 13 rfl rfl rfl rfl ?_; refine st_end ?_; subst hQ; refine wp_seq ?_; refine wq fun Q hQ => ?_; refine vg (.int .i64 0) 14 rfl rfl rfl rfl ?_; refine st_end ?_; subst hQ; refine wp_block ?_; clear hH; have E_1 := E; have k21_1 := k21; have hrE_1 := hrE; have hrA_1 := hrA; have hrX_1 := hrX; have k23_1 := k23
  have hs1 : N3 ≤ W10.heap.size := by have := lt_of k23; have := nl_b23; omega
  obtain ⟨CS, hCS⟩ : ∃ CS, cstN v.ti none y.es y.am = CS := ⟨_, rfl⟩; have hCL := cst_len v.ti y.es y.am none hK9.na.symm; have hCA := cst_at v.ti y.es y.am none; have hcst := hK9.cst; rw [hCS] at hCL hCA hcst; have hE1s := E.size
  go_loopw [13, 14] (fun v13 v14 wz => ∃ i : Nat, i ≤ y.es.length ∧ v14 = .int .i64 i ∧ Below W10.heap.size W10 wz ∧ wz.ownsRow W10.heap.size 34 1 v13 i (Fl (CS.take i))) (fun _ v14 _ => y.es.length - (intOf v14).toNat)
  case atStart => exact ⟨0, Nat.zero_le _, rfl, Below.refl _ _, own_nil _ _ _ _⟩
  case round =>
    obtain ⟨i, hi, rfl, Bw, hw⟩ := hrel; clear E k21 hrE hrA hrX k23; have E := below_next E_1 Bw; have k21 := keep Bw k21_1; have hrE := range_below hrE_1 Bw; have hrA := range_below hrA_1 Bw; have hrX := range_below hrX_1 Bw; have k23 := keep Bw k23_1
    by_cases hlt : i < y.es.length
    · obtain ⟨e, he⟩ := some_at (l := y.es) hlt
      obtain ⟨a, hai⟩ := some_at (l := y.am) (i := i) (by rw [hK9.na]; exact hlt); obtain ⟨xx, hxi⟩ := some_at (l := y.xs) (i := i) (by rw [hK9.nx]; exact hlt); have heb := hK9.eb e (List.mem_of_getElem? he); have hcap := hK9.cap i e a he hai; have hpos := hK9.pos a (List.mem_of_getElem? hai); have hec := heb.cap; have hdl := heb.delta; have hcs := hCA i e a he hai
      by_cases hz : i = 0
      · skip
        have hcs : CS[i]? = some (costN 0 0 (chN e.p a e.cap v.ti)) := by subst hz; exact hcs
        refine way_r0 W10 wr hK9 k21 k23 hrE hrA hrX hV lgE lbA lbX hs1 Bw hw he hai hxi hz hcs hlt (fun _ _ _ _ _ h => h) ?_; intro _ _ _ _ _ _ _ _ _ _ _ _ _ _ _ _ _ _ _ _ _ _ _ _ _ _ _ _ _ _ _ _ _ _ _ _ _ _ _ _ _ _ _ _ _ _ _ _ _ _ _ _ _ _ _ _ _ _ _ _ _ _ _ _ _ _ _ _ _ _ _ _ _ _ _ _ _ _ _ _ _ _ _ _ _ _ _ _ _ _ _ _ _ _ _ _ _ _ _ _ _ _ _ _ _ _ _ _ _ _ _ _ _ _ _ _ _ _ _ _ _ _ _ _ _ _ _ _ _ _ _ _ _ _ _ _ _ _ _ _ _ _ _ g' cap' W' B' O'; refine ⟨?_, ?measure⟩
        (repeat apply Exists.intro)
        refine ⟨?rel, rfl⟩
        case rel => exact ⟨i + 1, by omega, rfl, B', O'⟩
        case measure => simp [intOf]; omega
      · skip
        obtain ⟨k, hk⟩ : ∃ k, i = k + 1 := ⟨i - 1, by omega⟩; obtain ⟨bb, hbk⟩ := some_at (l := y.am) (i := k) (by rw [hK9.na]; omega); obtain ⟨zz, hzk⟩ := some_at (l := y.xs) (i := k) (by rw [hK9.nx]; omega); obtain ⟨dd, hdd⟩ := some_at (l := y.es) (i := k) (by omega)
        have hcs : CS[i]? = some (costN (bb - a) e.q.d (chN e.p a e.cap v.ti)) := by rw [hk] at hcs ⊢; simp only [prv, hbk] at hcs; exact hcs
        refine way_rk W10 wr hK9 k21 k23 hrE hrA hrX hV lgE lbA lbX hs1 Bw hw he hai hxi hk hbk hzk hdd hcs hlt (fun _ _ _ _ _ h => h) ?_; intro _ _ _ _ _ _ _ _ _ _ _ _ _ _ _ _ _ _ _ _ _ _ _ _ _ _ _ _ _ _ _ _ _ _ _ _ _ _ _ _ _ _ _ _ _ _ _ _ _ _ _ _ _ _ _ _ _ _ _ _ _ _ _ _ _ _ _ _ _ _ _ _ _ _ _ _ _ _ _ _ _ _ _ _ _ _ _ _ _ _ _ _ _ _ _ _ _ _ _ _ _ _ _ _ _ _ _ _ _ _ _ _ _ _ _ _ _ _ _ _ _ _ _ _ _ _ _ _ _ _ _ _ _ _ _ _ _ _ _ _ _ _ _ g' cap' W' B' O'; refine ⟨?_, ?measure⟩
        (repeat apply Exists.intro)
        refine ⟨?rel, rfl⟩
        case rel => exact ⟨i + 1, by omega, rfl, B', O'⟩
        case measure => simp [intOf]; omega
    · have hin : i = y.es.length := by omega
      subst i; rw [List.take_of_length_le (by omega)] at hw; obtain ⟨ao5, c5, rfl, hc5, hf5⟩ := own_form hw; refine wp_seq ?_; refine wq fun Q hQ => ?_; refine vm (.int .i64 (y.es.length : Nat)) 128 rfl rfl rfl rfl ?_; refine vm (.int .i64 (y.es.length : Nat)) 129 rfl rfl rfl rfl ?_; refine vv (.bool false) 130 rfl rfl (ex_bin (u := (.int .i64 (y.es.length : Nat))) (r := (.int .i64 (y.es.length : Nat))) rfl rfl rfl (eg3 _ _ _ _ _ _) (lss3 _ (decide_eq_false (by omega)))) ?_; refine st_end ?_; subst hQ; refine wp_cond_false rfl ?_; refine wp_exit ?_; refine ex_then ?_; refine ex_then ?_
      refine ex_blk ?_
      have hF : Fs wr ao5 y.es.length (fun j => CS.getD j 0) := by
        rcases hf5 with h0 | ⟨g5, cur, rfl, hb5, hh5, hr5⟩
        · exact .inl h0
        · refine .inr ⟨g5, 0, rfl, fun j hj => hr5 j _ ?_⟩
          unfold Fl
          have hj2 : j < CS.length := by omega
          simp [hj2, List.getD_eq_getElem?_getD]
      have hJ : jk (fun j => CS.getD j 0) y.es.length 0 0 = y.cost := by rw [hcst, show y.es.length = CS.length by omega]; exact jk_list CS
      have hz9 : ∀ j, j < y.es.length → (fun j => CS.getD j 0) j < 18446744073709551616 := fun j hj => by
        obtain ⟨e, he⟩ := some_at (l := y.es) hj; obtain ⟨a, hai⟩ := some_at (l := y.am) (i := j) (by rw [hK9.na]; exact hj); have heb := hK9.eb e (List.mem_of_getElem? he); have hdl := heb.delta; have hpos := hK9.pos a (List.mem_of_getElem? hai); have hcap := hK9.cap j e a he hai; have hec := heb.cap; have hc := hCA j e a he hai
        show CS.getD j 0 < _
        rw [List.getD_eq_getElem?_getD, hc]
        have hx : chN e.p a e.cap v.ti < 18446744073709551616 := by have := chN_le e.p a e.cap v.ti heb.cap; have := F1_lt; omega
        cases j with
        | zero => exact Nat.lt_of_le_of_lt (costN_le _ _ _ hx (by show (0 : Int) ≤ _; omega) (by show (0 : Int) ≤ _; omega)) (by decide)
        | succ k =>
          obtain ⟨a1, ha1⟩ := some_at (l := y.am) (i := k) (by rw [hK9.na]; omega); obtain ⟨e1, he1⟩ := some_at (l := y.es) (i := k) (by omega); have hab1 := hK9.pos a1 (List.mem_of_getElem? ha1); have hcp1 := hK9.cap k e1 a1 he1 ha1; have hec1 := (hK9.eb e1 (List.mem_of_getElem? he1)).cap; simp only [prv, ha1, Option.getD_some]; exact Nat.lt_of_le_of_lt (costN_le _ _ _ hx (by omega) (by omega)) (by decide)
      have hnn := nan_no hK9.nan; refine wp_seq ?_; obtain ⟨W11, hwd⟩ : ∃ wd, wr.drew = wd := ⟨_, rfl⟩; refine wp_region_held (S := fun W => Kept Nil W11 W) (by kernel_rfl) ?_
      show wpAnyH _ _ _ _ _ _ _ _ wr.drew
      rw [hwd]; refine capQ fun Q hQ => ?_
      have hQP : ∀ c (a : Act) (d : Nat) v w, Q (.panic c) (a.put (some d) v) w → Q (.panic c) a w := by
        subst hQ; exact fun _ _ _ _ _ h => h
      have BD : Below wr.heap.size wr W11 := by rw [← hwd]; exact below_drewB (Below.refl _ _)
      clear hwd; replace E := below_next E BD; replace k21 := keep BD k21; replace k23 := keep BD k23; replace hF := hF.below BD; clear BD
      have S : Kept Nil W11 W11 := Kept.refl _ _
      have d_k21 := k21; have d_k23 := k23; have d_hF := hF; refine tk (.slice ao5 y.es.length c5) 0 267 rfl rfl rfl (fun W hK => ex_mv rfl rfl) S hQP ?_; refine tk (Pz b23 4) 2 269 rfl rfl rfl (fun W hK => ex_fa (p := (Pz b23 0)) rfl rfl (fa36_4 _ _)) S hQP ?_; refine tk (.float .f64 y.cost) 3 270 rfl rfl rfl (fun W hK => ex_load (p := (Pz b23 4)) rfl rfl (ld34 (at_cell (keepK hK d_k23 (nilN _)) rfl))) S hQP ?_; refine ah_or1 (i := 1) (by kernel_rfl) ?_
      refine nx_call (some 268) rfl rfl rfl ((sjoin_any W11 hF (by omega) hz9).mono (fun _ _ h => by rw [hJ] at h; exact h)) (ex_call (f := 18) (vs := [(.slice ao5 y.es.length c5)]) rfl (cf18 _) rfl) ?_; rintro e W12 ⟨rfl, B⟩; refine ⟨_, rfl, S.next B, ?_⟩; simp only [zp]; replace E := below_next E B; replace k21 := keep B k21; replace k23 := keep B k23; replace hF := hF.below B; replace S := S.next B; refine tk (.bool true) 4 271 rfl rfl rfl (fun W hK => ex_bin rfl rfl rfl (egF _ _ _ _ _ _) (eqlF _ (is_eq hnn hnn (decide_eq_true rfl)))) S hQP ?_
      refine tk (.bool true) 5 6 rfl rfl rfl (fun W hK => ex_asg rfl rfl) S hQP ?_; refine ah_done (by kernel_rfl) ?_; clear hQP; subst hQ; clear S d_k21 d_k23 d_hF; refine wp_ret ?_
      repeat (first | refine ret_out ?_ | refine ret_blk ?_)
      exact bodyPost_ret (results_tmp Try.results5 _ _ _) rfl ⟨rfl, E⟩
end Go.Proofs.Ytgnkcmmpbohafaa
