/- An edge is set, taken away, learnt of: and all other blocks are kept. -/
import Derived.Test.YtgnkcmmpbohafaaDoe11
namespace Go.Proofs.Ytgnkcmmpbohafaa
open Go.RowKit
set_option linter.unusedVariables false
set_option linter.unusedSimpArgs false
set_option maxRecDepth 100000

set_option maxHeartbeats 16000000 in
theorem qset_there {g b j : Nat} {L : List EV} {d e : EV} (w : World) (hG : Gq w g b L) (hI : GI L) (hd : L[j]? = some d) (hk : d.ch = e.ch ∧ d.fr = e.fr) (he : EB e) : Calls Try.prog 21 #[.pointer (some ⟨g, 0, none⟩), .agg (EL e)] w fun q w' => q = .returned (.int .i64 0) ∧ Gq w' g b (L.set j e) ∧ Kept (fun k => k = g ∨ k = b) w w' := by
  have hj : j < L.length := (List.getElem?_eq_some_iff.1 hd).1
  have hs := hI.s; have hn := hI.n; obtain ⟨c, kg, hO⟩ := hG; obtain ⟨curb, kb⟩ := own_blk hO
  have E : Kept (fun k => k = g ∨ k = b) w w := Kept.refl _ _
  go_enter Try.func21, Try.ntmps21; refine wq fun Q hQ => ?_; refine st_new (fun b => .pointer (some ⟨b, 0, none⟩)) (some 3) rfl rfl (ex_box rfl rfl) ?_; intro b21 W1 k21 g21 B; simp only [zp]
  have ne_b21_g : b21 ≠ g := fun e => by have := lt_of kg; omega
  have ne_b21_b : b21 ≠ b := fun e => by have := lt_of kb; omega
  have ge_b21 := Nat.le_trans E.size g21; replace E := E.next B; replace kg := keep B kg; replace kb := keep B kb; replace hO := own_keep hO B; clear B; refine vg (.int .i64 0) 4 rfl rfl rfl rfl ?_; refine st_end ?_; subst hQ; refine wp_seq ?_; refine wp_block ?_; refine wq fun Q hQ => ?_; refine vm (Pz g 0) 8 rfl rfl rfl rfl ?_; refine st_call (some 9) rfl rfl (closed_any W1 kg) (ex_call (f := 33) (vs := [(Pz g 0)]) rfl (cf33 _) rfl) ?_; rintro e W2 ⟨rfl, B⟩; refine ⟨_, rfl, ?_⟩; simp only [zp]; replace E := E.next B; replace kg := keep B kg; replace kb := keep B kb
  replace hO := own_keep hO B; replace k21 := keep B k21; refine vg (.bool false) 7 rfl rfl rfl rfl ?_; refine st_end ?_; subst hQ; refine wp_cond_false rfl ?_; refine wq fun Q hQ => ?_; refine vv (.agg (EL e)) 11 rfl rfl (ex_load (p := (Pz b21 0)) rfl rfl (ld_all k21 Try.underlying49 rfl inf49)) ?_; refine st_call (some 12) rfl rfl (mayE_any W2 he.b he.cap he.ok) (ex_call (f := 62) (vs := [(.agg (EL e))]) rfl (cf62 _) rfl) ?_; rintro e W3 ⟨rfl, B⟩; refine ⟨_, rfl, ?_⟩; simp only [zp]; replace E := E.next B; replace kg := keep B kg; replace kb := keep B kb; replace hO := own_keep hO B
  replace k21 := keep B k21; refine vv (.bool false) 13 rfl rfl (ex_not rfl rfl rfl) ?_; refine vg (.bool false) 10 rfl rfl rfl rfl ?_; refine st_end ?_; subst hQ; refine wp_cond_false rfl ?_; refine wp_skip ?_; refine wq fun Q hQ => ?_; refine vm (Pz g 0) 15 rfl rfl rfl rfl ?_; refine vv (Pz b21 0) 16 rfl rfl (ex_fa (p := (Pz b21 0)) rfl rfl (fa49_0 _ _)) ?_; refine vv (.int .i64 e.ch) 17 rfl rfl (ex_load (p := (Pz b21 0)) rfl rfl (ld3 (at_cell k21 rfl))) ?_; refine vv (Pz b21 1) 18 rfl rfl (ex_fa (p := (Pz b21 0)) rfl rfl (fa49_1 _ _)) ?_
  refine vv (.int .i64 e.fr) 19 rfl rfl (ex_load (p := (Pz b21 1)) rfl rfl (ld3 (at_cell k21 rfl))) ?_; refine st_call (some 20) rfl rfl (place_any (ch := e.ch) (fr := e.fr) W3 kg (own_Es hO) rfl hn hs) (ex_call (f := 63) (vs := [(Pz g 0), (.int .i64 e.ch), (.int .i64 e.fr)]) rfl (cf63 _) rfl) ?_; rintro e W4 ⟨i, fd, rfl, hi, p1, p2, p3, B⟩; obtain ⟨rfl, rfl⟩ := pl_yes hs hd hk p1 p2 p3; refine ⟨_, rfl, ?_⟩; simp only [zp]; replace E := E.next B; replace kg := keep B kg; replace kb := keep B kb; replace hO := own_keep hO B; replace k21 := keep B k21
  refine vm (.tuple #[(.int .i64 (i : Nat)), (.bool true)]) 14 rfl rfl rfl rfl ?_; refine vv (.int .i64 (i : Nat)) 21 rfl rfl (ex_ext rfl rfl rfl) ?_; refine vv (.bool true) 22 rfl rfl (ex_ext rfl rfl rfl) ?_; refine vg (.int .i64 (i : Nat)) 5 rfl rfl rfl rfl ?_; refine vg (.bool true) 6 rfl rfl rfl rfl ?_; refine st_end ?_; subst hQ; refine wp_seq ?_; refine wp_block ?_; refine wq fun Q hQ => ?_; refine vm (.bool true) 35 rfl rfl rfl rfl ?_; refine vg (.bool true) 34 rfl rfl rfl rfl ?_; refine st_end ?_; subst hQ; refine wp_cond_true rfl ?_; obtain ⟨W5, hwd⟩ : ∃ wd, W4.drew = wd := ⟨_, rfl⟩
  refine wp_region_held (S := fun W => Kept (· = b) W5 W) (by kernel_rfl) ?_
  show wpAnyH _ _ _ _ _ _ _ _ W4.drew
  rw [hwd]; refine capQ fun Q hQ => ?_
  have hQP : ∀ c (a : Act) (d : Nat) v w, Q (.panic c) (a.put (some d) v) w → Q (.panic c) a w := by
    subst hQ; exact fun _ _ _ _ _ h => h
  have BD : Below W4.heap.size W4 W5 := by rw [← hwd]; exact below_drewB (Below.refl _ _)
  clear hwd; replace E := E.next BD; replace kg := keep BD kg; replace kb := keep BD kb; replace hO := own_keep hO BD; replace k21 := keep BD k21; clear BD
  have S : Kept (· = b) W5 W5 := Kept.refl _ _
  have d_kg := kg; have d_kb := kb; have d_k21 := k21; have d_hO := hO; refine tk (Pz g 0) 0 36 rfl rfl rfl (fun W hK => ex_mv rfl rfl) S hQP ?_; refine tk (Pz g 0) 1 37 rfl rfl rfl (fun W hK => ex_nil (p := (Pz g 0)) rfl rfl rfl) S hQP ?_; refine tk (Pz g 0) 2 38 rfl rfl rfl (fun W hK => ex_fa (p := (Pz g 0)) rfl rfl (fa105_0 _ _)) S hQP ?_; refine tk (.slice (some ⟨b, 0, none⟩) L.length c) 3 39 rfl rfl rfl (fun W hK => ex_load (p := (Pz g 0)) rfl rfl (ld33 (at_cell (keepK hK d_kg (fun e => ne_tag d_kg d_kb (by decide) e)) rfl))) S hQP ?_
  refine tk (.int .i64 (i : Nat)) 4 40 rfl rfl rfl (fun W hK => ex_mv rfl rfl) S hQP ?_; refine tk (.agg (EL e)) 5 41 rfl rfl rfl (fun W hK => ex_load (p := (Pz b21 0)) rfl rfl (ld_all (keepK hK d_k21 (fun e => by first | exact ne_b21_b e | exact ne_b_b21 e.symm)) Try.underlying49 rfl inf49)) S hQP ?_; refine tk (.pointer (some ⟨b, (0 + i * 13), none⟩)) 6 42 rfl rfl rfl (fun W hK => ix33 (k := i) rfl rfl rfl (rfl) (hj)) S hQP ?_; refine ah_or1 (i := 7) (by kernel_rfl) ?_; obtain ⟨W6, hst, hO2, K⟩ := own_put (e := e) hO rfl hj; refine nx_sk rfl rfl rfl (ex_store rfl rfl rfl hst) (S.putX K) ?_
  replace E := E.putR K; replace kg := keepK K kg (fun e => ne_tag kg kb (by decide) e); replace k21 := keepK K k21 (fun e => by first | exact ne_b21_b e | exact ne_b_b21 e.symm); replace S := S.putX K; clear K hst; refine ah_done (by kernel_rfl) ?_; clear hQP; subst hQ; clear S d_kg d_kb d_k21 d_hO; refine wq fun Q hQ => ?_; refine vg (.int .i64 0) 4 rfl rfl rfl rfl ?_; refine st_end ?_; subst hQ; refine wp_ret ?_
  repeat (first | refine ret_out ?_ | refine ret_blk ?_)
  exact bodyPost_ret (results_tmp Try.results21 _ _ _) rfl ⟨rfl, ⟨c, by rw [List.length_set]; exact kg, by rw [List.length_set]; exact hO2⟩, E⟩
set_option maxHeartbeats 16000000 in
theorem qset_new {g b : Nat} {L : List EV} {e : EV} (w : World) (hG : Gq w g b L) (hI : GI L) (hk : noE L e.ch e.fr) (hn3 : L.length ≤ 63) (he : EB e) : Calls Try.prog 21 #[.pointer (some ⟨g, 0, none⟩), .agg (EL e)] w fun q w' => q = .returned (.int .i64 0) ∧ ∃ b', Gq w' g b' (insE L (posE e.ch e.fr L) e) ∧ (b' = b ∨ w.heap.size ≤ b') ∧ Kept (fun k => k = g ∨ k = b) w w' := by
  have hs := hI.s; have hn := hI.n; obtain ⟨c, kg, hO⟩ := hG; obtain ⟨curb, kb⟩ := own_blk hO; have kb0 := kb
  have E : Kept (fun k => k = g ∨ k = b) w w := Kept.refl _ _
  go_enter Try.func21, Try.ntmps21; refine wq fun Q hQ => ?_; refine st_new (fun b => .pointer (some ⟨b, 0, none⟩)) (some 3) rfl rfl (ex_box rfl rfl) ?_; intro b21 W1 k21 g21 B; simp only [zp]
  have ne_b21_g : b21 ≠ g := fun e => by have := lt_of kg; omega
  have ne_b21_b : b21 ≠ b := fun e => by have := lt_of kb; omega
  have ge_b21 := Nat.le_trans E.size g21; replace E := E.next B; replace kg := keep B kg; replace kb := keep B kb; replace hO := own_keep hO B; clear B; refine vg (.int .i64 0) 4 rfl rfl rfl rfl ?_; refine st_end ?_; subst hQ; refine wp_seq ?_; refine wp_block ?_; refine wq fun Q hQ => ?_; refine vm (Pz g 0) 8 rfl rfl rfl rfl ?_; refine st_call (some 9) rfl rfl (closed_any W1 kg) (ex_call (f := 33) (vs := [(Pz g 0)]) rfl (cf33 _) rfl) ?_; rintro e W2 ⟨rfl, B⟩; refine ⟨_, rfl, ?_⟩; simp only [zp]; replace E := E.next B; replace kg := keep B kg; replace kb := keep B kb
  replace hO := own_keep hO B; replace k21 := keep B k21; refine vg (.bool false) 7 rfl rfl rfl rfl ?_; refine st_end ?_; subst hQ; refine wp_cond_false rfl ?_; refine wq fun Q hQ => ?_; refine vv (.agg (EL e)) 11 rfl rfl (ex_load (p := (Pz b21 0)) rfl rfl (ld_all k21 Try.underlying49 rfl inf49)) ?_; refine st_call (some 12) rfl rfl (mayE_any W2 he.b he.cap he.ok) (ex_call (f := 62) (vs := [(.agg (EL e))]) rfl (cf62 _) rfl) ?_; rintro e W3 ⟨rfl, B⟩; refine ⟨_, rfl, ?_⟩; simp only [zp]; replace E := E.next B; replace kg := keep B kg; replace kb := keep B kb; replace hO := own_keep hO B
  replace k21 := keep B k21; refine vv (.bool false) 13 rfl rfl (ex_not rfl rfl rfl) ?_; refine vg (.bool false) 10 rfl rfl rfl rfl ?_; refine st_end ?_; subst hQ; refine wp_cond_false rfl ?_; refine wp_skip ?_; refine wq fun Q hQ => ?_; refine vm (Pz g 0) 15 rfl rfl rfl rfl ?_; refine vv (Pz b21 0) 16 rfl rfl (ex_fa (p := (Pz b21 0)) rfl rfl (fa49_0 _ _)) ?_; refine vv (.int .i64 e.ch) 17 rfl rfl (ex_load (p := (Pz b21 0)) rfl rfl (ld3 (at_cell k21 rfl))) ?_; refine vv (Pz b21 1) 18 rfl rfl (ex_fa (p := (Pz b21 0)) rfl rfl (fa49_1 _ _)) ?_
  refine vv (.int .i64 e.fr) 19 rfl rfl (ex_load (p := (Pz b21 1)) rfl rfl (ld3 (at_cell k21 rfl))) ?_; refine st_call (some 20) rfl rfl (place_any (ch := e.ch) (fr := e.fr) W3 kg (own_Es hO) rfl hn hs) (ex_call (f := 63) (vs := [(Pz g 0), (.int .i64 e.ch), (.int .i64 e.fr)]) rfl (cf63 _) rfl) ?_; rintro e W4 ⟨i, fd, rfl, hi, p1, p2, p3, B⟩; obtain rfl := pl_no hk p3; refine ⟨_, rfl, ?_⟩; simp only [zp]; replace E := E.next B; replace kg := keep B kg; replace kb := keep B kb; replace hO := own_keep hO B; replace k21 := keep B k21
  refine vm (.tuple #[(.int .i64 (i : Nat)), (.bool false)]) 14 rfl rfl rfl rfl ?_; refine vv (.int .i64 (i : Nat)) 21 rfl rfl (ex_ext rfl rfl rfl) ?_; refine vv (.bool false) 22 rfl rfl (ex_ext rfl rfl rfl) ?_; refine vg (.int .i64 (i : Nat)) 5 rfl rfl rfl rfl ?_; refine vg (.bool false) 6 rfl rfl rfl rfl ?_; refine st_end ?_; subst hQ; refine wp_seq ?_; refine wp_block ?_; refine wq fun Q hQ => ?_; refine vm (.bool false) 35 rfl rfl rfl rfl ?_; refine vg (.bool false) 34 rfl rfl rfl rfl ?_; refine st_end ?_; subst hQ; refine wp_cond_false rfl ?_; refine wq fun Q hQ => ?_
  refine vm (Pz g 0) 44 rfl rfl rfl rfl ?_; refine vv (Pz g 0) 45 rfl rfl (ex_nil (p := (Pz g 0)) rfl rfl rfl) ?_; refine vv (Pz g 0) 46 rfl rfl (ex_fa (p := (Pz g 0)) rfl rfl (fa105_0 _ _)) ?_; refine vv (.slice (some ⟨b, 0, none⟩) L.length c) 47 rfl rfl (ex_load (p := (Pz g 0)) rfl rfl (ld33 (at_cell kg rfl))) ?_; refine vv (.int .i64 (L.length : Nat)) 48 rfl rfl (ex_len rfl rfl (len33 _ _ _ _ _)) ?_; refine vv (.bool false) 49 rfl rfl (ex_bin (u := (.int .i64 (L.length : Nat))) (r := (.int .i64 64)) rfl rfl rfl (eg3 _ _ _ _ _ _) (geq3 _ (decide_eq_false (by omega)))) ?_
  refine vg (.bool false) 43 rfl rfl rfl rfl ?_; refine st_end ?_; subst hQ; refine wp_cond_false rfl ?_; obtain ⟨W5, hwd⟩ : ∃ wd, W4.drew = wd := ⟨_, rfl⟩; refine wp_region_held (S := fun W => Kept (fun k => k = g ∨ k = b) W5 W) (by kernel_rfl) ?_
  show wpAnyH _ _ _ _ _ _ _ _ W4.drew
  rw [hwd]; refine capQ fun Q hQ => ?_
  have hQP : ∀ c (a : Act) (d : Nat) v w, Q (.panic c) (a.put (some d) v) w → Q (.panic c) a w := by
    subst hQ; exact fun _ _ _ _ _ h => h
  have BD : Below W4.heap.size W4 W5 := by rw [← hwd]; exact below_drewB (Below.refl _ _)
  clear hwd; replace E := E.next BD; replace kg := keep BD kg; replace kb := keep BD kb; replace hO := own_keep hO BD; replace k21 := keep BD k21; clear BD
  have S : Kept (fun k => k = g ∨ k = b) W5 W5 := Kept.refl _ _
  have d_kg := kg; have d_kb := kb; have d_k21 := k21; have d_hO := hO; refine tk (Pz g 0) 0 23 rfl rfl rfl (fun W hK => ex_mv rfl rfl) S hQP ?_; refine tk (Pz g 0) 1 24 rfl rfl rfl (fun W hK => ex_mv rfl rfl) S hQP ?_; refine tk (Pz g 0) 2 25 rfl rfl rfl (fun W hK => ex_nil (p := (Pz g 0)) rfl rfl rfl) S hQP ?_; refine tk (Pz g 0) 3 26 rfl rfl rfl (fun W hK => ex_fa (p := (Pz g 0)) rfl rfl (fa105_0 _ _)) S hQP ?_; refine tk (.int .i64 (i : Nat)) 5 28 rfl rfl rfl (fun W hK => ex_mv rfl rfl) S hQP ?_
  refine tk (.agg (EL e)) 6 29 rfl rfl rfl (fun W hK => ex_load (p := (Pz b21 0)) rfl rfl (ld_all (keepK hK d_k21 (fun e => e.elim (fun e => ne_tag d_k21 d_kg (by decide) e) (fun e => by first | exact ne_b21_b e | exact ne_b_b21 e.symm))) Try.underlying49 rfl inf49)) S hQP ?_; refine cap2 fun ops SS hops hS => ?_
  let F : Value → Value → Value → Value → Value → Act := fun s27 s30 s31 s32 s33 => { tmps := #[(Pz g 0), (.agg (EL e)), undef, (Pz b21 0), (.int .i64 0), (.int .i64 (i : Nat)), (.bool false), (.bool false), (Pz g 0), (.bool false), (.bool false), (.agg (EL e)), (.bool true), (.bool false), (.tuple #[(.int .i64 (i : Nat)), (.bool false)]), (Pz g 0), (Pz b21 0), (.int .i64 e.ch), (Pz b21 1), (.int .i64 e.fr), (.tuple #[(.int .i64 (i : Nat)), (.bool false)]), (.int .i64 (i : Nat)), (.bool false), (Pz g 0), (Pz g 0), (Pz g 0), (Pz g 0), s27, (.int .i64 (i : Nat)), (.agg (EL e)), s30, s31, s32, s33, (.bool false), (.bool false), undef, undef, undef, undef, undef, undef, undef, (.bool false), (Pz g 0), (Pz g 0), (Pz g 0), (.slice (some ⟨b, 0, none⟩) L.length c), (.int .i64 (L.length : Nat)), (.bool false)], defers := [] }
  suffices FIN : ∀ (bt30 : Nat) (g2 : Nat) (c2 : Nat) (Wq : World) (gd_bt30 : W5.heap.size ≤ bt30) (ge_bt30 : w.heap.size ≤ bt30) (ne_b_bt30 : b ≠ bt30) (ne_bt30_b : bt30 ≠ b) (ne_b21_bt30 : b21 ≠ bt30) (ne_bt30_b21 : bt30 ≠ b21) (hloc : g2 = b ∨ w.heap.size ≤ g2) (E : Kept (fun k => k = g ∨ k = b) w Wq) (k21 : Wq.heap[b21]? = some (.cells (EL e) 49)) (S : Kept (fun k => k = g ∨ k = b) W5 Wq) (kt30 : Wq.heap[bt30]? = some (.cells (EL e) 49)) (hO2 : Wq.ownsRow 0 49 13 (.slice (some ⟨g2, 0, none⟩) (L.length + 1) c2) (L.length + 1) (cE (insE L i e))) (kg : Wq.heap[g]? = some (.cells #[(.slice (some ⟨g2, 0, none⟩) (L.length + 1) c2)] 105)), wpAnyH Try.prog .any ops Q SS 0 #[true, true, true, true, true, true, true, true, true, true, true, true] (F (.slice (some ⟨b, 0, none⟩) L.length c) (.slice (some ⟨bt30, 0, none⟩) 1 1) (.slice (some ⟨g2, 0, none⟩) (L.length + 1) c2) (Pz g 0) (Pz g 0)) Wq by
    have ST1 : ∀ (bt30 : Nat) (g2 : Nat) (c2 : Nat) (Wq : World) (gd_bt30 : W5.heap.size ≤ bt30) (ge_bt30 : w.heap.size ≤ bt30) (ne_b_bt30 : b ≠ bt30) (ne_bt30_b : bt30 ≠ b) (ne_b21_bt30 : b21 ≠ bt30) (ne_bt30_b21 : bt30 ≠ b21) (hloc : g2 = b ∨ w.heap.size ≤ g2) (E : Kept (fun k => k = g ∨ k = b) w Wq) (kg : Wq.heap[g]? = some (.cells #[.slice (some ⟨b, 0, none⟩) L.length c] 105)) (k21 : Wq.heap[b21]? = some (.cells (EL e) 49)) (S : Kept (fun k => k = g ∨ k = b) W5 Wq) (kt30 : Wq.heap[bt30]? = some (.cells (EL e) 49)) (hO2 : Wq.ownsRow 0 49 13 (.slice (some ⟨g2, 0, none⟩) (L.length + 1) c2) (L.length + 1) (cE (insE L i e))), wpAnyH Try.prog .any ops Q SS 1 #[true, true, true, true, true, true, true, true, true, true, true, false] (F (.slice (some ⟨b, 0, none⟩) L.length c) (.slice (some ⟨bt30, 0, none⟩) 1 1) (.slice (some ⟨g2, 0, none⟩) (L.length + 1) c2) (Pz g 0) (Pz g 0)) Wq := by
      intro bt30 g2 c2 Wq gd_bt30 ge_bt30 ne_b_bt30 ne_bt30_b ne_b21_bt30 ne_bt30_b21 hloc E kg k21 S kt30 hO2
      dsimp only [F]
      refine ops_in hops hS ?_; refine ah_or1 (i := 11) (by kernel_rfl) ?_
      · skip
        obtain ⟨kn, K⟩ := put_cell (i := 0) (.slice (some ⟨g2, 0, none⟩) (L.length + 1) c2) kg; refine nx_sk rfl rfl rfl (ex_store rfl rfl rfl (sto33 (at_cell kg rfl) (unfrozen kg))) (S.putL K) ?_; obtain ⟨W10, hW2⟩ : ∃ W', Wq.setCell ⟨g, 0, none⟩ (.slice (some ⟨g2, 0, none⟩) (L.length + 1) c2) = W' := ⟨_, rfl⟩; rw [hW2] at kn K ⊢; replace E := E.putL K; replace k21 := keepK K k21 (fun e => ne_tag k21 kg (by decide) e); replace S := S.putL K; replace kt30 := keepK K kt30 (fun e => ne_tag kt30 kg (by decide) e)
        replace hO2 := own_keepK hO2 K (fun q hq e => own_ne hO2 kg (by decide) (by rw [hq, e])); replace kg := kn; clear kn K; refine ah_L (L' := #[true, true, true, true, true, true, true, true, true, true, true, true]) (by kernel_rfl) ?_; refine ops_out hops hS ?_; exact FIN bt30 g2 c2 W10 gd_bt30 ge_bt30 ne_b_bt30 ne_bt30_b ne_b21_bt30 ne_bt30_b21 hloc E k21 S kt30 hO2 kg
    have ST2 : ∀ (bt30 : Nat) (Wq : World) (gd_bt30 : W5.heap.size ≤ bt30) (ge_bt30 : w.heap.size ≤ bt30) (ne_b_bt30 : b ≠ bt30) (ne_bt30_b : bt30 ≠ b) (ne_b21_bt30 : b21 ≠ bt30) (ne_bt30_b21 : bt30 ≠ b21) (E : Kept (fun k => k = g ∨ k = b) w Wq) (kg : Wq.heap[g]? = some (.cells #[.slice (some ⟨b, 0, none⟩) L.length c] 105)) (kb : Wq.heap[b]? = some (.cells curb 49)) (hO : Wq.ownsRow 0 49 13 (.slice (some ⟨b, 0, none⟩) L.length c) L.length (cE L)) (k21 : Wq.heap[b21]? = some (.cells (EL e) 49)) (S : Kept (fun k => k = g ∨ k = b) W5 Wq) (kt30 : Wq.heap[bt30]? = some (.cells (EL e) 49)), wpAnyH Try.prog .any ops Q SS 4 #[true, true, true, true, true, true, true, true, false, false, false, false] (F (.slice (some ⟨b, 0, none⟩) L.length c) (.slice (some ⟨bt30, 0, none⟩) 1 1) undef undef undef) Wq := by
      intro bt30 Wq gd_bt30 ge_bt30 ne_b_bt30 ne_bt30_b ne_b21_bt30 ne_bt30_b21 E kg kb hO k21 S kt30
      dsimp only [F]
      refine ops_in hops hS ?_; refine ah_or1 (i := 8) (by kernel_rfl) ?_
      · skip
        refine nx_call (some 31) rfl rfl rfl (inq_any Wq hO rfl (by omega) kt30 (fun e => by have := lt_of kb0; have := ge_bt30; omega) (Nat.zero_le _) hi) (ex_call (f := 64) (vs := [(.slice (some ⟨b, 0, none⟩) L.length c), (.int .i64 (i : Nat)), (.slice (some ⟨bt30, 0, none⟩) 1 1)]) rfl (cf64 _) rfl) ?_; rintro e W11 ⟨g2, c2, rfl, hO2, hKs, hloc0⟩
        have hloc : g2 = b ∨ w.heap.size ≤ g2 := hloc0.imp id (fun h => Nat.le_trans E.size h)
        clear hloc0; refine ⟨_, rfl, S.putR hKs, ?_⟩; simp only [zp]; replace E := E.putR hKs; replace kg := keepK hKs kg (fun e => ne_tag kg kb (by decide) e); replace k21 := keepK hKs k21 (fun e => by first | exact ne_b21_b e | exact ne_b_b21 e.symm); replace S := S.putR hKs; replace kt30 := keepK hKs kt30 (fun e => by first | exact ne_bt30_b e | exact ne_b_bt30 e.symm); refine tk (Pz g 0) 9 32 rfl rfl rfl (fun W hK => ex_nil (p := (Pz g 0)) rfl rfl rfl) S hQP ?_; refine tk (Pz g 0) 10 33 rfl rfl rfl (fun W hK => ex_fa (p := (Pz g 0)) rfl rfl (fa105_0 _ _)) S hQP ?_
        refine ah_L (L' := #[true, true, true, true, true, true, true, true, true, true, true, false]) (by kernel_rfl) ?_; refine ops_out hops hS ?_; exact ST1 bt30 g2 c2 W11 gd_bt30 ge_bt30 ne_b_bt30 ne_bt30_b ne_b21_bt30 ne_bt30_b21 hloc E kg k21 S kt30 hO2
    have ST3 : ∀ (Wq : World) (E : Kept (fun k => k = g ∨ k = b) w Wq) (kg : Wq.heap[g]? = some (.cells #[.slice (some ⟨b, 0, none⟩) L.length c] 105)) (kb : Wq.heap[b]? = some (.cells curb 49)) (hO : Wq.ownsRow 0 49 13 (.slice (some ⟨b, 0, none⟩) L.length c) L.length (cE L)) (k21 : Wq.heap[b21]? = some (.cells (EL e) 49)) (S : Kept (fun k => k = g ∨ k = b) W5 Wq), wpAnyH Try.prog .any ops Q SS 5 #[true, true, true, true, true, true, true, false, false, false, false, false] (F (.slice (some ⟨b, 0, none⟩) L.length c) undef undef undef undef) Wq := by
      intro Wq E kg kb hO k21 S
      dsimp only [F]
      refine ops_in hops hS ?_; refine ah_or1 (i := 7) (by kernel_rfl) ?_
      · skip
        refine nx_new (fun b => .slice (some ⟨b, 0, none⟩) 1 1) (some 30) rfl rfl rfl (ex_bsl1 (u := (.agg (EL e))) rfl rfl (bslE e _)) ?_; intro bt30 W12 kt30 gt30 B; refine ⟨S.next B, ?_⟩; simp only [zp]; have gd_bt30 := Nat.le_trans S.size gt30
        have ne_bt30_b : bt30 ≠ b := fun e => by have := lt_of kb; omega
        have ne_b_bt30 := ne_bt30_b.symm
        have ne_bt30_b21 : bt30 ≠ b21 := fun e => by have := lt_of k21; omega
        have ne_b21_bt30 := ne_bt30_b21.symm; have ge_bt30 := Nat.le_trans E.size gt30; replace E := E.next B; replace kg := keep B kg; replace kb := keep B kb; replace hO := own_keep hO B; replace k21 := keep B k21; replace S := S.next B; clear B; refine ah_L (L' := #[true, true, true, true, true, true, true, true, false, false, false, false]) (by kernel_rfl) ?_; refine ops_out hops hS ?_; exact ST2 bt30 W12 gd_bt30 ge_bt30 ne_b_bt30 ne_bt30_b ne_b21_bt30 ne_bt30_b21 E kg kb hO k21 S kt30
    have ST4 : ∀ (bt30 : Nat) (Wq : World) (gd_bt30 : W5.heap.size ≤ bt30) (ge_bt30 : w.heap.size ≤ bt30) (ne_b_bt30 : b ≠ bt30) (ne_bt30_b : bt30 ≠ b) (ne_b21_bt30 : b21 ≠ bt30) (ne_bt30_b21 : bt30 ≠ b21) (E : Kept (fun k => k = g ∨ k = b) w Wq) (kg : Wq.heap[g]? = some (.cells #[.slice (some ⟨b, 0, none⟩) L.length c] 105)) (kb : Wq.heap[b]? = some (.cells curb 49)) (hO : Wq.ownsRow 0 49 13 (.slice (some ⟨b, 0, none⟩) L.length c) L.length (cE L)) (k21 : Wq.heap[b21]? = some (.cells (EL e) 49)) (S : Kept (fun k => k = g ∨ k = b) W5 Wq) (kt30 : Wq.heap[bt30]? = some (.cells (EL e) 49)), wpAnyH Try.prog .any ops Q SS 5 #[true, true, true, true, false, true, true, true, false, false, false, false] (F undef (.slice (some ⟨bt30, 0, none⟩) 1 1) undef undef undef) Wq := by
      intro bt30 Wq gd_bt30 ge_bt30 ne_b_bt30 ne_bt30_b ne_b21_bt30 ne_bt30_b21 E kg kb hO k21 S kt30
      dsimp only [F]
      refine ops_in hops hS ?_; refine ah_or1 (i := 4) (by kernel_rfl) ?_
      · skip
        refine nx_to (v := (.slice (some ⟨b, 0, none⟩) L.length c)) (some 27) rfl rfl rfl (ex_load (p := (Pz g 0)) rfl rfl (ld33 (at_cell kg rfl))) S ?_; simp only [zp]; refine ah_L (L' := #[true, true, true, true, true, true, true, true, false, false, false, false]) (by kernel_rfl) ?_; refine ops_out hops hS ?_; exact ST2 bt30 Wq gd_bt30 ge_bt30 ne_b_bt30 ne_bt30_b ne_b21_bt30 ne_bt30_b21 E kg kb hO k21 S kt30
    refine ops_in hops hS ?_; refine ah_or2 (i := 4) (j := 7) (by kernel_rfl) ?_ ?_
    · skip
      refine nx_to (v := (.slice (some ⟨b, 0, none⟩) L.length c)) (some 27) rfl rfl rfl (ex_load (p := (Pz g 0)) rfl rfl (ld33 (at_cell kg rfl))) S ?_; simp only [zp]; refine ah_L (L' := #[true, true, true, true, true, true, true, false, false, false, false, false]) (by kernel_rfl) ?_; refine ops_out hops hS ?_; exact ST3 W5 E kg kb hO k21 S
    · skip
      refine nx_new (fun b => .slice (some ⟨b, 0, none⟩) 1 1) (some 30) rfl rfl rfl (ex_bsl1 (u := (.agg (EL e))) rfl rfl (bslE e _)) ?_; intro bt30 W13 kt30 gt30 B; refine ⟨S.next B, ?_⟩; simp only [zp]; have gd_bt30 := Nat.le_trans S.size gt30
      have ne_bt30_b : bt30 ≠ b := fun e => by have := lt_of kb; omega
      have ne_b_bt30 := ne_bt30_b.symm
      have ne_bt30_b21 : bt30 ≠ b21 := fun e => by have := lt_of k21; omega
      have ne_b21_bt30 := ne_bt30_b21.symm; have ge_bt30 := Nat.le_trans E.size gt30; replace E := E.next B; replace kg := keep B kg; replace kb := keep B kb; replace hO := own_keep hO B; replace k21 := keep B k21; replace S := S.next B; clear B; refine ah_L (L' := #[true, true, true, true, false, true, true, true, false, false, false, false]) (by kernel_rfl) ?_; refine ops_out hops hS ?_; exact ST4 bt30 W13 gd_bt30 ge_bt30 ne_b_bt30 ne_bt30_b ne_b21_bt30 ne_bt30_b21 E kg kb hO k21 S kt30
  intro bt30 g2 c2 Wq gd_bt30 ge_bt30 ne_b_bt30 ne_bt30_b ne_b21_bt30 ne_bt30_b21 hloc E k21 S kt30 hO2 kg
  dsimp only [F]
  try dsimp only
  refine ops_in hops hS ?_; refine ah_done (by kernel_rfl) ?_; clear hQP hops hS; subst hQ; clear S d_kg d_kb d_k21 d_hO; refine wq fun Q hQ => ?_; refine vg (.int .i64 0) 4 rfl rfl rfl rfl ?_; refine st_end ?_; subst hQ; refine wp_ret ?_
  repeat (first | refine ret_out ?_ | refine ret_blk ?_)
  rw [← pos_eq hi p1 p2]; exact bodyPost_ret (results_tmp Try.results21 _ _ _) rfl ⟨rfl, g2, ⟨c2, by rw [insE_len hi]; exact kg, by rw [insE_len hi]; exact hO2⟩, hloc, E⟩
set_option maxHeartbeats 16000000 in
theorem qlrn_yes {g b j : Nat} {L : List EV} {d : EV} {ch fr a t : Int} {gd : Bool} (w : World) (hG : Gq w g b L) (hI : GI L) (hd : L[j]? = some d) (hk : d.ch = ch ∧ d.fr = fr) (a1 : -9223372036854775808 ≤ a) (a2 : a ≤ 9223372036854775807) : Calls Try.prog 23 #[.pointer (some ⟨g, 0, none⟩), .int .i64 ch, .int .i64 fr, .int .i64 a, .int .i64 t, .bool gd] w fun q w' => q = .returned (.int .i64 0) ∧ Gq w' g b (L.set j { d with p := lrnN d.p a t gd }) ∧ Kept (fun k => k = g ∨ k = b) w w' := by
  have hj : j < L.length := (List.getElem?_eq_some_iff.1 hd).1
  have hs := hI.s; have hn := hI.n; obtain ⟨c, kg, hO⟩ := hG; obtain ⟨curb, kb⟩ := own_blk hO
  have E : Kept (fun k => k = g ∨ k = b) w w := Kept.refl _ _
  go_enter Try.func23, Try.ntmps23; refine wq fun Q hQ => ?_; refine vg (.int .i64 0) 12 rfl rfl rfl rfl ?_; refine st_end ?_; subst hQ; refine wq fun Q hQ => ?_; refine vm (Pz g 0) 16 rfl rfl rfl rfl ?_; refine vm (.int .i64 ch) 17 rfl rfl rfl rfl ?_; refine vm (.int .i64 fr) 18 rfl rfl rfl rfl ?_; refine st_call (some 19) rfl rfl (fnd_yes (ch := ch) (fr := fr) w kg (own_Es hO) rfl hn hs hd hk) (ex_call (f := 61) (vs := [(Pz g 0), (.int .i64 ch), (.int .i64 fr)]) rfl (cf61 _) rfl) ?_; rintro e W1 ⟨rfl, B⟩; refine ⟨_, rfl, ?_⟩; simp only [zp]; replace E := E.next B; replace kg := keep B kg
  replace kb := keep B kb; replace hO := own_keep hO B; refine vm (.tuple #[(.int .i64 (j : Nat)), (.int .i64 0)]) 15 rfl rfl rfl rfl ?_; refine vv (.int .i64 (j : Nat)) 20 rfl rfl (ex_ext rfl rfl rfl) ?_; refine vv (.int .i64 0) 21 rfl rfl (ex_ext rfl rfl rfl) ?_; refine vg (.int .i64 (j : Nat)) 13 rfl rfl rfl rfl ?_; refine vg (.int .i64 0) 14 rfl rfl rfl rfl ?_; refine st_end ?_; subst hQ; refine wp_seq ?_; refine wq fun Q hQ => ?_; refine vm (.int .i64 0) 22 rfl rfl rfl rfl ?_
  refine vv (.bool false) 23 rfl rfl (ex_bin (u := (.int .i64 0)) (r := (.int .i64 0)) rfl rfl rfl (eg37 _ _ _ _ _ _) (neq37 _ (by decide))) ?_; refine st_end ?_; subst hQ; refine wp_cond_false rfl ?_; refine wp_skip ?_; refine wp_seq ?_; obtain ⟨W2, hwd⟩ : ∃ wd, W1.drew = wd := ⟨_, rfl⟩
  refine wp_region_held (S := fun W => Kept (· = b) W2 W) (by kernel_rfl) ?_
  show wpAnyH _ _ _ _ _ _ _ _ W1.drew
  rw [hwd]; refine capQ fun Q hQ => ?_
  have hQP : ∀ c (a : Act) (d : Nat) v w, Q (.panic c) (a.put (some d) v) w → Q (.panic c) a w := by
    subst hQ; exact fun _ _ _ _ _ h => h
  have BD : Below W1.heap.size W1 W2 := by rw [← hwd]; exact below_drewB (Below.refl _ _)
  clear hwd; replace E := E.next BD; replace kg := keep BD kg; replace kb := keep BD kb; replace hO := own_keep hO BD; clear BD
  have S : Kept (· = b) W2 W2 := Kept.refl _ _
  have d_kg := kg; have d_kb := kb; have d_hO := hO; refine tk (Pz g 0) 0 25 rfl rfl rfl (fun W hK => ex_mv rfl rfl) S hQP ?_; refine tk (Pz g 0) 1 26 rfl rfl rfl (fun W hK => ex_nil (p := (Pz g 0)) rfl rfl rfl) S hQP ?_; refine tk (Pz g 0) 2 27 rfl rfl rfl (fun W hK => ex_fa (p := (Pz g 0)) rfl rfl (fa105_0 _ _)) S hQP ?_; refine tk (.slice (some ⟨b, 0, none⟩) L.length c) 3 28 rfl rfl rfl (fun W hK => ex_load (p := (Pz g 0)) rfl rfl (ld33 (at_cell (keepK hK d_kg (fun e => ne_tag d_kg d_kb (by decide) e)) rfl))) S hQP ?_
  refine tk (.int .i64 (j : Nat)) 4 29 rfl rfl rfl (fun W hK => ex_mv rfl rfl) S hQP ?_; refine tk (Pz g 0) 5 30 rfl rfl rfl (fun W hK => ex_mv rfl rfl) S hQP ?_; refine tk (Pz g 0) 6 31 rfl rfl rfl (fun W hK => ex_nil (p := (Pz g 0)) rfl rfl rfl) S hQP ?_; refine tk (Pz g 0) 7 32 rfl rfl rfl (fun W hK => ex_fa (p := (Pz g 0)) rfl rfl (fa105_0 _ _)) S hQP ?_; refine tk (.slice (some ⟨b, 0, none⟩) L.length c) 8 33 rfl rfl rfl (fun W hK => ex_load (p := (Pz g 0)) rfl rfl (ld33 (at_cell (keepK hK d_kg (fun e => ne_tag d_kg d_kb (by decide) e)) rfl))) S hQP ?_
  refine tk (.int .i64 (j : Nat)) 9 34 rfl rfl rfl (fun W hK => ex_mv rfl rfl) S hQP ?_; refine tk (.pointer (some ⟨b, (0 + j * 13), none⟩)) 10 35 rfl rfl rfl (fun W hK => ix33 (k := j) rfl rfl rfl (rfl) (hj)) S hQP ?_; refine tk (.pointer (some ⟨b, ((0 + j * 13) + 9), none⟩)) 11 36 rfl rfl rfl (fun W hK => ex_fa (p := (.pointer (some ⟨b, (0 + j * 13), none⟩))) rfl rfl (fg49_5 _ _ _)) S hQP ?_; refine tk (.int .i64 a) 13 38 rfl rfl rfl (fun W hK => ex_mv rfl rfl) S hQP ?_; refine tk (.int .i64 t) 14 39 rfl rfl rfl (fun W hK => ex_mv rfl rfl) S hQP ?_
  refine tk (.bool gd) 15 40 rfl rfl rfl (fun W hK => ex_mv rfl rfl) S hQP ?_; refine ah_or1 (i := 12) (by kernel_rfl) ?_; refine nx_to (v := (.agg (PL d.p))) (some 37) rfl rfl rfl (ex_load rfl rfl (ld_range (rng_past (own_rng hO) hd) Try.underlying47 rfl inf47)) S ?_; simp only [zp]; refine ah_or1 (i := 16) (by kernel_rfl) ?_; refine nx_call (some 41) rfl rfl rfl (slearn_any a t gd W2 a1 a2) (ex_call (f := 66) (vs := [(.agg (PL d.p)), (.int .i64 a), (.int .i64 t), (.bool gd)]) rfl (cf66 _) rfl) ?_; rintro e W3 ⟨rfl, B⟩; refine ⟨_, rfl, S.next B, ?_⟩; simp only [zp]; replace E := E.next B
  replace kg := keep B kg; replace kb := keep B kb; replace hO := own_keep hO B; replace S := S.next B; refine tk (.pointer (some ⟨b, (0 + j * 13), none⟩)) 17 42 rfl rfl rfl (fun W hK => ix33 (k := j) rfl rfl rfl (rfl) (hj)) S hQP ?_; refine tk (.pointer (some ⟨b, ((0 + j * 13) + 9), none⟩)) 18 43 rfl rfl rfl (fun W hK => ex_fa (p := (.pointer (some ⟨b, (0 + j * 13), none⟩))) rfl rfl (fg49_5 _ _ _)) S hQP ?_; refine ah_or1 (i := 19) (by kernel_rfl) ?_; obtain ⟨W4, hst, hO2, K⟩ := own_pst (p := lrnN d.p a t gd) hO rfl hd; refine nx_sk rfl rfl rfl (ex_store rfl rfl rfl hst) (S.putX K) ?_
  replace E := E.putR K; replace kg := keepK K kg (fun e => ne_tag kg kb (by decide) e); replace S := S.putX K; clear K hst; refine ah_done (by kernel_rfl) ?_; clear hQP; subst hQ; clear S d_kg d_kb d_hO; refine wq fun Q hQ => ?_; refine vg (.int .i64 0) 12 rfl rfl rfl rfl ?_; refine st_end ?_; subst hQ; refine wp_ret ?_
  repeat (first | refine ret_out ?_ | refine ret_blk ?_)
  exact bodyPost_ret (results_tmp Try.results23 _ _ _) rfl ⟨rfl, ⟨c, by rw [List.length_set]; exact kg, by rw [List.length_set]; exact hO2⟩, E⟩
set_option maxHeartbeats 16000000 in
theorem qrem_yes {g b j : Nat} {L : List EV} {d : EV} {ch fr : Int} (w : World) (hG : Gq w g b L) (hI : GI L) (hd : L[j]? = some d) (hk : d.ch = ch ∧ d.fr = fr) : Calls Try.prog 22 #[.pointer (some ⟨g, 0, none⟩), .int .i64 ch, .int .i64 fr] w fun q w' => q = .returned (.int .i64 0) ∧ Gq w' g b (L.eraseIdx j) ∧ Kept (fun k => k = g ∨ k = b) w w' := by
  have hj : j < L.length := (List.getElem?_eq_some_iff.1 hd).1
  have hle : (L.eraseIdx j).length = L.length - 1 := by rw [List.length_eraseIdx, if_pos hj]
  have hs := hI.s; have hn := hI.n; obtain ⟨c, kg, hO⟩ := hG; obtain ⟨curb, kb⟩ := own_blk hO
  have E : Kept (fun k => k = g ∨ k = b) w w := Kept.refl _ _
  go_enter Try.func22, Try.ntmps22; refine wq fun Q hQ => ?_; refine vg (.int .i64 0) 6 rfl rfl rfl rfl ?_; refine st_end ?_; subst hQ; refine wq fun Q hQ => ?_; refine vm (Pz g 0) 10 rfl rfl rfl rfl ?_; refine vm (.int .i64 ch) 11 rfl rfl rfl rfl ?_; refine vm (.int .i64 fr) 12 rfl rfl rfl rfl ?_; refine st_call (some 13) rfl rfl (fnd_yes (ch := ch) (fr := fr) w kg (own_Es hO) rfl hn hs hd hk) (ex_call (f := 61) (vs := [(Pz g 0), (.int .i64 ch), (.int .i64 fr)]) rfl (cf61 _) rfl) ?_; rintro e W1 ⟨rfl, B⟩; refine ⟨_, rfl, ?_⟩; simp only [zp]; replace E := E.next B; replace kg := keep B kg
  replace kb := keep B kb; replace hO := own_keep hO B; refine vm (.tuple #[(.int .i64 (j : Nat)), (.int .i64 0)]) 9 rfl rfl rfl rfl ?_; refine vv (.int .i64 (j : Nat)) 14 rfl rfl (ex_ext rfl rfl rfl) ?_; refine vv (.int .i64 0) 15 rfl rfl (ex_ext rfl rfl rfl) ?_; refine vg (.int .i64 (j : Nat)) 7 rfl rfl rfl rfl ?_; refine vg (.int .i64 0) 8 rfl rfl rfl rfl ?_; refine st_end ?_; subst hQ; refine wp_seq ?_; refine wq fun Q hQ => ?_; refine vm (.int .i64 0) 16 rfl rfl rfl rfl ?_
  refine vv (.bool false) 17 rfl rfl (ex_bin (u := (.int .i64 0)) (r := (.int .i64 0)) rfl rfl rfl (eg37 _ _ _ _ _ _) (neq37 _ (by decide))) ?_; refine st_end ?_; subst hQ; refine wp_cond_false rfl ?_; refine wp_skip ?_; refine wq fun Q hQ => ?_; refine vm (Pz g 0) 19 rfl rfl rfl rfl ?_; refine vm (Pz g 0) 20 rfl rfl rfl rfl ?_; refine vv (Pz g 0) 21 rfl rfl (ex_nil (p := (Pz g 0)) rfl rfl rfl) ?_; refine vv (Pz g 0) 22 rfl rfl (ex_fa (p := (Pz g 0)) rfl rfl (fa105_0 _ _)) ?_
  refine vv (.slice (some ⟨b, 0, none⟩) L.length c) 23 rfl rfl (ex_load (p := (Pz g 0)) rfl rfl (ld33 (at_cell kg rfl))) ?_; refine vm (.int .i64 (j : Nat)) 24 rfl rfl rfl rfl ?_; refine vm (.int .i64 (j : Nat)) 25 rfl rfl rfl rfl ?_; refine vv (.int .i64 ((j + 1 : Nat) : Int)) 26 rfl rfl (ex_bin rfl rfl rfl (eg3 _ _ _ _ _ _) (add3 _ (by omega) (by omega))) ?_; refine st_call (some 27) rfl rfl (del_any W1 hO rfl hn hj) (ex_call (f := 65) (vs := [(.slice (some ⟨b, 0, none⟩) L.length c), (.int .i64 (j : Nat)), (.int .i64 ((j + 1 : Nat) : Int))]) rfl (cf65 _) rfl) ?_; rintro e W2 ⟨rfl, hO2, hKs⟩
  refine ⟨_, rfl, ?_⟩; simp only [zp]; replace E := E.putR hKs; replace kg := keepK hKs kg (fun e => ne_tag kg kb (by decide) e); refine vv (Pz g 0) 28 rfl rfl (ex_nil (p := (Pz g 0)) rfl rfl rfl) ?_; refine vv (Pz g 0) 29 rfl rfl (ex_fa (p := (Pz g 0)) rfl rfl (fa105_0 _ _)) ?_; obtain ⟨kn, K⟩ := put_cell (i := 0) (.slice (some ⟨b, 0, none⟩) (L.length - 1) c) kg; refine st_sk rfl rfl (ex_store rfl rfl rfl (sto33 (at_cell kg rfl) (unfrozen kg))) ?_; obtain ⟨W3, hW2⟩ : ∃ W', W2.setCell ⟨g, 0, none⟩ (.slice (some ⟨b, 0, none⟩) (L.length - 1) c) = W' := ⟨_, rfl⟩; rw [hW2] at kn K ⊢
  replace E := E.putL K; replace hO2 := own_keepK hO2 K (fun q hq e => own_ne hO2 kg (by decide) (by rw [hq, e])); replace kg := kn; clear kn K; refine st_end ?_; subst hQ; refine wq fun Q hQ => ?_; refine vg (.int .i64 0) 6 rfl rfl rfl rfl ?_; refine st_end ?_; subst hQ; refine wp_ret ?_
  repeat (first | refine ret_out ?_ | refine ret_blk ?_)
  exact bodyPost_ret (results_tmp Try.results22 _ _ _) rfl ⟨rfl, ⟨c, by rw [hle]; exact kg, by rw [hle]; exact hO2⟩, E⟩
theorem qset_any {g b : Nat} {L : List EV} {e : EV} (w : World) (hG : Gq w g b L) (hI : GI L) (he : EN e) : Calls Try.prog 21 #[.pointer (some ⟨g, 0, none⟩), .agg (EL e)] w fun q w' => q = .returned (.int .i64 (setN L e).1) ∧ ∃ b', Gq w' g b' (setN L e).2 ∧ (b' = b ∨ w.heap.size ≤ b') ∧ Kept (fun k => k = g ∨ k = b) w w' := by
  obtain ⟨c, kg, hO⟩ := id hG
  unfold setN
  by_cases hm : mayE e = true
  · rw [if_pos hm]
    cases hj : atE e.ch e.fr L with
    | some j =>
      obtain ⟨d, hd, hk⟩ := at_some hj; exact (qset_there w hG hI hd hk (he.eb hm)).mono fun q w' h => ⟨h.1, b, h.2.1, .inl rfl, h.2.2⟩
    | none =>
      by_cases hf : 64 ≤ L.length
      · simp only [if_pos hf]
        exact (set_full w kg (own_Es hO) rfl hI.n hI.s he.b he.cap hm (at_none hj) hf).mono fun q w' h => ⟨h.1, b, hG.keep h.2, .inl rfl, Kept.ofBelow h.2⟩
      · simp only [if_neg hf]
        exact qset_new w hG hI (at_none hj) (by omega) (he.eb hm)
  · rw [if_neg hm]
    exact (set_arg w kg (own_Es hO) rfl hI.n hI.s he.b he.cap (by simpa using hm)).mono fun q w' h => ⟨h.1, b, hG.keep h.2, .inl rfl, Kept.ofBelow h.2⟩
theorem qrem_any {g b : Nat} {L : List EV} {ch fr : Int} (w : World) (hG : Gq w g b L) (hI : GI L) : Calls Try.prog 22 #[.pointer (some ⟨g, 0, none⟩), .int .i64 ch, .int .i64 fr] w fun q w' => q = .returned (.int .i64 (remN L ch fr).1) ∧ ∃ b', Gq w' g b' (remN L ch fr).2 ∧ (b' = b ∨ w.heap.size ≤ b') ∧ Kept (fun k => k = g ∨ k = b) w w' := by
  obtain ⟨c, kg, hO⟩ := id hG
  unfold remN
  cases hj : atE ch fr L with
  | some j =>
    obtain ⟨d, hd, hk⟩ := at_some hj; exact (qrem_yes w hG hI hd hk).mono fun q w' h => ⟨h.1, b, h.2.1, .inl rfl, h.2.2⟩
  | none => exact (rem_no w kg (own_Es hO) rfl hI.n hI.s (at_none hj)).mono fun q w' h => ⟨h.1, b, hG.keep h.2, .inl rfl, Kept.ofBelow h.2⟩
theorem qlrn_any {g b : Nat} {L : List EV} {ch fr a t : Int} {gd : Bool} (w : World) (hG : Gq w g b L) (hI : GI L) (a1 : -9223372036854775808 ≤ a) (a2 : a ≤ 9223372036854775807) : Calls Try.prog 23 #[.pointer (some ⟨g, 0, none⟩), .int .i64 ch, .int .i64 fr, .int .i64 a, .int .i64 t, .bool gd] w fun q w' => q = .returned (.int .i64 (lrnL L ch fr a t gd).1) ∧ ∃ b', Gq w' g b' (lrnL L ch fr a t gd).2 ∧ (b' = b ∨ w.heap.size ≤ b') ∧ Kept (fun k => k = g ∨ k = b) w w' := by
  obtain ⟨c, kg, hO⟩ := id hG
  unfold lrnL
  cases hj : atE ch fr L with
  | some j =>
    obtain ⟨d, hd, hk⟩ := at_some hj; simp only [hd]; exact (qlrn_yes w hG hI hd hk a1 a2).mono fun q w' h => ⟨h.1, b, h.2.1, .inl rfl, h.2.2⟩
  | none => exact (lrn_no w kg (own_Es hO) rfl hI.n hI.s (at_none hj)).mono fun q w' h => ⟨h.1, b, hG.keep h.2, .inl rfl, Kept.ofBelow h.2⟩
theorem qget_any {g b : Nat} {L : List EV} {ch fr : Int} (w : World) (hG : Gq w g b L) (hI : GI L) : Calls Try.prog 20 #[.pointer (some ⟨g, 0, none⟩), .int .i64 ch, .int .i64 fr] w fun q w' => q = .returned (.tuple #[.agg (EL (getN L ch fr).1), .bool (getN L ch fr).2]) ∧ Below w.heap.size w w' := by
  obtain ⟨c, kg, hO⟩ := id hG
  unfold getN
  cases hj : atE ch fr L with
  | some j =>
    obtain ⟨d, hd, hk⟩ := at_some hj; simp only [hd]; exact get_yes w kg (own_Es hO) rfl hI.n hI.s hd hk
  | none => exact get_no w kg (own_Es hO) rfl hI.n hI.s (at_none hj)
theorem qfork_any {g b : Nat} {L : List EV} (w : World) (hG : Gq w g b L) (hI : GI L) : Calls Try.prog 25 #[.pointer (some ⟨g, 0, none⟩)] w fun q w' => ∃ g' b', q = .returned (.pointer (some ⟨g', 0, none⟩)) ∧ Gq w' g' b' L ∧ w.heap.size ≤ g' ∧ w.heap.size ≤ b' ∧ Below w.heap.size w w' := by
  obtain ⟨c, kg, hO⟩ := id hG; refine (fork_any w kg (own_Es hO) rfl hI.n).mono fun q w' h => ?_; obtain ⟨g', e, hG', hB⟩ := h
  have hge : w.heap.size ≤ g' := by obtain ⟨_, _, _, h, _⟩ := hG'; exact h
  obtain ⟨b', hb', hQ⟩ := hG'.gq; exact ⟨g', b', e, hQ, hge, hb', hB⟩
theorem qlen_any {g b : Nat} {L : List EV} (w : World) (hG : Gq w g b L) : Calls Try.prog 24 #[.pointer (some ⟨g, 0, none⟩)] w fun e w' => e = .returned (.int .i64 (L.length : Nat)) ∧ Below w.heap.size w w' := len_gr w hG.gr
end Go.Proofs.Ytgnkcmmpbohafaa
