/- The commitment of a holder: one of the two. -/
import Derived.Test.YtkhpbjafdamhaaaDCom
namespace Go.Proofs.Ytkhpbjafdamhaaa
open Go.RowKit
set_option linter.unusedVariables false
set_option linter.unusedSimpArgs false
set_option maxRecDepth 100000

set_option maxHeartbeats 8000000 in
theorem commit_a {C : Array Value} {t : TV} {x y h : Int} {pl : List Int} {ao : Option Addr} {n c : Nat} {Cs : Nat → Array Value} {hv : Nat → HV} (w : World) (hT : IsT C t) (hb : TB t) (hpl : pl.length = 32) (hH : Hs w ao n Cs hv) (hn : n ≤ 140737488355328) (hx : x ≤ 9223372036854775807) (hy : y ≤ 9223372036854775807) (hz : ∀ i, i < n → (hv i).am ≤ 9223372036854775807) (c1 : fitsB t x y n hv = true) (c2 : h = t.a ∨ h = t.b) (c3 : ¬ pl = ZL) (hAB : ¬ h = t.b) :
    Calls Try.prog 8 #[.agg C, .int .i64 h, .agg (U8 pl).toArray, .agg #[.int .i64 x, .int .i64 y, .slice ao n c]] w fun e w' => ∃ gi g cap, e = .returned (.tuple #[.agg #[.slice (some ⟨gi, 0, none⟩) 1 1, .slice (some ⟨g, 0, none⟩) (n + 2) cap], .int .i64 0]) ∧ w'.heap[gi]? = some (.cells (C.extract 3 36 ++ inRest) 61) ∧ Outs w' w.heap.size g (n + 2) cap (om (ownN t x y h) (othA t x y h) hv) ol (opth h (othN t h) t.d (U8 pl).toArray hv) ∧ Below w.heap.size w w' := by
  obtain ⟨f1, f2, f3, f4⟩ := fits_parts c1
  have hx0 : 0 ≤ x := sums_nn f4 0 (by omega)
  have hy0 : 0 ≤ y := by have := sums_nn f4 1 (by omega); simpa [zf] using this
  have hfee : 0 ≤ t.fee := (of_decide_eq_true f1).2.1.1
  have hH0 := hH
  rw [show ownN t x y h = subN x t.fee from if_neg hAB, show othA t x y h = y from if_neg hAB]
  have E : Below w.heap.size w w := Below.refl _ _
  go_enter Try.func8, Try.ntmps8
  refine wp_seq ?_
  refine wl_in ?_
  refine wl_cap fun Q hQ => ?_
  refine st_new (fun b => .pointer (some ⟨b, 0, none⟩)) (some 4) rfl rfl (ex_box rfl rfl) ?_
  intro b1 W1 k1 g1 B
  simp only [Act.put, List.setIfInBounds_toArray, List.set_cons_zero, List.set_cons_succ]
  have ge_b1 := Nat.le_trans E.size g1
  replace E := below_next E B
  replace hH := hH.below B
  clear B
  refine st_new (fun b => .pointer (some ⟨b, 0, none⟩)) (some 6) rfl rfl (ex_box rfl rfl) ?_
  intro b2 W2 k2 g2 B
  simp only [Act.put, List.setIfInBounds_toArray, List.set_cons_zero, List.set_cons_succ]
  have ne_b2_b1 : b2 ≠ b1 := fun e => by have := lt_of k1; omega
  have ge_b2 := Nat.le_trans E.size g2
  replace E := below_next E B
  replace hH := hH.below B
  replace k1 := keep B k1
  clear B
  refine st_new (fun b => .pointer (some ⟨b, 0, none⟩)) (some 7) rfl rfl (ex_box rfl rfl) ?_
  intro b3 W3 k3 g3 B
  simp only [Act.put, List.setIfInBounds_toArray, List.set_cons_zero, List.set_cons_succ]
  have ne_b3_b1 : b3 ≠ b1 := fun e => by have := lt_of k1; omega
  have ne_b3_b2 : b3 ≠ b2 := fun e => by have := lt_of k2; omega
  have ge_b3 := Nat.le_trans E.size g3
  replace E := below_next E B
  replace hH := hH.below B
  replace k1 := keep B k1
  replace k2 := keep B k2
  clear B
  refine st_new (fun b => .pointer (some ⟨b, 0, none⟩)) (some 8) rfl rfl (ex_alloc rfl zero34) ?_
  intro b4 W4 k4 g4 B
  simp only [Act.put, List.setIfInBounds_toArray, List.set_cons_zero, List.set_cons_succ]
  have ne_b4_b1 : b4 ≠ b1 := fun e => by have := lt_of k1; omega
  have ne_b4_b2 : b4 ≠ b2 := fun e => by have := lt_of k2; omega
  have ne_b4_b3 : b4 ≠ b3 := fun e => by have := lt_of k3; omega
  have ge_b4 := Nat.le_trans E.size g4
  replace E := below_next E B
  replace hH := hH.below B
  replace k1 := keep B k1
  replace k2 := keep B k2
  replace k3 := keep B k3
  clear B
  refine st_to (v := (.int .i64 0)) (some 9) rfl rfl (ex_asg rfl rfl) ?_
  simp only [Act.put, List.setIfInBounds_toArray, List.set_cons_zero, List.set_cons_succ]
  refine st_end ?_
  subst hQ
  refine wp_seq ?_
  refine wp_seq ?_
  refine wl_in ?_
  refine wl_cap fun Q hQ => ?_
  refine st_to (v := (.agg C)) (some 16) rfl rfl (ex_load (p := (.pointer (some ⟨b1, 0, none⟩))) rfl rfl (ld_all k1 Try.underlying26 rfl (inf26.trans (congrArg some (hT.size).symm)))) ?_
  simp only [Act.put, List.setIfInBounds_toArray, List.set_cons_zero, List.set_cons_succ]
  refine st_to (v := (.agg #[.int .i64 x, .int .i64 y, .slice ao n c])) (some 17) rfl rfl (ex_load (p := (.pointer (some ⟨b3, 0, none⟩))) rfl rfl (ld_all k3 Try.underlying29 rfl inf29)) ?_
  simp only [Act.put, List.setIfInBounds_toArray, List.set_cons_zero, List.set_cons_succ]
  refine st_call (some 18) rfl rfl (fits_any W4 hT hb hH hn hx hy hz c1) (ex_call (f := 14) (vs := [(.agg C), (.agg #[.int .i64 x, .int .i64 y, .slice ao n c])]) rfl (cf14 _) rfl) ?_
  rintro e W5 ⟨rfl, B⟩
  refine ⟨_, rfl, ?_⟩
  simp only [Act.put, List.setIfInBounds_toArray, List.set_cons_zero, List.set_cons_succ]
  replace E := below_next E B
  replace hH := hH.below B
  replace k1 := keep B k1
  replace k2 := keep B k2
  replace k3 := keep B k3
  replace k4 := keep B k4
  refine st_to (v := (.bool false)) (some 19) rfl rfl (ex_not rfl rfl rfl) ?_
  simp only [Act.put, List.setIfInBounds_toArray, List.set_cons_zero, List.set_cons_succ]
  refine st_to (v := (.bool false)) (some 20) rfl rfl (ex_mv rfl rfl) ?_
  simp only [Act.put, List.setIfInBounds_toArray, List.set_cons_zero, List.set_cons_succ]
  refine st_to (v := (.agg C)) (some 21) rfl rfl (ex_load (p := (.pointer (some ⟨b1, 0, none⟩))) rfl rfl (ld_all k1 Try.underlying26 rfl (inf26.trans (congrArg some (hT.size).symm)))) ?_
  simp only [Act.put, List.setIfInBounds_toArray, List.set_cons_zero, List.set_cons_succ]
  refine st_to (v := (.int .i64 h)) (some 22) rfl rfl (ex_mv rfl rfl) ?_
  simp only [Act.put, List.setIfInBounds_toArray, List.set_cons_zero, List.set_cons_succ]
  refine st_call (some 23) rfl rfl (isOf_any h W5 hT (decide_eq_true c2)) (ex_call (f := 27) (vs := [(.agg C), (.int .i64 h)]) rfl (cf27 _) rfl) ?_
  rintro e W6 ⟨rfl, B⟩
  refine ⟨_, rfl, ?_⟩
  simp only [Act.put, List.setIfInBounds_toArray, List.set_cons_zero, List.set_cons_succ]
  replace E := below_next E B
  replace hH := hH.below B
  replace k1 := keep B k1
  replace k2 := keep B k2
  replace k3 := keep B k3
  replace k4 := keep B k4
  refine st_to (v := (.bool false)) (some 24) rfl rfl (ex_not rfl rfl rfl) ?_
  simp only [Act.put, List.setIfInBounds_toArray, List.set_cons_zero, List.set_cons_succ]
  refine st_to (v := (.bool false)) (some 25) rfl rfl (ex_pkF rfl rfl rfl) ?_
  simp only [Act.put, List.setIfInBounds_toArray, List.set_cons_zero, List.set_cons_succ]
  refine st_to (v := (.bool false)) (some 26) rfl rfl (ex_mv rfl rfl) ?_
  simp only [Act.put, List.setIfInBounds_toArray, List.set_cons_zero, List.set_cons_succ]
  refine st_to (v := (.agg (U8 pl).toArray)) (some 27) rfl rfl (ex_load (p := (.pointer (some ⟨b2, 0, none⟩))) rfl rfl (ld_all k2 Try.underlying22 rfl (inf22.trans (congrArg some ((U8_size _ hpl)).symm)))) ?_
  simp only [Act.put, List.setIfInBounds_toArray, List.set_cons_zero, List.set_cons_succ]
  refine st_to (v := (.agg Z32)) (some 28) rfl rfl (ex_build0  rfl (b22 _)) ?_
  simp only [Act.put, List.setIfInBounds_toArray, List.set_cons_zero, List.set_cons_succ]
  refine st_to (v := (.bool false)) (some 29) rfl rfl (ex_bin rfl rfl rfl (eg22 _ _ _ _ _) (eqZ _ hpl (decide_eq_false c3))) ?_
  simp only [Act.put, List.setIfInBounds_toArray, List.set_cons_zero, List.set_cons_succ]
  refine st_to (v := (.bool false)) (some 30) rfl rfl (ex_pkF rfl rfl rfl) ?_
  simp only [Act.put, List.setIfInBounds_toArray, List.set_cons_zero, List.set_cons_succ]
  refine st_end ?_
  subst hQ
  refine wp_cond_false rfl ?_
  refine wp_skip ?_
  refine wp_seq ?_
  obtain ⟨W7, hwd⟩ : ∃ wd, W6.drew = wd := ⟨_, rfl⟩
  refine wp_region_held (S := fun W => Kept Nil W7 W) (by kernel_rfl) ?_
  show wpAnyH _ _ _ _ _ _ _ _ W6.drew
  rw [hwd]
  refine capQ fun Q hQ => ?_
  have hQP : ∀ c (a : Act) (d : Nat) v w, Q (.panic c) (a.put (some d) v) w → Q (.panic c) a w := by
    subst hQ
    exact fun _ _ _ _ _ h => h
  have BD : Below W6.heap.size W6 W7 := by rw [← hwd]; exact below_drew (Below.refl _ _)
  clear hwd
  replace E := below_next E BD
  replace hH := hH.below BD
  replace k1 := keep BD k1
  replace k2 := keep BD k2
  replace k3 := keep BD k3
  replace k4 := keep BD k4
  clear BD
  have S : Kept Nil W7 W7 := Kept.refl _ _
  have d_k1 := k1
  have d_k2 := k2
  have d_k3 := k3
  have d_k4 := k4
  have d_hH := hH
  refine ah_take (v := (.int .i64 h)) (i := 0) (some 32) rfl rfl (by kernel_rfl) (by kernel_rfl) (by kernel_rfl) rfl (fun W hK => ex_mv rfl rfl) S (fun c a w h => hQP c a _ _ w h) ?_
  simp only [Act.put, List.setIfInBounds_toArray, List.set_cons_zero, List.set_cons_succ]
  refine ah_take (v := (.agg C)) (i := 1) (some 33) rfl rfl (by kernel_rfl) (by kernel_rfl) (by kernel_rfl) rfl (fun W hK => ex_load (p := (.pointer (some ⟨b1, 0, none⟩))) rfl rfl (ld_all (keepK hK d_k1 (nilN _)) Try.underlying26 rfl (inf26.trans (congrArg some (hT.size).symm)))) S (fun c a w h => hQP c a _ _ w h) ?_
  simp only [Act.put, List.setIfInBounds_toArray, List.set_cons_zero, List.set_cons_succ]
  refine ah_take (v := (.int .i64 h)) (i := 2) (some 34) rfl rfl (by kernel_rfl) (by kernel_rfl) (by kernel_rfl) rfl (fun W hK => ex_mv rfl rfl) S (fun c a w h => hQP c a _ _ w h) ?_
  simp only [Act.put, List.setIfInBounds_toArray, List.set_cons_zero, List.set_cons_succ]
  refine ah_take (v := (.pointer (some ⟨b1, 38, none⟩))) (i := 4) (some 36) rfl rfl (by kernel_rfl) (by kernel_rfl) (by kernel_rfl) rfl (fun W hK => ex_fa (p := (.pointer (some ⟨b1, 0, none⟩))) rfl rfl (fa26_6 _ _)) S (fun c a w h => hQP c a _ _ w h) ?_
  simp only [Act.put, List.setIfInBounds_toArray, List.set_cons_zero, List.set_cons_succ]
  refine ah_take (v := (.int .i64 t.d)) (i := 5) (some 37) rfl rfl (by kernel_rfl) (by kernel_rfl) (by kernel_rfl) rfl (fun W hK => ex_load (p := (.pointer (some ⟨b1, 38, none⟩))) rfl rfl (ld3 (at_cell (keepK hK d_k1 (nilN _)) hT.c38))) S (fun c a w h => hQP c a _ _ w h) ?_
  simp only [Act.put, List.setIfInBounds_toArray, List.set_cons_zero, List.set_cons_succ]
  refine ah_take (v := (.agg (U8 pl).toArray)) (i := 6) (some 38) rfl rfl (by kernel_rfl) (by kernel_rfl) (by kernel_rfl) rfl (fun W hK => ex_load (p := (.pointer (some ⟨b2, 0, none⟩))) rfl rfl (ld_all (keepK hK d_k2 (nilN _)) Try.underlying22 rfl (inf22.trans (congrArg some ((U8_size _ hpl)).symm)))) S (fun c a w h => hQP c a _ _ w h) ?_
  simp only [Act.put, List.setIfInBounds_toArray, List.set_cons_zero, List.set_cons_succ]
  refine cap2 fun ops SS hops hS => ?_
  suffices FIN : ∀ (bt10 : Nat) (Wq : World) (gd_bt10 : W7.heap.size ≤ bt10) (ge_bt10 : w.heap.size ≤ bt10) (E : Below w.heap.size w Wq) (hH : Hs Wq ao n Cs hv) (k1 : Wq.heap[b1]? = some (.cells C 26)) (k2 : Wq.heap[b2]? = some (.cells (U8 pl).toArray 22)) (k3 : Wq.heap[b3]? = some (.cells #[.int .i64 x, .int .i64 y, .slice ao n c] 29)) (k4 : Wq.heap[b4]? = some (.cells #[.slice none 0 0, .slice none 0 0] 34)) (S : Kept Nil W7 Wq) (kt10 : Wq.heap[bt10]? = some (.cells (#[(.int .i64 h), (.int .i64 (othN t h)), (.int .i64 t.d)] ++ (U8 pl).toArray) 59)), wpAnyH Try.prog .any ops Q SS 0 #[true, true, true, true, true, true, true, true, true, true] { tmps := #[(.agg C), (.int .i64 h), (.agg (U8 pl).toArray), (.agg #[.int .i64 x, .int .i64 y, .slice ao n c]), (.pointer (some ⟨b1, 0, none⟩)), undef, (.pointer (some ⟨b2, 0, none⟩)), (.pointer (some ⟨b3, 0, none⟩)), (.pointer (some ⟨b4, 0, none⟩)), (.int .i64 0), (.pointer (some ⟨bt10, 0, none⟩)), undef, undef, undef, undef, undef, (.agg C), (.agg #[.int .i64 x, .int .i64 y, .slice ao n c]), (.bool true), (.bool false), (.bool false), (.agg C), (.int .i64 h), (.bool true), (.bool false), (.bool false), (.bool false), (.agg (U8 pl).toArray), (.agg Z32), (.bool false), (.bool false), undef, (.int .i64 h), (.agg C), (.int .i64 h), (.int .i64 (othN t h)), (.pointer (some ⟨b1, 38, none⟩)), (.int .i64 t.d), (.agg (U8 pl).toArray), (.agg (#[(.int .i64 h), (.int .i64 (othN t h)), (.int .i64 t.d)] ++ (U8 pl).toArray)), undef, undef, undef, undef, undef, undef, undef, undef, undef, undef, undef, undef, undef, undef, undef, undef, undef, undef, undef, undef, undef, undef, undef, undef, undef, undef, undef, undef, undef, undef, undef, undef, undef, undef, undef, undef, undef, undef, undef, undef, undef], defers := [] } Wq by
    have ST1 : ∀ (bt10 : Nat) (Wq : World) (gd_bt10 : W7.heap.size ≤ bt10) (ge_bt10 : w.heap.size ≤ bt10) (E : Below w.heap.size w Wq) (hH : Hs Wq ao n Cs hv) (k1 : Wq.heap[b1]? = some (.cells C 26)) (k2 : Wq.heap[b2]? = some (.cells (U8 pl).toArray 22)) (k3 : Wq.heap[b3]? = some (.cells #[.int .i64 x, .int .i64 y, .slice ao n c] 29)) (k4 : Wq.heap[b4]? = some (.cells #[.slice none 0 0, .slice none 0 0] 34)) (S : Kept Nil W7 Wq) (kt10 : Wq.heap[bt10]? = some (.cells (#[.int .i64 0, .int .i64 0, .int .i64 0] ++ Z32) 59)), wpAnyH Try.prog .any ops Q SS 1 #[true, true, true, true, true, true, true, true, true, false] { tmps := #[(.agg C), (.int .i64 h), (.agg (U8 pl).toArray), (.agg #[.int .i64 x, .int .i64 y, .slice ao n c]), (.pointer (some ⟨b1, 0, none⟩)), undef, (.pointer (some ⟨b2, 0, none⟩)), (.pointer (some ⟨b3, 0, none⟩)), (.pointer (some ⟨b4, 0, none⟩)), (.int .i64 0), (.pointer (some ⟨bt10, 0, none⟩)), undef, undef, undef, undef, undef, (.agg C), (.agg #[.int .i64 x, .int .i64 y, .slice ao n c]), (.bool true), (.bool false), (.bool false), (.agg C), (.int .i64 h), (.bool true), (.bool false), (.bool false), (.bool false), (.agg (U8 pl).toArray), (.agg Z32), (.bool false), (.bool false), undef, (.int .i64 h), (.agg C), (.int .i64 h), (.int .i64 (othN t h)), (.pointer (some ⟨b1, 38, none⟩)), (.int .i64 t.d), (.agg (U8 pl).toArray), (.agg (#[(.int .i64 h), (.int .i64 (othN t h)), (.int .i64 t.d)] ++ (U8 pl).toArray)), undef, undef, undef, undef, undef, undef, undef, undef, undef, undef, undef, undef, undef, undef, undef, undef, undef, undef, undef, undef, undef, undef, undef, undef, undef, undef, undef, undef, undef, undef, undef, undef, undef, undef, undef, undef, undef, undef, undef, undef, undef], defers := [] } Wq := by
      intro bt10 Wq gd_bt10 ge_bt10 E hH k1 k2 k3 k4 S kt10
      refine ops_in hops hS ?_
      refine ah_or1 (i := 9) (by kernel_rfl) ?_
      · skip
        obtain ⟨W13, hst, kn, K⟩ := put_all (D := (#[(.int .i64 h), (.int .i64 (othN t h)), (.int .i64 t.d)] ++ (U8 pl).toArray)) kt10 (((show ((#[.int .i64 0, .int .i64 0, .int .i64 0] ++ Z32) : Array Value).size = 35 from rfl)).trans ((IsS.of _ _ _ hpl).size).symm) (inf59.trans (congrArg some ((IsS.of _ _ _ hpl).size).symm)) (IsS.of _ _ _ hpl).one
        refine nx_sk rfl rfl rfl (ex_store rfl rfl rfl hst) (S.putN K gd_bt10) ?_
        replace E := below_put E ge_bt10 K
        replace hH := hH0.below E
        replace k1 := keepK K k1 (fun e => ne_tag k1 kt10 (by decide) e)
        replace k2 := keepK K k2 (fun e => ne_tag k2 kt10 (by decide) e)
        replace k3 := keepK K k3 (fun e => ne_tag k3 kt10 (by decide) e)
        replace k4 := keepK K k4 (fun e => ne_tag k4 kt10 (by decide) e)
        replace S := S.putN K gd_bt10
        replace kt10 := kn
        clear kn K hst
        refine ah_L (L' := #[true, true, true, true, true, true, true, true, true, true]) (by kernel_rfl) ?_
        refine ops_out hops hS ?_
        exact FIN bt10 W13 gd_bt10 ge_bt10 E hH k1 k2 k3 k4 S kt10
    have ST2 : ∀ (Wq : World) (E : Below w.heap.size w Wq) (hH : Hs Wq ao n Cs hv) (k1 : Wq.heap[b1]? = some (.cells C 26)) (k2 : Wq.heap[b2]? = some (.cells (U8 pl).toArray 22)) (k3 : Wq.heap[b3]? = some (.cells #[.int .i64 x, .int .i64 y, .slice ao n c] 29)) (k4 : Wq.heap[b4]? = some (.cells #[.slice none 0 0, .slice none 0 0] 34)) (S : Kept Nil W7 Wq), wpAnyH Try.prog .any ops Q SS 2 #[true, true, true, true, true, true, true, true, false, false] { tmps := #[(.agg C), (.int .i64 h), (.agg (U8 pl).toArray), (.agg #[.int .i64 x, .int .i64 y, .slice ao n c]), (.pointer (some ⟨b1, 0, none⟩)), undef, (.pointer (some ⟨b2, 0, none⟩)), (.pointer (some ⟨b3, 0, none⟩)), (.pointer (some ⟨b4, 0, none⟩)), (.int .i64 0), undef, undef, undef, undef, undef, undef, (.agg C), (.agg #[.int .i64 x, .int .i64 y, .slice ao n c]), (.bool true), (.bool false), (.bool false), (.agg C), (.int .i64 h), (.bool true), (.bool false), (.bool false), (.bool false), (.agg (U8 pl).toArray), (.agg Z32), (.bool false), (.bool false), undef, (.int .i64 h), (.agg C), (.int .i64 h), (.int .i64 (othN t h)), (.pointer (some ⟨b1, 38, none⟩)), (.int .i64 t.d), (.agg (U8 pl).toArray), (.agg (#[(.int .i64 h), (.int .i64 (othN t h)), (.int .i64 t.d)] ++ (U8 pl).toArray)), undef, undef, undef, undef, undef, undef, undef, undef, undef, undef, undef, undef, undef, undef, undef, undef, undef, undef, undef, undef, undef, undef, undef, undef, undef, undef, undef, undef, undef, undef, undef, undef, undef, undef, undef, undef, undef, undef, undef, undef, undef], defers := [] } Wq := by
      intro Wq E hH k1 k2 k3 k4 S
      refine ops_in hops hS ?_
      refine ah_or1 (i := 8) (by kernel_rfl) ?_
      · skip
        refine nx_new (fun b => .pointer (some ⟨b, 0, none⟩)) (some 10) rfl rfl rfl (ex_alloc rfl zero59) ?_
        intro bt10 W14 kt10 gt10 B
        refine ⟨S.next B, ?_⟩
        simp only [Act.put, List.setIfInBounds_toArray, List.set_cons_zero, List.set_cons_succ]
        have gd_bt10 := Nat.le_trans S.size gt10
        have ge_bt10 := Nat.le_trans E.size gt10
        replace E := below_next E B
        replace hH := hH.below B
        replace k1 := keep B k1
        replace k2 := keep B k2
        replace k3 := keep B k3
        replace k4 := keep B k4
        replace S := S.next B
        clear B
        refine ah_L (L' := #[true, true, true, true, true, true, true, true, true, false]) (by kernel_rfl) ?_
        refine ops_out hops hS ?_
        exact ST1 bt10 W14 gd_bt10 ge_bt10 E hH k1 k2 k3 k4 S kt10
    have ST3 : ∀ (bt10 : Nat) (Wq : World) (gd_bt10 : W7.heap.size ≤ bt10) (ge_bt10 : w.heap.size ≤ bt10) (E : Below w.heap.size w Wq) (hH : Hs Wq ao n Cs hv) (k1 : Wq.heap[b1]? = some (.cells C 26)) (k2 : Wq.heap[b2]? = some (.cells (U8 pl).toArray 22)) (k3 : Wq.heap[b3]? = some (.cells #[.int .i64 x, .int .i64 y, .slice ao n c] 29)) (k4 : Wq.heap[b4]? = some (.cells #[.slice none 0 0, .slice none 0 0] 34)) (S : Kept Nil W7 Wq) (kt10 : Wq.heap[bt10]? = some (.cells (#[.int .i64 0, .int .i64 0, .int .i64 0] ++ Z32) 59)), wpAnyH Try.prog .any ops Q SS 3 #[true, true, true, false, true, true, true, false, true, false] { tmps := #[(.agg C), (.int .i64 h), (.agg (U8 pl).toArray), (.agg #[.int .i64 x, .int .i64 y, .slice ao n c]), (.pointer (some ⟨b1, 0, none⟩)), undef, (.pointer (some ⟨b2, 0, none⟩)), (.pointer (some ⟨b3, 0, none⟩)), (.pointer (some ⟨b4, 0, none⟩)), (.int .i64 0), (.pointer (some ⟨bt10, 0, none⟩)), undef, undef, undef, undef, undef, (.agg C), (.agg #[.int .i64 x, .int .i64 y, .slice ao n c]), (.bool true), (.bool false), (.bool false), (.agg C), (.int .i64 h), (.bool true), (.bool false), (.bool false), (.bool false), (.agg (U8 pl).toArray), (.agg Z32), (.bool false), (.bool false), undef, (.int .i64 h), (.agg C), (.int .i64 h), undef, (.pointer (some ⟨b1, 38, none⟩)), (.int .i64 t.d), (.agg (U8 pl).toArray), undef, undef, undef, undef, undef, undef, undef, undef, undef, undef, undef, undef, undef, undef, undef, undef, undef, undef, undef, undef, undef, undef, undef, undef, undef, undef, undef, undef, undef, undef, undef, undef, undef, undef, undef, undef, undef, undef, undef, undef, undef, undef], defers := [] } Wq := by
      intro bt10 Wq gd_bt10 ge_bt10 E hH k1 k2 k3 k4 S kt10
      refine ops_in hops hS ?_
      refine ah_or1 (i := 3) (by kernel_rfl) ?_
      · skip
        refine nx_call (some 35) rfl rfl rfl (other_any h Wq hT) (ex_call (f := 16) (vs := [(.agg C), (.int .i64 h)]) rfl (cf16 _) rfl) ?_
        rintro e W15 ⟨rfl, B⟩
        refine ⟨_, rfl, S.next B, ?_⟩
        simp only [Act.put, List.setIfInBounds_toArray, List.set_cons_zero, List.set_cons_succ]
        replace E := below_next E B
        replace hH := hH.below B
        replace k1 := keep B k1
        replace k2 := keep B k2
        replace k3 := keep B k3
        replace k4 := keep B k4
        replace S := S.next B
        replace kt10 := keep B kt10
        refine ah_take (v := (.agg (#[(.int .i64 h), (.int .i64 (othN t h)), (.int .i64 t.d)] ++ (U8 pl).toArray))) (i := 7) (some 39) rfl rfl (by kernel_rfl) (by kernel_rfl) (by kernel_rfl) rfl (fun W hK => ex_build4 (v1 := (.int .i64 h)) (v2 := (.int .i64 (othN t h))) (v3 := (.int .i64 t.d)) (v4 := (.agg (U8 pl).toArray)) rfl rfl rfl rfl rfl (b59 _ _ _ _ (U8_size _ hpl) _)) S (fun c a w h => hQP c a _ _ w h) ?_
        simp only [Act.put, List.setIfInBounds_toArray, List.set_cons_zero, List.set_cons_succ]
        refine ah_L (L' := #[true, true, true, true, true, true, true, true, true, false]) (by kernel_rfl) ?_
        refine ops_out hops hS ?_
        exact ST1 bt10 W15 gd_bt10 ge_bt10 E hH k1 k2 k3 k4 S kt10
    refine ops_in hops hS ?_
    refine ah_or2 (i := 3) (j := 8) (by kernel_rfl) ?_ ?_
    · skip
      refine nx_call (some 35) rfl rfl rfl (other_any h W7 hT) (ex_call (f := 16) (vs := [(.agg C), (.int .i64 h)]) rfl (cf16 _) rfl) ?_
      rintro e W16 ⟨rfl, B⟩
      refine ⟨_, rfl, S.next B, ?_⟩
      simp only [Act.put, List.setIfInBounds_toArray, List.set_cons_zero, List.set_cons_succ]
      replace E := below_next E B
      replace hH := hH.below B
      replace k1 := keep B k1
      replace k2 := keep B k2
      replace k3 := keep B k3
      replace k4 := keep B k4
      replace S := S.next B
      refine ah_take (v := (.agg (#[(.int .i64 h), (.int .i64 (othN t h)), (.int .i64 t.d)] ++ (U8 pl).toArray))) (i := 7) (some 39) rfl rfl (by kernel_rfl) (by kernel_rfl) (by kernel_rfl) rfl (fun W hK => ex_build4 (v1 := (.int .i64 h)) (v2 := (.int .i64 (othN t h))) (v3 := (.int .i64 t.d)) (v4 := (.agg (U8 pl).toArray)) rfl rfl rfl rfl rfl (b59 _ _ _ _ (U8_size _ hpl) _)) S (fun c a w h => hQP c a _ _ w h) ?_
      simp only [Act.put, List.setIfInBounds_toArray, List.set_cons_zero, List.set_cons_succ]
      refine ah_L (L' := #[true, true, true, true, true, true, true, true, false, false]) (by kernel_rfl) ?_
      refine ops_out hops hS ?_
      exact ST2 W16 E hH k1 k2 k3 k4 S
    · skip
      refine nx_new (fun b => .pointer (some ⟨b, 0, none⟩)) (some 10) rfl rfl rfl (ex_alloc rfl zero59) ?_
      intro bt10 W17 kt10 gt10 B
      refine ⟨S.next B, ?_⟩
      simp only [Act.put, List.setIfInBounds_toArray, List.set_cons_zero, List.set_cons_succ]
      have gd_bt10 := Nat.le_trans S.size gt10
      have ge_bt10 := Nat.le_trans E.size gt10
      replace E := below_next E B
      replace hH := hH.below B
      replace k1 := keep B k1
      replace k2 := keep B k2
      replace k3 := keep B k3
      replace k4 := keep B k4
      replace S := S.next B
      clear B
      refine ah_L (L' := #[true, true, true, false, true, true, true, false, true, false]) (by kernel_rfl) ?_
      refine ops_out hops hS ?_
      exact ST3 bt10 W17 gd_bt10 ge_bt10 E hH k1 k2 k3 k4 S kt10
  intro bt10 Wq gd_bt10 ge_bt10 E hH k1 k2 k3 k4 S kt10
  refine ops_in hops hS ?_
  refine ah_done (by kernel_rfl) ?_
  clear hQP hops hS
  subst hQ
  clear S d_k1 d_k2 d_k3 d_k4 d_hH
  refine wp_seq ?_
  obtain ⟨W18, hwd⟩ : ∃ wd, Wq.drew = wd := ⟨_, rfl⟩
  refine wp_region_held (S := fun W => Kept Nil W18 W) (by kernel_rfl) ?_
  show wpAnyH _ _ _ _ _ _ _ _ Wq.drew
  rw [hwd]
  refine capQ fun Q hQ => ?_
  have hQP : ∀ c (a : Act) (d : Nat) v w, Q (.panic c) (a.put (some d) v) w → Q (.panic c) a w := by
    subst hQ
    exact fun _ _ _ _ _ h => h
  have BD : Below Wq.heap.size Wq W18 := by rw [← hwd]; exact below_drew (Below.refl _ _)
  clear hwd
  replace E := below_next E BD
  replace hH := hH.below BD
  replace k1 := keep BD k1
  replace k2 := keep BD k2
  replace k3 := keep BD k3
  replace k4 := keep BD k4
  replace kt10 := keep BD kt10
  clear BD
  have S : Kept Nil W18 W18 := Kept.refl _ _
  have d_k1 := k1
  have d_k2 := k2
  have d_k3 := k3
  have d_k4 := k4
  have d_kt10 := kt10
  have d_hH := hH
  refine ah_take (v := (.agg C)) (i := 0) (some 40) rfl rfl (by kernel_rfl) (by kernel_rfl) (by kernel_rfl) rfl (fun W hK => ex_load (p := (.pointer (some ⟨b1, 0, none⟩))) rfl rfl (ld_all (keepK hK d_k1 (nilN _)) Try.underlying26 rfl (inf26.trans (congrArg some (hT.size).symm)))) S (fun c a w h => hQP c a _ _ w h) ?_
  simp only [Act.put, List.setIfInBounds_toArray, List.set_cons_zero, List.set_cons_succ]
  refine ah_take (v := (.pointer (some ⟨b3, 0, none⟩))) (i := 1) (some 41) rfl rfl (by kernel_rfl) (by kernel_rfl) (by kernel_rfl) rfl (fun W hK => ex_fa (p := (.pointer (some ⟨b3, 0, none⟩))) rfl rfl (fa29_0 _ _)) S (fun c a w h => hQP c a _ _ w h) ?_
  simp only [Act.put, List.setIfInBounds_toArray, List.set_cons_zero, List.set_cons_succ]
  refine ah_take (v := (.int .i64 x)) (i := 2) (some 42) rfl rfl (by kernel_rfl) (by kernel_rfl) (by kernel_rfl) rfl (fun W hK => ex_load (p := (.pointer (some ⟨b3, 0, none⟩))) rfl rfl (ld3 (at_cell (keepK hK d_k3 (nilN _)) rfl))) S (fun c a w h => hQP c a _ _ w h) ?_
  simp only [Act.put, List.setIfInBounds_toArray, List.set_cons_zero, List.set_cons_succ]
  refine ah_take (v := (.pointer (some ⟨b3, 1, none⟩))) (i := 4) (some 44) rfl rfl (by kernel_rfl) (by kernel_rfl) (by kernel_rfl) rfl (fun W hK => ex_fa (p := (.pointer (some ⟨b3, 0, none⟩))) rfl rfl (fa29_1 _ _)) S (fun c a w h => hQP c a _ _ w h) ?_
  simp only [Act.put, List.setIfInBounds_toArray, List.set_cons_zero, List.set_cons_succ]
  refine ah_take (v := (.int .i64 y)) (i := 5) (some 45) rfl rfl (by kernel_rfl) (by kernel_rfl) (by kernel_rfl) rfl (fun W hK => ex_load (p := (.pointer (some ⟨b3, 1, none⟩))) rfl rfl (ld3 (at_cell (keepK hK d_k3 (nilN _)) rfl))) S (fun c a w h => hQP c a _ _ w h) ?_
  simp only [Act.put, List.setIfInBounds_toArray, List.set_cons_zero, List.set_cons_succ]
  refine ah_or1 (i := 3) (by kernel_rfl) ?_
  refine nx_call (some 43) rfl rfl rfl (less_any x W18 hT ⟨hx0, hx⟩ ⟨hfee, hb.fee⟩) (ex_call (f := 28) (vs := [(.agg C), (.int .i64 x)]) rfl (cf28 _) rfl) ?_
  rintro e W19 ⟨rfl, B⟩
  refine ⟨_, rfl, S.next B, ?_⟩
  simp only [Act.put, List.setIfInBounds_toArray, List.set_cons_zero, List.set_cons_succ]
  replace E := below_next E B
  replace hH := hH.below B
  replace k1 := keep B k1
  replace k2 := keep B k2
  replace k3 := keep B k3
  replace k4 := keep B k4
  replace kt10 := keep B kt10
  replace S := S.next B
  refine ah_take (v := (.int .i64 (subN x t.fee))) (i := 6) (some 11) rfl rfl (by kernel_rfl) (by kernel_rfl) (by kernel_rfl) rfl (fun W hK => ex_asg rfl rfl) S (fun c a w h => hQP c a _ _ w h) ?_
  simp only [Act.put, List.setIfInBounds_toArray, List.set_cons_zero, List.set_cons_succ]
  refine ah_take (v := (.int .i64 y)) (i := 7) (some 12) rfl rfl (by kernel_rfl) (by kernel_rfl) (by kernel_rfl) rfl (fun W hK => ex_asg rfl rfl) S (fun c a w h => hQP c a _ _ w h) ?_
  simp only [Act.put, List.setIfInBounds_toArray, List.set_cons_zero, List.set_cons_succ]
  refine ah_done (by kernel_rfl) ?_
  clear hQP
  subst hQ
  clear S d_k1 d_k2 d_k3 d_k4 d_kt10 d_hH
  refine wp_seq ?_
  refine wp_seq ?_
  refine wl_in ?_
  refine wl_cap fun Q hQ => ?_
  refine st_to (v := (.int .i64 h)) (some 46) rfl rfl (ex_mv rfl rfl) ?_
  simp only [Act.put, List.setIfInBounds_toArray, List.set_cons_zero, List.set_cons_succ]
  refine st_to (v := (.pointer (some ⟨b1, 2, none⟩))) (some 47) rfl rfl (ex_fa (p := (.pointer (some ⟨b1, 0, none⟩))) rfl rfl (fa26_2 _ _)) ?_
  simp only [Act.put, List.setIfInBounds_toArray, List.set_cons_zero, List.set_cons_succ]
  refine st_to (v := (.int .i64 t.b)) (some 48) rfl rfl (ex_load (p := (.pointer (some ⟨b1, 2, none⟩))) rfl rfl (ld3 (at_cell k1 hT.c2))) ?_
  simp only [Act.put, List.setIfInBounds_toArray, List.set_cons_zero, List.set_cons_succ]
  refine st_to (v := (.bool false)) (some 49) rfl rfl (ex_bin (u := (.int .i64 h)) (r := (.int .i64 t.b)) rfl rfl rfl (eg3 _ _ _ _ _ _) (eql3 _ (decide_eq_false hAB))) ?_
  simp only [Act.put, List.setIfInBounds_toArray, List.set_cons_zero, List.set_cons_succ]
  refine st_end ?_
  subst hQ
  refine wp_cond_false rfl ?_
  refine wp_skip ?_
  refine wp_seq ?_
  obtain ⟨W20, hwd⟩ : ∃ wd, W19.drew = wd := ⟨_, rfl⟩
  refine wp_region_held (S := fun W => Kept Nil W20 W) (by kernel_rfl) ?_
  show wpAnyH _ _ _ _ _ _ _ _ W19.drew
  rw [hwd]
  refine capQ fun Q hQ => ?_
  have hQP : ∀ c (a : Act) (d : Nat) v w, Q (.panic c) (a.put (some d) v) w → Q (.panic c) a w := by
    subst hQ
    exact fun _ _ _ _ _ h => h
  have BD : Below W19.heap.size W19 W20 := by rw [← hwd]; exact below_drew (Below.refl _ _)
  clear hwd
  replace E := below_next E BD
  replace hH := hH.below BD
  replace k1 := keep BD k1
  replace k2 := keep BD k2
  replace k3 := keep BD k3
  replace k4 := keep BD k4
  replace kt10 := keep BD kt10
  clear BD
  have S : Kept Nil W20 W20 := Kept.refl _ _
  have d_k1 := k1
  have d_k2 := k2
  have d_k3 := k3
  have d_k4 := k4
  have d_kt10 := kt10
  have d_hH := hH
  refine ah_take (v := (.pointer (some ⟨b1, 3, none⟩))) (i := 0) (some 52) rfl rfl (by kernel_rfl) (by kernel_rfl) (by kernel_rfl) rfl (fun W hK => ex_fa (p := (.pointer (some ⟨b1, 0, none⟩))) rfl rfl (fa26_3 _ _)) S (fun c a w h => hQP c a _ _ w h) ?_
  simp only [Act.put, List.setIfInBounds_toArray, List.set_cons_zero, List.set_cons_succ]
  refine ah_take (v := (.agg (C.extract 3 36))) (i := 1) (some 53) rfl rfl (by kernel_rfl) (by kernel_rfl) (by kernel_rfl) rfl (fun W hK => ex_load (p := (.pointer (some ⟨b1, 3, none⟩))) rfl rfl (hT.ldr (keepK hK d_k1 (nilN _)))) S (fun c a w h => hQP c a _ _ w h) ?_
  simp only [Act.put, List.setIfInBounds_toArray, List.set_cons_zero, List.set_cons_succ]
  refine ah_take (v := (.agg (C.extract 3 36 ++ inRest))) (i := 2) (some 54) rfl rfl (by kernel_rfl) (by kernel_rfl) (by kernel_rfl) rfl (fun W hK => ex_build1 (v1 := (.agg (C.extract 3 36))) rfl rfl (b61_0 _ hT.rsz _)) S (fun c a w h => hQP c a _ _ w h) ?_
  simp only [Act.put, List.setIfInBounds_toArray, List.set_cons_zero, List.set_cons_succ]
  refine ah_take (v := (.agg (#[(.int .i64 h), (.int .i64 (othN t h)), (.int .i64 t.d)] ++ (U8 pl).toArray))) (i := 4) (some 56) rfl rfl (by kernel_rfl) (by kernel_rfl) (by kernel_rfl) rfl (fun W hK => ex_load (p := (.pointer (some ⟨bt10, 0, none⟩))) rfl rfl (ld_all (keepK hK d_kt10 (nilN _)) Try.underlying59 rfl (inf59.trans (congrArg some ((IsS.of _ _ _ hpl).size).symm)))) S (fun c a w h => hQP c a _ _ w h) ?_
  simp only [Act.put, List.setIfInBounds_toArray, List.set_cons_zero, List.set_cons_succ]
  refine ah_take (v := (.int .i64 (subN x t.fee))) (i := 5) (some 57) rfl rfl (by kernel_rfl) (by kernel_rfl) (by kernel_rfl) rfl (fun W hK => ex_mv rfl rfl) S (fun c a w h => hQP c a _ _ w h) ?_
  simp only [Act.put, List.setIfInBounds_toArray, List.set_cons_zero, List.set_cons_succ]
  refine ah_take (v := (.agg (#[(.int .i64 h), (.int .i64 (othN t h)), (.int .i64 t.d)] ++ (U8 pl).toArray))) (i := 7) (some 59) rfl rfl (by kernel_rfl) (by kernel_rfl) (by kernel_rfl) rfl (fun W hK => ex_load (p := (.pointer (some ⟨bt10, 0, none⟩))) rfl rfl (ld_all (keepK hK d_kt10 (nilN _)) Try.underlying59 rfl (inf59.trans (congrArg some ((IsS.of _ _ _ hpl).size).symm)))) S (fun c a w h => hQP c a _ _ w h) ?_
  simp only [Act.put, List.setIfInBounds_toArray, List.set_cons_zero, List.set_cons_succ]
  refine ah_take (v := (.int .i64 y)) (i := 8) (some 60) rfl rfl (by kernel_rfl) (by kernel_rfl) (by kernel_rfl) rfl (fun W hK => ex_mv rfl rfl) S (fun c a w h => hQP c a _ _ w h) ?_
  simp only [Act.put, List.setIfInBounds_toArray, List.set_cons_zero, List.set_cons_succ]
  refine cap2 fun ops SS hops hS => ?_
  suffices FIN : ∀ (bt55 : Nat) (g58 : Nat) (g61 : Nat) (bt62 : Nat) (bt13 : Nat) (Wq : World) (gd_bt55 : W20.heap.size ≤ bt55) (ge_bt55 : w.heap.size ≤ bt55) (gd_bt62 : W20.heap.size ≤ bt62) (ge_bt62 : w.heap.size ≤ bt62) (gd_bt13 : W20.heap.size ≤ bt13) (ge_bt13 : w.heap.size ≤ bt13) (ne_bt13_b4 : bt13 ≠ b4) (E : Below w.heap.size w Wq) (hH : Hs Wq ao n Cs hv) (k1 : Wq.heap[b1]? = some (.cells C 26)) (k2 : Wq.heap[b2]? = some (.cells (U8 pl).toArray 22)) (k3 : Wq.heap[b3]? = some (.cells #[.int .i64 x, .int .i64 y, .slice ao n c] 29)) (k4 : Wq.heap[b4]? = some (.cells #[.slice none 0 0, .slice none 0 0] 34)) (kt10 : Wq.heap[bt10]? = some (.cells (#[(.int .i64 h), (.int .i64 (othN t h)), (.int .i64 t.d)] ++ (U8 pl).toArray) 59)) (S : Kept Nil W20 Wq) (kt55 : Wq.heap[bt55]? = some (.cells (C.extract 3 36 ++ inRest) 61)) (kg58 : Wq.heap[g58]? = some (.cells (pth h 0 false 0 t.d Z32 ++ pth (othN t h) 0 false 0 0 (U8 pl).toArray) 66)) (kg61 : Wq.heap[g61]? = some (.cells (pth (othN t h) 0 false 0 0 Z32) 66)) (kt62 : Wq.heap[bt62]? = some (.cells (#[(.int .i64 (subN x t.fee)), .slice (some ⟨g58, 0, none⟩) 2 2] ++ #[(.int .i64 y), .slice (some ⟨g61, 0, none⟩) 1 1]) 46)) (kt13 : Wq.heap[bt13]? = some (.cells #[(.slice (some ⟨bt55, 0, none⟩) 1 1), (.slice (some ⟨bt62, 0, none⟩) 2 2)] 34)), wpAnyH Try.prog .any ops Q SS 0 #[true, true, true, true, true, true, true, true, true, true, true, true, true, true] { tmps := #[(.agg C), (.int .i64 h), (.agg (U8 pl).toArray), (.agg #[.int .i64 x, .int .i64 y, .slice ao n c]), (.pointer (some ⟨b1, 0, none⟩)), undef, (.pointer (some ⟨b2, 0, none⟩)), (.pointer (some ⟨b3, 0, none⟩)), (.pointer (some ⟨b4, 0, none⟩)), (.int .i64 0), (.pointer (some ⟨bt10, 0, none⟩)), (.int .i64 (subN x t.fee)), (.int .i64 y), (.pointer (some ⟨bt13, 0, none⟩)), undef, undef, (.agg C), (.agg #[.int .i64 x, .int .i64 y, .slice ao n c]), (.bool true), (.bool false), (.bool false), (.agg C), (.int .i64 h), (.bool true), (.bool false), (.bool false), (.bool false), (.agg (U8 pl).toArray), (.agg Z32), (.bool false), (.bool false), undef, (.int .i64 h), (.agg C), (.int .i64 h), (.int .i64 (othN t h)), (.pointer (some ⟨b1, 38, none⟩)), (.int .i64 t.d), (.agg (U8 pl).toArray), (.agg (#[(.int .i64 h), (.int .i64 (othN t h)), (.int .i64 t.d)] ++ (U8 pl).toArray)), (.agg C), (.pointer (some ⟨b3, 0, none⟩)), (.int .i64 x), (.int .i64 (subN x t.fee)), (.pointer (some ⟨b3, 1, none⟩)), (.int .i64 y), (.int .i64 h), (.pointer (some ⟨b1, 2, none⟩)), (.int .i64 t.b), (.bool false), undef, undef, (.pointer (some ⟨b1, 3, none⟩)), (.agg (C.extract 3 36)), (.agg (C.extract 3 36 ++ inRest)), (.slice (some ⟨bt55, 0, none⟩) 1 1), (.agg (#[(.int .i64 h), (.int .i64 (othN t h)), (.int .i64 t.d)] ++ (U8 pl).toArray)), (.int .i64 (subN x t.fee)), (.agg #[(.int .i64 (subN x t.fee)), .slice (some ⟨g58, 0, none⟩) 2 2]), (.agg (#[(.int .i64 h), (.int .i64 (othN t h)), (.int .i64 t.d)] ++ (U8 pl).toArray)), (.int .i64 y), (.agg #[(.int .i64 y), .slice (some ⟨g61, 0, none⟩) 1 1]), (.slice (some ⟨bt62, 0, none⟩) 2 2), (.agg #[(.slice (some ⟨bt55, 0, none⟩) 1 1), (.slice (some ⟨bt62, 0, none⟩) 2 2)]), undef, undef, undef, undef, undef, undef, undef, undef, undef, undef, undef, undef, undef, undef, undef, undef, undef], defers := [] } Wq by
    have ST1 : ∀ (bt55 : Nat) (g58 : Nat) (g61 : Nat) (bt62 : Nat) (bt13 : Nat) (Wq : World) (gd_bt55 : W20.heap.size ≤ bt55) (ge_bt55 : w.heap.size ≤ bt55) (gd_bt62 : W20.heap.size ≤ bt62) (ge_bt62 : w.heap.size ≤ bt62) (gd_bt13 : W20.heap.size ≤ bt13) (ge_bt13 : w.heap.size ≤ bt13) (ne_bt13_b4 : bt13 ≠ b4) (E : Below w.heap.size w Wq) (hH : Hs Wq ao n Cs hv) (k1 : Wq.heap[b1]? = some (.cells C 26)) (k2 : Wq.heap[b2]? = some (.cells (U8 pl).toArray 22)) (k3 : Wq.heap[b3]? = some (.cells #[.int .i64 x, .int .i64 y, .slice ao n c] 29)) (k4 : Wq.heap[b4]? = some (.cells #[.slice none 0 0, .slice none 0 0] 34)) (kt10 : Wq.heap[bt10]? = some (.cells (#[(.int .i64 h), (.int .i64 (othN t h)), (.int .i64 t.d)] ++ (U8 pl).toArray) 59)) (S : Kept Nil W20 Wq) (kt55 : Wq.heap[bt55]? = some (.cells (C.extract 3 36 ++ inRest) 61)) (kg58 : Wq.heap[g58]? = some (.cells (pth h 0 false 0 t.d Z32 ++ pth (othN t h) 0 false 0 0 (U8 pl).toArray) 66)) (kg61 : Wq.heap[g61]? = some (.cells (pth (othN t h) 0 false 0 0 Z32) 66)) (kt62 : Wq.heap[bt62]? = some (.cells (#[(.int .i64 (subN x t.fee)), .slice (some ⟨g58, 0, none⟩) 2 2] ++ #[(.int .i64 y), .slice (some ⟨g61, 0, none⟩) 1 1]) 46)) (kt13 : Wq.heap[bt13]? = some (.cells #[.slice none 0 0, .slice none 0 0] 34)), wpAnyH Try.prog .any ops Q SS 1 #[true, true, true, true, true, true, true, true, true, true, true, true, true, false] { tmps := #[(.agg C), (.int .i64 h), (.agg (U8 pl).toArray), (.agg #[.int .i64 x, .int .i64 y, .slice ao n c]), (.pointer (some ⟨b1, 0, none⟩)), undef, (.pointer (some ⟨b2, 0, none⟩)), (.pointer (some ⟨b3, 0, none⟩)), (.pointer (some ⟨b4, 0, none⟩)), (.int .i64 0), (.pointer (some ⟨bt10, 0, none⟩)), (.int .i64 (subN x t.fee)), (.int .i64 y), (.pointer (some ⟨bt13, 0, none⟩)), undef, undef, (.agg C), (.agg #[.int .i64 x, .int .i64 y, .slice ao n c]), (.bool true), (.bool false), (.bool false), (.agg C), (.int .i64 h), (.bool true), (.bool false), (.bool false), (.bool false), (.agg (U8 pl).toArray), (.agg Z32), (.bool false), (.bool false), undef, (.int .i64 h), (.agg C), (.int .i64 h), (.int .i64 (othN t h)), (.pointer (some ⟨b1, 38, none⟩)), (.int .i64 t.d), (.agg (U8 pl).toArray), (.agg (#[(.int .i64 h), (.int .i64 (othN t h)), (.int .i64 t.d)] ++ (U8 pl).toArray)), (.agg C), (.pointer (some ⟨b3, 0, none⟩)), (.int .i64 x), (.int .i64 (subN x t.fee)), (.pointer (some ⟨b3, 1, none⟩)), (.int .i64 y), (.int .i64 h), (.pointer (some ⟨b1, 2, none⟩)), (.int .i64 t.b), (.bool false), undef, undef, (.pointer (some ⟨b1, 3, none⟩)), (.agg (C.extract 3 36)), (.agg (C.extract 3 36 ++ inRest)), (.slice (some ⟨bt55, 0, none⟩) 1 1), (.agg (#[(.int .i64 h), (.int .i64 (othN t h)), (.int .i64 t.d)] ++ (U8 pl).toArray)), (.int .i64 (subN x t.fee)), (.agg #[(.int .i64 (subN x t.fee)), .slice (some ⟨g58, 0, none⟩) 2 2]), (.agg (#[(.int .i64 h), (.int .i64 (othN t h)), (.int .i64 t.d)] ++ (U8 pl).toArray)), (.int .i64 y), (.agg #[(.int .i64 y), .slice (some ⟨g61, 0, none⟩) 1 1]), (.slice (some ⟨bt62, 0, none⟩) 2 2), (.agg #[(.slice (some ⟨bt55, 0, none⟩) 1 1), (.slice (some ⟨bt62, 0, none⟩) 2 2)]), undef, undef, undef, undef, undef, undef, undef, undef, undef, undef, undef, undef, undef, undef, undef, undef, undef], defers := [] } Wq := by
      intro bt55 g58 g61 bt62 bt13 Wq gd_bt55 ge_bt55 gd_bt62 ge_bt62 gd_bt13 ge_bt13 ne_bt13_b4 E hH k1 k2 k3 k4 kt10 S kt55 kg58 kg61 kt62 kt13
      refine ops_in hops hS ?_
      refine ah_or1 (i := 13) (by kernel_rfl) ?_
      · skip
        obtain ⟨W50, hst, kn, K⟩ := put_all (D := #[(.slice (some ⟨bt55, 0, none⟩) 1 1), (.slice (some ⟨bt62, 0, none⟩) 2 2)]) kt13 rfl inf34 (by kernel_rfl)
        refine nx_sk rfl rfl rfl (ex_store rfl rfl rfl hst) (S.putN K gd_bt13) ?_
        replace E := below_put E ge_bt13 K
        replace hH := hH0.below E
        replace k1 := keepK K k1 (fun e => ne_tag k1 kt13 (by decide) e)
        replace k2 := keepK K k2 (fun e => ne_tag k2 kt13 (by decide) e)
        replace k3 := keepK K k3 (fun e => ne_tag k3 kt13 (by decide) e)
        replace k4 := keepK K k4 (fun e => by first | exact ne_b4_bt13 e | exact ne_bt13_b4 e.symm)
        replace kt10 := keepK K kt10 (fun e => ne_tag kt10 kt13 (by decide) e)
        replace S := S.putN K gd_bt13
        replace kt55 := keepK K kt55 (fun e => ne_tag kt55 kt13 (by decide) e)
        replace kg58 := keepK K kg58 (fun e => ne_tag kg58 kt13 (by decide) e)
        replace kg61 := keepK K kg61 (fun e => ne_tag kg61 kt13 (by decide) e)
        replace kt62 := keepK K kt62 (fun e => ne_tag kt62 kt13 (by decide) e)
        replace kt13 := kn
        clear kn K hst
        refine ah_L (L' := #[true, true, true, true, true, true, true, true, true, true, true, true, true, true]) (by kernel_rfl) ?_
        refine ops_out hops hS ?_
        exact FIN bt55 g58 g61 bt62 bt13 W50 gd_bt55 ge_bt55 gd_bt62 ge_bt62 gd_bt13 ge_bt13 ne_bt13_b4 E hH k1 k2 k3 k4 kt10 S kt55 kg58 kg61 kt62 kt13
    have ST2 : ∀ (bt55 : Nat) (g58 : Nat) (g61 : Nat) (bt62 : Nat) (Wq : World) (gd_bt55 : W20.heap.size ≤ bt55) (ge_bt55 : w.heap.size ≤ bt55) (gd_bt62 : W20.heap.size ≤ bt62) (ge_bt62 : w.heap.size ≤ bt62) (E : Below w.heap.size w Wq) (hH : Hs Wq ao n Cs hv) (k1 : Wq.heap[b1]? = some (.cells C 26)) (k2 : Wq.heap[b2]? = some (.cells (U8 pl).toArray 22)) (k3 : Wq.heap[b3]? = some (.cells #[.int .i64 x, .int .i64 y, .slice ao n c] 29)) (k4 : Wq.heap[b4]? = some (.cells #[.slice none 0 0, .slice none 0 0] 34)) (kt10 : Wq.heap[bt10]? = some (.cells (#[(.int .i64 h), (.int .i64 (othN t h)), (.int .i64 t.d)] ++ (U8 pl).toArray) 59)) (S : Kept Nil W20 Wq) (kt55 : Wq.heap[bt55]? = some (.cells (C.extract 3 36 ++ inRest) 61)) (kg58 : Wq.heap[g58]? = some (.cells (pth h 0 false 0 t.d Z32 ++ pth (othN t h) 0 false 0 0 (U8 pl).toArray) 66)) (kg61 : Wq.heap[g61]? = some (.cells (pth (othN t h) 0 false 0 0 Z32) 66)) (kt62 : Wq.heap[bt62]? = some (.cells (#[(.int .i64 (subN x t.fee)), .slice (some ⟨g58, 0, none⟩) 2 2] ++ #[(.int .i64 y), .slice (some ⟨g61, 0, none⟩) 1 1]) 46)), wpAnyH Try.prog .any ops Q SS 2 #[true, true, true, true, true, true, true, true, true, true, true, true, false, false] { tmps := #[(.agg C), (.int .i64 h), (.agg (U8 pl).toArray), (.agg #[.int .i64 x, .int .i64 y, .slice ao n c]), (.pointer (some ⟨b1, 0, none⟩)), undef, (.pointer (some ⟨b2, 0, none⟩)), (.pointer (some ⟨b3, 0, none⟩)), (.pointer (some ⟨b4, 0, none⟩)), (.int .i64 0), (.pointer (some ⟨bt10, 0, none⟩)), (.int .i64 (subN x t.fee)), (.int .i64 y), undef, undef, undef, (.agg C), (.agg #[.int .i64 x, .int .i64 y, .slice ao n c]), (.bool true), (.bool false), (.bool false), (.agg C), (.int .i64 h), (.bool true), (.bool false), (.bool false), (.bool false), (.agg (U8 pl).toArray), (.agg Z32), (.bool false), (.bool false), undef, (.int .i64 h), (.agg C), (.int .i64 h), (.int .i64 (othN t h)), (.pointer (some ⟨b1, 38, none⟩)), (.int .i64 t.d), (.agg (U8 pl).toArray), (.agg (#[(.int .i64 h), (.int .i64 (othN t h)), (.int .i64 t.d)] ++ (U8 pl).toArray)), (.agg C), (.pointer (some ⟨b3, 0, none⟩)), (.int .i64 x), (.int .i64 (subN x t.fee)), (.pointer (some ⟨b3, 1, none⟩)), (.int .i64 y), (.int .i64 h), (.pointer (some ⟨b1, 2, none⟩)), (.int .i64 t.b), (.bool false), undef, undef, (.pointer (some ⟨b1, 3, none⟩)), (.agg (C.extract 3 36)), (.agg (C.extract 3 36 ++ inRest)), (.slice (some ⟨bt55, 0, none⟩) 1 1), (.agg (#[(.int .i64 h), (.int .i64 (othN t h)), (.int .i64 t.d)] ++ (U8 pl).toArray)), (.int .i64 (subN x t.fee)), (.agg #[(.int .i64 (subN x t.fee)), .slice (some ⟨g58, 0, none⟩) 2 2]), (.agg (#[(.int .i64 h), (.int .i64 (othN t h)), (.int .i64 t.d)] ++ (U8 pl).toArray)), (.int .i64 y), (.agg #[(.int .i64 y), .slice (some ⟨g61, 0, none⟩) 1 1]), (.slice (some ⟨bt62, 0, none⟩) 2 2), (.agg #[(.slice (some ⟨bt55, 0, none⟩) 1 1), (.slice (some ⟨bt62, 0, none⟩) 2 2)]), undef, undef, undef, undef, undef, undef, undef, undef, undef, undef, undef, undef, undef, undef, undef, undef, undef], defers := [] } Wq := by
      intro bt55 g58 g61 bt62 Wq gd_bt55 ge_bt55 gd_bt62 ge_bt62 E hH k1 k2 k3 k4 kt10 S kt55 kg58 kg61 kt62
      refine ops_in hops hS ?_
      refine ah_or1 (i := 12) (by kernel_rfl) ?_
      · skip
        refine nx_new (fun b => .pointer (some ⟨b, 0, none⟩)) (some 13) rfl rfl rfl (ex_alloc rfl zero34) ?_
        intro bt13 W51 kt13 gt13 B
        refine ⟨S.next B, ?_⟩
        simp only [Act.put, List.setIfInBounds_toArray, List.set_cons_zero, List.set_cons_succ]
        have gd_bt13 := Nat.le_trans S.size gt13
        have ne_bt13_b4 : bt13 ≠ b4 := fun e => by have := lt_of k4; omega
        have ge_bt13 := Nat.le_trans E.size gt13
        replace E := below_next E B
        replace hH := hH.below B
        replace k1 := keep B k1
        replace k2 := keep B k2
        replace k3 := keep B k3
        replace k4 := keep B k4
        replace kt10 := keep B kt10
        replace S := S.next B
        replace kt55 := keep B kt55
        replace kg58 := keep B kg58
        replace kg61 := keep B kg61
        replace kt62 := keep B kt62
        clear B
        refine ah_L (L' := #[true, true, true, true, true, true, true, true, true, true, true, true, true, false]) (by kernel_rfl) ?_
        refine ops_out hops hS ?_
        exact ST1 bt55 g58 g61 bt62 bt13 W51 gd_bt55 ge_bt55 gd_bt62 ge_bt62 gd_bt13 ge_bt13 ne_bt13_b4 E hH k1 k2 k3 k4 kt10 S kt55 kg58 kg61 kt62 kt13
    have ST3 : ∀ (bt55 : Nat) (g58 : Nat) (g61 : Nat) (bt13 : Nat) (Wq : World) (gd_bt55 : W20.heap.size ≤ bt55) (ge_bt55 : w.heap.size ≤ bt55) (gd_bt13 : W20.heap.size ≤ bt13) (ge_bt13 : w.heap.size ≤ bt13) (ne_bt13_b4 : bt13 ≠ b4) (E : Below w.heap.size w Wq) (hH : Hs Wq ao n Cs hv) (k1 : Wq.heap[b1]? = some (.cells C 26)) (k2 : Wq.heap[b2]? = some (.cells (U8 pl).toArray 22)) (k3 : Wq.heap[b3]? = some (.cells #[.int .i64 x, .int .i64 y, .slice ao n c] 29)) (k4 : Wq.heap[b4]? = some (.cells #[.slice none 0 0, .slice none 0 0] 34)) (kt10 : Wq.heap[bt10]? = some (.cells (#[(.int .i64 h), (.int .i64 (othN t h)), (.int .i64 t.d)] ++ (U8 pl).toArray) 59)) (S : Kept Nil W20 Wq) (kt55 : Wq.heap[bt55]? = some (.cells (C.extract 3 36 ++ inRest) 61)) (kg58 : Wq.heap[g58]? = some (.cells (pth h 0 false 0 t.d Z32 ++ pth (othN t h) 0 false 0 0 (U8 pl).toArray) 66)) (kg61 : Wq.heap[g61]? = some (.cells (pth (othN t h) 0 false 0 0 Z32) 66)) (kt13 : Wq.heap[bt13]? = some (.cells #[.slice none 0 0, .slice none 0 0] 34)), wpAnyH Try.prog .any ops Q SS 3 #[true, true, true, true, true, true, true, true, true, true, false, false, true, false] { tmps := #[(.agg C), (.int .i64 h), (.agg (U8 pl).toArray), (.agg #[.int .i64 x, .int .i64 y, .slice ao n c]), (.pointer (some ⟨b1, 0, none⟩)), undef, (.pointer (some ⟨b2, 0, none⟩)), (.pointer (some ⟨b3, 0, none⟩)), (.pointer (some ⟨b4, 0, none⟩)), (.int .i64 0), (.pointer (some ⟨bt10, 0, none⟩)), (.int .i64 (subN x t.fee)), (.int .i64 y), (.pointer (some ⟨bt13, 0, none⟩)), undef, undef, (.agg C), (.agg #[.int .i64 x, .int .i64 y, .slice ao n c]), (.bool true), (.bool false), (.bool false), (.agg C), (.int .i64 h), (.bool true), (.bool false), (.bool false), (.bool false), (.agg (U8 pl).toArray), (.agg Z32), (.bool false), (.bool false), undef, (.int .i64 h), (.agg C), (.int .i64 h), (.int .i64 (othN t h)), (.pointer (some ⟨b1, 38, none⟩)), (.int .i64 t.d), (.agg (U8 pl).toArray), (.agg (#[(.int .i64 h), (.int .i64 (othN t h)), (.int .i64 t.d)] ++ (U8 pl).toArray)), (.agg C), (.pointer (some ⟨b3, 0, none⟩)), (.int .i64 x), (.int .i64 (subN x t.fee)), (.pointer (some ⟨b3, 1, none⟩)), (.int .i64 y), (.int .i64 h), (.pointer (some ⟨b1, 2, none⟩)), (.int .i64 t.b), (.bool false), undef, undef, (.pointer (some ⟨b1, 3, none⟩)), (.agg (C.extract 3 36)), (.agg (C.extract 3 36 ++ inRest)), (.slice (some ⟨bt55, 0, none⟩) 1 1), (.agg (#[(.int .i64 h), (.int .i64 (othN t h)), (.int .i64 t.d)] ++ (U8 pl).toArray)), (.int .i64 (subN x t.fee)), (.agg #[(.int .i64 (subN x t.fee)), .slice (some ⟨g58, 0, none⟩) 2 2]), (.agg (#[(.int .i64 h), (.int .i64 (othN t h)), (.int .i64 t.d)] ++ (U8 pl).toArray)), (.int .i64 y), (.agg #[(.int .i64 y), .slice (some ⟨g61, 0, none⟩) 1 1]), undef, undef, undef, undef, undef, undef, undef, undef, undef, undef, undef, undef, undef, undef, undef, undef, undef, undef, undef], defers := [] } Wq := by
      intro bt55 g58 g61 bt13 Wq gd_bt55 ge_bt55 gd_bt13 ge_bt13 ne_bt13_b4 E hH k1 k2 k3 k4 kt10 S kt55 kg58 kg61 kt13
      refine ops_in hops hS ?_
      refine ah_or1 (i := 10) (by kernel_rfl) ?_
      · skip
        refine nx_new (fun b => .slice (some ⟨b, 0, none⟩) 2 2) (some 62) rfl rfl rfl (ex_bsl2 (u := (.agg #[(.int .i64 (subN x t.fee)), .slice (some ⟨g58, 0, none⟩) 2 2])) (r := (.agg #[(.int .i64 y), .slice (some ⟨g61, 0, none⟩) 1 1])) rfl rfl rfl (bs32_2 _ rfl _ rfl _)) ?_
        intro bt62 W52 kt62 gt62 B
        refine ⟨S.next B, ?_⟩
        simp only [Act.put, List.setIfInBounds_toArray, List.set_cons_zero, List.set_cons_succ]
        have gd_bt62 := Nat.le_trans S.size gt62
        have ge_bt62 := Nat.le_trans E.size gt62
        replace E := below_next E B
        replace hH := hH.below B
        replace k1 := keep B k1
        replace k2 := keep B k2
        replace k3 := keep B k3
        replace k4 := keep B k4
        replace kt10 := keep B kt10
        replace S := S.next B
        replace kt55 := keep B kt55
        replace kg58 := keep B kg58
        replace kg61 := keep B kg61
        replace kt13 := keep B kt13
        clear B
        refine ah_take (v := (.agg #[(.slice (some ⟨bt55, 0, none⟩) 1 1), (.slice (some ⟨bt62, 0, none⟩) 2 2)])) (i := 11) (some 63) rfl rfl (by kernel_rfl) (by kernel_rfl) (by kernel_rfl) rfl (fun W hK => ex_build2 (v1 := (.slice (some ⟨bt55, 0, none⟩) 1 1)) (v2 := (.slice (some ⟨bt62, 0, none⟩) 2 2)) rfl rfl rfl (b34_01 _ _ _ _ _ _ _)) S (fun c a w h => hQP c a _ _ w h) ?_
        simp only [Act.put, List.setIfInBounds_toArray, List.set_cons_zero, List.set_cons_succ]
        refine ah_L (L' := #[true, true, true, true, true, true, true, true, true, true, true, true, true, false]) (by kernel_rfl) ?_
        refine ops_out hops hS ?_
        exact ST1 bt55 g58 g61 bt62 bt13 W52 gd_bt55 ge_bt55 gd_bt62 ge_bt62 gd_bt13 ge_bt13 ne_bt13_b4 E hH k1 k2 k3 k4 kt10 S kt55 kg58 kg61 kt62 kt13
    have ST4 : ∀ (g58 : Nat) (g61 : Nat) (bt62 : Nat) (bt13 : Nat) (Wq : World) (gd_bt62 : W20.heap.size ≤ bt62) (ge_bt62 : w.heap.size ≤ bt62) (gd_bt13 : W20.heap.size ≤ bt13) (ge_bt13 : w.heap.size ≤ bt13) (ne_bt13_b4 : bt13 ≠ b4) (E : Below w.heap.size w Wq) (hH : Hs Wq ao n Cs hv) (k1 : Wq.heap[b1]? = some (.cells C 26)) (k2 : Wq.heap[b2]? = some (.cells (U8 pl).toArray 22)) (k3 : Wq.heap[b3]? = some (.cells #[.int .i64 x, .int .i64 y, .slice ao n c] 29)) (k4 : Wq.heap[b4]? = some (.cells #[.slice none 0 0, .slice none 0 0] 34)) (kt10 : Wq.heap[bt10]? = some (.cells (#[(.int .i64 h), (.int .i64 (othN t h)), (.int .i64 t.d)] ++ (U8 pl).toArray) 59)) (S : Kept Nil W20 Wq) (kg58 : Wq.heap[g58]? = some (.cells (pth h 0 false 0 t.d Z32 ++ pth (othN t h) 0 false 0 0 (U8 pl).toArray) 66)) (kg61 : Wq.heap[g61]? = some (.cells (pth (othN t h) 0 false 0 0 Z32) 66)) (kt62 : Wq.heap[bt62]? = some (.cells (#[(.int .i64 (subN x t.fee)), .slice (some ⟨g58, 0, none⟩) 2 2] ++ #[(.int .i64 y), .slice (some ⟨g61, 0, none⟩) 1 1]) 46)) (kt13 : Wq.heap[bt13]? = some (.cells #[.slice none 0 0, .slice none 0 0] 34)), wpAnyH Try.prog .any ops Q SS 3 #[true, true, true, false, true, true, true, true, true, true, true, false, true, false] { tmps := #[(.agg C), (.int .i64 h), (.agg (U8 pl).toArray), (.agg #[.int .i64 x, .int .i64 y, .slice ao n c]), (.pointer (some ⟨b1, 0, none⟩)), undef, (.pointer (some ⟨b2, 0, none⟩)), (.pointer (some ⟨b3, 0, none⟩)), (.pointer (some ⟨b4, 0, none⟩)), (.int .i64 0), (.pointer (some ⟨bt10, 0, none⟩)), (.int .i64 (subN x t.fee)), (.int .i64 y), (.pointer (some ⟨bt13, 0, none⟩)), undef, undef, (.agg C), (.agg #[.int .i64 x, .int .i64 y, .slice ao n c]), (.bool true), (.bool false), (.bool false), (.agg C), (.int .i64 h), (.bool true), (.bool false), (.bool false), (.bool false), (.agg (U8 pl).toArray), (.agg Z32), (.bool false), (.bool false), undef, (.int .i64 h), (.agg C), (.int .i64 h), (.int .i64 (othN t h)), (.pointer (some ⟨b1, 38, none⟩)), (.int .i64 t.d), (.agg (U8 pl).toArray), (.agg (#[(.int .i64 h), (.int .i64 (othN t h)), (.int .i64 t.d)] ++ (U8 pl).toArray)), (.agg C), (.pointer (some ⟨b3, 0, none⟩)), (.int .i64 x), (.int .i64 (subN x t.fee)), (.pointer (some ⟨b3, 1, none⟩)), (.int .i64 y), (.int .i64 h), (.pointer (some ⟨b1, 2, none⟩)), (.int .i64 t.b), (.bool false), undef, undef, (.pointer (some ⟨b1, 3, none⟩)), (.agg (C.extract 3 36)), (.agg (C.extract 3 36 ++ inRest)), undef, (.agg (#[(.int .i64 h), (.int .i64 (othN t h)), (.int .i64 t.d)] ++ (U8 pl).toArray)), (.int .i64 (subN x t.fee)), (.agg #[(.int .i64 (subN x t.fee)), .slice (some ⟨g58, 0, none⟩) 2 2]), (.agg (#[(.int .i64 h), (.int .i64 (othN t h)), (.int .i64 t.d)] ++ (U8 pl).toArray)), (.int .i64 y), (.agg #[(.int .i64 y), .slice (some ⟨g61, 0, none⟩) 1 1]), (.slice (some ⟨bt62, 0, none⟩) 2 2), undef, undef, undef, undef, undef, undef, undef, undef, undef, undef, undef, undef, undef, undef, undef, undef, undef, undef], defers := [] } Wq := by
      intro g58 g61 bt62 bt13 Wq gd_bt62 ge_bt62 gd_bt13 ge_bt13 ne_bt13_b4 E hH k1 k2 k3 k4 kt10 S kg58 kg61 kt62 kt13
      refine ops_in hops hS ?_
      refine ah_or1 (i := 3) (by kernel_rfl) ?_
      · skip
        refine nx_new (fun b => .slice (some ⟨b, 0, none⟩) 1 1) (some 55) rfl rfl rfl (ex_bsl1 (u := (.agg (C.extract 3 36 ++ inRest))) rfl rfl (bs31_1 _ hT.inSize _)) ?_
        intro bt55 W53 kt55 gt55 B
        refine ⟨S.next B, ?_⟩
        simp only [Act.put, List.setIfInBounds_toArray, List.set_cons_zero, List.set_cons_succ]
        have gd_bt55 := Nat.le_trans S.size gt55
        have ge_bt55 := Nat.le_trans E.size gt55
        replace E := below_next E B
        replace hH := hH.below B
        replace k1 := keep B k1
        replace k2 := keep B k2
        replace k3 := keep B k3
        replace k4 := keep B k4
        replace kt10 := keep B kt10
        replace S := S.next B
        replace kg58 := keep B kg58
        replace kg61 := keep B kg61
        replace kt62 := keep B kt62
        replace kt13 := keep B kt13
        clear B
        refine ah_take (v := (.agg #[(.slice (some ⟨bt55, 0, none⟩) 1 1), (.slice (some ⟨bt62, 0, none⟩) 2 2)])) (i := 11) (some 63) rfl rfl (by kernel_rfl) (by kernel_rfl) (by kernel_rfl) rfl (fun W hK => ex_build2 (v1 := (.slice (some ⟨bt55, 0, none⟩) 1 1)) (v2 := (.slice (some ⟨bt62, 0, none⟩) 2 2)) rfl rfl rfl (b34_01 _ _ _ _ _ _ _)) S (fun c a w h => hQP c a _ _ w h) ?_
        simp only [Act.put, List.setIfInBounds_toArray, List.set_cons_zero, List.set_cons_succ]
        refine ah_L (L' := #[true, true, true, true, true, true, true, true, true, true, true, true, true, false]) (by kernel_rfl) ?_
        refine ops_out hops hS ?_
        exact ST1 bt55 g58 g61 bt62 bt13 W53 gd_bt55 ge_bt55 gd_bt62 ge_bt62 gd_bt13 ge_bt13 ne_bt13_b4 E hH k1 k2 k3 k4 kt10 S kt55 kg58 kg61 kt62 kt13
    have ST5 : ∀ (bt55 : Nat) (g58 : Nat) (g61 : Nat) (Wq : World) (gd_bt55 : W20.heap.size ≤ bt55) (ge_bt55 : w.heap.size ≤ bt55) (E : Below w.heap.size w Wq) (hH : Hs Wq ao n Cs hv) (k1 : Wq.heap[b1]? = some (.cells C 26)) (k2 : Wq.heap[b2]? = some (.cells (U8 pl).toArray 22)) (k3 : Wq.heap[b3]? = some (.cells #[.int .i64 x, .int .i64 y, .slice ao n c] 29)) (k4 : Wq.heap[b4]? = some (.cells #[.slice none 0 0, .slice none 0 0] 34)) (kt10 : Wq.heap[bt10]? = some (.cells (#[(.int .i64 h), (.int .i64 (othN t h)), (.int .i64 t.d)] ++ (U8 pl).toArray) 59)) (S : Kept Nil W20 Wq) (kt55 : Wq.heap[bt55]? = some (.cells (C.extract 3 36 ++ inRest) 61)) (kg58 : Wq.heap[g58]? = some (.cells (pth h 0 false 0 t.d Z32 ++ pth (othN t h) 0 false 0 0 (U8 pl).toArray) 66)) (kg61 : Wq.heap[g61]? = some (.cells (pth (othN t h) 0 false 0 0 Z32) 66)), wpAnyH Try.prog .any ops Q SS 4 #[true, true, true, true, true, true, true, true, true, true, false, false, false, false] { tmps := #[(.agg C), (.int .i64 h), (.agg (U8 pl).toArray), (.agg #[.int .i64 x, .int .i64 y, .slice ao n c]), (.pointer (some ⟨b1, 0, none⟩)), undef, (.pointer (some ⟨b2, 0, none⟩)), (.pointer (some ⟨b3, 0, none⟩)), (.pointer (some ⟨b4, 0, none⟩)), (.int .i64 0), (.pointer (some ⟨bt10, 0, none⟩)), (.int .i64 (subN x t.fee)), (.int .i64 y), undef, undef, undef, (.agg C), (.agg #[.int .i64 x, .int .i64 y, .slice ao n c]), (.bool true), (.bool false), (.bool false), (.agg C), (.int .i64 h), (.bool true), (.bool false), (.bool false), (.bool false), (.agg (U8 pl).toArray), (.agg Z32), (.bool false), (.bool false), undef, (.int .i64 h), (.agg C), (.int .i64 h), (.int .i64 (othN t h)), (.pointer (some ⟨b1, 38, none⟩)), (.int .i64 t.d), (.agg (U8 pl).toArray), (.agg (#[(.int .i64 h), (.int .i64 (othN t h)), (.int .i64 t.d)] ++ (U8 pl).toArray)), (.agg C), (.pointer (some ⟨b3, 0, none⟩)), (.int .i64 x), (.int .i64 (subN x t.fee)), (.pointer (some ⟨b3, 1, none⟩)), (.int .i64 y), (.int .i64 h), (.pointer (some ⟨b1, 2, none⟩)), (.int .i64 t.b), (.bool false), undef, undef, (.pointer (some ⟨b1, 3, none⟩)), (.agg (C.extract 3 36)), (.agg (C.extract 3 36 ++ inRest)), (.slice (some ⟨bt55, 0, none⟩) 1 1), (.agg (#[(.int .i64 h), (.int .i64 (othN t h)), (.int .i64 t.d)] ++ (U8 pl).toArray)), (.int .i64 (subN x t.fee)), (.agg #[(.int .i64 (subN x t.fee)), .slice (some ⟨g58, 0, none⟩) 2 2]), (.agg (#[(.int .i64 h), (.int .i64 (othN t h)), (.int .i64 t.d)] ++ (U8 pl).toArray)), (.int .i64 y), (.agg #[(.int .i64 y), .slice (some ⟨g61, 0, none⟩) 1 1]), undef, undef, undef, undef, undef, undef, undef, undef, undef, undef, undef, undef, undef, undef, undef, undef, undef, undef, undef], defers := [] } Wq := by
      intro bt55 g58 g61 Wq gd_bt55 ge_bt55 E hH k1 k2 k3 k4 kt10 S kt55 kg58 kg61
      refine ops_in hops hS ?_
      refine ah_or2 (i := 10) (j := 12) (by kernel_rfl) ?_ ?_
      · skip
        refine nx_new (fun b => .slice (some ⟨b, 0, none⟩) 2 2) (some 62) rfl rfl rfl (ex_bsl2 (u := (.agg #[(.int .i64 (subN x t.fee)), .slice (some ⟨g58, 0, none⟩) 2 2])) (r := (.agg #[(.int .i64 y), .slice (some ⟨g61, 0, none⟩) 1 1])) rfl rfl rfl (bs32_2 _ rfl _ rfl _)) ?_
        intro bt62 W54 kt62 gt62 B
        refine ⟨S.next B, ?_⟩
        simp only [Act.put, List.setIfInBounds_toArray, List.set_cons_zero, List.set_cons_succ]
        have gd_bt62 := Nat.le_trans S.size gt62
        have ge_bt62 := Nat.le_trans E.size gt62
        replace E := below_next E B
        replace hH := hH.below B
        replace k1 := keep B k1
        replace k2 := keep B k2
        replace k3 := keep B k3
        replace k4 := keep B k4
        replace kt10 := keep B kt10
        replace S := S.next B
        replace kt55 := keep B kt55
        replace kg58 := keep B kg58
        replace kg61 := keep B kg61
        clear B
        refine ah_take (v := (.agg #[(.slice (some ⟨bt55, 0, none⟩) 1 1), (.slice (some ⟨bt62, 0, none⟩) 2 2)])) (i := 11) (some 63) rfl rfl (by kernel_rfl) (by kernel_rfl) (by kernel_rfl) rfl (fun W hK => ex_build2 (v1 := (.slice (some ⟨bt55, 0, none⟩) 1 1)) (v2 := (.slice (some ⟨bt62, 0, none⟩) 2 2)) rfl rfl rfl (b34_01 _ _ _ _ _ _ _)) S (fun c a w h => hQP c a _ _ w h) ?_
        simp only [Act.put, List.setIfInBounds_toArray, List.set_cons_zero, List.set_cons_succ]
        refine ah_L (L' := #[true, true, true, true, true, true, true, true, true, true, true, true, false, false]) (by kernel_rfl) ?_
        refine ops_out hops hS ?_
        exact ST2 bt55 g58 g61 bt62 W54 gd_bt55 ge_bt55 gd_bt62 ge_bt62 E hH k1 k2 k3 k4 kt10 S kt55 kg58 kg61 kt62
      · skip
        refine nx_new (fun b => .pointer (some ⟨b, 0, none⟩)) (some 13) rfl rfl rfl (ex_alloc rfl zero34) ?_
        intro bt13 W55 kt13 gt13 B
        refine ⟨S.next B, ?_⟩
        simp only [Act.put, List.setIfInBounds_toArray, List.set_cons_zero, List.set_cons_succ]
        have gd_bt13 := Nat.le_trans S.size gt13
        have ne_bt13_b4 : bt13 ≠ b4 := fun e => by have := lt_of k4; omega
        have ge_bt13 := Nat.le_trans E.size gt13
        replace E := below_next E B
        replace hH := hH.below B
        replace k1 := keep B k1
        replace k2 := keep B k2
        replace k3 := keep B k3
        replace k4 := keep B k4
        replace kt10 := keep B kt10
        replace S := S.next B
        replace kt55 := keep B kt55
        replace kg58 := keep B kg58
        replace kg61 := keep B kg61
        clear B
        refine ah_L (L' := #[true, true, true, true, true, true, true, true, true, true, false, false, true, false]) (by kernel_rfl) ?_
        refine ops_out hops hS ?_
        exact ST3 bt55 g58 g61 bt13 W55 gd_bt55 ge_bt55 gd_bt13 ge_bt13 ne_bt13_b4 E hH k1 k2 k3 k4 kt10 S kt55 kg58 kg61 kt13
    have ST6 : ∀ (bt55 : Nat) (g58 : Nat) (bt13 : Nat) (Wq : World) (gd_bt55 : W20.heap.size ≤ bt55) (ge_bt55 : w.heap.size ≤ bt55) (gd_bt13 : W20.heap.size ≤ bt13) (ge_bt13 : w.heap.size ≤ bt13) (ne_bt13_b4 : bt13 ≠ b4) (E : Below w.heap.size w Wq) (hH : Hs Wq ao n Cs hv) (k1 : Wq.heap[b1]? = some (.cells C 26)) (k2 : Wq.heap[b2]? = some (.cells (U8 pl).toArray 22)) (k3 : Wq.heap[b3]? = some (.cells #[.int .i64 x, .int .i64 y, .slice ao n c] 29)) (k4 : Wq.heap[b4]? = some (.cells #[.slice none 0 0, .slice none 0 0] 34)) (kt10 : Wq.heap[bt10]? = some (.cells (#[(.int .i64 h), (.int .i64 (othN t h)), (.int .i64 t.d)] ++ (U8 pl).toArray) 59)) (S : Kept Nil W20 Wq) (kt55 : Wq.heap[bt55]? = some (.cells (C.extract 3 36 ++ inRest) 61)) (kg58 : Wq.heap[g58]? = some (.cells (pth h 0 false 0 t.d Z32 ++ pth (othN t h) 0 false 0 0 (U8 pl).toArray) 66)) (kt13 : Wq.heap[bt13]? = some (.cells #[.slice none 0 0, .slice none 0 0] 34)), wpAnyH Try.prog .any ops Q SS 4 #[true, true, true, true, true, true, true, true, true, false, false, false, true, false] { tmps := #[(.agg C), (.int .i64 h), (.agg (U8 pl).toArray), (.agg #[.int .i64 x, .int .i64 y, .slice ao n c]), (.pointer (some ⟨b1, 0, none⟩)), undef, (.pointer (some ⟨b2, 0, none⟩)), (.pointer (some ⟨b3, 0, none⟩)), (.pointer (some ⟨b4, 0, none⟩)), (.int .i64 0), (.pointer (some ⟨bt10, 0, none⟩)), (.int .i64 (subN x t.fee)), (.int .i64 y), (.pointer (some ⟨bt13, 0, none⟩)), undef, undef, (.agg C), (.agg #[.int .i64 x, .int .i64 y, .slice ao n c]), (.bool true), (.bool false), (.bool false), (.agg C), (.int .i64 h), (.bool true), (.bool false), (.bool false), (.bool false), (.agg (U8 pl).toArray), (.agg Z32), (.bool false), (.bool false), undef, (.int .i64 h), (.agg C), (.int .i64 h), (.int .i64 (othN t h)), (.pointer (some ⟨b1, 38, none⟩)), (.int .i64 t.d), (.agg (U8 pl).toArray), (.agg (#[(.int .i64 h), (.int .i64 (othN t h)), (.int .i64 t.d)] ++ (U8 pl).toArray)), (.agg C), (.pointer (some ⟨b3, 0, none⟩)), (.int .i64 x), (.int .i64 (subN x t.fee)), (.pointer (some ⟨b3, 1, none⟩)), (.int .i64 y), (.int .i64 h), (.pointer (some ⟨b1, 2, none⟩)), (.int .i64 t.b), (.bool false), undef, undef, (.pointer (some ⟨b1, 3, none⟩)), (.agg (C.extract 3 36)), (.agg (C.extract 3 36 ++ inRest)), (.slice (some ⟨bt55, 0, none⟩) 1 1), (.agg (#[(.int .i64 h), (.int .i64 (othN t h)), (.int .i64 t.d)] ++ (U8 pl).toArray)), (.int .i64 (subN x t.fee)), (.agg #[(.int .i64 (subN x t.fee)), .slice (some ⟨g58, 0, none⟩) 2 2]), (.agg (#[(.int .i64 h), (.int .i64 (othN t h)), (.int .i64 t.d)] ++ (U8 pl).toArray)), (.int .i64 y), undef, undef, undef, undef, undef, undef, undef, undef, undef, undef, undef, undef, undef, undef, undef, undef, undef, undef, undef, undef], defers := [] } Wq := by
      intro bt55 g58 bt13 Wq gd_bt55 ge_bt55 gd_bt13 ge_bt13 ne_bt13_b4 E hH k1 k2 k3 k4 kt10 S kt55 kg58 kt13
      refine ops_in hops hS ?_
      refine ah_or1 (i := 9) (by kernel_rfl) ?_
      · skip
        refine nx_call (some 61) rfl rfl rfl (oth_any (IsS.of h (othN t h) t.d hpl) _ Wq) (ex_call (f := 30) (vs := [(.agg (#[(.int .i64 h), (.int .i64 (othN t h)), (.int .i64 t.d)] ++ (U8 pl).toArray)), (.int .i64 y)]) rfl (cf30 _) rfl) ?_
        rintro e W56 ⟨g61, rfl, kg61, gg, B⟩
        refine ⟨_, rfl, S.next B, ?_⟩
        simp only [Act.put, List.setIfInBounds_toArray, List.set_cons_zero, List.set_cons_succ]
        replace E := below_next E B
        replace hH := hH.below B
        replace k1 := keep B k1
        replace k2 := keep B k2
        replace k3 := keep B k3
        replace k4 := keep B k4
        replace kt10 := keep B kt10
        replace S := S.next B
        replace kt55 := keep B kt55
        replace kg58 := keep B kg58
        replace kt13 := keep B kt13
        refine ah_L (L' := #[true, true, true, true, true, true, true, true, true, true, false, false, true, false]) (by kernel_rfl) ?_
        refine ops_out hops hS ?_
        exact ST3 bt55 g58 g61 bt13 W56 gd_bt55 ge_bt55 gd_bt13 ge_bt13 ne_bt13_b4 E hH k1 k2 k3 k4 kt10 S kt55 kg58 kg61 kt13
    have ST7 : ∀ (g58 : Nat) (g61 : Nat) (bt62 : Nat) (Wq : World) (gd_bt62 : W20.heap.size ≤ bt62) (ge_bt62 : w.heap.size ≤ bt62) (E : Below w.heap.size w Wq) (hH : Hs Wq ao n Cs hv) (k1 : Wq.heap[b1]? = some (.cells C 26)) (k2 : Wq.heap[b2]? = some (.cells (U8 pl).toArray 22)) (k3 : Wq.heap[b3]? = some (.cells #[.int .i64 x, .int .i64 y, .slice ao n c] 29)) (k4 : Wq.heap[b4]? = some (.cells #[.slice none 0 0, .slice none 0 0] 34)) (kt10 : Wq.heap[bt10]? = some (.cells (#[(.int .i64 h), (.int .i64 (othN t h)), (.int .i64 t.d)] ++ (U8 pl).toArray) 59)) (S : Kept Nil W20 Wq) (kg58 : Wq.heap[g58]? = some (.cells (pth h 0 false 0 t.d Z32 ++ pth (othN t h) 0 false 0 0 (U8 pl).toArray) 66)) (kg61 : Wq.heap[g61]? = some (.cells (pth (othN t h) 0 false 0 0 Z32) 66)) (kt62 : Wq.heap[bt62]? = some (.cells (#[(.int .i64 (subN x t.fee)), .slice (some ⟨g58, 0, none⟩) 2 2] ++ #[(.int .i64 y), .slice (some ⟨g61, 0, none⟩) 1 1]) 46)), wpAnyH Try.prog .any ops Q SS 4 #[true, true, true, false, true, true, true, true, true, true, true, false, false, false] { tmps := #[(.agg C), (.int .i64 h), (.agg (U8 pl).toArray), (.agg #[.int .i64 x, .int .i64 y, .slice ao n c]), (.pointer (some ⟨b1, 0, none⟩)), undef, (.pointer (some ⟨b2, 0, none⟩)), (.pointer (some ⟨b3, 0, none⟩)), (.pointer (some ⟨b4, 0, none⟩)), (.int .i64 0), (.pointer (some ⟨bt10, 0, none⟩)), (.int .i64 (subN x t.fee)), (.int .i64 y), undef, undef, undef, (.agg C), (.agg #[.int .i64 x, .int .i64 y, .slice ao n c]), (.bool true), (.bool false), (.bool false), (.agg C), (.int .i64 h), (.bool true), (.bool false), (.bool false), (.bool false), (.agg (U8 pl).toArray), (.agg Z32), (.bool false), (.bool false), undef, (.int .i64 h), (.agg C), (.int .i64 h), (.int .i64 (othN t h)), (.pointer (some ⟨b1, 38, none⟩)), (.int .i64 t.d), (.agg (U8 pl).toArray), (.agg (#[(.int .i64 h), (.int .i64 (othN t h)), (.int .i64 t.d)] ++ (U8 pl).toArray)), (.agg C), (.pointer (some ⟨b3, 0, none⟩)), (.int .i64 x), (.int .i64 (subN x t.fee)), (.pointer (some ⟨b3, 1, none⟩)), (.int .i64 y), (.int .i64 h), (.pointer (some ⟨b1, 2, none⟩)), (.int .i64 t.b), (.bool false), undef, undef, (.pointer (some ⟨b1, 3, none⟩)), (.agg (C.extract 3 36)), (.agg (C.extract 3 36 ++ inRest)), undef, (.agg (#[(.int .i64 h), (.int .i64 (othN t h)), (.int .i64 t.d)] ++ (U8 pl).toArray)), (.int .i64 (subN x t.fee)), (.agg #[(.int .i64 (subN x t.fee)), .slice (some ⟨g58, 0, none⟩) 2 2]), (.agg (#[(.int .i64 h), (.int .i64 (othN t h)), (.int .i64 t.d)] ++ (U8 pl).toArray)), (.int .i64 y), (.agg #[(.int .i64 y), .slice (some ⟨g61, 0, none⟩) 1 1]), (.slice (some ⟨bt62, 0, none⟩) 2 2), undef, undef, undef, undef, undef, undef, undef, undef, undef, undef, undef, undef, undef, undef, undef, undef, undef, undef], defers := [] } Wq := by
      intro g58 g61 bt62 Wq gd_bt62 ge_bt62 E hH k1 k2 k3 k4 kt10 S kg58 kg61 kt62
      refine ops_in hops hS ?_
      refine ah_or2 (i := 3) (j := 12) (by kernel_rfl) ?_ ?_
      · skip
        refine nx_new (fun b => .slice (some ⟨b, 0, none⟩) 1 1) (some 55) rfl rfl rfl (ex_bsl1 (u := (.agg (C.extract 3 36 ++ inRest))) rfl rfl (bs31_1 _ hT.inSize _)) ?_
        intro bt55 W57 kt55 gt55 B
        refine ⟨S.next B, ?_⟩
        simp only [Act.put, List.setIfInBounds_toArray, List.set_cons_zero, List.set_cons_succ]
        have gd_bt55 := Nat.le_trans S.size gt55
        have ge_bt55 := Nat.le_trans E.size gt55
        replace E := below_next E B
        replace hH := hH.below B
        replace k1 := keep B k1
        replace k2 := keep B k2
        replace k3 := keep B k3
        replace k4 := keep B k4
        replace kt10 := keep B kt10
        replace S := S.next B
        replace kg58 := keep B kg58
        replace kg61 := keep B kg61
        replace kt62 := keep B kt62
        clear B
        refine ah_take (v := (.agg #[(.slice (some ⟨bt55, 0, none⟩) 1 1), (.slice (some ⟨bt62, 0, none⟩) 2 2)])) (i := 11) (some 63) rfl rfl (by kernel_rfl) (by kernel_rfl) (by kernel_rfl) rfl (fun W hK => ex_build2 (v1 := (.slice (some ⟨bt55, 0, none⟩) 1 1)) (v2 := (.slice (some ⟨bt62, 0, none⟩) 2 2)) rfl rfl rfl (b34_01 _ _ _ _ _ _ _)) S (fun c a w h => hQP c a _ _ w h) ?_
        simp only [Act.put, List.setIfInBounds_toArray, List.set_cons_zero, List.set_cons_succ]
        refine ah_L (L' := #[true, true, true, true, true, true, true, true, true, true, true, true, false, false]) (by kernel_rfl) ?_
        refine ops_out hops hS ?_
        exact ST2 bt55 g58 g61 bt62 W57 gd_bt55 ge_bt55 gd_bt62 ge_bt62 E hH k1 k2 k3 k4 kt10 S kt55 kg58 kg61 kt62
      · skip
        refine nx_new (fun b => .pointer (some ⟨b, 0, none⟩)) (some 13) rfl rfl rfl (ex_alloc rfl zero34) ?_
        intro bt13 W58 kt13 gt13 B
        refine ⟨S.next B, ?_⟩
        simp only [Act.put, List.setIfInBounds_toArray, List.set_cons_zero, List.set_cons_succ]
        have gd_bt13 := Nat.le_trans S.size gt13
        have ne_bt13_b4 : bt13 ≠ b4 := fun e => by have := lt_of k4; omega
        have ge_bt13 := Nat.le_trans E.size gt13
        replace E := below_next E B
        replace hH := hH.below B
        replace k1 := keep B k1
        replace k2 := keep B k2
        replace k3 := keep B k3
        replace k4 := keep B k4
        replace kt10 := keep B kt10
        replace S := S.next B
        replace kg58 := keep B kg58
        replace kg61 := keep B kg61
        replace kt62 := keep B kt62
        clear B
        refine ah_L (L' := #[true, true, true, false, true, true, true, true, true, true, true, false, true, false]) (by kernel_rfl) ?_
        refine ops_out hops hS ?_
        exact ST4 g58 g61 bt62 bt13 W58 gd_bt62 ge_bt62 gd_bt13 ge_bt13 ne_bt13_b4 E hH k1 k2 k3 k4 kt10 S kg58 kg61 kt62 kt13
    have ST8 : ∀ (g58 : Nat) (g61 : Nat) (bt13 : Nat) (Wq : World) (gd_bt13 : W20.heap.size ≤ bt13) (ge_bt13 : w.heap.size ≤ bt13) (ne_bt13_b4 : bt13 ≠ b4) (E : Below w.heap.size w Wq) (hH : Hs Wq ao n Cs hv) (k1 : Wq.heap[b1]? = some (.cells C 26)) (k2 : Wq.heap[b2]? = some (.cells (U8 pl).toArray 22)) (k3 : Wq.heap[b3]? = some (.cells #[.int .i64 x, .int .i64 y, .slice ao n c] 29)) (k4 : Wq.heap[b4]? = some (.cells #[.slice none 0 0, .slice none 0 0] 34)) (kt10 : Wq.heap[bt10]? = some (.cells (#[(.int .i64 h), (.int .i64 (othN t h)), (.int .i64 t.d)] ++ (U8 pl).toArray) 59)) (S : Kept Nil W20 Wq) (kg58 : Wq.heap[g58]? = some (.cells (pth h 0 false 0 t.d Z32 ++ pth (othN t h) 0 false 0 0 (U8 pl).toArray) 66)) (kg61 : Wq.heap[g61]? = some (.cells (pth (othN t h) 0 false 0 0 Z32) 66)) (kt13 : Wq.heap[bt13]? = some (.cells #[.slice none 0 0, .slice none 0 0] 34)), wpAnyH Try.prog .any ops Q SS 4 #[true, true, true, false, true, true, true, true, true, true, false, false, true, false] { tmps := #[(.agg C), (.int .i64 h), (.agg (U8 pl).toArray), (.agg #[.int .i64 x, .int .i64 y, .slice ao n c]), (.pointer (some ⟨b1, 0, none⟩)), undef, (.pointer (some ⟨b2, 0, none⟩)), (.pointer (some ⟨b3, 0, none⟩)), (.pointer (some ⟨b4, 0, none⟩)), (.int .i64 0), (.pointer (some ⟨bt10, 0, none⟩)), (.int .i64 (subN x t.fee)), (.int .i64 y), (.pointer (some ⟨bt13, 0, none⟩)), undef, undef, (.agg C), (.agg #[.int .i64 x, .int .i64 y, .slice ao n c]), (.bool true), (.bool false), (.bool false), (.agg C), (.int .i64 h), (.bool true), (.bool false), (.bool false), (.bool false), (.agg (U8 pl).toArray), (.agg Z32), (.bool false), (.bool false), undef, (.int .i64 h), (.agg C), (.int .i64 h), (.int .i64 (othN t h)), (.pointer (some ⟨b1, 38, none⟩)), (.int .i64 t.d), (.agg (U8 pl).toArray), (.agg (#[(.int .i64 h), (.int .i64 (othN t h)), (.int .i64 t.d)] ++ (U8 pl).toArray)), (.agg C), (.pointer (some ⟨b3, 0, none⟩)), (.int .i64 x), (.int .i64 (subN x t.fee)), (.pointer (some ⟨b3, 1, none⟩)), (.int .i64 y), (.int .i64 h), (.pointer (some ⟨b1, 2, none⟩)), (.int .i64 t.b), (.bool false), undef, undef, (.pointer (some ⟨b1, 3, none⟩)), (.agg (C.extract 3 36)), (.agg (C.extract 3 36 ++ inRest)), undef, (.agg (#[(.int .i64 h), (.int .i64 (othN t h)), (.int .i64 t.d)] ++ (U8 pl).toArray)), (.int .i64 (subN x t.fee)), (.agg #[(.int .i64 (subN x t.fee)), .slice (some ⟨g58, 0, none⟩) 2 2]), (.agg (#[(.int .i64 h), (.int .i64 (othN t h)), (.int .i64 t.d)] ++ (U8 pl).toArray)), (.int .i64 y), (.agg #[(.int .i64 y), .slice (some ⟨g61, 0, none⟩) 1 1]), undef, undef, undef, undef, undef, undef, undef, undef, undef, undef, undef, undef, undef, undef, undef, undef, undef, undef, undef], defers := [] } Wq := by
      intro g58 g61 bt13 Wq gd_bt13 ge_bt13 ne_bt13_b4 E hH k1 k2 k3 k4 kt10 S kg58 kg61 kt13
      refine ops_in hops hS ?_
      refine ah_or2 (i := 3) (j := 10) (by kernel_rfl) ?_ ?_
      · skip
        refine nx_new (fun b => .slice (some ⟨b, 0, none⟩) 1 1) (some 55) rfl rfl rfl (ex_bsl1 (u := (.agg (C.extract 3 36 ++ inRest))) rfl rfl (bs31_1 _ hT.inSize _)) ?_
        intro bt55 W59 kt55 gt55 B
        refine ⟨S.next B, ?_⟩
        simp only [Act.put, List.setIfInBounds_toArray, List.set_cons_zero, List.set_cons_succ]
        have gd_bt55 := Nat.le_trans S.size gt55
        have ge_bt55 := Nat.le_trans E.size gt55
        replace E := below_next E B
        replace hH := hH.below B
        replace k1 := keep B k1
        replace k2 := keep B k2
        replace k3 := keep B k3
        replace k4 := keep B k4
        replace kt10 := keep B kt10
        replace S := S.next B
        replace kg58 := keep B kg58
        replace kg61 := keep B kg61
        replace kt13 := keep B kt13
        clear B
        refine ah_L (L' := #[true, true, true, true, true, true, true, true, true, true, false, false, true, false]) (by kernel_rfl) ?_
        refine ops_out hops hS ?_
        exact ST3 bt55 g58 g61 bt13 W59 gd_bt55 ge_bt55 gd_bt13 ge_bt13 ne_bt13_b4 E hH k1 k2 k3 k4 kt10 S kt55 kg58 kg61 kt13
      · skip
        refine nx_new (fun b => .slice (some ⟨b, 0, none⟩) 2 2) (some 62) rfl rfl rfl (ex_bsl2 (u := (.agg #[(.int .i64 (subN x t.fee)), .slice (some ⟨g58, 0, none⟩) 2 2])) (r := (.agg #[(.int .i64 y), .slice (some ⟨g61, 0, none⟩) 1 1])) rfl rfl rfl (bs32_2 _ rfl _ rfl _)) ?_
        intro bt62 W60 kt62 gt62 B
        refine ⟨S.next B, ?_⟩
        simp only [Act.put, List.setIfInBounds_toArray, List.set_cons_zero, List.set_cons_succ]
        have gd_bt62 := Nat.le_trans S.size gt62
        have ge_bt62 := Nat.le_trans E.size gt62
        replace E := below_next E B
        replace hH := hH.below B
        replace k1 := keep B k1
        replace k2 := keep B k2
        replace k3 := keep B k3
        replace k4 := keep B k4
        replace kt10 := keep B kt10
        replace S := S.next B
        replace kg58 := keep B kg58
        replace kg61 := keep B kg61
        replace kt13 := keep B kt13
        clear B
        refine ah_L (L' := #[true, true, true, false, true, true, true, true, true, true, true, false, true, false]) (by kernel_rfl) ?_
        refine ops_out hops hS ?_
        exact ST4 g58 g61 bt62 bt13 W60 gd_bt62 ge_bt62 gd_bt13 ge_bt13 ne_bt13_b4 E hH k1 k2 k3 k4 kt10 S kg58 kg61 kt62 kt13
    have ST9 : ∀ (bt55 : Nat) (g58 : Nat) (Wq : World) (gd_bt55 : W20.heap.size ≤ bt55) (ge_bt55 : w.heap.size ≤ bt55) (E : Below w.heap.size w Wq) (hH : Hs Wq ao n Cs hv) (k1 : Wq.heap[b1]? = some (.cells C 26)) (k2 : Wq.heap[b2]? = some (.cells (U8 pl).toArray 22)) (k3 : Wq.heap[b3]? = some (.cells #[.int .i64 x, .int .i64 y, .slice ao n c] 29)) (k4 : Wq.heap[b4]? = some (.cells #[.slice none 0 0, .slice none 0 0] 34)) (kt10 : Wq.heap[bt10]? = some (.cells (#[(.int .i64 h), (.int .i64 (othN t h)), (.int .i64 t.d)] ++ (U8 pl).toArray) 59)) (S : Kept Nil W20 Wq) (kt55 : Wq.heap[bt55]? = some (.cells (C.extract 3 36 ++ inRest) 61)) (kg58 : Wq.heap[g58]? = some (.cells (pth h 0 false 0 t.d Z32 ++ pth (othN t h) 0 false 0 0 (U8 pl).toArray) 66)), wpAnyH Try.prog .any ops Q SS 5 #[true, true, true, true, true, true, true, true, true, false, false, false, false, false] { tmps := #[(.agg C), (.int .i64 h), (.agg (U8 pl).toArray), (.agg #[.int .i64 x, .int .i64 y, .slice ao n c]), (.pointer (some ⟨b1, 0, none⟩)), undef, (.pointer (some ⟨b2, 0, none⟩)), (.pointer (some ⟨b3, 0, none⟩)), (.pointer (some ⟨b4, 0, none⟩)), (.int .i64 0), (.pointer (some ⟨bt10, 0, none⟩)), (.int .i64 (subN x t.fee)), (.int .i64 y), undef, undef, undef, (.agg C), (.agg #[.int .i64 x, .int .i64 y, .slice ao n c]), (.bool true), (.bool false), (.bool false), (.agg C), (.int .i64 h), (.bool true), (.bool false), (.bool false), (.bool false), (.agg (U8 pl).toArray), (.agg Z32), (.bool false), (.bool false), undef, (.int .i64 h), (.agg C), (.int .i64 h), (.int .i64 (othN t h)), (.pointer (some ⟨b1, 38, none⟩)), (.int .i64 t.d), (.agg (U8 pl).toArray), (.agg (#[(.int .i64 h), (.int .i64 (othN t h)), (.int .i64 t.d)] ++ (U8 pl).toArray)), (.agg C), (.pointer (some ⟨b3, 0, none⟩)), (.int .i64 x), (.int .i64 (subN x t.fee)), (.pointer (some ⟨b3, 1, none⟩)), (.int .i64 y), (.int .i64 h), (.pointer (some ⟨b1, 2, none⟩)), (.int .i64 t.b), (.bool false), undef, undef, (.pointer (some ⟨b1, 3, none⟩)), (.agg (C.extract 3 36)), (.agg (C.extract 3 36 ++ inRest)), (.slice (some ⟨bt55, 0, none⟩) 1 1), (.agg (#[(.int .i64 h), (.int .i64 (othN t h)), (.int .i64 t.d)] ++ (U8 pl).toArray)), (.int .i64 (subN x t.fee)), (.agg #[(.int .i64 (subN x t.fee)), .slice (some ⟨g58, 0, none⟩) 2 2]), (.agg (#[(.int .i64 h), (.int .i64 (othN t h)), (.int .i64 t.d)] ++ (U8 pl).toArray)), (.int .i64 y), undef, undef, undef, undef, undef, undef, undef, undef, undef, undef, undef, undef, undef, undef, undef, undef, undef, undef, undef, undef], defers := [] } Wq := by
      intro bt55 g58 Wq gd_bt55 ge_bt55 E hH k1 k2 k3 k4 kt10 S kt55 kg58
      refine ops_in hops hS ?_
      refine ah_or2 (i := 9) (j := 12) (by kernel_rfl) ?_ ?_
      · skip
        refine nx_call (some 61) rfl rfl rfl (oth_any (IsS.of h (othN t h) t.d hpl) _ Wq) (ex_call (f := 30) (vs := [(.agg (#[(.int .i64 h), (.int .i64 (othN t h)), (.int .i64 t.d)] ++ (U8 pl).toArray)), (.int .i64 y)]) rfl (cf30 _) rfl) ?_
        rintro e W61 ⟨g61, rfl, kg61, gg, B⟩
        refine ⟨_, rfl, S.next B, ?_⟩
        simp only [Act.put, List.setIfInBounds_toArray, List.set_cons_zero, List.set_cons_succ]
        replace E := below_next E B
        replace hH := hH.below B
        replace k1 := keep B k1
        replace k2 := keep B k2
        replace k3 := keep B k3
        replace k4 := keep B k4
        replace kt10 := keep B kt10
        replace S := S.next B
        replace kt55 := keep B kt55
        replace kg58 := keep B kg58
        refine ah_L (L' := #[true, true, true, true, true, true, true, true, true, true, false, false, false, false]) (by kernel_rfl) ?_
        refine ops_out hops hS ?_
        exact ST5 bt55 g58 g61 W61 gd_bt55 ge_bt55 E hH k1 k2 k3 k4 kt10 S kt55 kg58 kg61
      · skip
        refine nx_new (fun b => .pointer (some ⟨b, 0, none⟩)) (some 13) rfl rfl rfl (ex_alloc rfl zero34) ?_
        intro bt13 W62 kt13 gt13 B
        refine ⟨S.next B, ?_⟩
        simp only [Act.put, List.setIfInBounds_toArray, List.set_cons_zero, List.set_cons_succ]
        have gd_bt13 := Nat.le_trans S.size gt13
        have ne_bt13_b4 : bt13 ≠ b4 := fun e => by have := lt_of k4; omega
        have ge_bt13 := Nat.le_trans E.size gt13
        replace E := below_next E B
        replace hH := hH.below B
        replace k1 := keep B k1
        replace k2 := keep B k2
        replace k3 := keep B k3
        replace k4 := keep B k4
        replace kt10 := keep B kt10
        replace S := S.next B
        replace kt55 := keep B kt55
        replace kg58 := keep B kg58
        clear B
        refine ah_L (L' := #[true, true, true, true, true, true, true, true, true, false, false, false, true, false]) (by kernel_rfl) ?_
        refine ops_out hops hS ?_
        exact ST6 bt55 g58 bt13 W62 gd_bt55 ge_bt55 gd_bt13 ge_bt13 ne_bt13_b4 E hH k1 k2 k3 k4 kt10 S kt55 kg58 kt13
    have ST10 : ∀ (bt55 : Nat) (bt13 : Nat) (Wq : World) (gd_bt55 : W20.heap.size ≤ bt55) (ge_bt55 : w.heap.size ≤ bt55) (gd_bt13 : W20.heap.size ≤ bt13) (ge_bt13 : w.heap.size ≤ bt13) (ne_bt13_b4 : bt13 ≠ b4) (E : Below w.heap.size w Wq) (hH : Hs Wq ao n Cs hv) (k1 : Wq.heap[b1]? = some (.cells C 26)) (k2 : Wq.heap[b2]? = some (.cells (U8 pl).toArray 22)) (k3 : Wq.heap[b3]? = some (.cells #[.int .i64 x, .int .i64 y, .slice ao n c] 29)) (k4 : Wq.heap[b4]? = some (.cells #[.slice none 0 0, .slice none 0 0] 34)) (kt10 : Wq.heap[bt10]? = some (.cells (#[(.int .i64 h), (.int .i64 (othN t h)), (.int .i64 t.d)] ++ (U8 pl).toArray) 59)) (S : Kept Nil W20 Wq) (kt55 : Wq.heap[bt55]? = some (.cells (C.extract 3 36 ++ inRest) 61)) (kt13 : Wq.heap[bt13]? = some (.cells #[.slice none 0 0, .slice none 0 0] 34)), wpAnyH Try.prog .any ops Q SS 5 #[true, true, true, true, true, true, false, true, true, false, false, false, true, false] { tmps := #[(.agg C), (.int .i64 h), (.agg (U8 pl).toArray), (.agg #[.int .i64 x, .int .i64 y, .slice ao n c]), (.pointer (some ⟨b1, 0, none⟩)), undef, (.pointer (some ⟨b2, 0, none⟩)), (.pointer (some ⟨b3, 0, none⟩)), (.pointer (some ⟨b4, 0, none⟩)), (.int .i64 0), (.pointer (some ⟨bt10, 0, none⟩)), (.int .i64 (subN x t.fee)), (.int .i64 y), (.pointer (some ⟨bt13, 0, none⟩)), undef, undef, (.agg C), (.agg #[.int .i64 x, .int .i64 y, .slice ao n c]), (.bool true), (.bool false), (.bool false), (.agg C), (.int .i64 h), (.bool true), (.bool false), (.bool false), (.bool false), (.agg (U8 pl).toArray), (.agg Z32), (.bool false), (.bool false), undef, (.int .i64 h), (.agg C), (.int .i64 h), (.int .i64 (othN t h)), (.pointer (some ⟨b1, 38, none⟩)), (.int .i64 t.d), (.agg (U8 pl).toArray), (.agg (#[(.int .i64 h), (.int .i64 (othN t h)), (.int .i64 t.d)] ++ (U8 pl).toArray)), (.agg C), (.pointer (some ⟨b3, 0, none⟩)), (.int .i64 x), (.int .i64 (subN x t.fee)), (.pointer (some ⟨b3, 1, none⟩)), (.int .i64 y), (.int .i64 h), (.pointer (some ⟨b1, 2, none⟩)), (.int .i64 t.b), (.bool false), undef, undef, (.pointer (some ⟨b1, 3, none⟩)), (.agg (C.extract 3 36)), (.agg (C.extract 3 36 ++ inRest)), (.slice (some ⟨bt55, 0, none⟩) 1 1), (.agg (#[(.int .i64 h), (.int .i64 (othN t h)), (.int .i64 t.d)] ++ (U8 pl).toArray)), (.int .i64 (subN x t.fee)), undef, (.agg (#[(.int .i64 h), (.int .i64 (othN t h)), (.int .i64 t.d)] ++ (U8 pl).toArray)), (.int .i64 y), undef, undef, undef, undef, undef, undef, undef, undef, undef, undef, undef, undef, undef, undef, undef, undef, undef, undef, undef, undef], defers := [] } Wq := by
      intro bt55 bt13 Wq gd_bt55 ge_bt55 gd_bt13 ge_bt13 ne_bt13_b4 E hH k1 k2 k3 k4 kt10 S kt55 kt13
      refine ops_in hops hS ?_
      refine ah_or1 (i := 6) (by kernel_rfl) ?_
      · skip
        refine nx_call (some 58) rfl rfl rfl (own_any (IsS.of h (othN t h) t.d hpl) _ Wq) (ex_call (f := 29) (vs := [(.agg (#[(.int .i64 h), (.int .i64 (othN t h)), (.int .i64 t.d)] ++ (U8 pl).toArray)), (.int .i64 (subN x t.fee))]) rfl (cf29 _) rfl) ?_
        rintro e W63 ⟨g58, rfl, kg58, gg, B⟩
        refine ⟨_, rfl, S.next B, ?_⟩
        simp only [Act.put, List.setIfInBounds_toArray, List.set_cons_zero, List.set_cons_succ]
        replace E := below_next E B
        replace hH := hH.below B
        replace k1 := keep B k1
        replace k2 := keep B k2
        replace k3 := keep B k3
        replace k4 := keep B k4
        replace kt10 := keep B kt10
        replace S := S.next B
        replace kt55 := keep B kt55
        replace kt13 := keep B kt13
        refine ah_L (L' := #[true, true, true, true, true, true, true, true, true, false, false, false, true, false]) (by kernel_rfl) ?_
        refine ops_out hops hS ?_
        exact ST6 bt55 g58 bt13 W63 gd_bt55 ge_bt55 gd_bt13 ge_bt13 ne_bt13_b4 E hH k1 k2 k3 k4 kt10 S kt55 kg58 kt13
    have ST11 : ∀ (g58 : Nat) (g61 : Nat) (Wq : World) (E : Below w.heap.size w Wq) (hH : Hs Wq ao n Cs hv) (k1 : Wq.heap[b1]? = some (.cells C 26)) (k2 : Wq.heap[b2]? = some (.cells (U8 pl).toArray 22)) (k3 : Wq.heap[b3]? = some (.cells #[.int .i64 x, .int .i64 y, .slice ao n c] 29)) (k4 : Wq.heap[b4]? = some (.cells #[.slice none 0 0, .slice none 0 0] 34)) (kt10 : Wq.heap[bt10]? = some (.cells (#[(.int .i64 h), (.int .i64 (othN t h)), (.int .i64 t.d)] ++ (U8 pl).toArray) 59)) (S : Kept Nil W20 Wq) (kg58 : Wq.heap[g58]? = some (.cells (pth h 0 false 0 t.d Z32 ++ pth (othN t h) 0 false 0 0 (U8 pl).toArray) 66)) (kg61 : Wq.heap[g61]? = some (.cells (pth (othN t h) 0 false 0 0 Z32) 66)), wpAnyH Try.prog .any ops Q SS 5 #[true, true, true, false, true, true, true, true, true, true, false, false, false, false] { tmps := #[(.agg C), (.int .i64 h), (.agg (U8 pl).toArray), (.agg #[.int .i64 x, .int .i64 y, .slice ao n c]), (.pointer (some ⟨b1, 0, none⟩)), undef, (.pointer (some ⟨b2, 0, none⟩)), (.pointer (some ⟨b3, 0, none⟩)), (.pointer (some ⟨b4, 0, none⟩)), (.int .i64 0), (.pointer (some ⟨bt10, 0, none⟩)), (.int .i64 (subN x t.fee)), (.int .i64 y), undef, undef, undef, (.agg C), (.agg #[.int .i64 x, .int .i64 y, .slice ao n c]), (.bool true), (.bool false), (.bool false), (.agg C), (.int .i64 h), (.bool true), (.bool false), (.bool false), (.bool false), (.agg (U8 pl).toArray), (.agg Z32), (.bool false), (.bool false), undef, (.int .i64 h), (.agg C), (.int .i64 h), (.int .i64 (othN t h)), (.pointer (some ⟨b1, 38, none⟩)), (.int .i64 t.d), (.agg (U8 pl).toArray), (.agg (#[(.int .i64 h), (.int .i64 (othN t h)), (.int .i64 t.d)] ++ (U8 pl).toArray)), (.agg C), (.pointer (some ⟨b3, 0, none⟩)), (.int .i64 x), (.int .i64 (subN x t.fee)), (.pointer (some ⟨b3, 1, none⟩)), (.int .i64 y), (.int .i64 h), (.pointer (some ⟨b1, 2, none⟩)), (.int .i64 t.b), (.bool false), undef, undef, (.pointer (some ⟨b1, 3, none⟩)), (.agg (C.extract 3 36)), (.agg (C.extract 3 36 ++ inRest)), undef, (.agg (#[(.int .i64 h), (.int .i64 (othN t h)), (.int .i64 t.d)] ++ (U8 pl).toArray)), (.int .i64 (subN x t.fee)), (.agg #[(.int .i64 (subN x t.fee)), .slice (some ⟨g58, 0, none⟩) 2 2]), (.agg (#[(.int .i64 h), (.int .i64 (othN t h)), (.int .i64 t.d)] ++ (U8 pl).toArray)), (.int .i64 y), (.agg #[(.int .i64 y), .slice (some ⟨g61, 0, none⟩) 1 1]), undef, undef, undef, undef, undef, undef, undef, undef, undef, undef, undef, undef, undef, undef, undef, undef, undef, undef, undef], defers := [] } Wq := by
      intro g58 g61 Wq E hH k1 k2 k3 k4 kt10 S kg58 kg61
      refine ops_in hops hS ?_
      refine ah_or3 (i := 3) (j := 10) (k := 12) (by kernel_rfl) ?_ ?_ ?_
      · skip
        refine nx_new (fun b => .slice (some ⟨b, 0, none⟩) 1 1) (some 55) rfl rfl rfl (ex_bsl1 (u := (.agg (C.extract 3 36 ++ inRest))) rfl rfl (bs31_1 _ hT.inSize _)) ?_
        intro bt55 W64 kt55 gt55 B
        refine ⟨S.next B, ?_⟩
        simp only [Act.put, List.setIfInBounds_toArray, List.set_cons_zero, List.set_cons_succ]
        have gd_bt55 := Nat.le_trans S.size gt55
        have ge_bt55 := Nat.le_trans E.size gt55
        replace E := below_next E B
        replace hH := hH.below B
        replace k1 := keep B k1
        replace k2 := keep B k2
        replace k3 := keep B k3
        replace k4 := keep B k4
        replace kt10 := keep B kt10
        replace S := S.next B
        replace kg58 := keep B kg58
        replace kg61 := keep B kg61
        clear B
        refine ah_L (L' := #[true, true, true, true, true, true, true, true, true, true, false, false, false, false]) (by kernel_rfl) ?_
        refine ops_out hops hS ?_
        exact ST5 bt55 g58 g61 W64 gd_bt55 ge_bt55 E hH k1 k2 k3 k4 kt10 S kt55 kg58 kg61
      · skip
        refine nx_new (fun b => .slice (some ⟨b, 0, none⟩) 2 2) (some 62) rfl rfl rfl (ex_bsl2 (u := (.agg #[(.int .i64 (subN x t.fee)), .slice (some ⟨g58, 0, none⟩) 2 2])) (r := (.agg #[(.int .i64 y), .slice (some ⟨g61, 0, none⟩) 1 1])) rfl rfl rfl (bs32_2 _ rfl _ rfl _)) ?_
        intro bt62 W65 kt62 gt62 B
        refine ⟨S.next B, ?_⟩
        simp only [Act.put, List.setIfInBounds_toArray, List.set_cons_zero, List.set_cons_succ]
        have gd_bt62 := Nat.le_trans S.size gt62
        have ge_bt62 := Nat.le_trans E.size gt62
        replace E := below_next E B
        replace hH := hH.below B
        replace k1 := keep B k1
        replace k2 := keep B k2
        replace k3 := keep B k3
        replace k4 := keep B k4
        replace kt10 := keep B kt10
        replace S := S.next B
        replace kg58 := keep B kg58
        replace kg61 := keep B kg61
        clear B
        refine ah_L (L' := #[true, true, true, false, true, true, true, true, true, true, true, false, false, false]) (by kernel_rfl) ?_
        refine ops_out hops hS ?_
        exact ST7 g58 g61 bt62 W65 gd_bt62 ge_bt62 E hH k1 k2 k3 k4 kt10 S kg58 kg61 kt62
      · skip
        refine nx_new (fun b => .pointer (some ⟨b, 0, none⟩)) (some 13) rfl rfl rfl (ex_alloc rfl zero34) ?_
        intro bt13 W66 kt13 gt13 B
        refine ⟨S.next B, ?_⟩
        simp only [Act.put, List.setIfInBounds_toArray, List.set_cons_zero, List.set_cons_succ]
        have gd_bt13 := Nat.le_trans S.size gt13
        have ne_bt13_b4 : bt13 ≠ b4 := fun e => by have := lt_of k4; omega
        have ge_bt13 := Nat.le_trans E.size gt13
        replace E := below_next E B
        replace hH := hH.below B
        replace k1 := keep B k1
        replace k2 := keep B k2
        replace k3 := keep B k3
        replace k4 := keep B k4
        replace kt10 := keep B kt10
        replace S := S.next B
        replace kg58 := keep B kg58
        replace kg61 := keep B kg61
        clear B
        refine ah_L (L' := #[true, true, true, false, true, true, true, true, true, true, false, false, true, false]) (by kernel_rfl) ?_
        refine ops_out hops hS ?_
        exact ST8 g58 g61 bt13 W66 gd_bt13 ge_bt13 ne_bt13_b4 E hH k1 k2 k3 k4 kt10 S kg58 kg61 kt13
    have ST12 : ∀ (g58 : Nat) (bt13 : Nat) (Wq : World) (gd_bt13 : W20.heap.size ≤ bt13) (ge_bt13 : w.heap.size ≤ bt13) (ne_bt13_b4 : bt13 ≠ b4) (E : Below w.heap.size w Wq) (hH : Hs Wq ao n Cs hv) (k1 : Wq.heap[b1]? = some (.cells C 26)) (k2 : Wq.heap[b2]? = some (.cells (U8 pl).toArray 22)) (k3 : Wq.heap[b3]? = some (.cells #[.int .i64 x, .int .i64 y, .slice ao n c] 29)) (k4 : Wq.heap[b4]? = some (.cells #[.slice none 0 0, .slice none 0 0] 34)) (kt10 : Wq.heap[bt10]? = some (.cells (#[(.int .i64 h), (.int .i64 (othN t h)), (.int .i64 t.d)] ++ (U8 pl).toArray) 59)) (S : Kept Nil W20 Wq) (kg58 : Wq.heap[g58]? = some (.cells (pth h 0 false 0 t.d Z32 ++ pth (othN t h) 0 false 0 0 (U8 pl).toArray) 66)) (kt13 : Wq.heap[bt13]? = some (.cells #[.slice none 0 0, .slice none 0 0] 34)), wpAnyH Try.prog .any ops Q SS 5 #[true, true, true, false, true, true, true, true, true, false, false, false, true, false] { tmps := #[(.agg C), (.int .i64 h), (.agg (U8 pl).toArray), (.agg #[.int .i64 x, .int .i64 y, .slice ao n c]), (.pointer (some ⟨b1, 0, none⟩)), undef, (.pointer (some ⟨b2, 0, none⟩)), (.pointer (some ⟨b3, 0, none⟩)), (.pointer (some ⟨b4, 0, none⟩)), (.int .i64 0), (.pointer (some ⟨bt10, 0, none⟩)), (.int .i64 (subN x t.fee)), (.int .i64 y), (.pointer (some ⟨bt13, 0, none⟩)), undef, undef, (.agg C), (.agg #[.int .i64 x, .int .i64 y, .slice ao n c]), (.bool true), (.bool false), (.bool false), (.agg C), (.int .i64 h), (.bool true), (.bool false), (.bool false), (.bool false), (.agg (U8 pl).toArray), (.agg Z32), (.bool false), (.bool false), undef, (.int .i64 h), (.agg C), (.int .i64 h), (.int .i64 (othN t h)), (.pointer (some ⟨b1, 38, none⟩)), (.int .i64 t.d), (.agg (U8 pl).toArray), (.agg (#[(.int .i64 h), (.int .i64 (othN t h)), (.int .i64 t.d)] ++ (U8 pl).toArray)), (.agg C), (.pointer (some ⟨b3, 0, none⟩)), (.int .i64 x), (.int .i64 (subN x t.fee)), (.pointer (some ⟨b3, 1, none⟩)), (.int .i64 y), (.int .i64 h), (.pointer (some ⟨b1, 2, none⟩)), (.int .i64 t.b), (.bool false), undef, undef, (.pointer (some ⟨b1, 3, none⟩)), (.agg (C.extract 3 36)), (.agg (C.extract 3 36 ++ inRest)), undef, (.agg (#[(.int .i64 h), (.int .i64 (othN t h)), (.int .i64 t.d)] ++ (U8 pl).toArray)), (.int .i64 (subN x t.fee)), (.agg #[(.int .i64 (subN x t.fee)), .slice (some ⟨g58, 0, none⟩) 2 2]), (.agg (#[(.int .i64 h), (.int .i64 (othN t h)), (.int .i64 t.d)] ++ (U8 pl).toArray)), (.int .i64 y), undef, undef, undef, undef, undef, undef, undef, undef, undef, undef, undef, undef, undef, undef, undef, undef, undef, undef, undef, undef], defers := [] } Wq := by
      intro g58 bt13 Wq gd_bt13 ge_bt13 ne_bt13_b4 E hH k1 k2 k3 k4 kt10 S kg58 kt13
      refine ops_in hops hS ?_
      refine ah_or2 (i := 3) (j := 9) (by kernel_rfl) ?_ ?_
      · skip
        refine nx_new (fun b => .slice (some ⟨b, 0, none⟩) 1 1) (some 55) rfl rfl rfl (ex_bsl1 (u := (.agg (C.extract 3 36 ++ inRest))) rfl rfl (bs31_1 _ hT.inSize _)) ?_
        intro bt55 W67 kt55 gt55 B
        refine ⟨S.next B, ?_⟩
        simp only [Act.put, List.setIfInBounds_toArray, List.set_cons_zero, List.set_cons_succ]
        have gd_bt55 := Nat.le_trans S.size gt55
        have ge_bt55 := Nat.le_trans E.size gt55
        replace E := below_next E B
        replace hH := hH.below B
        replace k1 := keep B k1
        replace k2 := keep B k2
        replace k3 := keep B k3
        replace k4 := keep B k4
        replace kt10 := keep B kt10
        replace S := S.next B
        replace kg58 := keep B kg58
        replace kt13 := keep B kt13
        clear B
        refine ah_L (L' := #[true, true, true, true, true, true, true, true, true, false, false, false, true, false]) (by kernel_rfl) ?_
        refine ops_out hops hS ?_
        exact ST6 bt55 g58 bt13 W67 gd_bt55 ge_bt55 gd_bt13 ge_bt13 ne_bt13_b4 E hH k1 k2 k3 k4 kt10 S kt55 kg58 kt13
      · skip
        refine nx_call (some 61) rfl rfl rfl (oth_any (IsS.of h (othN t h) t.d hpl) _ Wq) (ex_call (f := 30) (vs := [(.agg (#[(.int .i64 h), (.int .i64 (othN t h)), (.int .i64 t.d)] ++ (U8 pl).toArray)), (.int .i64 y)]) rfl (cf30 _) rfl) ?_
        rintro e W68 ⟨g61, rfl, kg61, gg, B⟩
        refine ⟨_, rfl, S.next B, ?_⟩
        simp only [Act.put, List.setIfInBounds_toArray, List.set_cons_zero, List.set_cons_succ]
        replace E := below_next E B
        replace hH := hH.below B
        replace k1 := keep B k1
        replace k2 := keep B k2
        replace k3 := keep B k3
        replace k4 := keep B k4
        replace kt10 := keep B kt10
        replace S := S.next B
        replace kg58 := keep B kg58
        replace kt13 := keep B kt13
        refine ah_L (L' := #[true, true, true, false, true, true, true, true, true, true, false, false, true, false]) (by kernel_rfl) ?_
        refine ops_out hops hS ?_
        exact ST8 g58 g61 bt13 W68 gd_bt13 ge_bt13 ne_bt13_b4 E hH k1 k2 k3 k4 kt10 S kg58 kg61 kt13
    have ST13 : ∀ (bt55 : Nat) (Wq : World) (gd_bt55 : W20.heap.size ≤ bt55) (ge_bt55 : w.heap.size ≤ bt55) (E : Below w.heap.size w Wq) (hH : Hs Wq ao n Cs hv) (k1 : Wq.heap[b1]? = some (.cells C 26)) (k2 : Wq.heap[b2]? = some (.cells (U8 pl).toArray 22)) (k3 : Wq.heap[b3]? = some (.cells #[.int .i64 x, .int .i64 y, .slice ao n c] 29)) (k4 : Wq.heap[b4]? = some (.cells #[.slice none 0 0, .slice none 0 0] 34)) (kt10 : Wq.heap[bt10]? = some (.cells (#[(.int .i64 h), (.int .i64 (othN t h)), (.int .i64 t.d)] ++ (U8 pl).toArray) 59)) (S : Kept Nil W20 Wq) (kt55 : Wq.heap[bt55]? = some (.cells (C.extract 3 36 ++ inRest) 61)), wpAnyH Try.prog .any ops Q SS 6 #[true, true, true, true, true, true, false, true, true, false, false, false, false, false] { tmps := #[(.agg C), (.int .i64 h), (.agg (U8 pl).toArray), (.agg #[.int .i64 x, .int .i64 y, .slice ao n c]), (.pointer (some ⟨b1, 0, none⟩)), undef, (.pointer (some ⟨b2, 0, none⟩)), (.pointer (some ⟨b3, 0, none⟩)), (.pointer (some ⟨b4, 0, none⟩)), (.int .i64 0), (.pointer (some ⟨bt10, 0, none⟩)), (.int .i64 (subN x t.fee)), (.int .i64 y), undef, undef, undef, (.agg C), (.agg #[.int .i64 x, .int .i64 y, .slice ao n c]), (.bool true), (.bool false), (.bool false), (.agg C), (.int .i64 h), (.bool true), (.bool false), (.bool false), (.bool false), (.agg (U8 pl).toArray), (.agg Z32), (.bool false), (.bool false), undef, (.int .i64 h), (.agg C), (.int .i64 h), (.int .i64 (othN t h)), (.pointer (some ⟨b1, 38, none⟩)), (.int .i64 t.d), (.agg (U8 pl).toArray), (.agg (#[(.int .i64 h), (.int .i64 (othN t h)), (.int .i64 t.d)] ++ (U8 pl).toArray)), (.agg C), (.pointer (some ⟨b3, 0, none⟩)), (.int .i64 x), (.int .i64 (subN x t.fee)), (.pointer (some ⟨b3, 1, none⟩)), (.int .i64 y), (.int .i64 h), (.pointer (some ⟨b1, 2, none⟩)), (.int .i64 t.b), (.bool false), undef, undef, (.pointer (some ⟨b1, 3, none⟩)), (.agg (C.extract 3 36)), (.agg (C.extract 3 36 ++ inRest)), (.slice (some ⟨bt55, 0, none⟩) 1 1), (.agg (#[(.int .i64 h), (.int .i64 (othN t h)), (.int .i64 t.d)] ++ (U8 pl).toArray)), (.int .i64 (subN x t.fee)), undef, (.agg (#[(.int .i64 h), (.int .i64 (othN t h)), (.int .i64 t.d)] ++ (U8 pl).toArray)), (.int .i64 y), undef, undef, undef, undef, undef, undef, undef, undef, undef, undef, undef, undef, undef, undef, undef, undef, undef, undef, undef, undef], defers := [] } Wq := by
      intro bt55 Wq gd_bt55 ge_bt55 E hH k1 k2 k3 k4 kt10 S kt55
      refine ops_in hops hS ?_
      refine ah_or2 (i := 6) (j := 12) (by kernel_rfl) ?_ ?_
      · skip
        refine nx_call (some 58) rfl rfl rfl (own_any (IsS.of h (othN t h) t.d hpl) _ Wq) (ex_call (f := 29) (vs := [(.agg (#[(.int .i64 h), (.int .i64 (othN t h)), (.int .i64 t.d)] ++ (U8 pl).toArray)), (.int .i64 (subN x t.fee))]) rfl (cf29 _) rfl) ?_
        rintro e W69 ⟨g58, rfl, kg58, gg, B⟩
        refine ⟨_, rfl, S.next B, ?_⟩
        simp only [Act.put, List.setIfInBounds_toArray, List.set_cons_zero, List.set_cons_succ]
        replace E := below_next E B
        replace hH := hH.below B
        replace k1 := keep B k1
        replace k2 := keep B k2
        replace k3 := keep B k3
        replace k4 := keep B k4
        replace kt10 := keep B kt10
        replace S := S.next B
        replace kt55 := keep B kt55
        refine ah_L (L' := #[true, true, true, true, true, true, true, true, true, false, false, false, false, false]) (by kernel_rfl) ?_
        refine ops_out hops hS ?_
        exact ST9 bt55 g58 W69 gd_bt55 ge_bt55 E hH k1 k2 k3 k4 kt10 S kt55 kg58
      · skip
        refine nx_new (fun b => .pointer (some ⟨b, 0, none⟩)) (some 13) rfl rfl rfl (ex_alloc rfl zero34) ?_
        intro bt13 W70 kt13 gt13 B
        refine ⟨S.next B, ?_⟩
        simp only [Act.put, List.setIfInBounds_toArray, List.set_cons_zero, List.set_cons_succ]
        have gd_bt13 := Nat.le_trans S.size gt13
        have ne_bt13_b4 : bt13 ≠ b4 := fun e => by have := lt_of k4; omega
        have ge_bt13 := Nat.le_trans E.size gt13
        replace E := below_next E B
        replace hH := hH.below B
        replace k1 := keep B k1
        replace k2 := keep B k2
        replace k3 := keep B k3
        replace k4 := keep B k4
        replace kt10 := keep B kt10
        replace S := S.next B
        replace kt55 := keep B kt55
        clear B
        refine ah_L (L' := #[true, true, true, true, true, true, false, true, true, false, false, false, true, false]) (by kernel_rfl) ?_
        refine ops_out hops hS ?_
        exact ST10 bt55 bt13 W70 gd_bt55 ge_bt55 gd_bt13 ge_bt13 ne_bt13_b4 E hH k1 k2 k3 k4 kt10 S kt55 kt13
    have ST14 : ∀ (g58 : Nat) (Wq : World) (E : Below w.heap.size w Wq) (hH : Hs Wq ao n Cs hv) (k1 : Wq.heap[b1]? = some (.cells C 26)) (k2 : Wq.heap[b2]? = some (.cells (U8 pl).toArray 22)) (k3 : Wq.heap[b3]? = some (.cells #[.int .i64 x, .int .i64 y, .slice ao n c] 29)) (k4 : Wq.heap[b4]? = some (.cells #[.slice none 0 0, .slice none 0 0] 34)) (kt10 : Wq.heap[bt10]? = some (.cells (#[(.int .i64 h), (.int .i64 (othN t h)), (.int .i64 t.d)] ++ (U8 pl).toArray) 59)) (S : Kept Nil W20 Wq) (kg58 : Wq.heap[g58]? = some (.cells (pth h 0 false 0 t.d Z32 ++ pth (othN t h) 0 false 0 0 (U8 pl).toArray) 66)), wpAnyH Try.prog .any ops Q SS 6 #[true, true, true, false, true, true, true, true, true, false, false, false, false, false] { tmps := #[(.agg C), (.int .i64 h), (.agg (U8 pl).toArray), (.agg #[.int .i64 x, .int .i64 y, .slice ao n c]), (.pointer (some ⟨b1, 0, none⟩)), undef, (.pointer (some ⟨b2, 0, none⟩)), (.pointer (some ⟨b3, 0, none⟩)), (.pointer (some ⟨b4, 0, none⟩)), (.int .i64 0), (.pointer (some ⟨bt10, 0, none⟩)), (.int .i64 (subN x t.fee)), (.int .i64 y), undef, undef, undef, (.agg C), (.agg #[.int .i64 x, .int .i64 y, .slice ao n c]), (.bool true), (.bool false), (.bool false), (.agg C), (.int .i64 h), (.bool true), (.bool false), (.bool false), (.bool false), (.agg (U8 pl).toArray), (.agg Z32), (.bool false), (.bool false), undef, (.int .i64 h), (.agg C), (.int .i64 h), (.int .i64 (othN t h)), (.pointer (some ⟨b1, 38, none⟩)), (.int .i64 t.d), (.agg (U8 pl).toArray), (.agg (#[(.int .i64 h), (.int .i64 (othN t h)), (.int .i64 t.d)] ++ (U8 pl).toArray)), (.agg C), (.pointer (some ⟨b3, 0, none⟩)), (.int .i64 x), (.int .i64 (subN x t.fee)), (.pointer (some ⟨b3, 1, none⟩)), (.int .i64 y), (.int .i64 h), (.pointer (some ⟨b1, 2, none⟩)), (.int .i64 t.b), (.bool false), undef, undef, (.pointer (some ⟨b1, 3, none⟩)), (.agg (C.extract 3 36)), (.agg (C.extract 3 36 ++ inRest)), undef, (.agg (#[(.int .i64 h), (.int .i64 (othN t h)), (.int .i64 t.d)] ++ (U8 pl).toArray)), (.int .i64 (subN x t.fee)), (.agg #[(.int .i64 (subN x t.fee)), .slice (some ⟨g58, 0, none⟩) 2 2]), (.agg (#[(.int .i64 h), (.int .i64 (othN t h)), (.int .i64 t.d)] ++ (U8 pl).toArray)), (.int .i64 y), undef, undef, undef, undef, undef, undef, undef, undef, undef, undef, undef, undef, undef, undef, undef, undef, undef, undef, undef, undef], defers := [] } Wq := by
      intro g58 Wq E hH k1 k2 k3 k4 kt10 S kg58
      refine ops_in hops hS ?_
      refine ah_or3 (i := 3) (j := 9) (k := 12) (by kernel_rfl) ?_ ?_ ?_
      · skip
        refine nx_new (fun b => .slice (some ⟨b, 0, none⟩) 1 1) (some 55) rfl rfl rfl (ex_bsl1 (u := (.agg (C.extract 3 36 ++ inRest))) rfl rfl (bs31_1 _ hT.inSize _)) ?_
        intro bt55 W71 kt55 gt55 B
        refine ⟨S.next B, ?_⟩
        simp only [Act.put, List.setIfInBounds_toArray, List.set_cons_zero, List.set_cons_succ]
        have gd_bt55 := Nat.le_trans S.size gt55
        have ge_bt55 := Nat.le_trans E.size gt55
        replace E := below_next E B
        replace hH := hH.below B
        replace k1 := keep B k1
        replace k2 := keep B k2
        replace k3 := keep B k3
        replace k4 := keep B k4
        replace kt10 := keep B kt10
        replace S := S.next B
        replace kg58 := keep B kg58
        clear B
        refine ah_L (L' := #[true, true, true, true, true, true, true, true, true, false, false, false, false, false]) (by kernel_rfl) ?_
        refine ops_out hops hS ?_
        exact ST9 bt55 g58 W71 gd_bt55 ge_bt55 E hH k1 k2 k3 k4 kt10 S kt55 kg58
      · skip
        refine nx_call (some 61) rfl rfl rfl (oth_any (IsS.of h (othN t h) t.d hpl) _ Wq) (ex_call (f := 30) (vs := [(.agg (#[(.int .i64 h), (.int .i64 (othN t h)), (.int .i64 t.d)] ++ (U8 pl).toArray)), (.int .i64 y)]) rfl (cf30 _) rfl) ?_
        rintro e W72 ⟨g61, rfl, kg61, gg, B⟩
        refine ⟨_, rfl, S.next B, ?_⟩
        simp only [Act.put, List.setIfInBounds_toArray, List.set_cons_zero, List.set_cons_succ]
        replace E := below_next E B
        replace hH := hH.below B
        replace k1 := keep B k1
        replace k2 := keep B k2
        replace k3 := keep B k3
        replace k4 := keep B k4
        replace kt10 := keep B kt10
        replace S := S.next B
        replace kg58 := keep B kg58
        refine ah_L (L' := #[true, true, true, false, true, true, true, true, true, true, false, false, false, false]) (by kernel_rfl) ?_
        refine ops_out hops hS ?_
        exact ST11 g58 g61 W72 E hH k1 k2 k3 k4 kt10 S kg58 kg61
      · skip
        refine nx_new (fun b => .pointer (some ⟨b, 0, none⟩)) (some 13) rfl rfl rfl (ex_alloc rfl zero34) ?_
        intro bt13 W73 kt13 gt13 B
        refine ⟨S.next B, ?_⟩
        simp only [Act.put, List.setIfInBounds_toArray, List.set_cons_zero, List.set_cons_succ]
        have gd_bt13 := Nat.le_trans S.size gt13
        have ne_bt13_b4 : bt13 ≠ b4 := fun e => by have := lt_of k4; omega
        have ge_bt13 := Nat.le_trans E.size gt13
        replace E := below_next E B
        replace hH := hH.below B
        replace k1 := keep B k1
        replace k2 := keep B k2
        replace k3 := keep B k3
        replace k4 := keep B k4
        replace kt10 := keep B kt10
        replace S := S.next B
        replace kg58 := keep B kg58
        clear B
        refine ah_L (L' := #[true, true, true, false, true, true, true, true, true, false, false, false, true, false]) (by kernel_rfl) ?_
        refine ops_out hops hS ?_
        exact ST12 g58 bt13 W73 gd_bt13 ge_bt13 ne_bt13_b4 E hH k1 k2 k3 k4 kt10 S kg58 kt13
    have ST15 : ∀ (bt13 : Nat) (Wq : World) (gd_bt13 : W20.heap.size ≤ bt13) (ge_bt13 : w.heap.size ≤ bt13) (ne_bt13_b4 : bt13 ≠ b4) (E : Below w.heap.size w Wq) (hH : Hs Wq ao n Cs hv) (k1 : Wq.heap[b1]? = some (.cells C 26)) (k2 : Wq.heap[b2]? = some (.cells (U8 pl).toArray 22)) (k3 : Wq.heap[b3]? = some (.cells #[.int .i64 x, .int .i64 y, .slice ao n c] 29)) (k4 : Wq.heap[b4]? = some (.cells #[.slice none 0 0, .slice none 0 0] 34)) (kt10 : Wq.heap[bt10]? = some (.cells (#[(.int .i64 h), (.int .i64 (othN t h)), (.int .i64 t.d)] ++ (U8 pl).toArray) 59)) (S : Kept Nil W20 Wq) (kt13 : Wq.heap[bt13]? = some (.cells #[.slice none 0 0, .slice none 0 0] 34)), wpAnyH Try.prog .any ops Q SS 6 #[true, true, true, false, true, true, false, true, true, false, false, false, true, false] { tmps := #[(.agg C), (.int .i64 h), (.agg (U8 pl).toArray), (.agg #[.int .i64 x, .int .i64 y, .slice ao n c]), (.pointer (some ⟨b1, 0, none⟩)), undef, (.pointer (some ⟨b2, 0, none⟩)), (.pointer (some ⟨b3, 0, none⟩)), (.pointer (some ⟨b4, 0, none⟩)), (.int .i64 0), (.pointer (some ⟨bt10, 0, none⟩)), (.int .i64 (subN x t.fee)), (.int .i64 y), (.pointer (some ⟨bt13, 0, none⟩)), undef, undef, (.agg C), (.agg #[.int .i64 x, .int .i64 y, .slice ao n c]), (.bool true), (.bool false), (.bool false), (.agg C), (.int .i64 h), (.bool true), (.bool false), (.bool false), (.bool false), (.agg (U8 pl).toArray), (.agg Z32), (.bool false), (.bool false), undef, (.int .i64 h), (.agg C), (.int .i64 h), (.int .i64 (othN t h)), (.pointer (some ⟨b1, 38, none⟩)), (.int .i64 t.d), (.agg (U8 pl).toArray), (.agg (#[(.int .i64 h), (.int .i64 (othN t h)), (.int .i64 t.d)] ++ (U8 pl).toArray)), (.agg C), (.pointer (some ⟨b3, 0, none⟩)), (.int .i64 x), (.int .i64 (subN x t.fee)), (.pointer (some ⟨b3, 1, none⟩)), (.int .i64 y), (.int .i64 h), (.pointer (some ⟨b1, 2, none⟩)), (.int .i64 t.b), (.bool false), undef, undef, (.pointer (some ⟨b1, 3, none⟩)), (.agg (C.extract 3 36)), (.agg (C.extract 3 36 ++ inRest)), undef, (.agg (#[(.int .i64 h), (.int .i64 (othN t h)), (.int .i64 t.d)] ++ (U8 pl).toArray)), (.int .i64 (subN x t.fee)), undef, (.agg (#[(.int .i64 h), (.int .i64 (othN t h)), (.int .i64 t.d)] ++ (U8 pl).toArray)), (.int .i64 y), undef, undef, undef, undef, undef, undef, undef, undef, undef, undef, undef, undef, undef, undef, undef, undef, undef, undef, undef, undef], defers := [] } Wq := by
      intro bt13 Wq gd_bt13 ge_bt13 ne_bt13_b4 E hH k1 k2 k3 k4 kt10 S kt13
      refine ops_in hops hS ?_
      refine ah_or2 (i := 3) (j := 6) (by kernel_rfl) ?_ ?_
      · skip
        refine nx_new (fun b => .slice (some ⟨b, 0, none⟩) 1 1) (some 55) rfl rfl rfl (ex_bsl1 (u := (.agg (C.extract 3 36 ++ inRest))) rfl rfl (bs31_1 _ hT.inSize _)) ?_
        intro bt55 W74 kt55 gt55 B
        refine ⟨S.next B, ?_⟩
        simp only [Act.put, List.setIfInBounds_toArray, List.set_cons_zero, List.set_cons_succ]
        have gd_bt55 := Nat.le_trans S.size gt55
        have ge_bt55 := Nat.le_trans E.size gt55
        replace E := below_next E B
        replace hH := hH.below B
        replace k1 := keep B k1
        replace k2 := keep B k2
        replace k3 := keep B k3
        replace k4 := keep B k4
        replace kt10 := keep B kt10
        replace S := S.next B
        replace kt13 := keep B kt13
        clear B
        refine ah_L (L' := #[true, true, true, true, true, true, false, true, true, false, false, false, true, false]) (by kernel_rfl) ?_
        refine ops_out hops hS ?_
        exact ST10 bt55 bt13 W74 gd_bt55 ge_bt55 gd_bt13 ge_bt13 ne_bt13_b4 E hH k1 k2 k3 k4 kt10 S kt55 kt13
      · skip
        refine nx_call (some 58) rfl rfl rfl (own_any (IsS.of h (othN t h) t.d hpl) _ Wq) (ex_call (f := 29) (vs := [(.agg (#[(.int .i64 h), (.int .i64 (othN t h)), (.int .i64 t.d)] ++ (U8 pl).toArray)), (.int .i64 (subN x t.fee))]) rfl (cf29 _) rfl) ?_
        rintro e W75 ⟨g58, rfl, kg58, gg, B⟩
        refine ⟨_, rfl, S.next B, ?_⟩
        simp only [Act.put, List.setIfInBounds_toArray, List.set_cons_zero, List.set_cons_succ]
        replace E := below_next E B
        replace hH := hH.below B
        replace k1 := keep B k1
        replace k2 := keep B k2
        replace k3 := keep B k3
        replace k4 := keep B k4
        replace kt10 := keep B kt10
        replace S := S.next B
        replace kt13 := keep B kt13
        refine ah_L (L' := #[true, true, true, false, true, true, true, true, true, false, false, false, true, false]) (by kernel_rfl) ?_
        refine ops_out hops hS ?_
        exact ST12 g58 bt13 W75 gd_bt13 ge_bt13 ne_bt13_b4 E hH k1 k2 k3 k4 kt10 S kg58 kt13
    refine ops_in hops hS ?_
    refine ah_or3 (i := 3) (j := 6) (k := 12) (by kernel_rfl) ?_ ?_ ?_
    · skip
      refine nx_new (fun b => .slice (some ⟨b, 0, none⟩) 1 1) (some 55) rfl rfl rfl (ex_bsl1 (u := (.agg (C.extract 3 36 ++ inRest))) rfl rfl (bs31_1 _ hT.inSize _)) ?_
      intro bt55 W76 kt55 gt55 B
      refine ⟨S.next B, ?_⟩
      simp only [Act.put, List.setIfInBounds_toArray, List.set_cons_zero, List.set_cons_succ]
      have gd_bt55 := Nat.le_trans S.size gt55
      have ge_bt55 := Nat.le_trans E.size gt55
      replace E := below_next E B
      replace hH := hH.below B
      replace k1 := keep B k1
      replace k2 := keep B k2
      replace k3 := keep B k3
      replace k4 := keep B k4
      replace kt10 := keep B kt10
      replace S := S.next B
      clear B
      refine ah_L (L' := #[true, true, true, true, true, true, false, true, true, false, false, false, false, false]) (by kernel_rfl) ?_
      refine ops_out hops hS ?_
      exact ST13 bt55 W76 gd_bt55 ge_bt55 E hH k1 k2 k3 k4 kt10 S kt55
    · skip
      refine nx_call (some 58) rfl rfl rfl (own_any (IsS.of h (othN t h) t.d hpl) _ W20) (ex_call (f := 29) (vs := [(.agg (#[(.int .i64 h), (.int .i64 (othN t h)), (.int .i64 t.d)] ++ (U8 pl).toArray)), (.int .i64 (subN x t.fee))]) rfl (cf29 _) rfl) ?_
      rintro e W77 ⟨g58, rfl, kg58, gg, B⟩
      refine ⟨_, rfl, S.next B, ?_⟩
      simp only [Act.put, List.setIfInBounds_toArray, List.set_cons_zero, List.set_cons_succ]
      replace E := below_next E B
      replace hH := hH.below B
      replace k1 := keep B k1
      replace k2 := keep B k2
      replace k3 := keep B k3
      replace k4 := keep B k4
      replace kt10 := keep B kt10
      replace S := S.next B
      refine ah_L (L' := #[true, true, true, false, true, true, true, true, true, false, false, false, false, false]) (by kernel_rfl) ?_
      refine ops_out hops hS ?_
      exact ST14 g58 W77 E hH k1 k2 k3 k4 kt10 S kg58
    · skip
      refine nx_new (fun b => .pointer (some ⟨b, 0, none⟩)) (some 13) rfl rfl rfl (ex_alloc rfl zero34) ?_
      intro bt13 W78 kt13 gt13 B
      refine ⟨S.next B, ?_⟩
      simp only [Act.put, List.setIfInBounds_toArray, List.set_cons_zero, List.set_cons_succ]
      have gd_bt13 := Nat.le_trans S.size gt13
      have ne_bt13_b4 : bt13 ≠ b4 := fun e => by have := lt_of k4; omega
      have ge_bt13 := Nat.le_trans E.size gt13
      replace E := below_next E B
      replace hH := hH.below B
      replace k1 := keep B k1
      replace k2 := keep B k2
      replace k3 := keep B k3
      replace k4 := keep B k4
      replace kt10 := keep B kt10
      replace S := S.next B
      clear B
      refine ah_L (L' := #[true, true, true, false, true, true, false, true, true, false, false, false, true, false]) (by kernel_rfl) ?_
      refine ops_out hops hS ?_
      exact ST15 bt13 W78 gd_bt13 ge_bt13 ne_bt13_b4 E hH k1 k2 k3 k4 kt10 S kt13
  intro bt55 g58 g61 bt62 bt13 Wq gd_bt55 ge_bt55 gd_bt62 ge_bt62 gd_bt13 ge_bt13 ne_bt13_b4 E hH k1 k2 k3 k4 kt10 S kt55 kg58 kg61 kt62 kt13
  refine ops_in hops hS ?_
  refine ah_done (by kernel_rfl) ?_
  clear hQP hops hS
  subst hQ
  clear S d_k1 d_k2 d_k3 d_k4 d_kt10 d_hH
  refine wp_seq ?_
  refine wp_seq ?_
  refine wl_in ?_
  refine wl_cap fun Q hQ => ?_
  refine st_to (v := (.pointer (some ⟨b3, 2, none⟩))) (some 64) rfl rfl (ex_fa (p := (.pointer (some ⟨b3, 0, none⟩))) rfl rfl (fa29_2 _ _)) ?_
  simp only [Act.put, List.setIfInBounds_toArray, List.set_cons_zero, List.set_cons_succ]
  refine st_to (v := (.slice ao n c)) (some 65) rfl rfl (ex_load (p := (.pointer (some ⟨b3, 2, none⟩))) rfl rfl (ld27 (at_cell k3 rfl))) ?_
  simp only [Act.put, List.setIfInBounds_toArray, List.set_cons_zero, List.set_cons_succ]
  refine st_to (v := (.int .i64 (n : Nat))) (some 66) rfl rfl (ex_len rfl rfl (len27 _ _ _ _ _)) ?_
  simp only [Act.put, List.setIfInBounds_toArray, List.set_cons_zero, List.set_cons_succ]
  refine st_to (v := (.int .i64 0)) (some 67) rfl rfl (ex_mv rfl rfl) ?_
  simp only [Act.put, List.setIfInBounds_toArray, List.set_cons_zero, List.set_cons_succ]
  refine st_end ?_
  subst hQ
  refine wp_block ?_
  have RW : Rw Wq w.heap.size 46 2 bt62 (0 + 2) 2 (flat (fun j => if j = 0 then g58 else g61) (om (subN x t.fee) y hv) ol (0 + 2)) := Rw.ofBlock kt62 rfl ge_bt62 (by decide)
  have OPS : ∀ j, j < 0 + 2 → Wq.heap[(fun j => if j = 0 then g58 else g61) j]? = some (.cells ((opth h (othN t h) t.d (U8 pl).toArray hv) j) 66) := fun j hj => by
    match j, hj with
    | 0, _ => exact kg58
    | 1, _ => exact kg61
  go_loopw [67] (fun v67 wr => ∃ (i g cap : Nat) (gs : Nat → Nat), i ≤ n ∧ v67 = .int .i64 i ∧ Below w.heap.size w wr ∧ Rw wr w.heap.size 46 2 g (i + 2) cap (flat gs (om (subN x t.fee) y hv) ol (i + 2)) ∧ (∀ j, j < i + 2 → wr.heap[gs j]? = some (.cells ((opth h (othN t h) t.d (U8 pl).toArray hv) j) 66)) ∧ wr.heap[bt13]? = some (.cells #[.slice (some ⟨bt55, 0, none⟩) 1 1, .slice (some ⟨g, 0, none⟩) (i + 2) cap] 34) ∧ wr.heap[bt10]? = some (.cells (#[(.int .i64 h), (.int .i64 (othN t h)), (.int .i64 t.d)] ++ (U8 pl).toArray) 59) ∧ wr.heap[b4]? = some (.cells #[.slice none 0 0, .slice none 0 0] 34) ∧ wr.heap[bt55]? = some (.cells (C.extract 3 36 ++ inRest) 61)) (fun v67 _ => n - (intOf v67).toNat)
  case atStart => exact ⟨0, bt62, 2, _, Nat.zero_le _, rfl, E, RW, OPS, kt13, kt10, k4, kt55⟩
  case round =>
    clear E RW OPS hH k1 k2 k3 k4 kt10 kt55 kg58 kg61 kt62 kt13
    obtain ⟨i, g, cap, gs, hi, rfl, E, RW, OPS, kt13, kt10, k4, kt55⟩ := hrel
    by_cases hlt : i < n
    · rcases hH0 with hh | ⟨b, p, rfl, hh⟩
      · omega
      have HC := hh i hlt
      refine wp_seq ?_
      refine wl_in ?_
      refine wl_cap fun Q hQ => ?_
      refine st_to (v := (.bool true)) (some 68) rfl rfl (ex_bin (u := (.int .i64 (i : Nat))) (r := (.int .i64 (n : Nat))) rfl rfl rfl (eg3 _ _ _ _ _ _) (lss3 _ (decide_eq_true (by omega)))) ?_
      simp only [Act.put, List.setIfInBounds_toArray, List.set_cons_zero, List.set_cons_succ]
      refine st_end ?_
      subst hQ
      refine wp_seq ?_
      refine wp_cond_true rfl ?_
      refine wp_skip ?_
      refine wp_seq ?_
      refine wp_block ?_
      refine wp_seq ?_
      refine wl_in ?_
      refine wl_cap fun Q hQ => ?_
      refine st_to (v := (.pointer (some ⟨b, (p + i * 36), none⟩))) (some 69) rfl rfl (ex_ix27 rfl rfl rfl hlt) ?_
      simp only [Act.put, List.setIfInBounds_toArray, List.set_cons_zero, List.set_cons_succ]
      refine st_to (v := (.agg (Cs i))) (some 70) rfl rfl (ex_load rfl rfl (ld_range (range_below HC.2 E) Try.underlying49 rfl (inf49.trans (congrArg some HC.1.size.symm)))) ?_
      simp only [Act.put, List.setIfInBounds_toArray, List.set_cons_zero, List.set_cons_succ]
      refine st_new (fun b => .pointer (some ⟨b, 0, none⟩)) (some 15) rfl rfl (ex_alloc rfl zero49) ?_
      intro b5 W79 k5 g5 B
      simp only [Act.put, List.setIfInBounds_toArray, List.set_cons_zero, List.set_cons_succ]
      have ne_b5_bt10 : b5 ≠ bt10 := fun e => by have := lt_of kt10; omega
      have ne_b5_b4 : b5 ≠ b4 := fun e => by have := lt_of k4; omega
      have ne_b5_bt55 : b5 ≠ bt55 := fun e => by have := lt_of kt55; omega
      have ne_b5_bt13 : b5 ≠ bt13 := fun e => by have := lt_of kt13; omega
      have ge_b5 := Nat.le_trans E.size g5
      replace E := below_next E B
      replace RW := RW.keep B
      replace OPS := fun j hj => keep B (OPS j hj)
      replace kt13 := keep B kt13
      replace kt10 := keep B kt10
      replace k4 := keep B k4
      replace kt55 := keep B kt55
      clear B
      obtain ⟨W80, hst, kn, K⟩ := put_all (D := (Cs i)) k5 (((show ((#[.int .i64 0, .int .i64 0, .int .i64 0] ++ Z32 ++ #[.int .i64 0]) : Array Value).size = 36 from rfl)).trans (HC.1.size).symm) (inf49.trans (congrArg some (HC.1.size).symm)) HC.1.one
      refine st_sk rfl rfl (ex_store rfl rfl rfl hst) ?_
      replace E := below_put E ge_b5 K
      replace RW := RW.keepK K (fun e => RW.ne k5 (by decide) e)
      replace OPS := fun j hj => keepK K (OPS j hj) (fun e => ne_tag (OPS j hj) k5 (by decide) e)
      replace kt13 := keepK K kt13 (fun e => ne_tag kt13 k5 (by decide) e)
      replace kt10 := keepK K kt10 (fun e => ne_tag kt10 k5 (by decide) e)
      replace k4 := keepK K k4 (fun e => ne_tag k4 k5 (by decide) e)
      replace kt55 := keepK K kt55 (fun e => ne_tag kt55 k5 (by decide) e)
      replace k5 := kn
      clear kn K hst
      refine st_end ?_
      subst hQ
      obtain ⟨W81, hwd⟩ : ∃ wd, W80.drew = wd := ⟨_, rfl⟩
      refine wp_region_held (S := fun W => Kept (fun k => k = bt13 ∨ k = g) W81 W) (by kernel_rfl) ?_
      show wpAnyH _ _ _ _ _ _ _ _ W80.drew
      rw [hwd]
      refine capQ fun Q hQ => ?_
      have hQP : ∀ c (a : Act) (d : Nat) v w, Q (.panic c) (a.put (some d) v) w → Q (.panic c) a w := by
        subst hQ
        exact fun _ _ _ _ _ h => h
      have BD : Below W80.heap.size W80 W81 := by rw [← hwd]; exact below_drew (Below.refl _ _)
      clear hwd
      replace E := below_next E BD
      replace RW := RW.keep BD
      replace OPS := fun j hj => keep BD (OPS j hj)
      replace kt13 := keep BD kt13
      replace kt10 := keep BD kt10
      replace k4 := keep BD k4
      replace kt55 := keep BD kt55
      replace k5 := keep BD k5
      clear BD
      have S : Kept (fun k => k = bt13 ∨ k = g) W81 W81 := Kept.refl _ _
      have d_kt10 := kt10
      have d_k4 := k4
      have d_kt55 := kt55
      have d_kt13 := kt13
      have d_k5 := k5
      have d_RW := RW
      have d_OPS := OPS
      refine ah_take (v := (.pointer (some ⟨bt13, 1, none⟩))) (i := 0) (some 71) rfl rfl (by kernel_rfl) (by kernel_rfl) (by kernel_rfl) rfl (fun W hK => ex_fa (p := (.pointer (some ⟨bt13, 0, none⟩))) rfl rfl (fa34_1 _ _)) S (fun c a w h => hQP c a _ _ w h) ?_
      simp only [Act.put, List.setIfInBounds_toArray, List.set_cons_zero, List.set_cons_succ]
      refine ah_take (v := (.agg (#[(.int .i64 h), (.int .i64 (othN t h)), (.int .i64 t.d)] ++ (U8 pl).toArray))) (i := 2) (some 73) rfl rfl (by kernel_rfl) (by kernel_rfl) (by kernel_rfl) rfl (fun W hK => ex_load (p := (.pointer (some ⟨bt10, 0, none⟩))) rfl rfl (ld_all (keepK hK d_kt10 (fun e => e.elim (fun e => ne_tag d_kt10 d_kt13 (by decide) e) (fun e => d_RW.ne d_kt10 (by decide) e.symm))) Try.underlying59 rfl (inf59.trans (congrArg some ((IsS.of _ _ _ hpl).size).symm)))) S (fun c a w h => hQP c a _ _ w h) ?_
      simp only [Act.put, List.setIfInBounds_toArray, List.set_cons_zero, List.set_cons_succ]
      refine ah_take (v := (.agg (Cs i))) (i := 3) (some 74) rfl rfl (by kernel_rfl) (by kernel_rfl) (by kernel_rfl) rfl (fun W hK => ex_load (p := (.pointer (some ⟨b5, 0, none⟩))) rfl rfl (ld_all (keepK hK d_k5 (fun e => e.elim (fun e => ne_tag d_k5 d_kt13 (by decide) e) (fun e => d_RW.ne d_k5 (by decide) e.symm))) Try.underlying49 rfl (inf49.trans (congrArg some (HC.1.size).symm)))) S (fun c a w h => hQP c a _ _ w h) ?_
      simp only [Act.put, List.setIfInBounds_toArray, List.set_cons_zero, List.set_cons_succ]
      refine cap2 fun ops SS hops hS => ?_
      suffices FIN : ∀ (g75 : Nat) (bt76 : Nat) (g77 : Nat) (cap77 : Nat) (Wq : World) (gd_bt76 : W81.heap.size ≤ bt76) (ge_bt76 : w.heap.size ≤ bt76) (E : Below w.heap.size w Wq) (OPS : ∀ j, j < i + 2 → Wq.heap[gs j]? = some (.cells ((opth h (othN t h) t.d (U8 pl).toArray hv) j) 66)) (kt10 : Wq.heap[bt10]? = some (.cells (#[(.int .i64 h), (.int .i64 (othN t h)), (.int .i64 t.d)] ++ (U8 pl).toArray) 59)) (k4 : Wq.heap[b4]? = some (.cells #[.slice none 0 0, .slice none 0 0] 34)) (kt55 : Wq.heap[bt55]? = some (.cells (C.extract 3 36 ++ inRest) 61)) (k5 : Wq.heap[b5]? = some (.cells (Cs i) 49)) (S : Kept (fun k => k = bt13 ∨ k = g) W81 Wq) (kg75 : Wq.heap[g75]? = some (.cells (htlP h (othN t h) t.d (U8 pl).toArray (hv i)) 66)) (RW2 : Rw Wq w.heap.size 46 2 g77 (i + 2 + 1) cap77 (flat gs (om (subN x t.fee) y hv) ol (i + 2) ++ [.int .i64 (hv i).am, .slice (some ⟨g75, 0, none⟩) 3 3])) (kt13 : Wq.heap[bt13]? = some (.cells #[(.slice (some ⟨bt55, 0, none⟩) 1 1), (.slice (some ⟨g77, 0, none⟩) (i + 2 + 1) cap77)] 34)), wpAnyH Try.prog .any ops Q SS 0 #[true, true, true, true, true, true, true, true, true] { tmps := #[(.agg C), (.int .i64 h), (.agg (U8 pl).toArray), (.agg #[.int .i64 x, .int .i64 y, .slice (some ⟨b, p, none⟩) n c]), (.pointer (some ⟨b1, 0, none⟩)), undef, (.pointer (some ⟨b2, 0, none⟩)), (.pointer (some ⟨b3, 0, none⟩)), (.pointer (some ⟨b4, 0, none⟩)), (.int .i64 0), (.pointer (some ⟨bt10, 0, none⟩)), (.int .i64 (subN x t.fee)), (.int .i64 y), (.pointer (some ⟨bt13, 0, none⟩)), undef, (.pointer (some ⟨b5, 0, none⟩)), (.agg C), (.agg #[.int .i64 x, .int .i64 y, .slice (some ⟨b, p, none⟩) n c]), (.bool true), (.bool false), (.bool false), (.agg C), (.int .i64 h), (.bool true), (.bool false), (.bool false), (.bool false), (.agg (U8 pl).toArray), (.agg Z32), (.bool false), (.bool false), undef, (.int .i64 h), (.agg C), (.int .i64 h), (.int .i64 (othN t h)), (.pointer (some ⟨b1, 38, none⟩)), (.int .i64 t.d), (.agg (U8 pl).toArray), (.agg (#[(.int .i64 h), (.int .i64 (othN t h)), (.int .i64 t.d)] ++ (U8 pl).toArray)), (.agg C), (.pointer (some ⟨b3, 0, none⟩)), (.int .i64 x), (.int .i64 (subN x t.fee)), (.pointer (some ⟨b3, 1, none⟩)), (.int .i64 y), (.int .i64 h), (.pointer (some ⟨b1, 2, none⟩)), (.int .i64 t.b), (.bool false), undef, undef, (.pointer (some ⟨b1, 3, none⟩)), (.agg (C.extract 3 36)), (.agg (C.extract 3 36 ++ inRest)), (.slice (some ⟨bt55, 0, none⟩) 1 1), (.agg (#[(.int .i64 h), (.int .i64 (othN t h)), (.int .i64 t.d)] ++ (U8 pl).toArray)), (.int .i64 (subN x t.fee)), (.agg #[(.int .i64 (subN x t.fee)), .slice (some ⟨g58, 0, none⟩) 2 2]), (.agg (#[(.int .i64 h), (.int .i64 (othN t h)), (.int .i64 t.d)] ++ (U8 pl).toArray)), (.int .i64 y), (.agg #[(.int .i64 y), .slice (some ⟨g61, 0, none⟩) 1 1]), (.slice (some ⟨bt62, 0, none⟩) 2 2), (.agg #[(.slice (some ⟨bt55, 0, none⟩) 1 1), (.slice (some ⟨bt62, 0, none⟩) 2 2)]), (.pointer (some ⟨b3, 2, none⟩)), (.slice (some ⟨b, p, none⟩) n c), (.int .i64 (n : Nat)), (.int .i64 (i : Nat)), (.bool true), (.pointer (some ⟨b, (p + i * 36), none⟩)), (.agg (Cs i)), (.pointer (some ⟨bt13, 1, none⟩)), (.slice (some ⟨g, 0, none⟩) (i + 2) cap), (.agg (#[(.int .i64 h), (.int .i64 (othN t h)), (.int .i64 t.d)] ++ (U8 pl).toArray)), (.agg (Cs i)), (.agg #[(.int .i64 (hv i).am), .slice (some ⟨g75, 0, none⟩) 3 3]), (.slice (some ⟨bt76, 0, none⟩) 1 1), (.slice (some ⟨g77, 0, none⟩) (i + 2 + 1) cap77), (.pointer (some ⟨bt13, 1, none⟩)), u79, undef], defers := [] } Wq by
        have ST1 : ∀ (g75 : Nat) (bt76 : Nat) (g77 : Nat) (cap77 : Nat) (Wq : World) (gd_bt76 : W81.heap.size ≤ bt76) (ge_bt76 : w.heap.size ≤ bt76) (E : Below w.heap.size w Wq) (OPS : ∀ j, j < i + 2 → Wq.heap[gs j]? = some (.cells ((opth h (othN t h) t.d (U8 pl).toArray hv) j) 66)) (kt13 : Wq.heap[bt13]? = some (.cells #[.slice (some ⟨bt55, 0, none⟩) 1 1, .slice (some ⟨g, 0, none⟩) (i + 2) cap] 34)) (kt10 : Wq.heap[bt10]? = some (.cells (#[(.int .i64 h), (.int .i64 (othN t h)), (.int .i64 t.d)] ++ (U8 pl).toArray) 59)) (k4 : Wq.heap[b4]? = some (.cells #[.slice none 0 0, .slice none 0 0] 34)) (kt55 : Wq.heap[bt55]? = some (.cells (C.extract 3 36 ++ inRest) 61)) (k5 : Wq.heap[b5]? = some (.cells (Cs i) 49)) (S : Kept (fun k => k = bt13 ∨ k = g) W81 Wq) (kg75 : Wq.heap[g75]? = some (.cells (htlP h (othN t h) t.d (U8 pl).toArray (hv i)) 66)) (RW2 : Rw Wq w.heap.size 46 2 g77 (i + 2 + 1) cap77 (flat gs (om (subN x t.fee) y hv) ol (i + 2) ++ [.int .i64 (hv i).am, .slice (some ⟨g75, 0, none⟩) 3 3])), wpAnyH Try.prog .any ops Q SS 1 #[true, true, true, true, true, true, true, true, false] { tmps := #[(.agg C), (.int .i64 h), (.agg (U8 pl).toArray), (.agg #[.int .i64 x, .int .i64 y, .slice (some ⟨b, p, none⟩) n c]), (.pointer (some ⟨b1, 0, none⟩)), undef, (.pointer (some ⟨b2, 0, none⟩)), (.pointer (some ⟨b3, 0, none⟩)), (.pointer (some ⟨b4, 0, none⟩)), (.int .i64 0), (.pointer (some ⟨bt10, 0, none⟩)), (.int .i64 (subN x t.fee)), (.int .i64 y), (.pointer (some ⟨bt13, 0, none⟩)), undef, (.pointer (some ⟨b5, 0, none⟩)), (.agg C), (.agg #[.int .i64 x, .int .i64 y, .slice (some ⟨b, p, none⟩) n c]), (.bool true), (.bool false), (.bool false), (.agg C), (.int .i64 h), (.bool true), (.bool false), (.bool false), (.bool false), (.agg (U8 pl).toArray), (.agg Z32), (.bool false), (.bool false), undef, (.int .i64 h), (.agg C), (.int .i64 h), (.int .i64 (othN t h)), (.pointer (some ⟨b1, 38, none⟩)), (.int .i64 t.d), (.agg (U8 pl).toArray), (.agg (#[(.int .i64 h), (.int .i64 (othN t h)), (.int .i64 t.d)] ++ (U8 pl).toArray)), (.agg C), (.pointer (some ⟨b3, 0, none⟩)), (.int .i64 x), (.int .i64 (subN x t.fee)), (.pointer (some ⟨b3, 1, none⟩)), (.int .i64 y), (.int .i64 h), (.pointer (some ⟨b1, 2, none⟩)), (.int .i64 t.b), (.bool false), undef, undef, (.pointer (some ⟨b1, 3, none⟩)), (.agg (C.extract 3 36)), (.agg (C.extract 3 36 ++ inRest)), (.slice (some ⟨bt55, 0, none⟩) 1 1), (.agg (#[(.int .i64 h), (.int .i64 (othN t h)), (.int .i64 t.d)] ++ (U8 pl).toArray)), (.int .i64 (subN x t.fee)), (.agg #[(.int .i64 (subN x t.fee)), .slice (some ⟨g58, 0, none⟩) 2 2]), (.agg (#[(.int .i64 h), (.int .i64 (othN t h)), (.int .i64 t.d)] ++ (U8 pl).toArray)), (.int .i64 y), (.agg #[(.int .i64 y), .slice (some ⟨g61, 0, none⟩) 1 1]), (.slice (some ⟨bt62, 0, none⟩) 2 2), (.agg #[(.slice (some ⟨bt55, 0, none⟩) 1 1), (.slice (some ⟨bt62, 0, none⟩) 2 2)]), (.pointer (some ⟨b3, 2, none⟩)), (.slice (some ⟨b, p, none⟩) n c), (.int .i64 (n : Nat)), (.int .i64 (i : Nat)), (.bool true), (.pointer (some ⟨b, (p + i * 36), none⟩)), (.agg (Cs i)), (.pointer (some ⟨bt13, 1, none⟩)), (.slice (some ⟨g, 0, none⟩) (i + 2) cap), (.agg (#[(.int .i64 h), (.int .i64 (othN t h)), (.int .i64 t.d)] ++ (U8 pl).toArray)), (.agg (Cs i)), (.agg #[(.int .i64 (hv i).am), .slice (some ⟨g75, 0, none⟩) 3 3]), (.slice (some ⟨bt76, 0, none⟩) 1 1), (.slice (some ⟨g77, 0, none⟩) (i + 2 + 1) cap77), (.pointer (some ⟨bt13, 1, none⟩)), u79, undef], defers := [] } Wq := by
          intro g75 bt76 g77 cap77 Wq gd_bt76 ge_bt76 E OPS kt13 kt10 k4 kt55 k5 S kg75 RW2
          refine ops_in hops hS ?_
          refine ah_or1 (i := 8) (by kernel_rfl) ?_
          · skip
            obtain ⟨kn, K⟩ := put_cell (i := 1) (.slice (some ⟨g77, 0, none⟩) (i + 2 + 1) cap77) kt13
            refine nx_sk rfl rfl rfl (ex_store rfl rfl rfl (sto32 (at_cell kt13 rfl) (unfrozen kt13))) (S.putL K) ?_
            obtain ⟨W88, hW2⟩ : ∃ W', Wq.setCell ⟨bt13, 1, none⟩ (.slice (some ⟨g77, 0, none⟩) (i + 2 + 1) cap77) = W' := ⟨_, rfl⟩
            rw [hW2] at kn K ⊢
            replace E := below_put E ge_bt13 K
            replace OPS := fun j hj => keepK K (OPS j hj) (fun e => ne_tag (OPS j hj) kt13 (by decide) e)
            replace kt10 := keepK K kt10 (fun e => ne_tag kt10 kt13 (by decide) e)
            replace k4 := keepK K k4 (fun e => by first | exact ne_b4_bt13 e | exact ne_bt13_b4 e.symm)
            replace kt55 := keepK K kt55 (fun e => ne_tag kt55 kt13 (by decide) e)
            replace k5 := keepK K k5 (fun e => ne_tag k5 kt13 (by decide) e)
            replace S := S.putL K
            replace kg75 := keepK K kg75 (fun e => ne_tag kg75 kt13 (by decide) e)
            replace RW2 := RW2.keepK K (fun e => RW2.ne kt13 (by decide) e)
            replace kt13 := kn
            clear kn K
            refine ah_L (L' := #[true, true, true, true, true, true, true, true, true]) (by kernel_rfl) ?_
            refine ops_out hops hS ?_
            exact FIN g75 bt76 g77 cap77 W88 gd_bt76 ge_bt76 E OPS kt10 k4 kt55 k5 S kg75 RW2 kt13
        have ST2 : ∀ (g75 : Nat) (bt76 : Nat) (Wq : World) (gd_bt76 : W81.heap.size ≤ bt76) (ge_bt76 : w.heap.size ≤ bt76) (E : Below w.heap.size w Wq) (RW : Rw Wq w.heap.size 46 2 g (i + 2) cap (flat gs (om (subN x t.fee) y hv) ol (i + 2))) (OPS : ∀ j, j < i + 2 → Wq.heap[gs j]? = some (.cells ((opth h (othN t h) t.d (U8 pl).toArray hv) j) 66)) (kt13 : Wq.heap[bt13]? = some (.cells #[.slice (some ⟨bt55, 0, none⟩) 1 1, .slice (some ⟨g, 0, none⟩) (i + 2) cap] 34)) (kt10 : Wq.heap[bt10]? = some (.cells (#[(.int .i64 h), (.int .i64 (othN t h)), (.int .i64 t.d)] ++ (U8 pl).toArray) 59)) (k4 : Wq.heap[b4]? = some (.cells #[.slice none 0 0, .slice none 0 0] 34)) (kt55 : Wq.heap[bt55]? = some (.cells (C.extract 3 36 ++ inRest) 61)) (k5 : Wq.heap[b5]? = some (.cells (Cs i) 49)) (S : Kept (fun k => k = bt13 ∨ k = g) W81 Wq) (kg75 : Wq.heap[g75]? = some (.cells (htlP h (othN t h) t.d (U8 pl).toArray (hv i)) 66)) (kt76 : Wq.heap[bt76]? = some (.cells #[(.int .i64 (hv i).am), .slice (some ⟨g75, 0, none⟩) 3 3] 46)), wpAnyH Try.prog .any ops Q SS 3 #[true, true, true, true, true, true, false, false, false] { tmps := #[(.agg C), (.int .i64 h), (.agg (U8 pl).toArray), (.agg #[.int .i64 x, .int .i64 y, .slice (some ⟨b, p, none⟩) n c]), (.pointer (some ⟨b1, 0, none⟩)), undef, (.pointer (some ⟨b2, 0, none⟩)), (.pointer (some ⟨b3, 0, none⟩)), (.pointer (some ⟨b4, 0, none⟩)), (.int .i64 0), (.pointer (some ⟨bt10, 0, none⟩)), (.int .i64 (subN x t.fee)), (.int .i64 y), (.pointer (some ⟨bt13, 0, none⟩)), undef, (.pointer (some ⟨b5, 0, none⟩)), (.agg C), (.agg #[.int .i64 x, .int .i64 y, .slice (some ⟨b, p, none⟩) n c]), (.bool true), (.bool false), (.bool false), (.agg C), (.int .i64 h), (.bool true), (.bool false), (.bool false), (.bool false), (.agg (U8 pl).toArray), (.agg Z32), (.bool false), (.bool false), undef, (.int .i64 h), (.agg C), (.int .i64 h), (.int .i64 (othN t h)), (.pointer (some ⟨b1, 38, none⟩)), (.int .i64 t.d), (.agg (U8 pl).toArray), (.agg (#[(.int .i64 h), (.int .i64 (othN t h)), (.int .i64 t.d)] ++ (U8 pl).toArray)), (.agg C), (.pointer (some ⟨b3, 0, none⟩)), (.int .i64 x), (.int .i64 (subN x t.fee)), (.pointer (some ⟨b3, 1, none⟩)), (.int .i64 y), (.int .i64 h), (.pointer (some ⟨b1, 2, none⟩)), (.int .i64 t.b), (.bool false), undef, undef, (.pointer (some ⟨b1, 3, none⟩)), (.agg (C.extract 3 36)), (.agg (C.extract 3 36 ++ inRest)), (.slice (some ⟨bt55, 0, none⟩) 1 1), (.agg (#[(.int .i64 h), (.int .i64 (othN t h)), (.int .i64 t.d)] ++ (U8 pl).toArray)), (.int .i64 (subN x t.fee)), (.agg #[(.int .i64 (subN x t.fee)), .slice (some ⟨g58, 0, none⟩) 2 2]), (.agg (#[(.int .i64 h), (.int .i64 (othN t h)), (.int .i64 t.d)] ++ (U8 pl).toArray)), (.int .i64 y), (.agg #[(.int .i64 y), .slice (some ⟨g61, 0, none⟩) 1 1]), (.slice (some ⟨bt62, 0, none⟩) 2 2), (.agg #[(.slice (some ⟨bt55, 0, none⟩) 1 1), (.slice (some ⟨bt62, 0, none⟩) 2 2)]), (.pointer (some ⟨b3, 2, none⟩)), (.slice (some ⟨b, p, none⟩) n c), (.int .i64 (n : Nat)), (.int .i64 (i : Nat)), (.bool true), (.pointer (some ⟨b, (p + i * 36), none⟩)), (.agg (Cs i)), (.pointer (some ⟨bt13, 1, none⟩)), (.slice (some ⟨g, 0, none⟩) (i + 2) cap), (.agg (#[(.int .i64 h), (.int .i64 (othN t h)), (.int .i64 t.d)] ++ (U8 pl).toArray)), (.agg (Cs i)), (.agg #[(.int .i64 (hv i).am), .slice (some ⟨g75, 0, none⟩) 3 3]), (.slice (some ⟨bt76, 0, none⟩) 1 1), u77, u78, u79, undef], defers := [] } Wq := by
          intro g75 bt76 Wq gd_bt76 ge_bt76 E RW OPS kt13 kt10 k4 kt55 k5 S kg75 kt76
          refine ops_in hops hS ?_
          refine ah_or1 (i := 6) (by kernel_rfl) ?_
          · skip
            obtain ⟨g77, cap77, W89, hrun, RW2, K⟩ := RW.add (t := 32) kt76 rfl (by kernel_rfl) Try.underlying32 info46 rfl (by decide) (by omega) (by unfold maxLen; omega) E.size
            refine nx_to (v := (.slice (some ⟨g77, 0, none⟩) (i + 2 + 1) cap77)) (some 77) rfl rfl rfl (ex_app rfl rfl rfl hrun) (S.putR K) ?_
            simp only [Act.put, List.setIfInBounds_toArray, List.set_cons_zero, List.set_cons_succ]
            replace E := below_put E RW.ge K
            replace S := S.putR K
            replace OPS := fun j hj => keepK K (OPS j hj) (fun e => RW.ne (OPS j hj) (by decide) e.symm)
            replace kt10 := keepK K kt10 (fun e => RW.ne kt10 (by decide) e.symm)
            replace k4 := keepK K k4 (fun e => RW.ne k4 (by decide) e.symm)
            replace kt55 := keepK K kt55 (fun e => RW.ne kt55 (by decide) e.symm)
            replace kt13 := keepK K kt13 (fun e => RW.ne kt13 (by decide) e.symm)
            replace k5 := keepK K k5 (fun e => RW.ne k5 (by decide) e.symm)
            replace kg75 := keepK K kg75 (fun e => RW.ne kg75 (by decide) e.symm)
            refine ah_take (v := (.pointer (some ⟨bt13, 1, none⟩))) (i := 7) (some 78) rfl rfl (by kernel_rfl) (by kernel_rfl) (by kernel_rfl) rfl (fun W hK => ex_fa (p := (.pointer (some ⟨bt13, 0, none⟩))) rfl rfl (fa34_1 _ _)) S (fun c a w h => hQP c a _ _ w h) ?_
            simp only [Act.put, List.setIfInBounds_toArray, List.set_cons_zero, List.set_cons_succ]
            refine ah_L (L' := #[true, true, true, true, true, true, true, true, false]) (by kernel_rfl) ?_
            refine ops_out hops hS ?_
            exact ST1 g75 bt76 g77 cap77 W89 gd_bt76 ge_bt76 E OPS kt13 kt10 k4 kt55 k5 S kg75 RW2
        have ST3 : ∀ (g75 : Nat) (Wq : World) (E : Below w.heap.size w Wq) (RW : Rw Wq w.heap.size 46 2 g (i + 2) cap (flat gs (om (subN x t.fee) y hv) ol (i + 2))) (OPS : ∀ j, j < i + 2 → Wq.heap[gs j]? = some (.cells ((opth h (othN t h) t.d (U8 pl).toArray hv) j) 66)) (kt13 : Wq.heap[bt13]? = some (.cells #[.slice (some ⟨bt55, 0, none⟩) 1 1, .slice (some ⟨g, 0, none⟩) (i + 2) cap] 34)) (kt10 : Wq.heap[bt10]? = some (.cells (#[(.int .i64 h), (.int .i64 (othN t h)), (.int .i64 t.d)] ++ (U8 pl).toArray) 59)) (k4 : Wq.heap[b4]? = some (.cells #[.slice none 0 0, .slice none 0 0] 34)) (kt55 : Wq.heap[bt55]? = some (.cells (C.extract 3 36 ++ inRest) 61)) (k5 : Wq.heap[b5]? = some (.cells (Cs i) 49)) (S : Kept (fun k => k = bt13 ∨ k = g) W81 Wq) (kg75 : Wq.heap[g75]? = some (.cells (htlP h (othN t h) t.d (U8 pl).toArray (hv i)) 66)), wpAnyH Try.prog .any ops Q SS 4 #[true, true, true, true, true, false, false, false, false] { tmps := #[(.agg C), (.int .i64 h), (.agg (U8 pl).toArray), (.agg #[.int .i64 x, .int .i64 y, .slice (some ⟨b, p, none⟩) n c]), (.pointer (some ⟨b1, 0, none⟩)), undef, (.pointer (some ⟨b2, 0, none⟩)), (.pointer (some ⟨b3, 0, none⟩)), (.pointer (some ⟨b4, 0, none⟩)), (.int .i64 0), (.pointer (some ⟨bt10, 0, none⟩)), (.int .i64 (subN x t.fee)), (.int .i64 y), (.pointer (some ⟨bt13, 0, none⟩)), undef, (.pointer (some ⟨b5, 0, none⟩)), (.agg C), (.agg #[.int .i64 x, .int .i64 y, .slice (some ⟨b, p, none⟩) n c]), (.bool true), (.bool false), (.bool false), (.agg C), (.int .i64 h), (.bool true), (.bool false), (.bool false), (.bool false), (.agg (U8 pl).toArray), (.agg Z32), (.bool false), (.bool false), undef, (.int .i64 h), (.agg C), (.int .i64 h), (.int .i64 (othN t h)), (.pointer (some ⟨b1, 38, none⟩)), (.int .i64 t.d), (.agg (U8 pl).toArray), (.agg (#[(.int .i64 h), (.int .i64 (othN t h)), (.int .i64 t.d)] ++ (U8 pl).toArray)), (.agg C), (.pointer (some ⟨b3, 0, none⟩)), (.int .i64 x), (.int .i64 (subN x t.fee)), (.pointer (some ⟨b3, 1, none⟩)), (.int .i64 y), (.int .i64 h), (.pointer (some ⟨b1, 2, none⟩)), (.int .i64 t.b), (.bool false), undef, undef, (.pointer (some ⟨b1, 3, none⟩)), (.agg (C.extract 3 36)), (.agg (C.extract 3 36 ++ inRest)), (.slice (some ⟨bt55, 0, none⟩) 1 1), (.agg (#[(.int .i64 h), (.int .i64 (othN t h)), (.int .i64 t.d)] ++ (U8 pl).toArray)), (.int .i64 (subN x t.fee)), (.agg #[(.int .i64 (subN x t.fee)), .slice (some ⟨g58, 0, none⟩) 2 2]), (.agg (#[(.int .i64 h), (.int .i64 (othN t h)), (.int .i64 t.d)] ++ (U8 pl).toArray)), (.int .i64 y), (.agg #[(.int .i64 y), .slice (some ⟨g61, 0, none⟩) 1 1]), (.slice (some ⟨bt62, 0, none⟩) 2 2), (.agg #[(.slice (some ⟨bt55, 0, none⟩) 1 1), (.slice (some ⟨bt62, 0, none⟩) 2 2)]), (.pointer (some ⟨b3, 2, none⟩)), (.slice (some ⟨b, p, none⟩) n c), (.int .i64 (n : Nat)), (.int .i64 (i : Nat)), (.bool true), (.pointer (some ⟨b, (p + i * 36), none⟩)), (.agg (Cs i)), (.pointer (some ⟨bt13, 1, none⟩)), (.slice (some ⟨g, 0, none⟩) (i + 2) cap), (.agg (#[(.int .i64 h), (.int .i64 (othN t h)), (.int .i64 t.d)] ++ (U8 pl).toArray)), (.agg (Cs i)), (.agg #[(.int .i64 (hv i).am), .slice (some ⟨g75, 0, none⟩) 3 3]), u76, u77, u78, u79, undef], defers := [] } Wq := by
          intro g75 Wq E RW OPS kt13 kt10 k4 kt55 k5 S kg75
          refine ops_in hops hS ?_
          refine ah_or1 (i := 5) (by kernel_rfl) ?_
          · skip
            refine nx_new (fun b => .slice (some ⟨b, 0, none⟩) 1 1) (some 76) rfl rfl rfl (ex_bsl1 (u := (.agg #[(.int .i64 (hv i).am), .slice (some ⟨g75, 0, none⟩) 3 3])) rfl rfl (bs32_1 _ rfl _)) ?_
            intro bt76 W90 kt76 gt76 B
            refine ⟨S.next B, ?_⟩
            simp only [Act.put, List.setIfInBounds_toArray, List.set_cons_zero, List.set_cons_succ]
            have gd_bt76 := Nat.le_trans S.size gt76
            have ge_bt76 := Nat.le_trans E.size gt76
            replace E := below_next E B
            replace RW := RW.keep B
            replace OPS := fun j hj => keep B (OPS j hj)
            replace kt13 := keep B kt13
            replace kt10 := keep B kt10
            replace k4 := keep B k4
            replace kt55 := keep B kt55
            replace k5 := keep B k5
            replace S := S.next B
            replace kg75 := keep B kg75
            clear B
            refine ah_L (L' := #[true, true, true, true, true, true, false, false, false]) (by kernel_rfl) ?_
            refine ops_out hops hS ?_
            exact ST2 g75 bt76 W90 gd_bt76 ge_bt76 E RW OPS kt13 kt10 k4 kt55 k5 S kg75 kt76
        have ST4 : ∀ (g75 : Nat) (bt76 : Nat) (Wq : World) (gd_bt76 : W81.heap.size ≤ bt76) (ge_bt76 : w.heap.size ≤ bt76) (E : Below w.heap.size w Wq) (RW : Rw Wq w.heap.size 46 2 g (i + 2) cap (flat gs (om (subN x t.fee) y hv) ol (i + 2))) (OPS : ∀ j, j < i + 2 → Wq.heap[gs j]? = some (.cells ((opth h (othN t h) t.d (U8 pl).toArray hv) j) 66)) (kt13 : Wq.heap[bt13]? = some (.cells #[.slice (some ⟨bt55, 0, none⟩) 1 1, .slice (some ⟨g, 0, none⟩) (i + 2) cap] 34)) (kt10 : Wq.heap[bt10]? = some (.cells (#[(.int .i64 h), (.int .i64 (othN t h)), (.int .i64 t.d)] ++ (U8 pl).toArray) 59)) (k4 : Wq.heap[b4]? = some (.cells #[.slice none 0 0, .slice none 0 0] 34)) (kt55 : Wq.heap[bt55]? = some (.cells (C.extract 3 36 ++ inRest) 61)) (k5 : Wq.heap[b5]? = some (.cells (Cs i) 49)) (S : Kept (fun k => k = bt13 ∨ k = g) W81 Wq) (kg75 : Wq.heap[g75]? = some (.cells (htlP h (othN t h) t.d (U8 pl).toArray (hv i)) 66)) (kt76 : Wq.heap[bt76]? = some (.cells #[(.int .i64 (hv i).am), .slice (some ⟨g75, 0, none⟩) 3 3] 46)), wpAnyH Try.prog .any ops Q SS 4 #[true, false, true, true, true, true, false, false, false] { tmps := #[(.agg C), (.int .i64 h), (.agg (U8 pl).toArray), (.agg #[.int .i64 x, .int .i64 y, .slice (some ⟨b, p, none⟩) n c]), (.pointer (some ⟨b1, 0, none⟩)), undef, (.pointer (some ⟨b2, 0, none⟩)), (.pointer (some ⟨b3, 0, none⟩)), (.pointer (some ⟨b4, 0, none⟩)), (.int .i64 0), (.pointer (some ⟨bt10, 0, none⟩)), (.int .i64 (subN x t.fee)), (.int .i64 y), (.pointer (some ⟨bt13, 0, none⟩)), undef, (.pointer (some ⟨b5, 0, none⟩)), (.agg C), (.agg #[.int .i64 x, .int .i64 y, .slice (some ⟨b, p, none⟩) n c]), (.bool true), (.bool false), (.bool false), (.agg C), (.int .i64 h), (.bool true), (.bool false), (.bool false), (.bool false), (.agg (U8 pl).toArray), (.agg Z32), (.bool false), (.bool false), undef, (.int .i64 h), (.agg C), (.int .i64 h), (.int .i64 (othN t h)), (.pointer (some ⟨b1, 38, none⟩)), (.int .i64 t.d), (.agg (U8 pl).toArray), (.agg (#[(.int .i64 h), (.int .i64 (othN t h)), (.int .i64 t.d)] ++ (U8 pl).toArray)), (.agg C), (.pointer (some ⟨b3, 0, none⟩)), (.int .i64 x), (.int .i64 (subN x t.fee)), (.pointer (some ⟨b3, 1, none⟩)), (.int .i64 y), (.int .i64 h), (.pointer (some ⟨b1, 2, none⟩)), (.int .i64 t.b), (.bool false), undef, undef, (.pointer (some ⟨b1, 3, none⟩)), (.agg (C.extract 3 36)), (.agg (C.extract 3 36 ++ inRest)), (.slice (some ⟨bt55, 0, none⟩) 1 1), (.agg (#[(.int .i64 h), (.int .i64 (othN t h)), (.int .i64 t.d)] ++ (U8 pl).toArray)), (.int .i64 (subN x t.fee)), (.agg #[(.int .i64 (subN x t.fee)), .slice (some ⟨g58, 0, none⟩) 2 2]), (.agg (#[(.int .i64 h), (.int .i64 (othN t h)), (.int .i64 t.d)] ++ (U8 pl).toArray)), (.int .i64 y), (.agg #[(.int .i64 y), .slice (some ⟨g61, 0, none⟩) 1 1]), (.slice (some ⟨bt62, 0, none⟩) 2 2), (.agg #[(.slice (some ⟨bt55, 0, none⟩) 1 1), (.slice (some ⟨bt62, 0, none⟩) 2 2)]), (.pointer (some ⟨b3, 2, none⟩)), (.slice (some ⟨b, p, none⟩) n c), (.int .i64 (n : Nat)), (.int .i64 (i : Nat)), (.bool true), (.pointer (some ⟨b, (p + i * 36), none⟩)), (.agg (Cs i)), (.pointer (some ⟨bt13, 1, none⟩)), u72, (.agg (#[(.int .i64 h), (.int .i64 (othN t h)), (.int .i64 t.d)] ++ (U8 pl).toArray)), (.agg (Cs i)), (.agg #[(.int .i64 (hv i).am), .slice (some ⟨g75, 0, none⟩) 3 3]), (.slice (some ⟨bt76, 0, none⟩) 1 1), u77, u78, u79, undef], defers := [] } Wq := by
          intro g75 bt76 Wq gd_bt76 ge_bt76 E RW OPS kt13 kt10 k4 kt55 k5 S kg75 kt76
          refine ops_in hops hS ?_
          refine ah_or1 (i := 1) (by kernel_rfl) ?_
          · skip
            refine nx_to (v := (.slice (some ⟨g, 0, none⟩) (i + 2) cap)) (some 72) rfl rfl rfl (ex_load (p := (.pointer (some ⟨bt13, 1, none⟩))) rfl rfl (ld32 (at_cell kt13 rfl))) S ?_
            simp only [Act.put, List.setIfInBounds_toArray, List.set_cons_zero, List.set_cons_succ]
            refine ah_L (L' := #[true, true, true, true, true, true, false, false, false]) (by kernel_rfl) ?_
            refine ops_out hops hS ?_
            exact ST2 g75 bt76 Wq gd_bt76 ge_bt76 E RW OPS kt13 kt10 k4 kt55 k5 S kg75 kt76
        have ST5 : ∀ (Wq : World) (E : Below w.heap.size w Wq) (RW : Rw Wq w.heap.size 46 2 g (i + 2) cap (flat gs (om (subN x t.fee) y hv) ol (i + 2))) (OPS : ∀ j, j < i + 2 → Wq.heap[gs j]? = some (.cells ((opth h (othN t h) t.d (U8 pl).toArray hv) j) 66)) (kt13 : Wq.heap[bt13]? = some (.cells #[.slice (some ⟨bt55, 0, none⟩) 1 1, .slice (some ⟨g, 0, none⟩) (i + 2) cap] 34)) (kt10 : Wq.heap[bt10]? = some (.cells (#[(.int .i64 h), (.int .i64 (othN t h)), (.int .i64 t.d)] ++ (U8 pl).toArray) 59)) (k4 : Wq.heap[b4]? = some (.cells #[.slice none 0 0, .slice none 0 0] 34)) (kt55 : Wq.heap[bt55]? = some (.cells (C.extract 3 36 ++ inRest) 61)) (k5 : Wq.heap[b5]? = some (.cells (Cs i) 49)) (S : Kept (fun k => k = bt13 ∨ k = g) W81 Wq), wpAnyH Try.prog .any ops Q SS 5 #[true, true, true, true, false, false, false, false, false] { tmps := #[(.agg C), (.int .i64 h), (.agg (U8 pl).toArray), (.agg #[.int .i64 x, .int .i64 y, .slice (some ⟨b, p, none⟩) n c]), (.pointer (some ⟨b1, 0, none⟩)), undef, (.pointer (some ⟨b2, 0, none⟩)), (.pointer (some ⟨b3, 0, none⟩)), (.pointer (some ⟨b4, 0, none⟩)), (.int .i64 0), (.pointer (some ⟨bt10, 0, none⟩)), (.int .i64 (subN x t.fee)), (.int .i64 y), (.pointer (some ⟨bt13, 0, none⟩)), undef, (.pointer (some ⟨b5, 0, none⟩)), (.agg C), (.agg #[.int .i64 x, .int .i64 y, .slice (some ⟨b, p, none⟩) n c]), (.bool true), (.bool false), (.bool false), (.agg C), (.int .i64 h), (.bool true), (.bool false), (.bool false), (.bool false), (.agg (U8 pl).toArray), (.agg Z32), (.bool false), (.bool false), undef, (.int .i64 h), (.agg C), (.int .i64 h), (.int .i64 (othN t h)), (.pointer (some ⟨b1, 38, none⟩)), (.int .i64 t.d), (.agg (U8 pl).toArray), (.agg (#[(.int .i64 h), (.int .i64 (othN t h)), (.int .i64 t.d)] ++ (U8 pl).toArray)), (.agg C), (.pointer (some ⟨b3, 0, none⟩)), (.int .i64 x), (.int .i64 (subN x t.fee)), (.pointer (some ⟨b3, 1, none⟩)), (.int .i64 y), (.int .i64 h), (.pointer (some ⟨b1, 2, none⟩)), (.int .i64 t.b), (.bool false), undef, undef, (.pointer (some ⟨b1, 3, none⟩)), (.agg (C.extract 3 36)), (.agg (C.extract 3 36 ++ inRest)), (.slice (some ⟨bt55, 0, none⟩) 1 1), (.agg (#[(.int .i64 h), (.int .i64 (othN t h)), (.int .i64 t.d)] ++ (U8 pl).toArray)), (.int .i64 (subN x t.fee)), (.agg #[(.int .i64 (subN x t.fee)), .slice (some ⟨g58, 0, none⟩) 2 2]), (.agg (#[(.int .i64 h), (.int .i64 (othN t h)), (.int .i64 t.d)] ++ (U8 pl).toArray)), (.int .i64 y), (.agg #[(.int .i64 y), .slice (some ⟨g61, 0, none⟩) 1 1]), (.slice (some ⟨bt62, 0, none⟩) 2 2), (.agg #[(.slice (some ⟨bt55, 0, none⟩) 1 1), (.slice (some ⟨bt62, 0, none⟩) 2 2)]), (.pointer (some ⟨b3, 2, none⟩)), (.slice (some ⟨b, p, none⟩) n c), (.int .i64 (n : Nat)), (.int .i64 (i : Nat)), (.bool true), (.pointer (some ⟨b, (p + i * 36), none⟩)), (.agg (Cs i)), (.pointer (some ⟨bt13, 1, none⟩)), (.slice (some ⟨g, 0, none⟩) (i + 2) cap), (.agg (#[(.int .i64 h), (.int .i64 (othN t h)), (.int .i64 t.d)] ++ (U8 pl).toArray)), (.agg (Cs i)), u75, u76, u77, u78, u79, undef], defers := [] } Wq := by
          intro Wq E RW OPS kt13 kt10 k4 kt55 k5 S
          refine ops_in hops hS ?_
          refine ah_or1 (i := 4) (by kernel_rfl) ?_
          · skip
            refine nx_call (some 75) rfl rfl rfl (htlc_any (IsS.of h (othN t h) t.d hpl) HC.1 Wq) (ex_call (f := 31) (vs := [(.agg (#[(.int .i64 h), (.int .i64 (othN t h)), (.int .i64 t.d)] ++ (U8 pl).toArray)), (.agg (Cs i))]) rfl (cf31 _) rfl) ?_
            rintro e W91 ⟨g75, rfl, kg75, gg, B⟩
            refine ⟨_, rfl, S.next B, ?_⟩
            simp only [Act.put, List.setIfInBounds_toArray, List.set_cons_zero, List.set_cons_succ]
            replace E := below_next E B
            replace RW := RW.keep B
            replace OPS := fun j hj => keep B (OPS j hj)
            replace kt13 := keep B kt13
            replace kt10 := keep B kt10
            replace k4 := keep B k4
            replace kt55 := keep B kt55
            replace k5 := keep B k5
            replace S := S.next B
            refine ah_L (L' := #[true, true, true, true, true, false, false, false, false]) (by kernel_rfl) ?_
            refine ops_out hops hS ?_
            exact ST3 g75 W91 E RW OPS kt13 kt10 k4 kt55 k5 S kg75
        have ST6 : ∀ (g75 : Nat) (Wq : World) (E : Below w.heap.size w Wq) (RW : Rw Wq w.heap.size 46 2 g (i + 2) cap (flat gs (om (subN x t.fee) y hv) ol (i + 2))) (OPS : ∀ j, j < i + 2 → Wq.heap[gs j]? = some (.cells ((opth h (othN t h) t.d (U8 pl).toArray hv) j) 66)) (kt13 : Wq.heap[bt13]? = some (.cells #[.slice (some ⟨bt55, 0, none⟩) 1 1, .slice (some ⟨g, 0, none⟩) (i + 2) cap] 34)) (kt10 : Wq.heap[bt10]? = some (.cells (#[(.int .i64 h), (.int .i64 (othN t h)), (.int .i64 t.d)] ++ (U8 pl).toArray) 59)) (k4 : Wq.heap[b4]? = some (.cells #[.slice none 0 0, .slice none 0 0] 34)) (kt55 : Wq.heap[bt55]? = some (.cells (C.extract 3 36 ++ inRest) 61)) (k5 : Wq.heap[b5]? = some (.cells (Cs i) 49)) (S : Kept (fun k => k = bt13 ∨ k = g) W81 Wq) (kg75 : Wq.heap[g75]? = some (.cells (htlP h (othN t h) t.d (U8 pl).toArray (hv i)) 66)), wpAnyH Try.prog .any ops Q SS 5 #[true, false, true, true, true, false, false, false, false] { tmps := #[(.agg C), (.int .i64 h), (.agg (U8 pl).toArray), (.agg #[.int .i64 x, .int .i64 y, .slice (some ⟨b, p, none⟩) n c]), (.pointer (some ⟨b1, 0, none⟩)), undef, (.pointer (some ⟨b2, 0, none⟩)), (.pointer (some ⟨b3, 0, none⟩)), (.pointer (some ⟨b4, 0, none⟩)), (.int .i64 0), (.pointer (some ⟨bt10, 0, none⟩)), (.int .i64 (subN x t.fee)), (.int .i64 y), (.pointer (some ⟨bt13, 0, none⟩)), undef, (.pointer (some ⟨b5, 0, none⟩)), (.agg C), (.agg #[.int .i64 x, .int .i64 y, .slice (some ⟨b, p, none⟩) n c]), (.bool true), (.bool false), (.bool false), (.agg C), (.int .i64 h), (.bool true), (.bool false), (.bool false), (.bool false), (.agg (U8 pl).toArray), (.agg Z32), (.bool false), (.bool false), undef, (.int .i64 h), (.agg C), (.int .i64 h), (.int .i64 (othN t h)), (.pointer (some ⟨b1, 38, none⟩)), (.int .i64 t.d), (.agg (U8 pl).toArray), (.agg (#[(.int .i64 h), (.int .i64 (othN t h)), (.int .i64 t.d)] ++ (U8 pl).toArray)), (.agg C), (.pointer (some ⟨b3, 0, none⟩)), (.int .i64 x), (.int .i64 (subN x t.fee)), (.pointer (some ⟨b3, 1, none⟩)), (.int .i64 y), (.int .i64 h), (.pointer (some ⟨b1, 2, none⟩)), (.int .i64 t.b), (.bool false), undef, undef, (.pointer (some ⟨b1, 3, none⟩)), (.agg (C.extract 3 36)), (.agg (C.extract 3 36 ++ inRest)), (.slice (some ⟨bt55, 0, none⟩) 1 1), (.agg (#[(.int .i64 h), (.int .i64 (othN t h)), (.int .i64 t.d)] ++ (U8 pl).toArray)), (.int .i64 (subN x t.fee)), (.agg #[(.int .i64 (subN x t.fee)), .slice (some ⟨g58, 0, none⟩) 2 2]), (.agg (#[(.int .i64 h), (.int .i64 (othN t h)), (.int .i64 t.d)] ++ (U8 pl).toArray)), (.int .i64 y), (.agg #[(.int .i64 y), .slice (some ⟨g61, 0, none⟩) 1 1]), (.slice (some ⟨bt62, 0, none⟩) 2 2), (.agg #[(.slice (some ⟨bt55, 0, none⟩) 1 1), (.slice (some ⟨bt62, 0, none⟩) 2 2)]), (.pointer (some ⟨b3, 2, none⟩)), (.slice (some ⟨b, p, none⟩) n c), (.int .i64 (n : Nat)), (.int .i64 (i : Nat)), (.bool true), (.pointer (some ⟨b, (p + i * 36), none⟩)), (.agg (Cs i)), (.pointer (some ⟨bt13, 1, none⟩)), u72, (.agg (#[(.int .i64 h), (.int .i64 (othN t h)), (.int .i64 t.d)] ++ (U8 pl).toArray)), (.agg (Cs i)), (.agg #[(.int .i64 (hv i).am), .slice (some ⟨g75, 0, none⟩) 3 3]), u76, u77, u78, u79, undef], defers := [] } Wq := by
          intro g75 Wq E RW OPS kt13 kt10 k4 kt55 k5 S kg75
          refine ops_in hops hS ?_
          refine ah_or2 (i := 1) (j := 5) (by kernel_rfl) ?_ ?_
          · skip
            refine nx_to (v := (.slice (some ⟨g, 0, none⟩) (i + 2) cap)) (some 72) rfl rfl rfl (ex_load (p := (.pointer (some ⟨bt13, 1, none⟩))) rfl rfl (ld32 (at_cell kt13 rfl))) S ?_
            simp only [Act.put, List.setIfInBounds_toArray, List.set_cons_zero, List.set_cons_succ]
            refine ah_L (L' := #[true, true, true, true, true, false, false, false, false]) (by kernel_rfl) ?_
            refine ops_out hops hS ?_
            exact ST3 g75 Wq E RW OPS kt13 kt10 k4 kt55 k5 S kg75
          · skip
            refine nx_new (fun b => .slice (some ⟨b, 0, none⟩) 1 1) (some 76) rfl rfl rfl (ex_bsl1 (u := (.agg #[(.int .i64 (hv i).am), .slice (some ⟨g75, 0, none⟩) 3 3])) rfl rfl (bs32_1 _ rfl _)) ?_
            intro bt76 W92 kt76 gt76 B
            refine ⟨S.next B, ?_⟩
            simp only [Act.put, List.setIfInBounds_toArray, List.set_cons_zero, List.set_cons_succ]
            have gd_bt76 := Nat.le_trans S.size gt76
            have ge_bt76 := Nat.le_trans E.size gt76
            replace E := below_next E B
            replace RW := RW.keep B
            replace OPS := fun j hj => keep B (OPS j hj)
            replace kt13 := keep B kt13
            replace kt10 := keep B kt10
            replace k4 := keep B k4
            replace kt55 := keep B kt55
            replace k5 := keep B k5
            replace S := S.next B
            replace kg75 := keep B kg75
            clear B
            refine ah_L (L' := #[true, false, true, true, true, true, false, false, false]) (by kernel_rfl) ?_
            refine ops_out hops hS ?_
            exact ST4 g75 bt76 W92 gd_bt76 ge_bt76 E RW OPS kt13 kt10 k4 kt55 k5 S kg75 kt76
        refine ops_in hops hS ?_
        refine ah_or2 (i := 1) (j := 4) (by kernel_rfl) ?_ ?_
        · skip
          refine nx_to (v := (.slice (some ⟨g, 0, none⟩) (i + 2) cap)) (some 72) rfl rfl rfl (ex_load (p := (.pointer (some ⟨bt13, 1, none⟩))) rfl rfl (ld32 (at_cell kt13 rfl))) S ?_
          simp only [Act.put, List.setIfInBounds_toArray, List.set_cons_zero, List.set_cons_succ]
          refine ah_L (L' := #[true, true, true, true, false, false, false, false, false]) (by kernel_rfl) ?_
          refine ops_out hops hS ?_
          exact ST5 W81 E RW OPS kt13 kt10 k4 kt55 k5 S
        · skip
          refine nx_call (some 75) rfl rfl rfl (htlc_any (IsS.of h (othN t h) t.d hpl) HC.1 W81) (ex_call (f := 31) (vs := [(.agg (#[(.int .i64 h), (.int .i64 (othN t h)), (.int .i64 t.d)] ++ (U8 pl).toArray)), (.agg (Cs i))]) rfl (cf31 _) rfl) ?_
          rintro e W93 ⟨g75, rfl, kg75, gg, B⟩
          refine ⟨_, rfl, S.next B, ?_⟩
          simp only [Act.put, List.setIfInBounds_toArray, List.set_cons_zero, List.set_cons_succ]
          replace E := below_next E B
          replace RW := RW.keep B
          replace OPS := fun j hj => keep B (OPS j hj)
          replace kt13 := keep B kt13
          replace kt10 := keep B kt10
          replace k4 := keep B k4
          replace kt55 := keep B kt55
          replace k5 := keep B k5
          replace S := S.next B
          refine ah_L (L' := #[true, false, true, true, true, false, false, false, false]) (by kernel_rfl) ?_
          refine ops_out hops hS ?_
          exact ST6 g75 W93 E RW OPS kt13 kt10 k4 kt55 k5 S kg75
      intro g75 bt76 g77 cap77 Wq gd_bt76 ge_bt76 E OPS kt10 k4 kt55 k5 S kg75 RW2 kt13
      refine ops_in hops hS ?_
      refine ah_done (by kernel_rfl) ?_
      clear hQP hops hS
      subst hQ
      clear S d_kt10 d_k4 d_kt55 d_kt13 d_k5 d_RW d_OPS
      refine wl_in ?_
      refine wl_cap fun Q hQ => ?_
      refine st_to (v := (.int .i64 ((i + 1 : Nat) : Int))) (some 79) rfl rfl (ex_bin rfl rfl rfl (eg3 _ _ _ _ _ _) (add3 _ (by omega) (by omega))) ?_
      simp only [Act.put, List.setIfInBounds_toArray, List.set_cons_zero, List.set_cons_succ]
      refine st_to (v := (.int .i64 ((i + 1 : Nat) : Int))) (some 67) rfl rfl (ex_mv rfl rfl) ?_
      simp only [Act.put, List.setIfInBounds_toArray, List.set_cons_zero, List.set_cons_succ]
      refine st_end ?_
      subst hQ
      refine then_go ?_
      go_roundw
      case rel =>
        refine ⟨i + 1, g77, cap77, (fun j => if j = i + 2 then g75 else gs j), by omega, rfl, E, ?_, ?_, kt13, kt10, k4, kt55⟩
        · have e1 : flat (fun j => if j = i + 2 then g75 else gs j) (om (subN x t.fee) y hv) ol (i + 1 + 2) = flat gs (om (subN x t.fee) y hv) ol (i + 2) ++ [.int .i64 (hv i).am, .slice (some ⟨g75, 0, none⟩) 3 3] := by
            rw [show i + 1 + 2 = i + 2 + 1 by omega, flat_succ, flat_congr (gs' := gs) _ _ _ (fun j hj => if_neg (by omega))]
            simp [om, ol]
          rw [e1]
          exact RW2
        · intro j hj
          by_cases e : j = i + 2
          · subst e
            show Wq.heap[if i + 2 = i + 2 then g75 else gs (i + 2)]? = _
            rw [if_pos rfl]
            have e2 : (opth h (othN t h) t.d (U8 pl).toArray hv) (i + 2) = (htlP h (othN t h) t.d (U8 pl).toArray (hv i)) := by simp [opth]
            rw [e2]
            exact kg75
          · show Wq.heap[if j = i + 2 then g75 else gs j]? = _
            rw [if_neg e]
            exact OPS j (by omega)
      case measure => simp [intOf]; omega
    · skip
      have hi' : i = n := by omega
      subst hi'
      refine wp_seq ?_
      refine wl_in ?_
      refine wl_cap fun Q hQ => ?_
      refine st_to (v := (.bool false)) (some 68) rfl rfl (ex_bin (u := (.int .i64 (i : Nat))) (r := (.int .i64 (i : Nat))) rfl rfl rfl (eg3 _ _ _ _ _ _) (lss3 _ (decide_eq_false (by omega)))) ?_
      simp only [Act.put, List.setIfInBounds_toArray, List.set_cons_zero, List.set_cons_succ]
      refine st_end ?_
      subst hQ
      refine wp_seq ?_
      refine wp_cond_false rfl ?_
      refine wp_exit ?_
      refine ex_then ?_
      refine ex_then ?_
      refine ex_blk ?_
      refine wp_seq ?_
      refine wl_in ?_
      refine wl_cap fun Q hQ => ?_
      refine st_to (v := (.agg #[.slice (some ⟨bt55, 0, none⟩) 1 1, .slice (some ⟨g, 0, none⟩) (i + 2) cap])) (some 80) rfl rfl (ex_load (p := (.pointer (some ⟨bt13, 0, none⟩))) rfl rfl (ld_all kt13 Try.underlying34 rfl inf34)) ?_
      simp only [Act.put, List.setIfInBounds_toArray, List.set_cons_zero, List.set_cons_succ]
      obtain ⟨W94, hst, kn, K⟩ := put_all (D := #[.slice (some ⟨bt55, 0, none⟩) 1 1, .slice (some ⟨g, 0, none⟩) (i + 2) cap]) k4 rfl inf34 (by kernel_rfl)
      refine st_sk rfl rfl (ex_store rfl rfl rfl hst) ?_
      replace E := below_put E ge_b4 K
      replace RW := RW.keepK K (fun e => RW.ne k4 (by decide) e)
      replace OPS := fun j hj => keepK K (OPS j hj) (fun e => ne_tag (OPS j hj) k4 (by decide) e)
      replace kt13 := keepK K kt13 (fun e => by first | exact ne_bt13_b4 e | exact ne_b4_bt13 e.symm)
      replace kt10 := keepK K kt10 (fun e => ne_tag kt10 k4 (by decide) e)
      replace kt55 := keepK K kt55 (fun e => ne_tag kt55 k4 (by decide) e)
      replace k4 := kn
      clear kn K hst
      refine st_to (v := (.int .i64 0)) (some 9) rfl rfl (ex_asg rfl rfl) ?_
      simp only [Act.put, List.setIfInBounds_toArray, List.set_cons_zero, List.set_cons_succ]
      refine st_end ?_
      subst hQ
      refine wp_ret ?_
      refine bodyPost_ret (ret_ct Try.results8 _ _ b4 _ _ _ _ rfl rfl k4 Try.underlying34 rfl inf34) rfl ⟨bt55, g, cap, rfl, kt55, ⟨gs, RW, OPS⟩, E⟩

end Go.Proofs.Ytkhpbjafdamhaaa
