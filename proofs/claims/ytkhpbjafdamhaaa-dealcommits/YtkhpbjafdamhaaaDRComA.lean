/- The document's commitment of a holder. -/
import Derived.Test.YtkhpbjafdamhaaaDRCom
namespace Go.Proofs.Ytkhpbjafdamhaaa
open Go.RowKit
set_option linter.unusedVariables false
set_option linter.unusedSimpArgs false
set_option maxRecDepth 100000

theorem b34_0 (p : Option Addr) (n c : Nat) (W : World) : (Instr.build 34 #[(0, .slice p n c)]).run Try.prog W = .ok (.agg #[.slice p n c, .slice none 0 0]) W := by
  exact run_build W 34 _ _ (by kernel_rfl)
/-- the first one -/
theorem Rw.first {W : World} {T sz : Nat} {t bytes b : Nat} {z : Value} {D : Array Value} (base : Nat) (k : W.heap[b]? = some (.cells D T)) (hD : D.size = sz) (h1 : D.all (·.oneCell') = true) (ht : Try.prog.underlying t = some (.slice T)) (hi : (Try.prog.info? T).map (fun i => (i.zero, i.size, i.bytes)) = some (some z, sz, bytes)) (hz : z.cells.size = sz) (hsz : 0 < sz) (hn : (0 + 1) * bytes ≤ 140737488355328) (hbase : base ≤ W.heap.size) :
    ∃ g' cap' W', (Builtin.append_ #[t, t] t #[.slice none 0 0, .slice (some ⟨b, 0, none⟩) 1 1]).run Try.prog W = .ok (.slice (some ⟨g', 0, none⟩) 1 cap') W' ∧ Rw W' base T sz g' 1 cap' D.toList ∧ Below W.heap.size W W' := by
  cases hq : Try.prog.info? T with
  | none => rw [hq] at hi; cases hi
  | some ie =>
    rw [hq] at hi
    simp only [Option.map_some, Option.some.injEq, Prod.mk.injEq] at hi
    obtain ⟨hz0, hz1, hz2⟩ := hi
    obtain ⟨v', w', hrun, hown, hg, hnil, hloc⟩ := run_append_own_at (P := Try.prog) W base t t T ie z sz bytes ht hq hz0 hz1 hz2 hz hsz (.slice none 0 0) 0 [] ⟨by simp, .inl ⟨rfl, rfl⟩⟩ ⟨b, 0, none⟩ 1 1 D.toList (by simpa using hD)
      (fun j u hu => by rw [Addr.add_mid, Nat.zero_add]; exact at_cell k (by simpa using hu)) (fun u hu => by
        obtain ⟨i, hi, rfl⟩ := List.getElem_of_mem hu
        have := Array.all_eq_true.1 h1 i (by simpa using hi)
        simpa using this) (by decide) hn hbase
    rcases hown.2 with ⟨_, e⟩ | ⟨g', cap', cur, rfl, hb, hh, r⟩
    · omega
    · exact ⟨g', cap', w', hrun, hown, ⟨hg.os, hg.tape, hg.output, hg.size, fun k hk => hg.block k hk (fun e => by cases e)⟩⟩

set_option maxHeartbeats 16000000 in
theorem rcommit_a {C : Array Value} {t : TV} {x y h : Int} {pl : List Int} {ao : Option Addr} {n c : Nat} {Cs : Nat → Array Value} {hv : Nat → HV} (w : World) (hT : IsT C t) (hb : TB t) (hpl : pl.length = 32) (hH : Hs w ao n Cs hv) (hn : n ≤ 140737488355328) (hx : x ≤ 9223372036854775807) (hy : y ≤ 9223372036854775807) (hz : ∀ i, i < n → (hv i).am ≤ 9223372036854775807) (c0 : mayT t = true) (c1 : fitsB t x y n hv = true) (c3 : ¬ pl = ZL) (ca : h = t.a) (cb : ¬ h = t.b) :
    Calls Try.prog 9 #[.agg C, .int .i64 h, .agg (U8 pl).toArray, .agg #[.int .i64 x, .int .i64 y, .slice ao n c]] w fun e w' => ∃ gi g cap, e = .returned (.tuple #[.agg #[.slice (some ⟨gi, 0, none⟩) 1 1, .slice (some ⟨g, 0, none⟩) (n + 2) cap], .int .i64 0]) ∧ w'.heap[gi]? = some (.cells (C.extract 3 36 ++ inRest) 61) ∧ Outs w' w.heap.size g (n + 2) cap (om (ownN t x y h) (othA t x y h) hv) ol (opth h (othN t h) t.d (U8 pl).toArray hv) ∧ Below w.heap.size w w'  := by
  obtain ⟨f1, f2, f3, f4⟩ := fits_parts c1
  have hx0 : 0 ≤ x := sums_nn f4 0 (by omega)
  have hy0 : 0 ≤ y := by have := sums_nn f4 1 (by omega); simpa [zf] using this
  have hfee : 0 ≤ t.fee := (of_decide_eq_true f1).2.1.1
  have hH0 := hH
  rw [show ownN t x y h = subN x t.fee from if_neg cb, show othA t x y h = y from if_neg cb]
  have E : Below w.heap.size w w := Below.refl _ _
  go_enter Try.func9, Try.ntmps9
  refine wp_seq ?_
  refine wl_in ?_
  refine wl_cap fun Q hQ => ?_
  refine st_new (fun b => .pointer (some ⟨b, 0, none⟩)) (some 4) rfl rfl (ex_box rfl rfl) ?_
  intro b1 W1 k1 g1 B
  simp only [Act.put, List.setIfInBounds_toArray, List.set_cons_zero, List.set_cons_succ]
  have ge_b1 := Nat.le_trans E.size g1
  replace E := below_next E B
  replace hH := hH.below B
  clear B
  refine st_new (fun b => .pointer (some ⟨b, 0, none⟩)) (some 6) rfl rfl (ex_box rfl rfl) ?_
  intro b2 W2 k2 g2 B
  simp only [Act.put, List.setIfInBounds_toArray, List.set_cons_zero, List.set_cons_succ]
  have ne_b2_b1 : b2 ≠ b1 := fun e => by have := lt_of k1; omega
  have ge_b2 := Nat.le_trans E.size g2
  replace E := below_next E B
  replace hH := hH.below B
  replace k1 := keep B k1
  clear B
  refine st_new (fun b => .pointer (some ⟨b, 0, none⟩)) (some 7) rfl rfl (ex_box rfl rfl) ?_
  intro b3 W3 k3 g3 B
  simp only [Act.put, List.setIfInBounds_toArray, List.set_cons_zero, List.set_cons_succ]
  have ne_b3_b1 : b3 ≠ b1 := fun e => by have := lt_of k1; omega
  have ne_b3_b2 : b3 ≠ b2 := fun e => by have := lt_of k2; omega
  have ge_b3 := Nat.le_trans E.size g3
  replace E := below_next E B
  replace hH := hH.below B
  replace k1 := keep B k1
  replace k2 := keep B k2
  clear B
  refine st_new (fun b => .pointer (some ⟨b, 0, none⟩)) (some 8) rfl rfl (ex_alloc rfl zero34) ?_
  intro b4 W4 k4 g4 B
  simp only [Act.put, List.setIfInBounds_toArray, List.set_cons_zero, List.set_cons_succ]
  have ne_b4_b1 : b4 ≠ b1 := fun e => by have := lt_of k1; omega
  have ne_b4_b2 : b4 ≠ b2 := fun e => by have := lt_of k2; omega
  have ne_b4_b3 : b4 ≠ b3 := fun e => by have := lt_of k3; omega
  have ge_b4 := Nat.le_trans E.size g4
  replace E := below_next E B
  replace hH := hH.below B
  replace k1 := keep B k1
  replace k2 := keep B k2
  replace k3 := keep B k3
  clear B
  refine st_to (v := (.int .i64 0)) (some 9) rfl rfl (ex_asg rfl rfl) ?_
  simp only [Act.put, List.setIfInBounds_toArray, List.set_cons_zero, List.set_cons_succ]
  refine st_end ?_
  subst hQ
  refine wp_seq ?_
  refine wp_seq ?_
  refine wl_in ?_
  refine wl_cap fun Q hQ => ?_
  refine st_to (v := (.agg C)) (some 18) rfl rfl (ex_load (p := (.pointer (some ⟨b1, 0, none⟩))) rfl rfl (ld_all k1 Try.underlying26 rfl (inf26.trans (congrArg some (hT.size).symm)))) ?_
  simp only [Act.put, List.setIfInBounds_toArray, List.set_cons_zero, List.set_cons_succ]
  refine st_call (some 19) rfl rfl (rmay_any W4 hT hb c0) (ex_call (f := 13) (vs := [(.agg C)]) rfl (cf13 _) rfl) ?_
  rintro e W5 ⟨rfl, B⟩
  refine ⟨_, rfl, ?_⟩
  simp only [Act.put, List.setIfInBounds_toArray, List.set_cons_zero, List.set_cons_succ]
  replace E := below_next E B
  replace hH := hH.below B
  replace k1 := keep B k1
  replace k2 := keep B k2
  replace k3 := keep B k3
  replace k4 := keep B k4
  refine st_to (v := (.bool false)) (some 20) rfl rfl (ex_not rfl rfl rfl) ?_
  simp only [Act.put, List.setIfInBounds_toArray, List.set_cons_zero, List.set_cons_succ]
  refine st_to (v := (.bool false)) (some 21) rfl rfl (ex_mv rfl rfl) ?_
  simp only [Act.put, List.setIfInBounds_toArray, List.set_cons_zero, List.set_cons_succ]
  refine st_to (v := (.int .i64 h)) (some 22) rfl rfl (ex_mv rfl rfl) ?_
  simp only [Act.put, List.setIfInBounds_toArray, List.set_cons_zero, List.set_cons_succ]
  refine st_to (v := (.pointer (some ⟨b1, 1, none⟩))) (some 23) rfl rfl (ex_fa (p := (.pointer (some ⟨b1, 0, none⟩))) rfl rfl (fa26_1 _ _)) ?_
  simp only [Act.put, List.setIfInBounds_toArray, List.set_cons_zero, List.set_cons_succ]
  refine st_to (v := (.int .i64 t.a)) (some 24) rfl rfl (ex_load (p := (.pointer (some ⟨b1, 1, none⟩))) rfl rfl (ld3 (at_cell k1 hT.c1))) ?_
  simp only [Act.put, List.setIfInBounds_toArray, List.set_cons_zero, List.set_cons_succ]
  refine st_to (v := (.bool false)) (some 25) rfl rfl (ex_bin (u := (.int .i64 h)) (r := (.int .i64 t.a)) rfl rfl rfl (eg3 _ _ _ _ _ _) (neq3 _ (decide_eq_false (fun q => q ca)))) ?_
  simp only [Act.put, List.setIfInBounds_toArray, List.set_cons_zero, List.set_cons_succ]
  refine st_to (v := (.bool false)) (some 26) rfl rfl (ex_mv rfl rfl) ?_
  simp only [Act.put, List.setIfInBounds_toArray, List.set_cons_zero, List.set_cons_succ]
  refine st_no (some 27) rfl rfl ?_
  simp only [Act.put, List.setIfInBounds_toArray, List.set_cons_zero, List.set_cons_succ]
  refine st_no (some 28) rfl rfl ?_
  simp only [Act.put, List.setIfInBounds_toArray, List.set_cons_zero, List.set_cons_succ]
  refine st_no (some 29) rfl rfl ?_
  simp only [Act.put, List.setIfInBounds_toArray, List.set_cons_zero, List.set_cons_succ]
  refine st_no (some 30) rfl rfl ?_
  simp only [Act.put, List.setIfInBounds_toArray, List.set_cons_zero, List.set_cons_succ]
  refine st_to (v := (.bool false)) (some 31) rfl rfl (ex_pkF rfl rfl rfl) ?_
  simp only [Act.put, List.setIfInBounds_toArray, List.set_cons_zero, List.set_cons_succ]
  refine st_to (v := (.bool false)) (some 32) rfl rfl (ex_pkF rfl rfl rfl) ?_
  simp only [Act.put, List.setIfInBounds_toArray, List.set_cons_zero, List.set_cons_succ]
  refine st_to (v := (.bool false)) (some 33) rfl rfl (ex_mv rfl rfl) ?_
  simp only [Act.put, List.setIfInBounds_toArray, List.set_cons_zero, List.set_cons_succ]
  refine st_to (v := (.agg C)) (some 34) rfl rfl (ex_load (p := (.pointer (some ⟨b1, 0, none⟩))) rfl rfl (ld_all k1 Try.underlying26 rfl (inf26.trans (congrArg some (hT.size).symm)))) ?_
  simp only [Act.put, List.setIfInBounds_toArray, List.set_cons_zero, List.set_cons_succ]
  refine st_to (v := (.agg #[.int .i64 x, .int .i64 y, .slice ao n c])) (some 35) rfl rfl (ex_load (p := (.pointer (some ⟨b3, 0, none⟩))) rfl rfl (ld_all k3 Try.underlying29 rfl inf29)) ?_
  simp only [Act.put, List.setIfInBounds_toArray, List.set_cons_zero, List.set_cons_succ]
  refine st_call (some 36) rfl rfl (rfits_any W5 hT hb hH hn hx hy hz c1) (ex_call (f := 15) (vs := [(.agg C), (.agg #[.int .i64 x, .int .i64 y, .slice ao n c])]) rfl (cf15 _) rfl) ?_
  rintro e W6 ⟨rfl, B⟩
  refine ⟨_, rfl, ?_⟩
  simp only [Act.put, List.setIfInBounds_toArray, List.set_cons_zero, List.set_cons_succ]
  replace E := below_next E B
  replace hH := hH.below B
  replace k1 := keep B k1
  replace k2 := keep B k2
  replace k3 := keep B k3
  replace k4 := keep B k4
  refine st_to (v := (.bool false)) (some 37) rfl rfl (ex_not rfl rfl rfl) ?_
  simp only [Act.put, List.setIfInBounds_toArray, List.set_cons_zero, List.set_cons_succ]
  refine st_to (v := (.bool false)) (some 38) rfl rfl (ex_pkF rfl rfl rfl) ?_
  simp only [Act.put, List.setIfInBounds_toArray, List.set_cons_zero, List.set_cons_succ]
  refine st_to (v := (.bool false)) (some 39) rfl rfl (ex_mv rfl rfl) ?_
  simp only [Act.put, List.setIfInBounds_toArray, List.set_cons_zero, List.set_cons_succ]
  refine st_to (v := (.agg (U8 pl).toArray)) (some 40) rfl rfl (ex_load (p := (.pointer (some ⟨b2, 0, none⟩))) rfl rfl (ld_all k2 Try.underlying22 rfl (inf22.trans (congrArg some ((U8_size _ hpl)).symm)))) ?_
  simp only [Act.put, List.setIfInBounds_toArray, List.set_cons_zero, List.set_cons_succ]
  refine st_to (v := (.agg Z32)) (some 41) rfl rfl (ex_build0  rfl (b22 _)) ?_
  simp only [Act.put, List.setIfInBounds_toArray, List.set_cons_zero, List.set_cons_succ]
  refine st_to (v := (.bool false)) (some 42) rfl rfl (ex_bin rfl rfl rfl (eg22 _ _ _ _ _) (eqZ _ hpl (decide_eq_false c3))) ?_
  simp only [Act.put, List.setIfInBounds_toArray, List.set_cons_zero, List.set_cons_succ]
  refine st_to (v := (.bool false)) (some 43) rfl rfl (ex_pkF rfl rfl rfl) ?_
  simp only [Act.put, List.setIfInBounds_toArray, List.set_cons_zero, List.set_cons_succ]
  refine st_end ?_
  subst hQ
  refine wp_cond_false rfl ?_
  refine wp_skip ?_
  refine wp_seq ?_
  refine wl_in ?_
  refine wl_cap fun Q hQ => ?_
  refine st_to (v := (.agg C)) (some 45) rfl rfl (ex_load (p := (.pointer (some ⟨b1, 0, none⟩))) rfl rfl (ld_all k1 Try.underlying26 rfl (inf26.trans (congrArg some (hT.size).symm)))) ?_
  simp only [Act.put, List.setIfInBounds_toArray, List.set_cons_zero, List.set_cons_succ]
  refine st_to (v := (.int .i64 h)) (some 46) rfl rfl (ex_mv rfl rfl) ?_
  simp only [Act.put, List.setIfInBounds_toArray, List.set_cons_zero, List.set_cons_succ]
  refine st_call (some 47) rfl rfl (rother_any h W6 hT) (ex_call (f := 17) (vs := [(.agg C), (.int .i64 h)]) rfl (cf17 _) rfl) ?_
  rintro e W7 ⟨rfl, B⟩
  refine ⟨_, rfl, ?_⟩
  simp only [Act.put, List.setIfInBounds_toArray, List.set_cons_zero, List.set_cons_succ]
  replace E := below_next E B
  replace hH := hH.below B
  replace k1 := keep B k1
  replace k2 := keep B k2
  replace k3 := keep B k3
  replace k4 := keep B k4
  refine st_to (v := (.int .i64 (othN t h))) (some 10) rfl rfl (ex_asg rfl rfl) ?_
  simp only [Act.put, List.setIfInBounds_toArray, List.set_cons_zero, List.set_cons_succ]
  refine st_end ?_
  subst hQ
  refine wp_seq ?_
  obtain ⟨W8, hwd⟩ : ∃ wd, W7.drew = wd := ⟨_, rfl⟩
  refine wp_region_held (S := fun W => Kept Nil W8 W) (by kernel_rfl) ?_
  show wpAnyH _ _ _ _ _ _ _ _ W7.drew
  rw [hwd]
  refine capQ fun Q hQ => ?_
  have hQP : ∀ c (a : Act) (d : Nat) v w, Q (.panic c) (a.put (some d) v) w → Q (.panic c) a w := by
    subst hQ
    exact fun _ _ _ _ _ h => h
  have BD : Below W7.heap.size W7 W8 := by rw [← hwd]; exact below_drew (Below.refl _ _)
  clear hwd
  replace E := below_next E BD
  replace hH := hH.below BD
  replace k1 := keep BD k1
  replace k2 := keep BD k2
  replace k3 := keep BD k3
  replace k4 := keep BD k4
  clear BD
  have S : Kept Nil W8 W8 := Kept.refl _ _
  have d_k1 := k1
  have d_k2 := k2
  have d_k3 := k3
  have d_k4 := k4
  have d_hH := hH
  refine ah_take (v := (.pointer (some ⟨b3, 0, none⟩))) (i := 0) (some 48) rfl rfl (by kernel_rfl) (by kernel_rfl) (by kernel_rfl) rfl (fun W hK => ex_fa (p := (.pointer (some ⟨b3, 0, none⟩))) rfl rfl (fa29_0 _ _)) S (fun c a w h => hQP c a _ _ w h) ?_
  simp only [Act.put, List.setIfInBounds_toArray, List.set_cons_zero, List.set_cons_succ]
  refine ah_take (v := (.int .i64 x)) (i := 1) (some 49) rfl rfl (by kernel_rfl) (by kernel_rfl) (by kernel_rfl) rfl (fun W hK => ex_load (p := (.pointer (some ⟨b3, 0, none⟩))) rfl rfl (ld3 (at_cell (keepK hK d_k3 (nilN _)) rfl))) S (fun c a w h => hQP c a _ _ w h) ?_
  simp only [Act.put, List.setIfInBounds_toArray, List.set_cons_zero, List.set_cons_succ]
  refine ah_take (v := (.pointer (some ⟨b1, 39, none⟩))) (i := 2) (some 50) rfl rfl (by kernel_rfl) (by kernel_rfl) (by kernel_rfl) rfl (fun W hK => ex_fa (p := (.pointer (some ⟨b1, 0, none⟩))) rfl rfl (fa26_7 _ _)) S (fun c a w h => hQP c a _ _ w h) ?_
  simp only [Act.put, List.setIfInBounds_toArray, List.set_cons_zero, List.set_cons_succ]
  refine ah_take (v := (.int .i64 t.fee)) (i := 3) (some 51) rfl rfl (by kernel_rfl) (by kernel_rfl) (by kernel_rfl) rfl (fun W hK => ex_load (p := (.pointer (some ⟨b1, 39, none⟩))) rfl rfl (ld3 (at_cell (keepK hK d_k1 (nilN _)) hT.c39))) S (fun c a w h => hQP c a _ _ w h) ?_
  simp only [Act.put, List.setIfInBounds_toArray, List.set_cons_zero, List.set_cons_succ]
  refine ah_take (v := (.pointer (some ⟨b3, 1, none⟩))) (i := 5) (some 53) rfl rfl (by kernel_rfl) (by kernel_rfl) (by kernel_rfl) rfl (fun W hK => ex_fa (p := (.pointer (some ⟨b3, 0, none⟩))) rfl rfl (fa29_1 _ _)) S (fun c a w h => hQP c a _ _ w h) ?_
  simp only [Act.put, List.setIfInBounds_toArray, List.set_cons_zero, List.set_cons_succ]
  refine ah_take (v := (.int .i64 y)) (i := 6) (some 54) rfl rfl (by kernel_rfl) (by kernel_rfl) (by kernel_rfl) rfl (fun W hK => ex_load (p := (.pointer (some ⟨b3, 1, none⟩))) rfl rfl (ld3 (at_cell (keepK hK d_k3 (nilN _)) rfl))) S (fun c a w h => hQP c a _ _ w h) ?_
  simp only [Act.put, List.setIfInBounds_toArray, List.set_cons_zero, List.set_cons_succ]
  refine ah_or1 (i := 4) (by kernel_rfl) ?_
  refine nx_call (some 52) rfl rfl rfl (rless_any x t.fee W8 ⟨hx0, hx⟩ ⟨hfee, hb.fee⟩) (ex_call (f := 32) (vs := [(.int .i64 x), (.int .i64 t.fee)]) rfl (cf32 _) rfl) ?_
  rintro e W9 ⟨rfl, B⟩
  refine ⟨_, rfl, S.next B, ?_⟩
  simp only [Act.put, List.setIfInBounds_toArray, List.set_cons_zero, List.set_cons_succ]
  replace E := below_next E B
  replace hH := hH.below B
  replace k1 := keep B k1
  replace k2 := keep B k2
  replace k3 := keep B k3
  replace k4 := keep B k4
  replace S := S.next B
  refine ah_take (v := (.int .i64 (subN x t.fee))) (i := 7) (some 11) rfl rfl (by kernel_rfl) (by kernel_rfl) (by kernel_rfl) rfl (fun W hK => ex_asg rfl rfl) S (fun c a w h => hQP c a _ _ w h) ?_
  simp only [Act.put, List.setIfInBounds_toArray, List.set_cons_zero, List.set_cons_succ]
  refine ah_take (v := (.int .i64 y)) (i := 8) (some 12) rfl rfl (by kernel_rfl) (by kernel_rfl) (by kernel_rfl) rfl (fun W hK => ex_asg rfl rfl) S (fun c a w h => hQP c a _ _ w h) ?_
  simp only [Act.put, List.setIfInBounds_toArray, List.set_cons_zero, List.set_cons_succ]
  refine ah_done (by kernel_rfl) ?_
  clear hQP
  subst hQ
  clear S d_k1 d_k2 d_k3 d_k4 d_hH
  refine wp_seq ?_
  refine wp_seq ?_
  refine wl_in ?_
  refine wl_cap fun Q hQ => ?_
  refine st_to (v := (.int .i64 h)) (some 55) rfl rfl (ex_mv rfl rfl) ?_
  simp only [Act.put, List.setIfInBounds_toArray, List.set_cons_zero, List.set_cons_succ]
  refine st_to (v := (.pointer (some ⟨b1, 2, none⟩))) (some 56) rfl rfl (ex_fa (p := (.pointer (some ⟨b1, 0, none⟩))) rfl rfl (fa26_2 _ _)) ?_
  simp only [Act.put, List.setIfInBounds_toArray, List.set_cons_zero, List.set_cons_succ]
  refine st_to (v := (.int .i64 t.b)) (some 57) rfl rfl (ex_load (p := (.pointer (some ⟨b1, 2, none⟩))) rfl rfl (ld3 (at_cell k1 hT.c2))) ?_
  simp only [Act.put, List.setIfInBounds_toArray, List.set_cons_zero, List.set_cons_succ]
  refine st_to (v := (.bool false)) (some 58) rfl rfl (ex_bin (u := (.int .i64 h)) (r := (.int .i64 t.b)) rfl rfl rfl (eg3 _ _ _ _ _ _) (eql3 _ (decide_eq_false cb))) ?_
  simp only [Act.put, List.setIfInBounds_toArray, List.set_cons_zero, List.set_cons_succ]
  refine st_end ?_
  subst hQ
  refine wp_cond_false rfl ?_
  refine wp_skip ?_
  refine wp_seq ?_
  refine wl_in ?_
  refine wl_cap fun Q hQ => ?_
  refine st_to (v := (.int .i64 (othN t h))) (some 66) rfl rfl (ex_mv rfl rfl) ?_
  simp only [Act.put, List.setIfInBounds_toArray, List.set_cons_zero, List.set_cons_succ]
  refine st_to (v := (.agg (U8 pl).toArray)) (some 67) rfl rfl (ex_load (p := (.pointer (some ⟨b2, 0, none⟩))) rfl rfl (ld_all k2 Try.underlying22 rfl (inf22.trans (congrArg some ((U8_size _ hpl)).symm)))) ?_
  simp only [Act.put, List.setIfInBounds_toArray, List.set_cons_zero, List.set_cons_succ]
  refine st_to (v := (.agg (pth (othN t h) 0 false 0 0 (U8 pl).toArray))) (some 68) rfl rfl (ex_build2 (v1 := (.int .i64 (othN t h))) (v2 := (.agg (U8 pl).toArray)) rfl rfl rfl (b66_05 _ _ (U8_size _ hpl) _)) ?_
  simp only [Act.put, List.setIfInBounds_toArray, List.set_cons_zero, List.set_cons_succ]
  refine st_new (fun b => .pointer (some ⟨b, 0, none⟩)) (some 13) rfl rfl (ex_alloc rfl zero66) ?_
  intro b5 W10 k5 g5 B
  simp only [Act.put, List.setIfInBounds_toArray, List.set_cons_zero, List.set_cons_succ]
  have ne_b5_b1 : b5 ≠ b1 := fun e => by have := lt_of k1; omega
  have ne_b5_b2 : b5 ≠ b2 := fun e => by have := lt_of k2; omega
  have ne_b5_b3 : b5 ≠ b3 := fun e => by have := lt_of k3; omega
  have ne_b5_b4 : b5 ≠ b4 := fun e => by have := lt_of k4; omega
  have ge_b5 := Nat.le_trans E.size g5
  replace E := below_next E B
  replace hH := hH.below B
  replace k1 := keep B k1
  replace k2 := keep B k2
  replace k3 := keep B k3
  replace k4 := keep B k4
  clear B
  obtain ⟨W11, hst, kn, K⟩ := put_all (D := (pth (othN t h) 0 false 0 0 (U8 pl).toArray)) k5 (((show ((pth 0 0 false 0 0 Z32) : Array Value).size = 37 from rfl)).trans ((pth_size (U8_size _ hpl))).symm) (inf66.trans (congrArg some ((pth_size (U8_size _ hpl))).symm)) (pth_one (U8_one _))
  refine st_sk rfl rfl (ex_store rfl rfl rfl hst) ?_
  replace E := below_put E ge_b5 K
  replace hH := hH0.below E
  replace k1 := keepK K k1 (fun e => ne_tag k1 k5 (by decide) e)
  replace k2 := keepK K k2 (fun e => ne_tag k2 k5 (by decide) e)
  replace k3 := keepK K k3 (fun e => ne_tag k3 k5 (by decide) e)
  replace k4 := keepK K k4 (fun e => ne_tag k4 k5 (by decide) e)
  replace k5 := kn
  clear kn K hst
  refine st_end ?_
  subst hQ
  refine wp_seq ?_
  refine wl_in ?_
  refine wl_cap fun Q hQ => ?_
  refine st_to (v := (.pointer (some ⟨b1, 3, none⟩))) (some 69) rfl rfl (ex_fa (p := (.pointer (some ⟨b1, 0, none⟩))) rfl rfl (fa26_3 _ _)) ?_
  simp only [Act.put, List.setIfInBounds_toArray, List.set_cons_zero, List.set_cons_succ]
  refine st_to (v := (.agg (C.extract 3 36))) (some 70) rfl rfl (ex_load (p := (.pointer (some ⟨b1, 3, none⟩))) rfl rfl (hT.ldr k1)) ?_
  simp only [Act.put, List.setIfInBounds_toArray, List.set_cons_zero, List.set_cons_succ]
  refine st_to (v := (.agg (C.extract 3 36 ++ inRest))) (some 71) rfl rfl (ex_build1 (v1 := (.agg (C.extract 3 36))) rfl rfl (b61_0 _ hT.rsz _)) ?_
  simp only [Act.put, List.setIfInBounds_toArray, List.set_cons_zero, List.set_cons_succ]
  refine st_new (fun b => .slice (some ⟨b, 0, none⟩) 1 1) (some 72) rfl rfl (ex_bsl1 (u := (.agg (C.extract 3 36 ++ inRest))) rfl rfl (bs31_1 _ hT.inSize _)) ?_
  intro b6 W12 k6 g6 B
  simp only [Act.put, List.setIfInBounds_toArray, List.set_cons_zero, List.set_cons_succ]
  have ne_b6_b1 : b6 ≠ b1 := fun e => by have := lt_of k1; omega
  have ne_b6_b2 : b6 ≠ b2 := fun e => by have := lt_of k2; omega
  have ne_b6_b3 : b6 ≠ b3 := fun e => by have := lt_of k3; omega
  have ne_b6_b4 : b6 ≠ b4 := fun e => by have := lt_of k4; omega
  have ne_b6_b5 : b6 ≠ b5 := fun e => by have := lt_of k5; omega
  have ge_b6 := Nat.le_trans E.size g6
  replace E := below_next E B
  replace hH := hH.below B
  replace k1 := keep B k1
  replace k2 := keep B k2
  replace k3 := keep B k3
  replace k4 := keep B k4
  replace k5 := keep B k5
  clear B
  refine st_to (v := (.agg #[(.slice (some ⟨b6, 0, none⟩) 1 1), .slice none 0 0])) (some 73) rfl rfl (ex_build1 (v1 := (.slice (some ⟨b6, 0, none⟩) 1 1)) rfl rfl (b34_0 _ _ _ _)) ?_
  simp only [Act.put, List.setIfInBounds_toArray, List.set_cons_zero, List.set_cons_succ]
  refine st_new (fun b => .pointer (some ⟨b, 0, none⟩)) (some 14) rfl rfl (ex_alloc rfl zero34) ?_
  intro b7 W13 k7 g7 B
  simp only [Act.put, List.setIfInBounds_toArray, List.set_cons_zero, List.set_cons_succ]
  have ne_b7_b1 : b7 ≠ b1 := fun e => by have := lt_of k1; omega
  have ne_b7_b2 : b7 ≠ b2 := fun e => by have := lt_of k2; omega
  have ne_b7_b3 : b7 ≠ b3 := fun e => by have := lt_of k3; omega
  have ne_b7_b4 : b7 ≠ b4 := fun e => by have := lt_of k4; omega
  have ne_b7_b5 : b7 ≠ b5 := fun e => by have := lt_of k5; omega
  have ne_b7_b6 : b7 ≠ b6 := fun e => by have := lt_of k6; omega
  have ge_b7 := Nat.le_trans E.size g7
  replace E := below_next E B
  replace hH := hH.below B
  replace k1 := keep B k1
  replace k2 := keep B k2
  replace k3 := keep B k3
  replace k4 := keep B k4
  replace k5 := keep B k5
  replace k6 := keep B k6
  clear B
  obtain ⟨W14, hst, kn, K⟩ := put_all (D := #[(.slice (some ⟨b6, 0, none⟩) 1 1), .slice none 0 0]) k7 rfl inf34 (by kernel_rfl)
  refine st_sk rfl rfl (ex_store rfl rfl rfl hst) ?_
  replace E := below_put E ge_b7 K
  replace hH := hH0.below E
  replace k1 := keepK K k1 (fun e => ne_tag k1 k7 (by decide) e)
  replace k2 := keepK K k2 (fun e => ne_tag k2 k7 (by decide) e)
  replace k3 := keepK K k3 (fun e => ne_tag k3 k7 (by decide) e)
  replace k4 := keepK K k4 (fun e => by first | exact ne_b4_b7 e | exact ne_b7_b4 e.symm)
  replace k5 := keepK K k5 (fun e => ne_tag k5 k7 (by decide) e)
  replace k6 := keepK K k6 (fun e => ne_tag k6 k7 (by decide) e)
  replace k7 := kn
  clear kn K hst
  refine st_end ?_
  subst hQ
  refine wp_seq ?_
  refine wl_in ?_
  refine wl_cap fun Q hQ => ?_
  refine st_to (v := (.pointer (some ⟨b7, 1, none⟩))) (some 74) rfl rfl (ex_fa (p := (.pointer (some ⟨b7, 0, none⟩))) rfl rfl (fa34_1 _ _)) ?_
  simp only [Act.put, List.setIfInBounds_toArray, List.set_cons_zero, List.set_cons_succ]
  refine st_to (v := (.slice none 0 0)) (some 75) rfl rfl (ex_load (p := (.pointer (some ⟨b7, 1, none⟩))) rfl rfl (ld32 (at_cell k7 rfl))) ?_
  simp only [Act.put, List.setIfInBounds_toArray, List.set_cons_zero, List.set_cons_succ]
  refine st_to (v := (.int .i64 (subN x t.fee))) (some 76) rfl rfl (ex_mv rfl rfl) ?_
  simp only [Act.put, List.setIfInBounds_toArray, List.set_cons_zero, List.set_cons_succ]
  refine st_to (v := (.int .i64 h)) (some 77) rfl rfl (ex_mv rfl rfl) ?_
  simp only [Act.put, List.setIfInBounds_toArray, List.set_cons_zero, List.set_cons_succ]
  refine st_to (v := (.pointer (some ⟨b1, 38, none⟩))) (some 78) rfl rfl (ex_fa (p := (.pointer (some ⟨b1, 0, none⟩))) rfl rfl (fa26_6 _ _)) ?_
  simp only [Act.put, List.setIfInBounds_toArray, List.set_cons_zero, List.set_cons_succ]
  refine st_to (v := (.int .i64 t.d)) (some 79) rfl rfl (ex_load (p := (.pointer (some ⟨b1, 38, none⟩))) rfl rfl (ld3 (at_cell k1 hT.c38))) ?_
  simp only [Act.put, List.setIfInBounds_toArray, List.set_cons_zero, List.set_cons_succ]
  refine st_to (v := (.agg (pth h 0 false 0 t.d Z32))) (some 80) rfl rfl (ex_build2 (v1 := (.int .i64 h)) (v2 := (.int .i64 t.d)) rfl rfl rfl (b66_04 _ _ _)) ?_
  simp only [Act.put, List.setIfInBounds_toArray, List.set_cons_zero, List.set_cons_succ]
  refine st_to (v := (.agg (pth (othN t h) 0 false 0 0 (U8 pl).toArray))) (some 81) rfl rfl (ex_load (p := (.pointer (some ⟨b5, 0, none⟩))) rfl rfl (ld_all k5 Try.underlying66 rfl (inf66.trans (congrArg some ((pth_size (U8_size _ hpl))).symm)))) ?_
  simp only [Act.put, List.setIfInBounds_toArray, List.set_cons_zero, List.set_cons_succ]
  refine st_new (fun b => .slice (some ⟨b, 0, none⟩) 2 2) (some 82) rfl rfl (ex_bsl2 (u := (.agg (pth h 0 false 0 t.d Z32))) (r := (.agg (pth (othN t h) 0 false 0 0 (U8 pl).toArray))) rfl rfl rfl (bs44_2 _ (pth_size Z32_size) _ (pth_size (U8_size _ hpl)) _)) ?_
  intro b8 W15 k8 g8 B
  simp only [Act.put, List.setIfInBounds_toArray, List.set_cons_zero, List.set_cons_succ]
  have ne_b8_b1 : b8 ≠ b1 := fun e => by have := lt_of k1; omega
  have ne_b8_b2 : b8 ≠ b2 := fun e => by have := lt_of k2; omega
  have ne_b8_b3 : b8 ≠ b3 := fun e => by have := lt_of k3; omega
  have ne_b8_b4 : b8 ≠ b4 := fun e => by have := lt_of k4; omega
  have ne_b8_b5 : b8 ≠ b5 := fun e => by have := lt_of k5; omega
  have ne_b8_b6 : b8 ≠ b6 := fun e => by have := lt_of k6; omega
  have ne_b8_b7 : b8 ≠ b7 := fun e => by have := lt_of k7; omega
  have ge_b8 := Nat.le_trans E.size g8
  replace E := below_next E B
  replace hH := hH.below B
  replace k1 := keep B k1
  replace k2 := keep B k2
  replace k3 := keep B k3
  replace k4 := keep B k4
  replace k5 := keep B k5
  replace k6 := keep B k6
  replace k7 := keep B k7
  clear B
  refine st_to (v := (.agg #[(.int .i64 (subN x t.fee)), (.slice (some ⟨b8, 0, none⟩) 2 2)])) (some 83) rfl rfl (ex_build2 (v1 := (.int .i64 (subN x t.fee))) (v2 := (.slice (some ⟨b8, 0, none⟩) 2 2)) rfl rfl rfl (b46_01 _ _ _ _ _)) ?_
  simp only [Act.put, List.setIfInBounds_toArray, List.set_cons_zero, List.set_cons_succ]
  refine st_new (fun b => .slice (some ⟨b, 0, none⟩) 1 1) (some 84) rfl rfl (ex_bsl1 (u := (.agg #[(.int .i64 (subN x t.fee)), (.slice (some ⟨b8, 0, none⟩) 2 2)])) rfl rfl (bs32_1 _ rfl _)) ?_
  intro b9 W16 k9 g9 B
  simp only [Act.put, List.setIfInBounds_toArray, List.set_cons_zero, List.set_cons_succ]
  have ne_b9_b1 : b9 ≠ b1 := fun e => by have := lt_of k1; omega
  have ne_b9_b2 : b9 ≠ b2 := fun e => by have := lt_of k2; omega
  have ne_b9_b3 : b9 ≠ b3 := fun e => by have := lt_of k3; omega
  have ne_b9_b4 : b9 ≠ b4 := fun e => by have := lt_of k4; omega
  have ne_b9_b5 : b9 ≠ b5 := fun e => by have := lt_of k5; omega
  have ne_b9_b6 : b9 ≠ b6 := fun e => by have := lt_of k6; omega
  have ne_b9_b7 : b9 ≠ b7 := fun e => by have := lt_of k7; omega
  have ne_b9_b8 : b9 ≠ b8 := fun e => by have := lt_of k8; omega
  have ge_b9 := Nat.le_trans E.size g9
  replace E := below_next E B
  replace hH := hH.below B
  replace k1 := keep B k1
  replace k2 := keep B k2
  replace k3 := keep B k3
  replace k4 := keep B k4
  replace k5 := keep B k5
  replace k6 := keep B k6
  replace k7 := keep B k7
  replace k8 := keep B k8
  clear B
  obtain ⟨g85, cap85, W17, hrun, RW0, B⟩ := Rw.first w.heap.size (t := 32) (sz := 2) k9 rfl (by kernel_rfl) Try.underlying32 info46 rfl (by decide) (by decide) E.size
  refine st_to (v := (.slice (some ⟨g85, 0, none⟩) 1 cap85)) (some 85) rfl rfl (ex_app rfl rfl rfl hrun) ?_
  simp only [Act.put, List.setIfInBounds_toArray, List.set_cons_zero, List.set_cons_succ]
  clear hrun
  clear k9
  replace E := below_next E B
  replace hH := hH.below B
  replace k1 := keep B k1
  replace k2 := keep B k2
  replace k3 := keep B k3
  replace k4 := keep B k4
  replace k5 := keep B k5
  replace k6 := keep B k6
  replace k7 := keep B k7
  replace k8 := keep B k8
  clear B
  refine st_to (v := (.pointer (some ⟨b7, 1, none⟩))) (some 86) rfl rfl (ex_fa (p := (.pointer (some ⟨b7, 0, none⟩))) rfl rfl (fa34_1 _ _)) ?_
  simp only [Act.put, List.setIfInBounds_toArray, List.set_cons_zero, List.set_cons_succ]
  obtain ⟨kn, K⟩ := put_cell (i := 1) (.slice (some ⟨g85, 0, none⟩) 1 cap85) k7
  refine st_sk rfl rfl (ex_store rfl rfl rfl (sto32 (at_cell k7 rfl) (unfrozen k7))) ?_
  obtain ⟨W18, hW2⟩ : ∃ W', W17.setCell ⟨b7, 1, none⟩ (.slice (some ⟨g85, 0, none⟩) 1 cap85) = W' := ⟨_, rfl⟩
  rw [hW2] at kn K ⊢
  replace E := below_put E ge_b7 K
  replace hH := hH0.below E
  replace k1 := keepK K k1 (fun e => ne_tag k1 k7 (by decide) e)
  replace k2 := keepK K k2 (fun e => ne_tag k2 k7 (by decide) e)
  replace k3 := keepK K k3 (fun e => ne_tag k3 k7 (by decide) e)
  replace k4 := keepK K k4 (fun e => by first | exact ne_b4_b7 e | exact ne_b7_b4 e.symm)
  replace k5 := keepK K k5 (fun e => ne_tag k5 k7 (by decide) e)
  replace k6 := keepK K k6 (fun e => ne_tag k6 k7 (by decide) e)
  replace k8 := keepK K k8 (fun e => ne_tag k8 k7 (by decide) e)
  replace RW0 := RW0.keepK K (fun e => RW0.ne k7 (by decide) e)
  replace k7 := kn
  clear kn K
  refine st_end ?_
  subst hQ
  refine wp_seq ?_
  refine wl_in ?_
  refine wl_cap fun Q hQ => ?_
  refine st_to (v := (.pointer (some ⟨b7, 1, none⟩))) (some 87) rfl rfl (ex_fa (p := (.pointer (some ⟨b7, 0, none⟩))) rfl rfl (fa34_1 _ _)) ?_
  simp only [Act.put, List.setIfInBounds_toArray, List.set_cons_zero, List.set_cons_succ]
  refine st_to (v := (.slice (some ⟨g85, 0, none⟩) 1 cap85)) (some 88) rfl rfl (ex_load (p := (.pointer (some ⟨b7, 1, none⟩))) rfl rfl (ld32 (at_cell k7 rfl))) ?_
  simp only [Act.put, List.setIfInBounds_toArray, List.set_cons_zero, List.set_cons_succ]
  refine st_to (v := (.int .i64 y)) (some 89) rfl rfl (ex_mv rfl rfl) ?_
  simp only [Act.put, List.setIfInBounds_toArray, List.set_cons_zero, List.set_cons_succ]
  refine st_to (v := (.int .i64 (othN t h))) (some 90) rfl rfl (ex_mv rfl rfl) ?_
  simp only [Act.put, List.setIfInBounds_toArray, List.set_cons_zero, List.set_cons_succ]
  refine st_to (v := (.agg (pth (othN t h) 0 false 0 0 Z32))) (some 91) rfl rfl (ex_build1 (v1 := (.int .i64 (othN t h))) rfl rfl (b66_0 _ _)) ?_
  simp only [Act.put, List.setIfInBounds_toArray, List.set_cons_zero, List.set_cons_succ]
  refine st_new (fun b => .slice (some ⟨b, 0, none⟩) 1 1) (some 92) rfl rfl (ex_bsl1 (u := (.agg (pth (othN t h) 0 false 0 0 Z32))) rfl rfl (bs44_1 _ (pth_size Z32_size) _)) ?_
  intro b10 W19 k10 g10 B
  simp only [Act.put, List.setIfInBounds_toArray, List.set_cons_zero, List.set_cons_succ]
  have ne_b10_b1 : b10 ≠ b1 := fun e => by have := lt_of k1; omega
  have ne_b10_b2 : b10 ≠ b2 := fun e => by have := lt_of k2; omega
  have ne_b10_b3 : b10 ≠ b3 := fun e => by have := lt_of k3; omega
  have ne_b10_b4 : b10 ≠ b4 := fun e => by have := lt_of k4; omega
  have ne_b10_b5 : b10 ≠ b5 := fun e => by have := lt_of k5; omega
  have ne_b10_b6 : b10 ≠ b6 := fun e => by have := lt_of k6; omega
  have ne_b10_b7 : b10 ≠ b7 := fun e => by have := lt_of k7; omega
  have ne_b10_b8 : b10 ≠ b8 := fun e => by have := lt_of k8; omega
  have ge_b10 := Nat.le_trans E.size g10
  replace E := below_next E B
  replace hH := hH.below B
  replace k1 := keep B k1
  replace k2 := keep B k2
  replace k3 := keep B k3
  replace k4 := keep B k4
  replace k5 := keep B k5
  replace k6 := keep B k6
  replace k8 := keep B k8
  replace RW0 := RW0.keep B
  replace k7 := keep B k7
  clear B
  refine st_to (v := (.agg #[(.int .i64 y), (.slice (some ⟨b10, 0, none⟩) 1 1)])) (some 93) rfl rfl (ex_build2 (v1 := (.int .i64 y)) (v2 := (.slice (some ⟨b10, 0, none⟩) 1 1)) rfl rfl rfl (b46_01 _ _ _ _ _)) ?_
  simp only [Act.put, List.setIfInBounds_toArray, List.set_cons_zero, List.set_cons_succ]
  refine st_new (fun b => .slice (some ⟨b, 0, none⟩) 1 1) (some 94) rfl rfl (ex_bsl1 (u := (.agg #[(.int .i64 y), (.slice (some ⟨b10, 0, none⟩) 1 1)])) rfl rfl (bs32_1 _ rfl _)) ?_
  intro b11 W20 k11 g11 B
  simp only [Act.put, List.setIfInBounds_toArray, List.set_cons_zero, List.set_cons_succ]
  have ne_b11_b1 : b11 ≠ b1 := fun e => by have := lt_of k1; omega
  have ne_b11_b2 : b11 ≠ b2 := fun e => by have := lt_of k2; omega
  have ne_b11_b3 : b11 ≠ b3 := fun e => by have := lt_of k3; omega
  have ne_b11_b4 : b11 ≠ b4 := fun e => by have := lt_of k4; omega
  have ne_b11_b5 : b11 ≠ b5 := fun e => by have := lt_of k5; omega
  have ne_b11_b6 : b11 ≠ b6 := fun e => by have := lt_of k6; omega
  have ne_b11_b7 : b11 ≠ b7 := fun e => by have := lt_of k7; omega
  have ne_b11_b8 : b11 ≠ b8 := fun e => by have := lt_of k8; omega
  have ne_b11_b10 : b11 ≠ b10 := fun e => by have := lt_of k10; omega
  have ge_b11 := Nat.le_trans E.size g11
  replace E := below_next E B
  replace hH := hH.below B
  replace k1 := keep B k1
  replace k2 := keep B k2
  replace k3 := keep B k3
  replace k4 := keep B k4
  replace k5 := keep B k5
  replace k6 := keep B k6
  replace k8 := keep B k8
  replace RW0 := RW0.keep B
  replace k7 := keep B k7
  replace k10 := keep B k10
  clear B
  obtain ⟨g95, cap95, W21, hrun, RW1, K⟩ := RW0.add (t := 32) k11 rfl (by kernel_rfl) Try.underlying32 info46 rfl (by decide) (by omega) (by unfold maxLen; omega) E.size
  refine st_to (v := (.slice (some ⟨g95, 0, none⟩) (1 + 1) cap95)) (some 95) rfl rfl (ex_app rfl rfl rfl hrun) ?_
  simp only [Act.put, List.setIfInBounds_toArray, List.set_cons_zero, List.set_cons_succ]
  clear hrun
  clear k11
  replace E := below_put E RW0.ge K
  replace hH := hH0.below E
  replace k1 := keepK K k1 (fun e => RW0.ne k1 (by decide) e.symm)
  replace k2 := keepK K k2 (fun e => RW0.ne k2 (by decide) e.symm)
  replace k3 := keepK K k3 (fun e => RW0.ne k3 (by decide) e.symm)
  replace k4 := keepK K k4 (fun e => RW0.ne k4 (by decide) e.symm)
  replace k5 := keepK K k5 (fun e => RW0.ne k5 (by decide) e.symm)
  replace k6 := keepK K k6 (fun e => RW0.ne k6 (by decide) e.symm)
  replace k8 := keepK K k8 (fun e => RW0.ne k8 (by decide) e.symm)
  replace k7 := keepK K k7 (fun e => RW0.ne k7 (by decide) e.symm)
  replace k10 := keepK K k10 (fun e => RW0.ne k10 (by decide) e.symm)
  clear RW0 K
  refine st_to (v := (.pointer (some ⟨b7, 1, none⟩))) (some 96) rfl rfl (ex_fa (p := (.pointer (some ⟨b7, 0, none⟩))) rfl rfl (fa34_1 _ _)) ?_
  simp only [Act.put, List.setIfInBounds_toArray, List.set_cons_zero, List.set_cons_succ]
  obtain ⟨kn, K⟩ := put_cell (i := 1) (.slice (some ⟨g95, 0, none⟩) (1 + 1) cap95) k7
  refine st_sk rfl rfl (ex_store rfl rfl rfl (sto32 (at_cell k7 rfl) (unfrozen k7))) ?_
  obtain ⟨W22, hW2⟩ : ∃ W', W21.setCell ⟨b7, 1, none⟩ (.slice (some ⟨g95, 0, none⟩) (1 + 1) cap95) = W' := ⟨_, rfl⟩
  rw [hW2] at kn K ⊢
  replace E := below_put E ge_b7 K
  replace hH := hH0.below E
  replace k1 := keepK K k1 (fun e => ne_tag k1 k7 (by decide) e)
  replace k2 := keepK K k2 (fun e => ne_tag k2 k7 (by decide) e)
  replace k3 := keepK K k3 (fun e => ne_tag k3 k7 (by decide) e)
  replace k4 := keepK K k4 (fun e => by first | exact ne_b4_b7 e | exact ne_b7_b4 e.symm)
  replace k5 := keepK K k5 (fun e => ne_tag k5 k7 (by decide) e)
  replace k6 := keepK K k6 (fun e => ne_tag k6 k7 (by decide) e)
  replace k8 := keepK K k8 (fun e => ne_tag k8 k7 (by decide) e)
  replace k10 := keepK K k10 (fun e => ne_tag k10 k7 (by decide) e)
  replace RW1 := RW1.keepK K (fun e => RW1.ne k7 (by decide) e)
  replace k7 := kn
  clear kn K
  refine st_end ?_
  subst hQ
  refine wp_seq ?_
  refine wp_seq ?_
  refine wl_in ?_
  refine wl_cap fun Q hQ => ?_
  refine st_to (v := (.int .i64 0)) (some 15) rfl rfl (ex_asg rfl rfl) ?_
  simp only [Act.put, List.setIfInBounds_toArray, List.set_cons_zero, List.set_cons_succ]
  refine st_end ?_
  subst hQ
  refine wp_block ?_
  have RW : Rw W22 w.heap.size 46 2 g95 (0 + 2) cap95 (flat (fun j => if j = 0 then b8 else b10) (om (subN x t.fee) y hv) ol (0 + 2)) := RW1
  have OPS : ∀ j, j < 0 + 2 → W22.heap[(fun j => if j = 0 then b8 else b10) j]? = some (.cells ((opth h (othN t h) t.d (U8 pl).toArray hv) j) 66) := fun j hj => by
    match j, hj with
    | 0, _ => exact k8
    | 1, _ => exact k10
  go_loopw [15] (fun v15 wr => ∃ (i g cap : Nat) (gs : Nat → Nat), i ≤ n ∧ v15 = .int .i64 i ∧ Below w.heap.size w wr ∧ Rw wr w.heap.size 46 2 g (i + 2) cap (flat gs (om (subN x t.fee) y hv) ol (i + 2)) ∧ (∀ j, j < i + 2 → wr.heap[gs j]? = some (.cells ((opth h (othN t h) t.d (U8 pl).toArray hv) j) 66)) ∧ wr.heap[b7]? = some (.cells #[.slice (some ⟨b6, 0, none⟩) 1 1, .slice (some ⟨g, 0, none⟩) (i + 2) cap] 34) ∧ wr.heap[b1]? = some (.cells C 26) ∧ wr.heap[b3]? = some (.cells #[.int .i64 x, .int .i64 y, .slice ao n c] 29) ∧ wr.heap[b5]? = some (.cells (pth (othN t h) 0 false 0 0 (U8 pl).toArray) 66) ∧ wr.heap[b4]? = some (.cells #[.slice none 0 0, .slice none 0 0] 34) ∧ wr.heap[b6]? = some (.cells (C.extract 3 36 ++ inRest) 61)) (fun v15 _ => n - (intOf v15).toNat)
  case atStart => exact ⟨0, g95, cap95, _, Nat.zero_le _, rfl, E, RW, OPS, k7, k1, k3, k5, k4, k6⟩
  case round =>
    clear E RW RW1 OPS hH k1 k2 k3 k4 k5 k6 k7 k8 k10
    obtain ⟨i, g, cap, gs, hi, rfl, E, RW, OPS, k7, k1, k3, k5, k4, k6⟩ := hrel
    by_cases hlt : i < n
    · rcases hH0 with hh | ⟨b, p, rfl, hh⟩
      · omega
      have HC := hh i hlt
      by_cases hq : (hv i).by_ = h
      · skip
        refine wp_seq ?_
        refine wp_seq ?_
        refine wl_in ?_
        refine wl_cap fun Q hQ => ?_
        refine st_to (v := (.int .i64 (i : Nat))) (some 97) rfl rfl (ex_mv rfl rfl) ?_
        simp only [Act.put, List.setIfInBounds_toArray, List.set_cons_zero, List.set_cons_succ]
        refine st_to (v := (.pointer (some ⟨b3, 2, none⟩))) (some 98) rfl rfl (ex_fa (p := (.pointer (some ⟨b3, 0, none⟩))) rfl rfl (fa29_2 _ _)) ?_
        simp only [Act.put, List.setIfInBounds_toArray, List.set_cons_zero, List.set_cons_succ]
        refine st_to (v := (.slice (some ⟨b, p, none⟩) n c)) (some 99) rfl rfl (ex_load (p := (.pointer (some ⟨b3, 2, none⟩))) rfl rfl (ld27 (at_cell k3 rfl))) ?_
        simp only [Act.put, List.setIfInBounds_toArray, List.set_cons_zero, List.set_cons_succ]
        refine st_to (v := (.int .i64 (n : Nat))) (some 100) rfl rfl (ex_len rfl rfl (len27 _ _ _ _ _)) ?_
        simp only [Act.put, List.setIfInBounds_toArray, List.set_cons_zero, List.set_cons_succ]
        refine st_to (v := (.bool true)) (some 101) rfl rfl (ex_bin (u := (.int .i64 (i : Nat))) (r := (.int .i64 (n : Nat))) rfl rfl rfl (eg3 _ _ _ _ _ _) (lss3 _ (decide_eq_true (by omega)))) ?_
        simp only [Act.put, List.setIfInBounds_toArray, List.set_cons_zero, List.set_cons_succ]
        refine st_end ?_
        subst hQ
        refine wp_cond_true rfl ?_
        refine wp_skip ?_
        refine wp_seq ?_
        refine wp_block ?_
        refine wp_seq ?_
        refine wl_in ?_
        refine wl_cap fun Q hQ => ?_
        refine st_to (v := (.pointer (some ⟨b3, 2, none⟩))) (some 104) rfl rfl (ex_fa (p := (.pointer (some ⟨b3, 0, none⟩))) rfl rfl (fa29_2 _ _)) ?_
        simp only [Act.put, List.setIfInBounds_toArray, List.set_cons_zero, List.set_cons_succ]
        refine st_to (v := (.slice (some ⟨b, p, none⟩) n c)) (some 105) rfl rfl (ex_load (p := (.pointer (some ⟨b3, 2, none⟩))) rfl rfl (ld27 (at_cell k3 rfl))) ?_
        simp only [Act.put, List.setIfInBounds_toArray, List.set_cons_zero, List.set_cons_succ]
        refine st_to (v := (.int .i64 (i : Nat))) (some 106) rfl rfl (ex_mv rfl rfl) ?_
        simp only [Act.put, List.setIfInBounds_toArray, List.set_cons_zero, List.set_cons_succ]
        refine st_to (v := (.pointer (some ⟨b, (p + i * 36), none⟩))) (some 107) rfl rfl (ex_ix27 rfl rfl rfl hlt) ?_
        simp only [Act.put, List.setIfInBounds_toArray, List.set_cons_zero, List.set_cons_succ]
        refine st_to (v := (.agg (Cs i))) (some 108) rfl rfl (ex_load rfl rfl (ld_range (range_below HC.2 E) Try.underlying49 rfl (inf49.trans (congrArg some HC.1.size.symm)))) ?_
        simp only [Act.put, List.setIfInBounds_toArray, List.set_cons_zero, List.set_cons_succ]
        refine st_new (fun b => .pointer (some ⟨b, 0, none⟩)) (some 16) rfl rfl (ex_alloc rfl zero49) ?_
        intro b12 W23 k12 g12 B
        simp only [Act.put, List.setIfInBounds_toArray, List.set_cons_zero, List.set_cons_succ]
        have ne_b12_b7 : b12 ≠ b7 := fun e => by have := lt_of k7; omega
        have ne_b12_b1 : b12 ≠ b1 := fun e => by have := lt_of k1; omega
        have ne_b12_b3 : b12 ≠ b3 := fun e => by have := lt_of k3; omega
        have ne_b12_b5 : b12 ≠ b5 := fun e => by have := lt_of k5; omega
        have ne_b12_b4 : b12 ≠ b4 := fun e => by have := lt_of k4; omega
        have ne_b12_b6 : b12 ≠ b6 := fun e => by have := lt_of k6; omega
        have ge_b12 := Nat.le_trans E.size g12
        replace E := below_next E B
        replace RW := RW.keep B
        replace OPS := fun j hj => keep B (OPS j hj)
        replace k7 := keep B k7
        replace k1 := keep B k1
        replace k3 := keep B k3
        replace k5 := keep B k5
        replace k4 := keep B k4
        replace k6 := keep B k6
        clear B
        obtain ⟨W24, hst, kn, K⟩ := put_all (D := (Cs i)) k12 (((show ((#[.int .i64 0, .int .i64 0, .int .i64 0] ++ Z32 ++ #[.int .i64 0]) : Array Value).size = 36 from rfl)).trans (HC.1.size).symm) (inf49.trans (congrArg some (HC.1.size).symm)) HC.1.one
        refine st_sk rfl rfl (ex_store rfl rfl rfl hst) ?_
        replace E := below_put E ge_b12 K
        replace RW := RW.keepK K (fun e => RW.ne k12 (by decide) e)
        replace OPS := fun j hj => keepK K (OPS j hj) (fun e => ne_tag (OPS j hj) k12 (by decide) e)
        replace k7 := keepK K k7 (fun e => ne_tag k7 k12 (by decide) e)
        replace k1 := keepK K k1 (fun e => ne_tag k1 k12 (by decide) e)
        replace k3 := keepK K k3 (fun e => ne_tag k3 k12 (by decide) e)
        replace k5 := keepK K k5 (fun e => ne_tag k5 k12 (by decide) e)
        replace k4 := keepK K k4 (fun e => ne_tag k4 k12 (by decide) e)
        replace k6 := keepK K k6 (fun e => ne_tag k6 k12 (by decide) e)
        replace k12 := kn
        clear kn K hst
        refine st_end ?_
        subst hQ
        refine wp_seq ?_
        refine wl_in ?_
        refine wl_cap fun Q hQ => ?_
        refine st_to (v := (.int .i64 h)) (some 109) rfl rfl (ex_mv rfl rfl) ?_
        simp only [Act.put, List.setIfInBounds_toArray, List.set_cons_zero, List.set_cons_succ]
        refine st_to (v := (.pointer (some ⟨b12, 3, none⟩))) (some 110) rfl rfl (ex_fa (p := (.pointer (some ⟨b12, 0, none⟩))) rfl rfl (fa49_3 _ _)) ?_
        simp only [Act.put, List.setIfInBounds_toArray, List.set_cons_zero, List.set_cons_succ]
        refine st_to (v := (.agg (hv i).hash)) (some 111) rfl rfl (ex_load (p := (.pointer (some ⟨b12, 3, none⟩))) rfl rfl (HC.1.ldp k12)) ?_
        simp only [Act.put, List.setIfInBounds_toArray, List.set_cons_zero, List.set_cons_succ]
        refine st_to (v := (.pointer (some ⟨b1, 38, none⟩))) (some 112) rfl rfl (ex_fa (p := (.pointer (some ⟨b1, 0, none⟩))) rfl rfl (fa26_6 _ _)) ?_
        simp only [Act.put, List.setIfInBounds_toArray, List.set_cons_zero, List.set_cons_succ]
        refine st_to (v := (.int .i64 t.d)) (some 113) rfl rfl (ex_load (p := (.pointer (some ⟨b1, 38, none⟩))) rfl rfl (ld3 (at_cell k1 hT.c38))) ?_
        simp only [Act.put, List.setIfInBounds_toArray, List.set_cons_zero, List.set_cons_succ]
        refine st_to (v := (.agg (pth h 0 false 0 t.d (hv i).hash))) (some 114) rfl rfl (ex_build3 (v1 := (.int .i64 h)) (v2 := (.agg (hv i).hash)) (v3 := (.int .i64 t.d)) rfl rfl rfl rfl (b66_054 _ _ _ HC.1.hs _)) ?_
        simp only [Act.put, List.setIfInBounds_toArray, List.set_cons_zero, List.set_cons_succ]
        refine st_to (v := (.int .i64 (othN t h))) (some 115) rfl rfl (ex_mv rfl rfl) ?_
        simp only [Act.put, List.setIfInBounds_toArray, List.set_cons_zero, List.set_cons_succ]
        refine st_to (v := (.pointer (some ⟨b12, 35, none⟩))) (some 116) rfl rfl (ex_fa (p := (.pointer (some ⟨b12, 0, none⟩))) rfl rfl (fa49_4 _ _)) ?_
        simp only [Act.put, List.setIfInBounds_toArray, List.set_cons_zero, List.set_cons_succ]
        refine st_to (v := (.int .i64 (hv i).ex)) (some 117) rfl rfl (ex_load (p := (.pointer (some ⟨b12, 35, none⟩))) rfl rfl (ld3 (at_cell k12 HC.1.c35))) ?_
        simp only [Act.put, List.setIfInBounds_toArray, List.set_cons_zero, List.set_cons_succ]
        refine st_to (v := (.agg (pth (othN t h) 0 false ((hv i).ex) 0 Z32))) (some 118) rfl rfl (ex_build2 (v1 := (.int .i64 (othN t h))) (v2 := (.int .i64 (hv i).ex)) rfl rfl rfl (b66_03 _ _ _)) ?_
        simp only [Act.put, List.setIfInBounds_toArray, List.set_cons_zero, List.set_cons_succ]
        refine st_to (v := (.agg (pth (othN t h) 0 false 0 0 (U8 pl).toArray))) (some 119) rfl rfl (ex_load (p := (.pointer (some ⟨b5, 0, none⟩))) rfl rfl (ld_all k5 Try.underlying66 rfl (inf66.trans (congrArg some ((pth_size (U8_size _ hpl))).symm)))) ?_
        simp only [Act.put, List.setIfInBounds_toArray, List.set_cons_zero, List.set_cons_succ]
        refine st_new (fun b => .slice (some ⟨b, 0, none⟩) 3 3) (some 120) rfl rfl (ex_bsl3 (u := (.agg (pth h 0 false 0 t.d (hv i).hash))) (r := (.agg (pth (othN t h) 0 false ((hv i).ex) 0 Z32))) (s := (.agg (pth (othN t h) 0 false 0 0 (U8 pl).toArray))) rfl rfl rfl rfl (bs44_3 _ (pth_size HC.1.hs) _ (pth_size Z32_size) _ (pth_size (U8_size _ hpl)) _)) ?_
        intro b13 W25 k13 g13 B
        simp only [Act.put, List.setIfInBounds_toArray, List.set_cons_zero, List.set_cons_succ]
        have ne_b13_b7 : b13 ≠ b7 := fun e => by have := lt_of k7; omega
        have ne_b13_b1 : b13 ≠ b1 := fun e => by have := lt_of k1; omega
        have ne_b13_b3 : b13 ≠ b3 := fun e => by have := lt_of k3; omega
        have ne_b13_b5 : b13 ≠ b5 := fun e => by have := lt_of k5; omega
        have ne_b13_b4 : b13 ≠ b4 := fun e => by have := lt_of k4; omega
        have ne_b13_b6 : b13 ≠ b6 := fun e => by have := lt_of k6; omega
        have ne_b13_b12 : b13 ≠ b12 := fun e => by have := lt_of k12; omega
        have ge_b13 := Nat.le_trans E.size g13
        replace E := below_next E B
        replace RW := RW.keep B
        replace OPS := fun j hj => keep B (OPS j hj)
        replace k7 := keep B k7
        replace k1 := keep B k1
        replace k3 := keep B k3
        replace k5 := keep B k5
        replace k4 := keep B k4
        replace k6 := keep B k6
        replace k12 := keep B k12
        clear B
        refine st_to (v := (.slice (some ⟨b13, 0, none⟩) 3 3)) (some 17) rfl rfl (ex_asg rfl rfl) ?_
        simp only [Act.put, List.setIfInBounds_toArray, List.set_cons_zero, List.set_cons_succ]
        refine st_end ?_
        subst hQ
        refine wp_seq ?_
        refine wp_seq ?_
        refine wl_in ?_
        refine wl_cap fun Q hQ => ?_
        refine st_to (v := (.pointer (some ⟨b12, 0, none⟩))) (some 121) rfl rfl (ex_fa (p := (.pointer (some ⟨b12, 0, none⟩))) rfl rfl (fa49_0 _ _)) ?_
        simp only [Act.put, List.setIfInBounds_toArray, List.set_cons_zero, List.set_cons_succ]
        refine st_to (v := (.int .i64 (hv i).by_)) (some 122) rfl rfl (ex_load (p := (.pointer (some ⟨b12, 0, none⟩))) rfl rfl (ld3 (at_cell k12 HC.1.c0))) ?_
        simp only [Act.put, List.setIfInBounds_toArray, List.set_cons_zero, List.set_cons_succ]
        refine st_to (v := (.int .i64 h)) (some 123) rfl rfl (ex_mv rfl rfl) ?_
        simp only [Act.put, List.setIfInBounds_toArray, List.set_cons_zero, List.set_cons_succ]
        refine st_to (v := (.bool true)) (some 124) rfl rfl (ex_bin (u := (.int .i64 (hv i).by_)) (r := (.int .i64 h)) rfl rfl rfl (eg3 _ _ _ _ _ _) (eql3 _ (decide_eq_true hq))) ?_
        simp only [Act.put, List.setIfInBounds_toArray, List.set_cons_zero, List.set_cons_succ]
        refine st_end ?_
        subst hQ
        refine wp_cond_true rfl ?_
        refine wl_in ?_
        refine wl_cap fun Q hQ => ?_
        refine st_to (v := (.int .i64 (othN t h))) (some 125) rfl rfl (ex_mv rfl rfl) ?_
        simp only [Act.put, List.setIfInBounds_toArray, List.set_cons_zero, List.set_cons_succ]
        refine st_to (v := (.pointer (some ⟨b12, 3, none⟩))) (some 126) rfl rfl (ex_fa (p := (.pointer (some ⟨b12, 0, none⟩))) rfl rfl (fa49_3 _ _)) ?_
        simp only [Act.put, List.setIfInBounds_toArray, List.set_cons_zero, List.set_cons_succ]
        refine st_to (v := (.agg (hv i).hash)) (some 127) rfl rfl (ex_load (p := (.pointer (some ⟨b12, 3, none⟩))) rfl rfl (HC.1.ldp k12)) ?_
        simp only [Act.put, List.setIfInBounds_toArray, List.set_cons_zero, List.set_cons_succ]
        refine st_to (v := (.agg (pth (othN t h) 0 false 0 0 (hv i).hash))) (some 128) rfl rfl (ex_build2 (v1 := (.int .i64 (othN t h))) (v2 := (.agg (hv i).hash)) rfl rfl rfl (b66_05 _ _ HC.1.hs _)) ?_
        simp only [Act.put, List.setIfInBounds_toArray, List.set_cons_zero, List.set_cons_succ]
        refine st_to (v := (.int .i64 h)) (some 129) rfl rfl (ex_mv rfl rfl) ?_
        simp only [Act.put, List.setIfInBounds_toArray, List.set_cons_zero, List.set_cons_succ]
        refine st_to (v := (.pointer (some ⟨b12, 35, none⟩))) (some 130) rfl rfl (ex_fa (p := (.pointer (some ⟨b12, 0, none⟩))) rfl rfl (fa49_4 _ _)) ?_
        simp only [Act.put, List.setIfInBounds_toArray, List.set_cons_zero, List.set_cons_succ]
        refine st_to (v := (.int .i64 (hv i).ex)) (some 131) rfl rfl (ex_load (p := (.pointer (some ⟨b12, 35, none⟩))) rfl rfl (ld3 (at_cell k12 HC.1.c35))) ?_
        simp only [Act.put, List.setIfInBounds_toArray, List.set_cons_zero, List.set_cons_succ]
        refine st_to (v := (.pointer (some ⟨b1, 38, none⟩))) (some 132) rfl rfl (ex_fa (p := (.pointer (some ⟨b1, 0, none⟩))) rfl rfl (fa26_6 _ _)) ?_
        simp only [Act.put, List.setIfInBounds_toArray, List.set_cons_zero, List.set_cons_succ]
        refine st_to (v := (.int .i64 t.d)) (some 133) rfl rfl (ex_load (p := (.pointer (some ⟨b1, 38, none⟩))) rfl rfl (ld3 (at_cell k1 hT.c38))) ?_
        simp only [Act.put, List.setIfInBounds_toArray, List.set_cons_zero, List.set_cons_succ]
        refine st_to (v := (.agg (pth h 0 false ((hv i).ex) t.d Z32))) (some 134) rfl rfl (ex_build3 (v1 := (.int .i64 h)) (v2 := (.int .i64 (hv i).ex)) (v3 := (.int .i64 t.d)) rfl rfl rfl rfl (b66_034 _ _ _ _)) ?_
        simp only [Act.put, List.setIfInBounds_toArray, List.set_cons_zero, List.set_cons_succ]
        refine st_to (v := (.agg (pth (othN t h) 0 false 0 0 (U8 pl).toArray))) (some 135) rfl rfl (ex_load (p := (.pointer (some ⟨b5, 0, none⟩))) rfl rfl (ld_all k5 Try.underlying66 rfl (inf66.trans (congrArg some ((pth_size (U8_size _ hpl))).symm)))) ?_
        simp only [Act.put, List.setIfInBounds_toArray, List.set_cons_zero, List.set_cons_succ]
        refine st_new (fun b => .slice (some ⟨b, 0, none⟩) 3 3) (some 136) rfl rfl (ex_bsl3 (u := (.agg (pth (othN t h) 0 false 0 0 (hv i).hash))) (r := (.agg (pth h 0 false ((hv i).ex) t.d Z32))) (s := (.agg (pth (othN t h) 0 false 0 0 (U8 pl).toArray))) rfl rfl rfl rfl (bs44_3 _ (pth_size HC.1.hs) _ (pth_size Z32_size) _ (pth_size (U8_size _ hpl)) _)) ?_
        intro b14 W26 k14 g14 B
        simp only [Act.put, List.setIfInBounds_toArray, List.set_cons_zero, List.set_cons_succ]
        have ne_b14_b7 : b14 ≠ b7 := fun e => by have := lt_of k7; omega
        have ne_b14_b1 : b14 ≠ b1 := fun e => by have := lt_of k1; omega
        have ne_b14_b3 : b14 ≠ b3 := fun e => by have := lt_of k3; omega
        have ne_b14_b5 : b14 ≠ b5 := fun e => by have := lt_of k5; omega
        have ne_b14_b4 : b14 ≠ b4 := fun e => by have := lt_of k4; omega
        have ne_b14_b6 : b14 ≠ b6 := fun e => by have := lt_of k6; omega
        have ne_b14_b12 : b14 ≠ b12 := fun e => by have := lt_of k12; omega
        have ne_b14_b13 : b14 ≠ b13 := fun e => by have := lt_of k13; omega
        have ge_b14 := Nat.le_trans E.size g14
        replace E := below_next E B
        replace RW := RW.keep B
        replace OPS := fun j hj => keep B (OPS j hj)
        replace k7 := keep B k7
        replace k1 := keep B k1
        replace k3 := keep B k3
        replace k5 := keep B k5
        replace k4 := keep B k4
        replace k6 := keep B k6
        replace k12 := keep B k12
        replace k13 := keep B k13
        clear B
        refine st_to (v := (.slice (some ⟨b14, 0, none⟩) 3 3)) (some 17) rfl rfl (ex_asg rfl rfl) ?_
        simp only [Act.put, List.setIfInBounds_toArray, List.set_cons_zero, List.set_cons_succ]
        refine st_end ?_
        subst hQ
        refine wl_in ?_
        refine wl_cap fun Q hQ => ?_
        refine st_to (v := (.pointer (some ⟨b7, 1, none⟩))) (some 137) rfl rfl (ex_fa (p := (.pointer (some ⟨b7, 0, none⟩))) rfl rfl (fa34_1 _ _)) ?_
        simp only [Act.put, List.setIfInBounds_toArray, List.set_cons_zero, List.set_cons_succ]
        refine st_to (v := (.slice (some ⟨g, 0, none⟩) (i + 2) cap)) (some 138) rfl rfl (ex_load (p := (.pointer (some ⟨b7, 1, none⟩))) rfl rfl (ld32 (at_cell k7 rfl))) ?_
        simp only [Act.put, List.setIfInBounds_toArray, List.set_cons_zero, List.set_cons_succ]
        refine st_to (v := (.pointer (some ⟨b12, 2, none⟩))) (some 139) rfl rfl (ex_fa (p := (.pointer (some ⟨b12, 0, none⟩))) rfl rfl (fa49_2 _ _)) ?_
        simp only [Act.put, List.setIfInBounds_toArray, List.set_cons_zero, List.set_cons_succ]
        refine st_to (v := (.int .i64 (hv i).am)) (some 140) rfl rfl (ex_load (p := (.pointer (some ⟨b12, 2, none⟩))) rfl rfl (ld3 (at_cell k12 HC.1.c2))) ?_
        simp only [Act.put, List.setIfInBounds_toArray, List.set_cons_zero, List.set_cons_succ]
        refine st_to (v := (.slice (some ⟨b14, 0, none⟩) 3 3)) (some 141) rfl rfl (ex_mv rfl rfl) ?_
        simp only [Act.put, List.setIfInBounds_toArray, List.set_cons_zero, List.set_cons_succ]
        refine st_to (v := (.agg #[(.int .i64 (hv i).am), (.slice (some ⟨b14, 0, none⟩) 3 3)])) (some 142) rfl rfl (ex_build2 (v1 := (.int .i64 (hv i).am)) (v2 := (.slice (some ⟨b14, 0, none⟩) 3 3)) rfl rfl rfl (b46_01 _ _ _ _ _)) ?_
        simp only [Act.put, List.setIfInBounds_toArray, List.set_cons_zero, List.set_cons_succ]
        refine st_new (fun b => .slice (some ⟨b, 0, none⟩) 1 1) (some 143) rfl rfl (ex_bsl1 (u := (.agg #[(.int .i64 (hv i).am), (.slice (some ⟨b14, 0, none⟩) 3 3)])) rfl rfl (bs32_1 _ rfl _)) ?_
        intro b15 W27 k15 g15 B
        simp only [Act.put, List.setIfInBounds_toArray, List.set_cons_zero, List.set_cons_succ]
        have ne_b15_b7 : b15 ≠ b7 := fun e => by have := lt_of k7; omega
        have ne_b15_b1 : b15 ≠ b1 := fun e => by have := lt_of k1; omega
        have ne_b15_b3 : b15 ≠ b3 := fun e => by have := lt_of k3; omega
        have ne_b15_b5 : b15 ≠ b5 := fun e => by have := lt_of k5; omega
        have ne_b15_b4 : b15 ≠ b4 := fun e => by have := lt_of k4; omega
        have ne_b15_b6 : b15 ≠ b6 := fun e => by have := lt_of k6; omega
        have ne_b15_b12 : b15 ≠ b12 := fun e => by have := lt_of k12; omega
        have ne_b15_b13 : b15 ≠ b13 := fun e => by have := lt_of k13; omega
        have ne_b15_b14 : b15 ≠ b14 := fun e => by have := lt_of k14; omega
        have ge_b15 := Nat.le_trans E.size g15
        replace E := below_next E B
        replace RW := RW.keep B
        replace OPS := fun j hj => keep B (OPS j hj)
        replace k7 := keep B k7
        replace k1 := keep B k1
        replace k3 := keep B k3
        replace k5 := keep B k5
        replace k4 := keep B k4
        replace k6 := keep B k6
        replace k12 := keep B k12
        replace k13 := keep B k13
        replace k14 := keep B k14
        clear B
        obtain ⟨g144, cap144, W28, hrun, RW2, K⟩ := RW.add (t := 32) k15 rfl (by kernel_rfl) Try.underlying32 info46 rfl (by decide) (by omega) (by unfold maxLen; omega) E.size
        refine st_to (v := (.slice (some ⟨g144, 0, none⟩) ((i + 2) + 1) cap144)) (some 144) rfl rfl (ex_app rfl rfl rfl hrun) ?_
        simp only [Act.put, List.setIfInBounds_toArray, List.set_cons_zero, List.set_cons_succ]
        clear hrun
        clear k15
        replace E := below_put E RW.ge K
        replace OPS := fun j hj => keepK K (OPS j hj) (fun e => RW.ne (OPS j hj) (by decide) e.symm)
        replace k7 := keepK K k7 (fun e => RW.ne k7 (by decide) e.symm)
        replace k1 := keepK K k1 (fun e => RW.ne k1 (by decide) e.symm)
        replace k3 := keepK K k3 (fun e => RW.ne k3 (by decide) e.symm)
        replace k5 := keepK K k5 (fun e => RW.ne k5 (by decide) e.symm)
        replace k4 := keepK K k4 (fun e => RW.ne k4 (by decide) e.symm)
        replace k6 := keepK K k6 (fun e => RW.ne k6 (by decide) e.symm)
        replace k12 := keepK K k12 (fun e => RW.ne k12 (by decide) e.symm)
        replace k13 := keepK K k13 (fun e => RW.ne k13 (by decide) e.symm)
        replace k14 := keepK K k14 (fun e => RW.ne k14 (by decide) e.symm)
        clear RW K
        refine st_to (v := (.pointer (some ⟨b7, 1, none⟩))) (some 145) rfl rfl (ex_fa (p := (.pointer (some ⟨b7, 0, none⟩))) rfl rfl (fa34_1 _ _)) ?_
        simp only [Act.put, List.setIfInBounds_toArray, List.set_cons_zero, List.set_cons_succ]
        obtain ⟨kn, K⟩ := put_cell (i := 1) (.slice (some ⟨g144, 0, none⟩) ((i + 2) + 1) cap144) k7
        refine st_sk rfl rfl (ex_store rfl rfl rfl (sto32 (at_cell k7 rfl) (unfrozen k7))) ?_
        obtain ⟨W29, hW2⟩ : ∃ W', W28.setCell ⟨b7, 1, none⟩ (.slice (some ⟨g144, 0, none⟩) ((i + 2) + 1) cap144) = W' := ⟨_, rfl⟩
        rw [hW2] at kn K ⊢
        replace E := below_put E ge_b7 K
        replace OPS := fun j hj => keepK K (OPS j hj) (fun e => ne_tag (OPS j hj) k7 (by decide) e)
        replace k1 := keepK K k1 (fun e => ne_tag k1 k7 (by decide) e)
        replace k3 := keepK K k3 (fun e => ne_tag k3 k7 (by decide) e)
        replace k5 := keepK K k5 (fun e => ne_tag k5 k7 (by decide) e)
        replace k4 := keepK K k4 (fun e => by first | exact ne_b4_b7 e | exact ne_b7_b4 e.symm)
        replace k6 := keepK K k6 (fun e => ne_tag k6 k7 (by decide) e)
        replace k12 := keepK K k12 (fun e => ne_tag k12 k7 (by decide) e)
        replace k13 := keepK K k13 (fun e => ne_tag k13 k7 (by decide) e)
        replace k14 := keepK K k14 (fun e => ne_tag k14 k7 (by decide) e)
        replace RW2 := RW2.keepK K (fun e => RW2.ne k7 (by decide) e)
        replace k7 := kn
        clear kn K
        refine st_end ?_
        subst hQ
        refine wl_in ?_
        refine wl_cap fun Q hQ => ?_
        refine st_to (v := (.int .i64 (i : Nat))) (some 102) rfl rfl (ex_mv rfl rfl) ?_
        simp only [Act.put, List.setIfInBounds_toArray, List.set_cons_zero, List.set_cons_succ]
        refine st_to (v := (.int .i64 ((i + 1 : Nat) : Int))) (some 103) rfl rfl (ex_bin rfl rfl rfl (eg3 _ _ _ _ _ _) (add3 _ (by omega) (by omega))) ?_
        simp only [Act.put, List.setIfInBounds_toArray, List.set_cons_zero, List.set_cons_succ]
        refine st_to (v := (.int .i64 ((i + 1 : Nat) : Int))) (some 15) rfl rfl (ex_asg rfl rfl) ?_
        simp only [Act.put, List.setIfInBounds_toArray, List.set_cons_zero, List.set_cons_succ]
        refine st_end ?_
        subst hQ
        refine then_go ?_
        go_roundw
        case rel =>
          refine ⟨i + 1, g144, cap144, (fun j => if j = i + 2 then b14 else gs j), by omega, rfl, E, ?_, ?_, k7, k1, k3, k5, k4, k6⟩
          · have e1 : flat (fun j => if j = i + 2 then b14 else gs j) (om (subN x t.fee) y hv) ol (i + 1 + 2) = flat gs (om (subN x t.fee) y hv) ol (i + 2) ++ [.int .i64 (hv i).am, .slice (some ⟨b14, 0, none⟩) 3 3] := by
              rw [show i + 1 + 2 = i + 2 + 1 by omega, flat_succ, flat_congr (gs' := gs) _ _ _ (fun j hj => if_neg (by omega))]
              simp [om, ol]
            rw [e1]
            exact RW2
          · intro j hj
            by_cases e : j = i + 2
            · subst e
              show W29.heap[if i + 2 = i + 2 then b14 else gs (i + 2)]? = _
              rw [if_pos rfl]
              have e2 : (opth h (othN t h) t.d (U8 pl).toArray hv) (i + 2) = ((pth (othN t h) 0 false 0 0 (hv i).hash) ++ (pth h 0 false ((hv i).ex) t.d Z32) ++ (pth (othN t h) 0 false 0 0 (U8 pl).toArray)) := by
                have e3 : (opth h (othN t h) t.d (U8 pl).toArray hv) (i + 2) = htlP h (othN t h) t.d (U8 pl).toArray (hv i) := by simp [opth]
                rw [e3]
                exact if_pos hq
              rw [e2]
              exact k14
            · show W29.heap[if j = i + 2 then b14 else gs j]? = _
              rw [if_neg e]
              exact OPS j (by omega)
        case measure => simp [intOf]; omega
      · skip
        refine wp_seq ?_
        refine wp_seq ?_
        refine wl_in ?_
        refine wl_cap fun Q hQ => ?_
        refine st_to (v := (.int .i64 (i : Nat))) (some 97) rfl rfl (ex_mv rfl rfl) ?_
        simp only [Act.put, List.setIfInBounds_toArray, List.set_cons_zero, List.set_cons_succ]
        refine st_to (v := (.pointer (some ⟨b3, 2, none⟩))) (some 98) rfl rfl (ex_fa (p := (.pointer (some ⟨b3, 0, none⟩))) rfl rfl (fa29_2 _ _)) ?_
        simp only [Act.put, List.setIfInBounds_toArray, List.set_cons_zero, List.set_cons_succ]
        refine st_to (v := (.slice (some ⟨b, p, none⟩) n c)) (some 99) rfl rfl (ex_load (p := (.pointer (some ⟨b3, 2, none⟩))) rfl rfl (ld27 (at_cell k3 rfl))) ?_
        simp only [Act.put, List.setIfInBounds_toArray, List.set_cons_zero, List.set_cons_succ]
        refine st_to (v := (.int .i64 (n : Nat))) (some 100) rfl rfl (ex_len rfl rfl (len27 _ _ _ _ _)) ?_
        simp only [Act.put, List.setIfInBounds_toArray, List.set_cons_zero, List.set_cons_succ]
        refine st_to (v := (.bool true)) (some 101) rfl rfl (ex_bin (u := (.int .i64 (i : Nat))) (r := (.int .i64 (n : Nat))) rfl rfl rfl (eg3 _ _ _ _ _ _) (lss3 _ (decide_eq_true (by omega)))) ?_
        simp only [Act.put, List.setIfInBounds_toArray, List.set_cons_zero, List.set_cons_succ]
        refine st_end ?_
        subst hQ
        refine wp_cond_true rfl ?_
        refine wp_skip ?_
        refine wp_seq ?_
        refine wp_block ?_
        refine wp_seq ?_
        refine wl_in ?_
        refine wl_cap fun Q hQ => ?_
        refine st_to (v := (.pointer (some ⟨b3, 2, none⟩))) (some 104) rfl rfl (ex_fa (p := (.pointer (some ⟨b3, 0, none⟩))) rfl rfl (fa29_2 _ _)) ?_
        simp only [Act.put, List.setIfInBounds_toArray, List.set_cons_zero, List.set_cons_succ]
        refine st_to (v := (.slice (some ⟨b, p, none⟩) n c)) (some 105) rfl rfl (ex_load (p := (.pointer (some ⟨b3, 2, none⟩))) rfl rfl (ld27 (at_cell k3 rfl))) ?_
        simp only [Act.put, List.setIfInBounds_toArray, List.set_cons_zero, List.set_cons_succ]
        refine st_to (v := (.int .i64 (i : Nat))) (some 106) rfl rfl (ex_mv rfl rfl) ?_
        simp only [Act.put, List.setIfInBounds_toArray, List.set_cons_zero, List.set_cons_succ]
        refine st_to (v := (.pointer (some ⟨b, (p + i * 36), none⟩))) (some 107) rfl rfl (ex_ix27 rfl rfl rfl hlt) ?_
        simp only [Act.put, List.setIfInBounds_toArray, List.set_cons_zero, List.set_cons_succ]
        refine st_to (v := (.agg (Cs i))) (some 108) rfl rfl (ex_load rfl rfl (ld_range (range_below HC.2 E) Try.underlying49 rfl (inf49.trans (congrArg some HC.1.size.symm)))) ?_
        simp only [Act.put, List.setIfInBounds_toArray, List.set_cons_zero, List.set_cons_succ]
        refine st_new (fun b => .pointer (some ⟨b, 0, none⟩)) (some 16) rfl rfl (ex_alloc rfl zero49) ?_
        intro b16 W30 k16 g16 B
        simp only [Act.put, List.setIfInBounds_toArray, List.set_cons_zero, List.set_cons_succ]
        have ne_b16_b7 : b16 ≠ b7 := fun e => by have := lt_of k7; omega
        have ne_b16_b1 : b16 ≠ b1 := fun e => by have := lt_of k1; omega
        have ne_b16_b3 : b16 ≠ b3 := fun e => by have := lt_of k3; omega
        have ne_b16_b5 : b16 ≠ b5 := fun e => by have := lt_of k5; omega
        have ne_b16_b4 : b16 ≠ b4 := fun e => by have := lt_of k4; omega
        have ne_b16_b6 : b16 ≠ b6 := fun e => by have := lt_of k6; omega
        have ge_b16 := Nat.le_trans E.size g16
        replace E := below_next E B
        replace RW := RW.keep B
        replace OPS := fun j hj => keep B (OPS j hj)
        replace k7 := keep B k7
        replace k1 := keep B k1
        replace k3 := keep B k3
        replace k5 := keep B k5
        replace k4 := keep B k4
        replace k6 := keep B k6
        clear B
        obtain ⟨W31, hst, kn, K⟩ := put_all (D := (Cs i)) k16 (((show ((#[.int .i64 0, .int .i64 0, .int .i64 0] ++ Z32 ++ #[.int .i64 0]) : Array Value).size = 36 from rfl)).trans (HC.1.size).symm) (inf49.trans (congrArg some (HC.1.size).symm)) HC.1.one
        refine st_sk rfl rfl (ex_store rfl rfl rfl hst) ?_
        replace E := below_put E ge_b16 K
        replace RW := RW.keepK K (fun e => RW.ne k16 (by decide) e)
        replace OPS := fun j hj => keepK K (OPS j hj) (fun e => ne_tag (OPS j hj) k16 (by decide) e)
        replace k7 := keepK K k7 (fun e => ne_tag k7 k16 (by decide) e)
        replace k1 := keepK K k1 (fun e => ne_tag k1 k16 (by decide) e)
        replace k3 := keepK K k3 (fun e => ne_tag k3 k16 (by decide) e)
        replace k5 := keepK K k5 (fun e => ne_tag k5 k16 (by decide) e)
        replace k4 := keepK K k4 (fun e => ne_tag k4 k16 (by decide) e)
        replace k6 := keepK K k6 (fun e => ne_tag k6 k16 (by decide) e)
        replace k16 := kn
        clear kn K hst
        refine st_end ?_
        subst hQ
        refine wp_seq ?_
        refine wl_in ?_
        refine wl_cap fun Q hQ => ?_
        refine st_to (v := (.int .i64 h)) (some 109) rfl rfl (ex_mv rfl rfl) ?_
        simp only [Act.put, List.setIfInBounds_toArray, List.set_cons_zero, List.set_cons_succ]
        refine st_to (v := (.pointer (some ⟨b16, 3, none⟩))) (some 110) rfl rfl (ex_fa (p := (.pointer (some ⟨b16, 0, none⟩))) rfl rfl (fa49_3 _ _)) ?_
        simp only [Act.put, List.setIfInBounds_toArray, List.set_cons_zero, List.set_cons_succ]
        refine st_to (v := (.agg (hv i).hash)) (some 111) rfl rfl (ex_load (p := (.pointer (some ⟨b16, 3, none⟩))) rfl rfl (HC.1.ldp k16)) ?_
        simp only [Act.put, List.setIfInBounds_toArray, List.set_cons_zero, List.set_cons_succ]
        refine st_to (v := (.pointer (some ⟨b1, 38, none⟩))) (some 112) rfl rfl (ex_fa (p := (.pointer (some ⟨b1, 0, none⟩))) rfl rfl (fa26_6 _ _)) ?_
        simp only [Act.put, List.setIfInBounds_toArray, List.set_cons_zero, List.set_cons_succ]
        refine st_to (v := (.int .i64 t.d)) (some 113) rfl rfl (ex_load (p := (.pointer (some ⟨b1, 38, none⟩))) rfl rfl (ld3 (at_cell k1 hT.c38))) ?_
        simp only [Act.put, List.setIfInBounds_toArray, List.set_cons_zero, List.set_cons_succ]
        refine st_to (v := (.agg (pth h 0 false 0 t.d (hv i).hash))) (some 114) rfl rfl (ex_build3 (v1 := (.int .i64 h)) (v2 := (.agg (hv i).hash)) (v3 := (.int .i64 t.d)) rfl rfl rfl rfl (b66_054 _ _ _ HC.1.hs _)) ?_
        simp only [Act.put, List.setIfInBounds_toArray, List.set_cons_zero, List.set_cons_succ]
        refine st_to (v := (.int .i64 (othN t h))) (some 115) rfl rfl (ex_mv rfl rfl) ?_
        simp only [Act.put, List.setIfInBounds_toArray, List.set_cons_zero, List.set_cons_succ]
        refine st_to (v := (.pointer (some ⟨b16, 35, none⟩))) (some 116) rfl rfl (ex_fa (p := (.pointer (some ⟨b16, 0, none⟩))) rfl rfl (fa49_4 _ _)) ?_
        simp only [Act.put, List.setIfInBounds_toArray, List.set_cons_zero, List.set_cons_succ]
        refine st_to (v := (.int .i64 (hv i).ex)) (some 117) rfl rfl (ex_load (p := (.pointer (some ⟨b16, 35, none⟩))) rfl rfl (ld3 (at_cell k16 HC.1.c35))) ?_
        simp only [Act.put, List.setIfInBounds_toArray, List.set_cons_zero, List.set_cons_succ]
        refine st_to (v := (.agg (pth (othN t h) 0 false ((hv i).ex) 0 Z32))) (some 118) rfl rfl (ex_build2 (v1 := (.int .i64 (othN t h))) (v2 := (.int .i64 (hv i).ex)) rfl rfl rfl (b66_03 _ _ _)) ?_
        simp only [Act.put, List.setIfInBounds_toArray, List.set_cons_zero, List.set_cons_succ]
        refine st_to (v := (.agg (pth (othN t h) 0 false 0 0 (U8 pl).toArray))) (some 119) rfl rfl (ex_load (p := (.pointer (some ⟨b5, 0, none⟩))) rfl rfl (ld_all k5 Try.underlying66 rfl (inf66.trans (congrArg some ((pth_size (U8_size _ hpl))).symm)))) ?_
        simp only [Act.put, List.setIfInBounds_toArray, List.set_cons_zero, List.set_cons_succ]
        refine st_new (fun b => .slice (some ⟨b, 0, none⟩) 3 3) (some 120) rfl rfl (ex_bsl3 (u := (.agg (pth h 0 false 0 t.d (hv i).hash))) (r := (.agg (pth (othN t h) 0 false ((hv i).ex) 0 Z32))) (s := (.agg (pth (othN t h) 0 false 0 0 (U8 pl).toArray))) rfl rfl rfl rfl (bs44_3 _ (pth_size HC.1.hs) _ (pth_size Z32_size) _ (pth_size (U8_size _ hpl)) _)) ?_
        intro b17 W32 k17 g17 B
        simp only [Act.put, List.setIfInBounds_toArray, List.set_cons_zero, List.set_cons_succ]
        have ne_b17_b7 : b17 ≠ b7 := fun e => by have := lt_of k7; omega
        have ne_b17_b1 : b17 ≠ b1 := fun e => by have := lt_of k1; omega
        have ne_b17_b3 : b17 ≠ b3 := fun e => by have := lt_of k3; omega
        have ne_b17_b5 : b17 ≠ b5 := fun e => by have := lt_of k5; omega
        have ne_b17_b4 : b17 ≠ b4 := fun e => by have := lt_of k4; omega
        have ne_b17_b6 : b17 ≠ b6 := fun e => by have := lt_of k6; omega
        have ne_b17_b16 : b17 ≠ b16 := fun e => by have := lt_of k16; omega
        have ge_b17 := Nat.le_trans E.size g17
        replace E := below_next E B
        replace RW := RW.keep B
        replace OPS := fun j hj => keep B (OPS j hj)
        replace k7 := keep B k7
        replace k1 := keep B k1
        replace k3 := keep B k3
        replace k5 := keep B k5
        replace k4 := keep B k4
        replace k6 := keep B k6
        replace k16 := keep B k16
        clear B
        refine st_to (v := (.slice (some ⟨b17, 0, none⟩) 3 3)) (some 17) rfl rfl (ex_asg rfl rfl) ?_
        simp only [Act.put, List.setIfInBounds_toArray, List.set_cons_zero, List.set_cons_succ]
        refine st_end ?_
        subst hQ
        refine wp_seq ?_
        refine wp_seq ?_
        refine wl_in ?_
        refine wl_cap fun Q hQ => ?_
        refine st_to (v := (.pointer (some ⟨b16, 0, none⟩))) (some 121) rfl rfl (ex_fa (p := (.pointer (some ⟨b16, 0, none⟩))) rfl rfl (fa49_0 _ _)) ?_
        simp only [Act.put, List.setIfInBounds_toArray, List.set_cons_zero, List.set_cons_succ]
        refine st_to (v := (.int .i64 (hv i).by_)) (some 122) rfl rfl (ex_load (p := (.pointer (some ⟨b16, 0, none⟩))) rfl rfl (ld3 (at_cell k16 HC.1.c0))) ?_
        simp only [Act.put, List.setIfInBounds_toArray, List.set_cons_zero, List.set_cons_succ]
        refine st_to (v := (.int .i64 h)) (some 123) rfl rfl (ex_mv rfl rfl) ?_
        simp only [Act.put, List.setIfInBounds_toArray, List.set_cons_zero, List.set_cons_succ]
        refine st_to (v := (.bool false)) (some 124) rfl rfl (ex_bin (u := (.int .i64 (hv i).by_)) (r := (.int .i64 h)) rfl rfl rfl (eg3 _ _ _ _ _ _) (eql3 _ (decide_eq_false hq))) ?_
        simp only [Act.put, List.setIfInBounds_toArray, List.set_cons_zero, List.set_cons_succ]
        refine st_end ?_
        subst hQ
        refine wp_cond_false rfl ?_
        refine wp_skip ?_
        refine wl_in ?_
        refine wl_cap fun Q hQ => ?_
        refine st_to (v := (.pointer (some ⟨b7, 1, none⟩))) (some 137) rfl rfl (ex_fa (p := (.pointer (some ⟨b7, 0, none⟩))) rfl rfl (fa34_1 _ _)) ?_
        simp only [Act.put, List.setIfInBounds_toArray, List.set_cons_zero, List.set_cons_succ]
        refine st_to (v := (.slice (some ⟨g, 0, none⟩) (i + 2) cap)) (some 138) rfl rfl (ex_load (p := (.pointer (some ⟨b7, 1, none⟩))) rfl rfl (ld32 (at_cell k7 rfl))) ?_
        simp only [Act.put, List.setIfInBounds_toArray, List.set_cons_zero, List.set_cons_succ]
        refine st_to (v := (.pointer (some ⟨b16, 2, none⟩))) (some 139) rfl rfl (ex_fa (p := (.pointer (some ⟨b16, 0, none⟩))) rfl rfl (fa49_2 _ _)) ?_
        simp only [Act.put, List.setIfInBounds_toArray, List.set_cons_zero, List.set_cons_succ]
        refine st_to (v := (.int .i64 (hv i).am)) (some 140) rfl rfl (ex_load (p := (.pointer (some ⟨b16, 2, none⟩))) rfl rfl (ld3 (at_cell k16 HC.1.c2))) ?_
        simp only [Act.put, List.setIfInBounds_toArray, List.set_cons_zero, List.set_cons_succ]
        refine st_to (v := (.slice (some ⟨b17, 0, none⟩) 3 3)) (some 141) rfl rfl (ex_mv rfl rfl) ?_
        simp only [Act.put, List.setIfInBounds_toArray, List.set_cons_zero, List.set_cons_succ]
        refine st_to (v := (.agg #[(.int .i64 (hv i).am), (.slice (some ⟨b17, 0, none⟩) 3 3)])) (some 142) rfl rfl (ex_build2 (v1 := (.int .i64 (hv i).am)) (v2 := (.slice (some ⟨b17, 0, none⟩) 3 3)) rfl rfl rfl (b46_01 _ _ _ _ _)) ?_
        simp only [Act.put, List.setIfInBounds_toArray, List.set_cons_zero, List.set_cons_succ]
        refine st_new (fun b => .slice (some ⟨b, 0, none⟩) 1 1) (some 143) rfl rfl (ex_bsl1 (u := (.agg #[(.int .i64 (hv i).am), (.slice (some ⟨b17, 0, none⟩) 3 3)])) rfl rfl (bs32_1 _ rfl _)) ?_
        intro b18 W33 k18 g18 B
        simp only [Act.put, List.setIfInBounds_toArray, List.set_cons_zero, List.set_cons_succ]
        have ne_b18_b7 : b18 ≠ b7 := fun e => by have := lt_of k7; omega
        have ne_b18_b1 : b18 ≠ b1 := fun e => by have := lt_of k1; omega
        have ne_b18_b3 : b18 ≠ b3 := fun e => by have := lt_of k3; omega
        have ne_b18_b5 : b18 ≠ b5 := fun e => by have := lt_of k5; omega
        have ne_b18_b4 : b18 ≠ b4 := fun e => by have := lt_of k4; omega
        have ne_b18_b6 : b18 ≠ b6 := fun e => by have := lt_of k6; omega
        have ne_b18_b16 : b18 ≠ b16 := fun e => by have := lt_of k16; omega
        have ne_b18_b17 : b18 ≠ b17 := fun e => by have := lt_of k17; omega
        have ge_b18 := Nat.le_trans E.size g18
        replace E := below_next E B
        replace RW := RW.keep B
        replace OPS := fun j hj => keep B (OPS j hj)
        replace k7 := keep B k7
        replace k1 := keep B k1
        replace k3 := keep B k3
        replace k5 := keep B k5
        replace k4 := keep B k4
        replace k6 := keep B k6
        replace k16 := keep B k16
        replace k17 := keep B k17
        clear B
        obtain ⟨g144, cap144, W34, hrun, RW2, K⟩ := RW.add (t := 32) k18 rfl (by kernel_rfl) Try.underlying32 info46 rfl (by decide) (by omega) (by unfold maxLen; omega) E.size
        refine st_to (v := (.slice (some ⟨g144, 0, none⟩) ((i + 2) + 1) cap144)) (some 144) rfl rfl (ex_app rfl rfl rfl hrun) ?_
        simp only [Act.put, List.setIfInBounds_toArray, List.set_cons_zero, List.set_cons_succ]
        clear hrun
        clear k18
        replace E := below_put E RW.ge K
        replace OPS := fun j hj => keepK K (OPS j hj) (fun e => RW.ne (OPS j hj) (by decide) e.symm)
        replace k7 := keepK K k7 (fun e => RW.ne k7 (by decide) e.symm)
        replace k1 := keepK K k1 (fun e => RW.ne k1 (by decide) e.symm)
        replace k3 := keepK K k3 (fun e => RW.ne k3 (by decide) e.symm)
        replace k5 := keepK K k5 (fun e => RW.ne k5 (by decide) e.symm)
        replace k4 := keepK K k4 (fun e => RW.ne k4 (by decide) e.symm)
        replace k6 := keepK K k6 (fun e => RW.ne k6 (by decide) e.symm)
        replace k16 := keepK K k16 (fun e => RW.ne k16 (by decide) e.symm)
        replace k17 := keepK K k17 (fun e => RW.ne k17 (by decide) e.symm)
        clear RW K
        refine st_to (v := (.pointer (some ⟨b7, 1, none⟩))) (some 145) rfl rfl (ex_fa (p := (.pointer (some ⟨b7, 0, none⟩))) rfl rfl (fa34_1 _ _)) ?_
        simp only [Act.put, List.setIfInBounds_toArray, List.set_cons_zero, List.set_cons_succ]
        obtain ⟨kn, K⟩ := put_cell (i := 1) (.slice (some ⟨g144, 0, none⟩) ((i + 2) + 1) cap144) k7
        refine st_sk rfl rfl (ex_store rfl rfl rfl (sto32 (at_cell k7 rfl) (unfrozen k7))) ?_
        obtain ⟨W35, hW2⟩ : ∃ W', W34.setCell ⟨b7, 1, none⟩ (.slice (some ⟨g144, 0, none⟩) ((i + 2) + 1) cap144) = W' := ⟨_, rfl⟩
        rw [hW2] at kn K ⊢
        replace E := below_put E ge_b7 K
        replace OPS := fun j hj => keepK K (OPS j hj) (fun e => ne_tag (OPS j hj) k7 (by decide) e)
        replace k1 := keepK K k1 (fun e => ne_tag k1 k7 (by decide) e)
        replace k3 := keepK K k3 (fun e => ne_tag k3 k7 (by decide) e)
        replace k5 := keepK K k5 (fun e => ne_tag k5 k7 (by decide) e)
        replace k4 := keepK K k4 (fun e => by first | exact ne_b4_b7 e | exact ne_b7_b4 e.symm)
        replace k6 := keepK K k6 (fun e => ne_tag k6 k7 (by decide) e)
        replace k16 := keepK K k16 (fun e => ne_tag k16 k7 (by decide) e)
        replace k17 := keepK K k17 (fun e => ne_tag k17 k7 (by decide) e)
        replace RW2 := RW2.keepK K (fun e => RW2.ne k7 (by decide) e)
        replace k7 := kn
        clear kn K
        refine st_end ?_
        subst hQ
        refine wl_in ?_
        refine wl_cap fun Q hQ => ?_
        refine st_to (v := (.int .i64 (i : Nat))) (some 102) rfl rfl (ex_mv rfl rfl) ?_
        simp only [Act.put, List.setIfInBounds_toArray, List.set_cons_zero, List.set_cons_succ]
        refine st_to (v := (.int .i64 ((i + 1 : Nat) : Int))) (some 103) rfl rfl (ex_bin rfl rfl rfl (eg3 _ _ _ _ _ _) (add3 _ (by omega) (by omega))) ?_
        simp only [Act.put, List.setIfInBounds_toArray, List.set_cons_zero, List.set_cons_succ]
        refine st_to (v := (.int .i64 ((i + 1 : Nat) : Int))) (some 15) rfl rfl (ex_asg rfl rfl) ?_
        simp only [Act.put, List.setIfInBounds_toArray, List.set_cons_zero, List.set_cons_succ]
        refine st_end ?_
        subst hQ
        refine then_go ?_
        go_roundw
        case rel =>
          refine ⟨i + 1, g144, cap144, (fun j => if j = i + 2 then b17 else gs j), by omega, rfl, E, ?_, ?_, k7, k1, k3, k5, k4, k6⟩
          · have e1 : flat (fun j => if j = i + 2 then b17 else gs j) (om (subN x t.fee) y hv) ol (i + 1 + 2) = flat gs (om (subN x t.fee) y hv) ol (i + 2) ++ [.int .i64 (hv i).am, .slice (some ⟨b17, 0, none⟩) 3 3] := by
              rw [show i + 1 + 2 = i + 2 + 1 by omega, flat_succ, flat_congr (gs' := gs) _ _ _ (fun j hj => if_neg (by omega))]
              simp [om, ol]
            rw [e1]
            exact RW2
          · intro j hj
            by_cases e : j = i + 2
            · subst e
              show W35.heap[if i + 2 = i + 2 then b17 else gs (i + 2)]? = _
              rw [if_pos rfl]
              have e2 : (opth h (othN t h) t.d (U8 pl).toArray hv) (i + 2) = ((pth h 0 false 0 t.d (hv i).hash) ++ (pth (othN t h) 0 false ((hv i).ex) 0 Z32) ++ (pth (othN t h) 0 false 0 0 (U8 pl).toArray)) := by
                have e3 : (opth h (othN t h) t.d (U8 pl).toArray hv) (i + 2) = htlP h (othN t h) t.d (U8 pl).toArray (hv i) := by simp [opth]
                rw [e3]
                exact if_neg hq
              rw [e2]
              exact k17
            · show W35.heap[if j = i + 2 then b17 else gs j]? = _
              rw [if_neg e]
              exact OPS j (by omega)
        case measure => simp [intOf]; omega
    · skip
      have hi' : i = n := by omega
      subst hi'
      refine wp_seq ?_
      refine wp_seq ?_
      refine wl_in ?_
      refine wl_cap fun Q hQ => ?_
      refine st_to (v := (.int .i64 (i : Nat))) (some 97) rfl rfl (ex_mv rfl rfl) ?_
      simp only [Act.put, List.setIfInBounds_toArray, List.set_cons_zero, List.set_cons_succ]
      refine st_to (v := (.pointer (some ⟨b3, 2, none⟩))) (some 98) rfl rfl (ex_fa (p := (.pointer (some ⟨b3, 0, none⟩))) rfl rfl (fa29_2 _ _)) ?_
      simp only [Act.put, List.setIfInBounds_toArray, List.set_cons_zero, List.set_cons_succ]
      refine st_to (v := (.slice ao i c)) (some 99) rfl rfl (ex_load (p := (.pointer (some ⟨b3, 2, none⟩))) rfl rfl (ld27 (at_cell k3 rfl))) ?_
      simp only [Act.put, List.setIfInBounds_toArray, List.set_cons_zero, List.set_cons_succ]
      refine st_to (v := (.int .i64 (i : Nat))) (some 100) rfl rfl (ex_len rfl rfl (len27 _ _ _ _ _)) ?_
      simp only [Act.put, List.setIfInBounds_toArray, List.set_cons_zero, List.set_cons_succ]
      refine st_to (v := (.bool false)) (some 101) rfl rfl (ex_bin (u := (.int .i64 (i : Nat))) (r := (.int .i64 (i : Nat))) rfl rfl rfl (eg3 _ _ _ _ _ _) (lss3 _ (decide_eq_false (by omega)))) ?_
      simp only [Act.put, List.setIfInBounds_toArray, List.set_cons_zero, List.set_cons_succ]
      refine st_end ?_
      subst hQ
      refine wp_cond_false rfl ?_
      refine wp_exit ?_
      refine ex_then ?_
      refine ex_then ?_
      refine ex_blk ?_
      refine wp_seq ?_
      refine wl_in ?_
      refine wl_cap fun Q hQ => ?_
      refine st_to (v := (.agg #[.slice (some ⟨b6, 0, none⟩) 1 1, .slice (some ⟨g, 0, none⟩) (i + 2) cap])) (some 146) rfl rfl (ex_load (p := (.pointer (some ⟨b7, 0, none⟩))) rfl rfl (ld_all k7 Try.underlying34 rfl inf34)) ?_
      simp only [Act.put, List.setIfInBounds_toArray, List.set_cons_zero, List.set_cons_succ]
      obtain ⟨W36, hst, kn, K⟩ := put_all (D := #[.slice (some ⟨b6, 0, none⟩) 1 1, .slice (some ⟨g, 0, none⟩) (i + 2) cap]) k4 rfl inf34 (by kernel_rfl)
      refine st_sk rfl rfl (ex_store rfl rfl rfl hst) ?_
      replace E := below_put E ge_b4 K
      replace RW := RW.keepK K (fun e => RW.ne k4 (by decide) e)
      replace OPS := fun j hj => keepK K (OPS j hj) (fun e => ne_tag (OPS j hj) k4 (by decide) e)
      replace k7 := keepK K k7 (fun e => by first | exact ne_b7_b4 e | exact ne_b4_b7 e.symm)
      replace k1 := keepK K k1 (fun e => ne_tag k1 k4 (by decide) e)
      replace k3 := keepK K k3 (fun e => ne_tag k3 k4 (by decide) e)
      replace k5 := keepK K k5 (fun e => ne_tag k5 k4 (by decide) e)
      replace k6 := keepK K k6 (fun e => ne_tag k6 k4 (by decide) e)
      replace k4 := kn
      clear kn K hst
      refine st_to (v := (.int .i64 0)) (some 9) rfl rfl (ex_asg rfl rfl) ?_
      simp only [Act.put, List.setIfInBounds_toArray, List.set_cons_zero, List.set_cons_succ]
      refine st_end ?_
      subst hQ
      refine wp_ret ?_
      refine bodyPost_ret (ret_ct Try.results9 _ _ b4 _ _ _ _ rfl rfl k4 Try.underlying34 rfl inf34) rfl ⟨b6, g, cap, rfl, k6, ⟨gs, RW, OPS⟩, E⟩

end Go.Proofs.Ytkhpbjafdamhaaa
