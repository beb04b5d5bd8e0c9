/- Policy: the walk of PolicyWays, where each node is asked. -/
import Derived.Test.YtfbaidmnnkcaeaaPWaL
namespace Go.Proofs.Ytfbaidmnnkcaeaa
open Go.RowKit
set_option linter.unusedVariables false
set_option linter.unusedSimpArgs false
set_option maxRecDepth 100000

set_option maxHeartbeats 16000000 in
theorem ways_yes {ao : Option Addr} {n c : Nat} {qs : Nat → RV} {x y h : Int} (w : World) (hR : n = 0 ∨ ∃ b off, ao = some ⟨b, off, none⟩ ∧ Rls w b off n qs) (hcap : n * 40 ≤ 140737488351232) (hqb : ∀ i, i < n → (qs i).b ≤ 9223372036854775807) (N X : Nat → Int) 
    (hA : ∀ (W : World) (fo : Option Addr) (fc : Nat), W.ownsRow w.heap.size 23 2 (.slice fo n fc) n (fL qs n) → Calls Try.prog 21 #[.slice fo n fc, .int .i64 x] W fun e w' => ∃ g, e = .returned (.tuple #[.slice (some ⟨g, 0, none⟩) (n + 1) (n + 1), .int .i64 0]) ∧ RowX w' W.heap.size g n N ∧ Below W.heap.size W w')
    (hB : ∀ W : World, Below w.heap.size w W → Calls Try.prog 19 #[.slice ao n c, .int .i64 y] W fun e w' => ∃ g, e = .returned (.tuple #[.slice (some ⟨g, 0, none⟩) (n + 1) (n + 1), .int .i64 0]) ∧ RowX w' W.heap.size g n X ∧ Below W.heap.size W w') (hz0 : ¬ x < 1) (hz1 : ¬ h < 0) (hz2 : ¬ 2147483647 < h) (hF : ∀ i, i < n → mayR (qs i) = true ∧ okH (X i) = true ∧ okH (X (i + 1)) = true ∧ X i = X (i + 1) + (qs i).d ∧ 1 ≤ N (i + 1) ∧ N (i + 1) ≤ 9223372036854775807 ∧ inE (qs i).b (qs i).r (N (i + 1)) = 0 ∧ N i = inN (qs i).b (qs i).r (N (i + 1)) ∧ 0 ≤ N i) :
    Calls Try.prog 6 #[.slice ao n c, .int .i64 x, .int .i64 y, .int .i64 h] w fun e w' => e = .returned (.bool true) ∧ Below w.heap.size w w' := by
  have E : Below w.heap.size w w := Below.refl _ _
  go_enter Try.func6, Try.ntmps6
  refine wq fun Q hQ => ?_
  refine sg (.bool false) 8 rfl rfl rfl rfl ?_
  simp only [zp]
  refine st_end ?_
  subst hQ
  refine wq fun Q hQ => ?_
  refine sg (.slice none 0 0) 9 rfl rfl rfl rfl ?_
  simp only [zp]
  refine st_end ?_
  subst hQ
  refine wp_seq ?_
  refine wq fun Q hQ => ?_
  refine sg (.int .i64 0) 10 rfl rfl rfl rfl ?_
  simp only [zp]
  refine st_end ?_
  subst hQ
  refine wp_block ?_
  go_loopw [9, 10] (fun v9 v10 wr => ∃ (i : Nat) (fo : Option Addr) (fc : Nat), i ≤ n ∧ v10 = .int .i64 i ∧ v9 = .slice fo i fc ∧ Below w.heap.size w wr ∧ wr.ownsRow w.heap.size 23 2 (.slice fo i fc) i (fL qs i)) (fun _ v10 _ => n - (intOf v10).toNat)
  case atStart => exact ⟨0, none, 0, Nat.zero_le _, rfl, rfl, E, own_nil w qs⟩
  case round =>
    obtain ⟨i, fo, fc, hi, rfl, rfl, E, HO⟩ := hrel
    by_cases hlt : i < n
    · rcases hR with h | ⟨b, off, rfl, h⟩
      · omega
      refine wp_seq ?_
      refine wq fun Q hQ => ?_
      refine sm (.int .i64 (i : Nat)) 20 rfl rfl rfl rfl ?_
      simp only [zp]
      refine sm (.slice (some ⟨b, off, none⟩) n c) 21 rfl rfl rfl rfl ?_
      simp only [zp]
      refine sv (.int .i64 (n : Nat)) 22 rfl rfl (ex_len rfl rfl (len35 _ _ _ _ _)) ?_
      simp only [zp]
      refine sv (.bool true) 23 rfl rfl (ex_bin (u := (.int .i64 (i : Nat))) (r := (.int .i64 (n : Nat))) rfl rfl rfl (eg3 _ _ _ _ _ _) (lss3 _ (decide_eq_true (by omega)))) ?_
      simp only [zp]
      refine st_end ?_
      subst hQ
      refine wp_cond_true rfl ?_
      refine wp_skip ?_
      refine wp_seq ?_
      refine wp_block ?_
      refine wl_in (wl_cap fun Q hQ => ?_)
      refine sm (.slice fo i fc) 26 rfl rfl rfl rfl ?_
      simp only [zp]
      refine sm (.slice (some ⟨b, off, none⟩) n c) 27 rfl rfl rfl rfl ?_
      simp only [zp]
      refine sm (.int .i64 (i : Nat)) 28 rfl rfl rfl rfl ?_
      simp only [zp]
      refine sv (.pointer (some ⟨b, (off + i * 5), none⟩)) 29 rfl rfl (ex_ix35 rfl rfl rfl hlt) ?_
      simp only [zp]
      refine sv (.pointer (some ⟨b, (off + i * 5), none⟩)) 30 rfl rfl (ex_fa rfl rfl (faZ _ _ _)) ?_
      simp only [zp]
      refine sv (.agg (FL (qs i))) 31 rfl rfl (ex_load rfl rfl (ld_range (rng_fee (range_below (h i hlt) E)) Try.underlying23 rfl inf23)) ?_
      simp only [zp]
      refine st_new (fun b => .slice (some ⟨b, 0, none⟩) 1 1) (some 32) rfl rfl (ex_bsl1 (u := (.agg (FL (qs i)))) rfl rfl (bs41_1 _ _)) ?_
      intro b1 W1 k1 g1 B
      simp only [zp]
      have ge_b1 := Nat.le_trans E.size g1
      replace E := below_next E B
      replace HO := own_below HO B
      clear B
      obtain ⟨g', cp', W9, happ, HO', E'⟩ := app_fee HO k1 (by omega) E
      refine st_to (v := .slice (some ⟨g', 0, none⟩) (i + 1) cp') (some 33) rfl rfl (ex_app rfl rfl rfl happ) ?_
      simp only [zp]
      replace E := E'
      clear HO k1 happ E'
      refine sg (.slice (some ⟨g', 0, none⟩) (i + 1) cp') 9 rfl rfl rfl rfl ?_
      simp only [zp]
      refine st_end ?_
      subst hQ
      refine wl_in (wl_cap fun Q hQ => ?_)
      refine sm (.int .i64 (i : Nat)) 24 rfl rfl rfl rfl ?_
      simp only [zp]
      refine sv (.int .i64 ((i + 1 : Nat) : Int)) 25 rfl rfl (ex_bin rfl rfl rfl (eg3 _ _ _ _ _ _) (add3 _ (by omega) (by omega))) ?_
      simp only [zp]
      refine sg (.int .i64 ((i + 1 : Nat) : Int)) 10 rfl rfl rfl rfl ?_
      simp only [zp]
      refine st_end ?_
      subst hQ
      refine then_go ?_
      go_roundw
      case rel => exact ⟨i + 1, some ⟨g', 0, none⟩, cp', by omega, rfl, rfl, E, HO'⟩
      case measure => simp [intOf]; omega
    · have hin : i = n := by omega
      subst i
      refine wp_seq ?_
      refine wq fun Q hQ => ?_
      refine sm (.int .i64 (n : Nat)) 20 rfl rfl rfl rfl ?_
      simp only [zp]
      refine sm (.slice ao n c) 21 rfl rfl rfl rfl ?_
      simp only [zp]
      refine sv (.int .i64 (n : Nat)) 22 rfl rfl (ex_len rfl rfl (len35 _ _ _ _ _)) ?_
      simp only [zp]
      refine sv (.bool false) 23 rfl rfl (ex_bin (u := (.int .i64 (n : Nat))) (r := (.int .i64 (n : Nat))) rfl rfl rfl (eg3 _ _ _ _ _ _) (lss3 _ (decide_eq_false (by omega)))) ?_
      simp only [zp]
      refine st_end ?_
      subst hQ
      refine wp_cond_false rfl ?_
      refine wp_exit ?_
      refine ex_then ?_
      refine ex_then ?_
      refine ex_blk ?_
      refine wq fun Q hQ => ?_
      refine sm (.slice fo n fc) 35 rfl rfl rfl rfl ?_
      simp only [zp]
      refine sm (.int .i64 x) 36 rfl rfl rfl rfl ?_
      simp only [zp]
      refine st_call (some 37) rfl rfl (hA wr fo fc HO) (ex_call (f := 21) (vs := [(.slice fo n fc), (.int .i64 x)]) rfl (cf21 _) rfl) ?_
      rintro e W2 ⟨gn, rfl, Rn, B⟩
      refine ⟨_, rfl, ?_⟩
      simp only [zp]
      replace E := below_next E B
      replace HO := own_below HO B
      refine sm (.tuple #[(.slice (some ⟨gn, 0, none⟩) (n + 1) (n + 1)), (.int .i64 0)]) 34 rfl rfl rfl rfl ?_
      simp only [zp]
      refine sv (.slice (some ⟨gn, 0, none⟩) (n + 1) (n + 1)) 38 rfl rfl (ex_ext rfl rfl rfl) ?_
      simp only [zp]
      refine sv (.int .i64 0) 39 rfl rfl (ex_ext rfl rfl rfl) ?_
      simp only [zp]
      refine sg (.slice (some ⟨gn, 0, none⟩) (n + 1) (n + 1)) 11 rfl rfl rfl rfl ?_
      simp only [zp]
      refine sg (.int .i64 0) 12 rfl rfl rfl rfl ?_
      simp only [zp]
      refine st_end ?_
      subst hQ
      refine wq fun Q hQ => ?_
      refine sm (.slice ao n c) 41 rfl rfl rfl rfl ?_
      simp only [zp]
      refine sm (.int .i64 y) 42 rfl rfl rfl rfl ?_
      simp only [zp]
      refine st_call (some 43) rfl rfl (hB W2 E) (ex_call (f := 19) (vs := [(.slice ao n c), (.int .i64 y)]) rfl (cf19 _) rfl) ?_
      rintro e W3 ⟨gx, rfl, Rx, B⟩
      refine ⟨_, rfl, ?_⟩
      simp only [zp]
      replace E := below_next E B
      replace HO := own_below HO B
      replace Rn := Rn.below B
      refine sm (.tuple #[(.slice (some ⟨gx, 0, none⟩) (n + 1) (n + 1)), (.int .i64 0)]) 40 rfl rfl rfl rfl ?_
      simp only [zp]
      refine sv (.slice (some ⟨gx, 0, none⟩) (n + 1) (n + 1)) 44 rfl rfl (ex_ext rfl rfl rfl) ?_
      simp only [zp]
      refine sv (.int .i64 0) 45 rfl rfl (ex_ext rfl rfl rfl) ?_
      simp only [zp]
      refine sg (.slice (some ⟨gx, 0, none⟩) (n + 1) (n + 1)) 13 rfl rfl rfl rfl ?_
      simp only [zp]
      refine sg (.int .i64 0) 14 rfl rfl rfl rfl ?_
      simp only [zp]
      refine st_end ?_
      subst hQ
      refine wp_seq ?_
      refine wq fun Q hQ => ?_
      refine st_call (some 46) rfl rfl (lives_any W3) (ex_call (f := 8) (vs := []) rfl (cf8 _) rfl) ?_
      rintro e W4 ⟨rfl, B⟩
      refine ⟨_, rfl, ?_⟩
      simp only [zp]
      replace E := below_next E B
      replace HO := own_below HO B
      replace Rn := Rn.below B
      replace Rx := Rx.below B
      refine sv (.bool false) 47 rfl rfl (ex_not rfl rfl rfl) ?_
      simp only [zp]
      refine sm (.bool false) 48 rfl rfl rfl rfl ?_
      simp only [zp]
      refine sm (.int .i64 0) 49 rfl rfl rfl rfl ?_
      simp only [zp]
      refine sv (.bool false) 50 rfl rfl (ex_bin (u := (.int .i64 0)) (r := (.int .i64 0)) rfl rfl rfl (eg37 _ _ _ _ _ _) (neq37 _ (by decide))) ?_
      simp only [zp]
      refine sv (.bool false) 51 rfl rfl (ex_pkF rfl rfl rfl) ?_
      simp only [zp]
      refine sm (.bool false) 52 rfl rfl rfl rfl ?_
      simp only [zp]
      refine sm (.int .i64 0) 53 rfl rfl rfl rfl ?_
      simp only [zp]
      refine sv (.bool false) 54 rfl rfl (ex_bin (u := (.int .i64 0)) (r := (.int .i64 0)) rfl rfl rfl (eg37 _ _ _ _ _ _) (neq37 _ (by decide))) ?_
      simp only [zp]
      refine sv (.bool false) 55 rfl rfl (ex_pkF rfl rfl rfl) ?_
      simp only [zp]
      refine sm (.bool false) 56 rfl rfl rfl rfl ?_
      simp only [zp]
      refine sm (.int .i64 x) 57 rfl rfl rfl rfl ?_
      simp only [zp]
      refine sv (.bool false) 58 rfl rfl (ex_bin (u := (.int .i64 x)) (r := (.int .i64 1)) rfl rfl rfl (eg3 _ _ _ _ _ _) (lss3 _ (decide_eq_false hz0))) ?_
      simp only [zp]
      refine sv (.bool false) 59 rfl rfl (ex_pkF rfl rfl rfl) ?_
      simp only [zp]
      refine sm (.bool false) 60 rfl rfl rfl rfl ?_
      simp only [zp]
      refine sm (.int .i64 h) 61 rfl rfl rfl rfl ?_
      simp only [zp]
      refine sv (.bool false) 62 rfl rfl (ex_bin (u := (.int .i64 h)) (r := (.int .i64 0)) rfl rfl rfl (eg3 _ _ _ _ _ _) (lss3 _ (decide_eq_false hz1))) ?_
      simp only [zp]
      refine sv (.bool false) 63 rfl rfl (ex_pkF rfl rfl rfl) ?_
      simp only [zp]
      refine sm (.bool false) 64 rfl rfl rfl rfl ?_
      simp only [zp]
      refine sm (.int .i64 h) 65 rfl rfl rfl rfl ?_
      simp only [zp]
      refine sv (.bool false) 66 rfl rfl (ex_bin (u := (.int .i64 h)) (r := (.int .i64 2147483647)) rfl rfl rfl (eg3 _ _ _ _ _ _) (gtr3 _ (decide_eq_false hz2))) ?_
      simp only [zp]
      refine sv (.bool false) 67 rfl rfl (ex_pkF rfl rfl rfl) ?_
      simp only [zp]
      refine st_end ?_
      subst hQ
      refine wp_cond_false rfl ?_
      refine wp_skip ?_
      refine wp_seq ?_
      refine wq fun Q hQ => ?_
      refine sg (.int .i64 0) 15 rfl rfl rfl rfl ?_
      simp only [zp]
      refine st_end ?_
      subst hQ
      refine wp_block ?_
      go_loopw [15] (fun v15 wr => ∃ i : Nat, i ≤ n ∧ v15 = .int .i64 i ∧ Below w.heap.size w wr ∧ RowX wr 0 gn n N ∧ RowX wr 0 gx n X) (fun v15 _ => n - (intOf v15).toNat)
      case atStart => exact ⟨0, Nat.zero_le _, rfl, E, ⟨Nat.zero_le _, Rn.2⟩, ⟨Nat.zero_le _, Rx.2⟩⟩
      case round =>
        clear E HO Rn Rx
        obtain ⟨i, hi, rfl, E, Rn, Rx⟩ := hrel
        by_cases hlt : i < n
        · rcases hR with hr | ⟨b, off, rfl, hr⟩
          · omega
          obtain ⟨hm, hx0, hx1, hd, am1, am2, hE, hN, a0⟩ := hF i hlt
          have FV := fwd_val (q := qs i) (h := h) hm hx0 (by omega) (by omega) a0 am1 hE hN hd
          have MP := (mayR_of hm).2
          obtain ⟨x00, x01⟩ := okH_of hx0
          obtain ⟨x10, x11⟩ := okH_of hx1
          by_cases e0 : h < X i
          · skip
            by_cases e1 : (qs i).f < X i - h
            · skip
              by_cases e2 : X (i + 1) < h
              · skip
                refine wp_seq ?_
                refine wq fun Q hQ => ?_
                refine sm (.int .i64 (i : Nat)) 69 rfl rfl rfl rfl ?_
                simp only [zp]
                refine sm (.slice (some ⟨b, off, none⟩) n c) 70 rfl rfl rfl rfl ?_
                simp only [zp]
                refine sv (.int .i64 (n : Nat)) 71 rfl rfl (ex_len rfl rfl (len35 _ _ _ _ _)) ?_
                simp only [zp]
                refine sv (.bool true) 72 rfl rfl (ex_bin (u := (.int .i64 (i : Nat))) (r := (.int .i64 (n : Nat))) rfl rfl rfl (eg3 _ _ _ _ _ _) (lss3 _ (decide_eq_true (by omega)))) ?_
                simp only [zp]
                refine st_end ?_
                subst hQ
                refine wp_cond_true rfl ?_
                refine wp_skip ?_
                refine wp_seq ?_
                refine wp_block ?_
                refine wp_seq ?_
                obtain ⟨W5, hwd⟩ : ∃ wd, wr.drew = wd := ⟨_, rfl⟩
                refine wp_region_held (S := fun W => Kept Nil W5 W) (by kernel_rfl) ?_
                show wpAnyH _ _ _ _ _ _ _ _ wr.drew
                rw [hwd]
                refine capQ fun Q hQ => ?_
                have hQP : ∀ c (a : Act) (d : Nat) v w, Q (.panic c) (a.put (some d) v) w → Q (.panic c) a w := by
                  subst hQ
                  exact fun _ _ _ _ _ h => h
                have BD : Below wr.heap.size wr W5 := by rw [← hwd]; exact below_drewB (Below.refl _ _)
                clear hwd
                replace E := below_next E BD
                replace Rn := Rn.below BD
                replace Rx := Rx.below BD
                clear BD
                have S : Kept Nil W5 W5 := Kept.refl _ _
                have d_Rn := Rn
                have d_Rx := Rx
                have hn0 := Rn.2 i (by omega)
                have hn1 := Rn.2 (i + 1) (by omega)
                have hxx0 := Rx.2 i (by omega)
                have hxx1 := Rx.2 (i + 1) (by omega)
                have hq := range_below (hr i hlt) E
                have ltn := block_lt_of_cell hn0
                have ltx := block_lt_of_cell hxx0
                simp only at ltn ltx
                refine ah_take (v := (.slice (some ⟨gn, 0, none⟩) (n + 1) (n + 1))) (i := 0) (some 75) rfl rfl (by kernel_rfl) (by kernel_rfl) (by kernel_rfl) rfl (fun W hK => ex_mv rfl rfl) S (fun c a w h => hQP c a _ _ w h) ?_
                simp only [zp]
                refine ah_take (v := (.int .i64 (i : Nat))) (i := 1) (some 76) rfl rfl (by kernel_rfl) (by kernel_rfl) (by kernel_rfl) rfl (fun W hK => ex_mv rfl rfl) S (fun c a w h => hQP c a _ _ w h) ?_
                simp only [zp]
                refine ah_take (v := (.int .i64 ((i + 1 : Nat) : Int))) (i := 2) (some 77) rfl rfl (by kernel_rfl) (by kernel_rfl) (by kernel_rfl) rfl (fun W hK => ex_bin (u := (.int .i64 (i : Nat))) (r := (.int .i64 1)) rfl rfl rfl (eg3 _ _ _ _ _ _) (add3 _ (by omega) (by omega))) S (fun c a w h => hQP c a _ _ w h) ?_
                simp only [zp]
                refine ah_take (v := (.pointer (some ⟨gn, (i + 1), none⟩))) (i := 3) (some 78) rfl rfl (by kernel_rfl) (by kernel_rfl) (by kernel_rfl) rfl (fun W hK => ex_ix36 (k := (i + 1)) rfl rfl rfl rfl (by omega)) S (fun c a w h => hQP c a _ _ w h) ?_
                simp only [zp]
                refine ah_take (v := (.int .i64 (N (i + 1)))) (i := 4) (some 79) rfl rfl (by kernel_rfl) (by kernel_rfl) (by kernel_rfl) rfl (fun W hK => ex_load rfl rfl (ld3 (cell_kept hK hn1 (nilN _)))) S (fun c a w h => hQP c a _ _ w h) ?_
                simp only [zp]
                refine ah_take (v := (.slice (some ⟨gx, 0, none⟩) (n + 1) (n + 1))) (i := 5) (some 80) rfl rfl (by kernel_rfl) (by kernel_rfl) (by kernel_rfl) rfl (fun W hK => ex_mv rfl rfl) S (fun c a w h => hQP c a _ _ w h) ?_
                simp only [zp]
                refine ah_take (v := (.int .i64 (i : Nat))) (i := 6) (some 81) rfl rfl (by kernel_rfl) (by kernel_rfl) (by kernel_rfl) rfl (fun W hK => ex_mv rfl rfl) S (fun c a w h => hQP c a _ _ w h) ?_
                simp only [zp]
                refine ah_take (v := (.int .i64 ((i + 1 : Nat) : Int))) (i := 7) (some 82) rfl rfl (by kernel_rfl) (by kernel_rfl) (by kernel_rfl) rfl (fun W hK => ex_bin (u := (.int .i64 (i : Nat))) (r := (.int .i64 1)) rfl rfl rfl (eg3 _ _ _ _ _ _) (add3 _ (by omega) (by omega))) S (fun c a w h => hQP c a _ _ w h) ?_
                simp only [zp]
                refine ah_take (v := (.pointer (some ⟨gx, (i + 1), none⟩))) (i := 8) (some 83) rfl rfl (by kernel_rfl) (by kernel_rfl) (by kernel_rfl) rfl (fun W hK => ex_ix36 (k := (i + 1)) rfl rfl rfl rfl (by omega)) S (fun c a w h => hQP c a _ _ w h) ?_
                simp only [zp]
                refine ah_take (v := (.int .i64 (X (i + 1)))) (i := 9) (some 84) rfl rfl (by kernel_rfl) (by kernel_rfl) (by kernel_rfl) rfl (fun W hK => ex_load rfl rfl (ld3 (cell_kept hK hxx1 (nilN _)))) S (fun c a w h => hQP c a _ _ w h) ?_
                simp only [zp]
                refine ah_take (v := (.agg (HZ 1 (N (i + 1)) (X (i + 1)) 0))) (i := 10) (some 85) rfl rfl (by kernel_rfl) (by kernel_rfl) (by kernel_rfl) rfl (fun W hK => ex_build3 (v1 := (.int .i64 1)) (v2 := (.int .i64 (N (i + 1)))) (v3 := (.int .i64 (X (i + 1)))) rfl rfl rfl rfl (b28 _ _ _ _)) S (fun c a w h => hQP c a _ _ w h) ?_
                simp only [zp]
                refine ah_or1 (i := 11) (by kernel_rfl) ?_
                refine nx_new (fun b => .pointer (some ⟨b, 0, none⟩)) (some 16) rfl rfl rfl (ex_alloc rfl zero28) ?_
                intro bt16 W6 kt16 gt16 B
                refine ⟨S.next B, ?_⟩
                simp only [zp]
                have gd_bt16 := Nat.le_trans S.size gt16
                have ge_bt16 := Nat.le_trans E.size gt16
                replace E := below_next E B
                replace Rn := Rn.below B
                replace Rx := Rx.below B
                replace S := S.next B
                clear B
                refine ah_or1 (i := 12) (by kernel_rfl) ?_
                obtain ⟨W7, hst, kn, K⟩ := put_all (D := (HZ 1 (N (i + 1)) (X (i + 1)) 0)) kt16 (((show ((HZ 0 0 0 0) : Array Value).size = 101 from rfl)).trans ((HZ_is 1 (N (i + 1)) (X (i + 1)) 0).size).symm) (inf28.trans (congrArg some ((HZ_is 1 (N (i + 1)) (X (i + 1)) 0).size).symm)) (HZ_is 1 (N (i + 1)) (X (i + 1)) 0).one
                refine nx_sk rfl rfl rfl (ex_store rfl rfl rfl hst) (S.putN K gd_bt16) ?_
                replace E := below_put E ge_bt16 K
                replace Rn := Rn.put K (fun e => by omega)
                replace Rx := Rx.put K (fun e => by omega)
                replace S := S.putN K gd_bt16
                replace kt16 := kn
                clear kn K hst
                refine ah_done (by kernel_rfl) ?_
                clear hQP
                subst hQ
                clear S  d_Rn d_Rx
                refine wp_seq ?_
                obtain ⟨W8, hwd⟩ : ∃ wd, W7.drew = wd := ⟨_, rfl⟩
                refine wp_region_held (S := fun W => Kept Nil W8 W) (by kernel_rfl) ?_
                show wpAnyH _ _ _ _ _ _ _ _ W7.drew
                rw [hwd]
                refine capQ fun Q hQ => ?_
                have hQP : ∀ c (a : Act) (d : Nat) v w, Q (.panic c) (a.put (some d) v) w → Q (.panic c) a w := by
                  subst hQ
                  exact fun _ _ _ _ _ h => h
                have BD : Below W7.heap.size W7 W8 := by rw [← hwd]; exact below_drewB (Below.refl _ _)
                clear hwd
                replace E := below_next E BD
                replace Rn := Rn.below BD
                replace Rx := Rx.below BD
                replace kt16 := keep BD kt16
                clear BD
                have S : Kept Nil W8 W8 := Kept.refl _ _
                have d_kt16 := kt16
                have d_Rn := Rn
                have d_Rx := Rx
                have hn0 := Rn.2 i (by omega)
                have hn1 := Rn.2 (i + 1) (by omega)
                have hxx0 := Rx.2 i (by omega)
                have hxx1 := Rx.2 (i + 1) (by omega)
                have hq := range_below (hr i hlt) E
                refine ah_take (v := (.slice (some ⟨b, off, none⟩) n c)) (i := 0) (some 86) rfl rfl (by kernel_rfl) (by kernel_rfl) (by kernel_rfl) rfl (fun W hK => ex_mv rfl rfl) S (fun c a w h => hQP c a _ _ w h) ?_
                simp only [zp]
                refine ah_take (v := (.int .i64 (i : Nat))) (i := 1) (some 87) rfl rfl (by kernel_rfl) (by kernel_rfl) (by kernel_rfl) rfl (fun W hK => ex_mv rfl rfl) S (fun c a w h => hQP c a _ _ w h) ?_
                simp only [zp]
                refine ah_take (v := (.pointer (some ⟨b, (off + i * 5), none⟩))) (i := 2) (some 88) rfl rfl (by kernel_rfl) (by kernel_rfl) (by kernel_rfl) rfl (fun W hK => ex_ix35 rfl rfl rfl hlt) S (fun c a w h => hQP c a _ _ w h) ?_
                simp only [zp]
                refine ah_take (v := (.agg (RL (qs i)))) (i := 3) (some 89) rfl rfl (by kernel_rfl) (by kernel_rfl) (by kernel_rfl) rfl (fun W hK => ex_load rfl rfl (ld_range (rng_kept hK hq (nilN _)) Try.underlying25 rfl inf25)) S (fun c a w h => hQP c a _ _ w h) ?_
                simp only [zp]
                refine ah_take (v := (.agg (HZ 1 (N (i + 1)) (X (i + 1)) 0))) (i := 4) (some 90) rfl rfl (by kernel_rfl) (by kernel_rfl) (by kernel_rfl) rfl (fun W hK => ex_load (p := (.pointer (some ⟨bt16, 0, none⟩))) rfl rfl (ld_all (keepK hK d_kt16 (nilN _)) Try.underlying28 rfl (inf28.trans (congrArg some ((HZ_is 1 (N (i + 1)) (X (i + 1)) 0).size).symm)))) S (fun c a w h => hQP c a _ _ w h) ?_
                simp only [zp]
                refine ah_take (v := (.slice (some ⟨gn, 0, none⟩) (n + 1) (n + 1))) (i := 5) (some 91) rfl rfl (by kernel_rfl) (by kernel_rfl) (by kernel_rfl) rfl (fun W hK => ex_mv rfl rfl) S (fun c a w h => hQP c a _ _ w h) ?_
                simp only [zp]
                refine ah_take (v := (.int .i64 (i : Nat))) (i := 6) (some 92) rfl rfl (by kernel_rfl) (by kernel_rfl) (by kernel_rfl) rfl (fun W hK => ex_mv rfl rfl) S (fun c a w h => hQP c a _ _ w h) ?_
                simp only [zp]
                refine ah_take (v := (.pointer (some ⟨gn, i, none⟩))) (i := 7) (some 93) rfl rfl (by kernel_rfl) (by kernel_rfl) (by kernel_rfl) rfl (fun W hK => ex_ix36 (k := i) rfl rfl rfl rfl (by omega)) S (fun c a w h => hQP c a _ _ w h) ?_
                simp only [zp]
                refine ah_take (v := (.int .i64 (N i))) (i := 8) (some 94) rfl rfl (by kernel_rfl) (by kernel_rfl) (by kernel_rfl) rfl (fun W hK => ex_load rfl rfl (ld3 (cell_kept hK hn0 (nilN _)))) S (fun c a w h => hQP c a _ _ w h) ?_
                simp only [zp]
                refine ah_take (v := (.slice (some ⟨gx, 0, none⟩) (n + 1) (n + 1))) (i := 9) (some 95) rfl rfl (by kernel_rfl) (by kernel_rfl) (by kernel_rfl) rfl (fun W hK => ex_mv rfl rfl) S (fun c a w h => hQP c a _ _ w h) ?_
                simp only [zp]
                refine ah_take (v := (.int .i64 (i : Nat))) (i := 10) (some 96) rfl rfl (by kernel_rfl) (by kernel_rfl) (by kernel_rfl) rfl (fun W hK => ex_mv rfl rfl) S (fun c a w h => hQP c a _ _ w h) ?_
                simp only [zp]
                refine ah_take (v := (.pointer (some ⟨gx, i, none⟩))) (i := 11) (some 97) rfl rfl (by kernel_rfl) (by kernel_rfl) (by kernel_rfl) rfl (fun W hK => ex_ix36 (k := i) rfl rfl rfl rfl (by omega)) S (fun c a w h => hQP c a _ _ w h) ?_
                simp only [zp]
                refine ah_take (v := (.int .i64 (X i))) (i := 12) (some 98) rfl rfl (by kernel_rfl) (by kernel_rfl) (by kernel_rfl) rfl (fun W hK => ex_load rfl rfl (ld3 (cell_kept hK hxx0 (nilN _)))) S (fun c a w h => hQP c a _ _ w h) ?_
                simp only [zp]
                refine ah_take (v := (.int .i64 h)) (i := 13) (some 99) rfl rfl (by kernel_rfl) (by kernel_rfl) (by kernel_rfl) rfl (fun W hK => ex_mv rfl rfl) S (fun c a w h => hQP c a _ _ w h) ?_
                simp only [zp]
                refine ah_or1 (i := 14) (by kernel_rfl) ?_
                refine nx_call (some 100) rfl rfl rfl (fwd_any W8 (HZ_is _ _ _ _) (hqb i hlt) (by show _ ≤ N (i + 1); omega) am2 (FV.trans (if_pos e1))) (ex_call (f := 11) (vs := [(.agg (RL (qs i))), (.agg (HZ 1 (N (i + 1)) (X (i + 1)) 0)), (.int .i64 (N i)), (.int .i64 (X i)), (.int .i64 h)]) rfl (cf11 _) rfl) ?_
                rintro e W9 ⟨rfl, B⟩
                refine ⟨_, rfl, S.next B, ?_⟩
                simp only [zp]
                replace E := below_next E B
                replace Rn := Rn.below B
                replace Rx := Rx.below B
                replace kt16 := keep B kt16
                replace S := S.next B
                refine ah_take (v := (.int .i64 6)) (i := 15) (some 17) rfl rfl (by kernel_rfl) (by kernel_rfl) (by kernel_rfl) rfl (fun W hK => ex_asg rfl rfl) S (fun c a w h => hQP c a _ _ w h) ?_
                simp only [zp]
                refine ah_done (by kernel_rfl) ?_
                clear hQP
                subst hQ
                clear S d_kt16 d_Rn d_Rx
                refine wp_seq ?_
                obtain ⟨W10, hwd⟩ : ∃ wd, W9.drew = wd := ⟨_, rfl⟩
                refine wp_region_held (S := fun W => Kept Nil W10 W) (by kernel_rfl) ?_
                show wpAnyH _ _ _ _ _ _ _ _ W9.drew
                rw [hwd]
                refine capQ fun Q hQ => ?_
                have hQP : ∀ c (a : Act) (d : Nat) v w, Q (.panic c) (a.put (some d) v) w → Q (.panic c) a w := by
                  subst hQ
                  exact fun _ _ _ _ _ h => h
                have BD : Below W9.heap.size W9 W10 := by rw [← hwd]; exact below_drewB (Below.refl _ _)
                clear hwd
                replace E := below_next E BD
                replace Rn := Rn.below BD
                replace Rx := Rx.below BD
                replace kt16 := keep BD kt16
                clear BD
                have S : Kept Nil W10 W10 := Kept.refl _ _
                have d_kt16 := kt16
                have d_Rn := Rn
                have d_Rx := Rx
                have hn0 := Rn.2 i (by omega)
                have hn1 := Rn.2 (i + 1) (by omega)
                have hxx0 := Rx.2 i (by omega)
                have hxx1 := Rx.2 (i + 1) (by omega)
                have hq := range_below (hr i hlt) E
                refine ah_take (v := (.slice (some ⟨gx, 0, none⟩) (n + 1) (n + 1))) (i := 0) (some 101) rfl rfl (by kernel_rfl) (by kernel_rfl) (by kernel_rfl) rfl (fun W hK => ex_mv rfl rfl) S (fun c a w h => hQP c a _ _ w h) ?_
                simp only [zp]
                refine ah_take (v := (.int .i64 (i : Nat))) (i := 1) (some 102) rfl rfl (by kernel_rfl) (by kernel_rfl) (by kernel_rfl) rfl (fun W hK => ex_mv rfl rfl) S (fun c a w h => hQP c a _ _ w h) ?_
                simp only [zp]
                refine ah_take (v := (.pointer (some ⟨gx, i, none⟩))) (i := 2) (some 103) rfl rfl (by kernel_rfl) (by kernel_rfl) (by kernel_rfl) rfl (fun W hK => ex_ix36 (k := i) rfl rfl rfl rfl (by omega)) S (fun c a w h => hQP c a _ _ w h) ?_
                simp only [zp]
                refine ah_take (v := (.int .i64 (X i))) (i := 3) (some 104) rfl rfl (by kernel_rfl) (by kernel_rfl) (by kernel_rfl) rfl (fun W hK => ex_load rfl rfl (ld3 (cell_kept hK hxx0 (nilN _)))) S (fun c a w h => hQP c a _ _ w h) ?_
                simp only [zp]
                refine ah_take (v := (.int .i64 h)) (i := 4) (some 105) rfl rfl (by kernel_rfl) (by kernel_rfl) (by kernel_rfl) rfl (fun W hK => ex_mv rfl rfl) S (fun c a w h => hQP c a _ _ w h) ?_
                simp only [zp]
                refine ah_take (v := (.bool true)) (i := 5) (some 106) rfl rfl (by kernel_rfl) (by kernel_rfl) (by kernel_rfl) rfl (fun W hK => ex_bin (u := (.int .i64 (X i))) (r := (.int .i64 h)) rfl rfl rfl (eg3 _ _ _ _ _ _) (gtr3 _ (decide_eq_true (by omega)))) S (fun c a w h => hQP c a _ _ w h) ?_
                simp only [zp]
                refine ah_take (v := (.bool true)) (i := 6) (some 107) rfl rfl (by kernel_rfl) (by kernel_rfl) (by kernel_rfl) rfl (fun W hK => ex_mv rfl rfl) S (fun c a w h => hQP c a _ _ w h) ?_
                simp only [zp]
                refine ah_take (v := (.slice (some ⟨gx, 0, none⟩) (n + 1) (n + 1))) (i := 7) (some 108) rfl rfl (by kernel_rfl) (by kernel_rfl) (by kernel_rfl) rfl (fun W hK => ex_mv rfl rfl) S (fun c a w h => hQP c a _ _ w h) ?_
                simp only [zp]
                refine ah_take (v := (.int .i64 (i : Nat))) (i := 8) (some 109) rfl rfl (by kernel_rfl) (by kernel_rfl) (by kernel_rfl) rfl (fun W hK => ex_mv rfl rfl) S (fun c a w h => hQP c a _ _ w h) ?_
                simp only [zp]
                refine ah_take (v := (.pointer (some ⟨gx, i, none⟩))) (i := 9) (some 110) rfl rfl (by kernel_rfl) (by kernel_rfl) (by kernel_rfl) rfl (fun W hK => ex_ix36 (k := i) rfl rfl rfl rfl (by omega)) S (fun c a w h => hQP c a _ _ w h) ?_
                simp only [zp]
                refine ah_take (v := (.int .i64 (X i))) (i := 10) (some 111) rfl rfl (by kernel_rfl) (by kernel_rfl) (by kernel_rfl) rfl (fun W hK => ex_load rfl rfl (ld3 (cell_kept hK hxx0 (nilN _)))) S (fun c a w h => hQP c a _ _ w h) ?_
                simp only [zp]
                refine ah_take (v := (.int .i64 h)) (i := 11) (some 112) rfl rfl (by kernel_rfl) (by kernel_rfl) (by kernel_rfl) rfl (fun W hK => ex_mv rfl rfl) S (fun c a w h => hQP c a _ _ w h) ?_
                simp only [zp]
                refine ah_take (v := (.int .i64 (X i - h))) (i := 12) (some 113) rfl rfl (by kernel_rfl) (by kernel_rfl) (by kernel_rfl) rfl (fun W hK => ex_bin (u := (.int .i64 (X i))) (r := (.int .i64 h)) rfl rfl rfl (eg3 _ _ _ _ _ _) (sub3 _ rfl (by omega))) S (fun c a w h => hQP c a _ _ w h) ?_
                simp only [zp]
                refine ah_take (v := (.slice (some ⟨b, off, none⟩) n c)) (i := 13) (some 114) rfl rfl (by kernel_rfl) (by kernel_rfl) (by kernel_rfl) rfl (fun W hK => ex_mv rfl rfl) S (fun c a w h => hQP c a _ _ w h) ?_
                simp only [zp]
                refine ah_take (v := (.int .i64 (i : Nat))) (i := 14) (some 115) rfl rfl (by kernel_rfl) (by kernel_rfl) (by kernel_rfl) rfl (fun W hK => ex_mv rfl rfl) S (fun c a w h => hQP c a _ _ w h) ?_
                simp only [zp]
                refine ah_take (v := (.pointer (some ⟨b, (off + i * 5), none⟩))) (i := 15) (some 116) rfl rfl (by kernel_rfl) (by kernel_rfl) (by kernel_rfl) rfl (fun W hK => ex_ix35 rfl rfl rfl hlt) S (fun c a w h => hQP c a _ _ w h) ?_
                simp only [zp]
                refine ah_take (v := (.pointer (some ⟨b, (off + i * 5 + 4), none⟩))) (i := 16) (some 117) rfl rfl (by kernel_rfl) (by kernel_rfl) (by kernel_rfl) rfl (fun W hK => ex_fa rfl rfl (faL _ _ _)) S (fun c a w h => hQP c a _ _ w h) ?_
                simp only [zp]
                refine ah_take (v := (.int .i64 (qs i).f)) (i := 17) (some 118) rfl rfl (by kernel_rfl) (by kernel_rfl) (by kernel_rfl) rfl (fun W hK => ex_load rfl rfl (ld3 (cell_kept hK (hq 4 _ rfl) (nilN _)))) S (fun c a w h => hQP c a _ _ w h) ?_
                simp only [zp]
                refine ah_take (v := (.bool true)) (i := 18) (some 119) rfl rfl (by kernel_rfl) (by kernel_rfl) (by kernel_rfl) rfl (fun W hK => ex_bin (u := (.int .i64 (X i - h))) (r := (.int .i64 (qs i).f)) rfl rfl rfl (eg3 _ _ _ _ _ _) (gtr3 _ (decide_eq_true (by omega)))) S (fun c a w h => hQP c a _ _ w h) ?_
                simp only [zp]
                refine ah_take (v := (.bool true)) (i := 19) (some 120) rfl rfl (by kernel_rfl) (by kernel_rfl) (by kernel_rfl) rfl (fun W hK => ex_pkT rfl rfl rfl) S (fun c a w h => hQP c a _ _ w h) ?_
                simp only [zp]
                refine ah_take (v := (.bool true)) (i := 20) (some 18) rfl rfl (by kernel_rfl) (by kernel_rfl) (by kernel_rfl) rfl (fun W hK => ex_asg rfl rfl) S (fun c a w h => hQP c a _ _ w h) ?_
                simp only [zp]
                refine ah_done (by kernel_rfl) ?_
                clear hQP
                subst hQ
                clear S d_kt16 d_Rn d_Rx
                refine wp_seq ?_
                obtain ⟨W11, hwd⟩ : ∃ wd, W10.drew = wd := ⟨_, rfl⟩
                refine wp_region_held (S := fun W => Kept Nil W11 W) (by kernel_rfl) ?_
                show wpAnyH _ _ _ _ _ _ _ _ W10.drew
                rw [hwd]
                refine capQ fun Q hQ => ?_
                have hQP : ∀ c (a : Act) (d : Nat) v w, Q (.panic c) (a.put (some d) v) w → Q (.panic c) a w := by
                  subst hQ
                  exact fun _ _ _ _ _ h => h
                have BD : Below W10.heap.size W10 W11 := by rw [← hwd]; exact below_drewB (Below.refl _ _)
                clear hwd
                replace E := below_next E BD
                replace Rn := Rn.below BD
                replace Rx := Rx.below BD
                replace kt16 := keep BD kt16
                clear BD
                have S : Kept Nil W11 W11 := Kept.refl _ _
                have d_kt16 := kt16
                have d_Rn := Rn
                have d_Rx := Rx
                have hn0 := Rn.2 i (by omega)
                have hn1 := Rn.2 (i + 1) (by omega)
                have hxx0 := Rx.2 i (by omega)
                have hxx1 := Rx.2 (i + 1) (by omega)
                have hq := range_below (hr i hlt) E
                refine ah_take (v := (.slice (some ⟨gx, 0, none⟩) (n + 1) (n + 1))) (i := 0) (some 121) rfl rfl (by kernel_rfl) (by kernel_rfl) (by kernel_rfl) rfl (fun W hK => ex_mv rfl rfl) S (fun c a w h => hQP c a _ _ w h) ?_
                simp only [zp]
                refine ah_take (v := (.int .i64 (i : Nat))) (i := 1) (some 122) rfl rfl (by kernel_rfl) (by kernel_rfl) (by kernel_rfl) rfl (fun W hK => ex_mv rfl rfl) S (fun c a w h => hQP c a _ _ w h) ?_
                simp only [zp]
                refine ah_take (v := (.int .i64 ((i + 1 : Nat) : Int))) (i := 2) (some 123) rfl rfl (by kernel_rfl) (by kernel_rfl) (by kernel_rfl) rfl (fun W hK => ex_bin (u := (.int .i64 (i : Nat))) (r := (.int .i64 1)) rfl rfl rfl (eg3 _ _ _ _ _ _) (add3 _ (by omega) (by omega))) S (fun c a w h => hQP c a _ _ w h) ?_
                simp only [zp]
                refine ah_take (v := (.pointer (some ⟨gx, (i + 1), none⟩))) (i := 3) (some 124) rfl rfl (by kernel_rfl) (by kernel_rfl) (by kernel_rfl) rfl (fun W hK => ex_ix36 (k := (i + 1)) rfl rfl rfl rfl (by omega)) S (fun c a w h => hQP c a _ _ w h) ?_
                simp only [zp]
                refine ah_take (v := (.int .i64 (X (i + 1)))) (i := 4) (some 125) rfl rfl (by kernel_rfl) (by kernel_rfl) (by kernel_rfl) rfl (fun W hK => ex_load rfl rfl (ld3 (cell_kept hK hxx1 (nilN _)))) S (fun c a w h => hQP c a _ _ w h) ?_
                simp only [zp]
                refine ah_take (v := (.int .i64 h)) (i := 5) (some 126) rfl rfl (by kernel_rfl) (by kernel_rfl) (by kernel_rfl) rfl (fun W hK => ex_mv rfl rfl) S (fun c a w h => hQP c a _ _ w h) ?_
                simp only [zp]
                refine ah_take (v := (.bool true)) (i := 6) (some 127) rfl rfl (by kernel_rfl) (by kernel_rfl) (by kernel_rfl) rfl (fun W hK => ex_bin (u := (.int .i64 (X (i + 1)))) (r := (.int .i64 h)) rfl rfl rfl (eg3 _ _ _ _ _ _) (lss3 _ (decide_eq_true (by omega)))) S (fun c a w h => hQP c a _ _ w h) ?_
                simp only [zp]
                refine ah_take (v := (.bool true)) (i := 7) (some 128) rfl rfl (by kernel_rfl) (by kernel_rfl) (by kernel_rfl) rfl (fun W hK => ex_mv rfl rfl) S (fun c a w h => hQP c a _ _ w h) ?_
                simp only [zp]
                refine ah_skip (i := 8) (some 129) rfl rfl (by kernel_rfl) (by kernel_rfl) (by kernel_rfl) rfl S (fun c a w h => hQP c a _ _ w h) ?_
                simp only [zp]
                refine ah_skip (i := 9) (some 130) rfl rfl (by kernel_rfl) (by kernel_rfl) (by kernel_rfl) rfl S (fun c a w h => hQP c a _ _ w h) ?_
                simp only [zp]
                refine ah_skip (i := 10) (some 131) rfl rfl (by kernel_rfl) (by kernel_rfl) (by kernel_rfl) rfl S (fun c a w h => hQP c a _ _ w h) ?_
                simp only [zp]
                refine ah_skip (i := 11) (some 132) rfl rfl (by kernel_rfl) (by kernel_rfl) (by kernel_rfl) rfl S (fun c a w h => hQP c a _ _ w h) ?_
                simp only [zp]
                refine ah_skip (i := 12) (some 133) rfl rfl (by kernel_rfl) (by kernel_rfl) (by kernel_rfl) rfl S (fun c a w h => hQP c a _ _ w h) ?_
                simp only [zp]
                refine ah_skip (i := 13) (some 134) rfl rfl (by kernel_rfl) (by kernel_rfl) (by kernel_rfl) rfl S (fun c a w h => hQP c a _ _ w h) ?_
                simp only [zp]
                refine ah_skip (i := 14) (some 135) rfl rfl (by kernel_rfl) (by kernel_rfl) (by kernel_rfl) rfl S (fun c a w h => hQP c a _ _ w h) ?_
                simp only [zp]
                refine ah_skip (i := 15) (some 136) rfl rfl (by kernel_rfl) (by kernel_rfl) (by kernel_rfl) rfl S (fun c a w h => hQP c a _ _ w h) ?_
                simp only [zp]
                refine ah_skip (i := 16) (some 137) rfl rfl (by kernel_rfl) (by kernel_rfl) (by kernel_rfl) rfl S (fun c a w h => hQP c a _ _ w h) ?_
                simp only [zp]
                refine ah_skip (i := 17) (some 138) rfl rfl (by kernel_rfl) (by kernel_rfl) (by kernel_rfl) rfl S (fun c a w h => hQP c a _ _ w h) ?_
                simp only [zp]
                refine ah_skip (i := 18) (some 139) rfl rfl (by kernel_rfl) (by kernel_rfl) (by kernel_rfl) rfl S (fun c a w h => hQP c a _ _ w h) ?_
                simp only [zp]
                refine ah_skip (i := 19) (some 140) rfl rfl (by kernel_rfl) (by kernel_rfl) (by kernel_rfl) rfl S (fun c a w h => hQP c a _ _ w h) ?_
                simp only [zp]
                refine ah_skip (i := 20) (some 141) rfl rfl (by kernel_rfl) (by kernel_rfl) (by kernel_rfl) rfl S (fun c a w h => hQP c a _ _ w h) ?_
                simp only [zp]
                refine ah_take (v := (.bool true)) (i := 21) (some 142) rfl rfl (by kernel_rfl) (by kernel_rfl) (by kernel_rfl) rfl (fun W hK => ex_pkT rfl rfl rfl) S (fun c a w h => hQP c a _ _ w h) ?_
                simp only [zp]
                refine ah_take (v := (.bool true)) (i := 22) (some 19) rfl rfl (by kernel_rfl) (by kernel_rfl) (by kernel_rfl) rfl (fun W hK => ex_asg rfl rfl) S (fun c a w h => hQP c a _ _ w h) ?_
                simp only [zp]
                refine ah_done (by kernel_rfl) ?_
                clear hQP
                subst hQ
                clear S d_kt16 d_Rn d_Rx
                refine wq fun Q hQ => ?_
                refine sm (.bool true) 143 rfl rfl rfl rfl ?_
                simp only [zp]
                refine sm (.bool true) 144 rfl rfl rfl rfl ?_
                simp only [zp]
                refine sm (.int .i64 6) 145 rfl rfl rfl rfl ?_
                simp only [zp]
                refine sv (.bool false) 146 rfl rfl (ex_bin (u := (.int .i64 6)) (r := (.int .i64 6)) rfl rfl rfl (eg3 _ _ _ _ _ _) (neq3 _ (by decide))) ?_
                simp only [zp]
                refine sv (.bool false) 147 rfl rfl (ex_pkT rfl rfl rfl) ?_
                simp only [zp]
                refine sm (.bool false) 148 rfl rfl rfl rfl ?_
                simp only [zp]
                refine sm (.bool true) 149 rfl rfl rfl rfl ?_
                simp only [zp]
                refine sv (.bool false) 150 rfl rfl (ex_not rfl rfl rfl) ?_
                simp only [zp]
                refine sm (.bool false) 151 rfl rfl rfl rfl ?_
                simp only [zp]
                refine sn 152 rfl rfl ?_
                simp only [zp]
                refine sv (.bool false) 153 rfl rfl (ex_pkF rfl rfl rfl) ?_
                simp only [zp]
                refine sm (.bool false) 154 rfl rfl rfl rfl ?_
                simp only [zp]
                refine sn 155 rfl rfl ?_
                simp only [zp]
                refine sn 156 rfl rfl ?_
                simp only [zp]
                refine sv (.bool false) 157 rfl rfl (ex_pkF rfl rfl rfl) ?_
                simp only [zp]
                refine sv (.bool false) 158 rfl rfl (ex_pkF rfl rfl rfl) ?_
                simp only [zp]
                refine sm (.bool false) 159 rfl rfl rfl rfl ?_
                simp only [zp]
                refine sm (.bool true) 160 rfl rfl rfl rfl ?_
                simp only [zp]
                refine sv (.bool false) 161 rfl rfl (ex_not rfl rfl rfl) ?_
                simp only [zp]
                refine sm (.bool false) 162 rfl rfl rfl rfl ?_
                simp only [zp]
                refine sn 163 rfl rfl ?_
                simp only [zp]
                refine sn 164 rfl rfl ?_
                simp only [zp]
                refine sv (.bool false) 165 rfl rfl (ex_pkF rfl rfl rfl) ?_
                simp only [zp]
                refine sm (.bool false) 166 rfl rfl rfl rfl ?_
                simp only [zp]
                refine sn 167 rfl rfl ?_
                simp only [zp]
                refine sn 168 rfl rfl ?_
                simp only [zp]
                refine sv (.bool false) 169 rfl rfl (ex_pkF rfl rfl rfl) ?_
                simp only [zp]
                refine sv (.bool false) 170 rfl rfl (ex_pkF rfl rfl rfl) ?_
                simp only [zp]
                refine st_end ?_
                subst hQ
                refine wp_cond_false rfl ?_
                refine wp_skip ?_
                refine wl_in (wl_cap fun Q hQ => ?_)
                refine sm (.int .i64 (i : Nat)) 73 rfl rfl rfl rfl ?_
                simp only [zp]
                refine sv (.int .i64 ((i + 1 : Nat) : Int)) 74 rfl rfl (ex_bin rfl rfl rfl (eg3 _ _ _ _ _ _) (add3 _ (by omega) (by omega))) ?_
                simp only [zp]
                refine sg (.int .i64 ((i + 1 : Nat) : Int)) 15 rfl rfl rfl rfl ?_
                simp only [zp]
                refine st_end ?_
                subst hQ
                refine then_go ?_
                go_roundw
                case rel => exact ⟨i + 1, by omega, rfl, E, Rn, Rx⟩
                case measure => simp [intOf]; omega
              · skip
                by_cases e3 : X (i + 1) - h ≤ (qs i).g
                · skip
                  refine wp_seq ?_
                  refine wq fun Q hQ => ?_
                  refine sm (.int .i64 (i : Nat)) 69 rfl rfl rfl rfl ?_
                  simp only [zp]
                  refine sm (.slice (some ⟨b, off, none⟩) n c) 70 rfl rfl rfl rfl ?_
                  simp only [zp]
                  refine sv (.int .i64 (n : Nat)) 71 rfl rfl (ex_len rfl rfl (len35 _ _ _ _ _)) ?_
                  simp only [zp]
                  refine sv (.bool true) 72 rfl rfl (ex_bin (u := (.int .i64 (i : Nat))) (r := (.int .i64 (n : Nat))) rfl rfl rfl (eg3 _ _ _ _ _ _) (lss3 _ (decide_eq_true (by omega)))) ?_
                  simp only [zp]
                  refine st_end ?_
                  subst hQ
                  refine wp_cond_true rfl ?_
                  refine wp_skip ?_
                  refine wp_seq ?_
                  refine wp_block ?_
                  refine wp_seq ?_
                  obtain ⟨W12, hwd⟩ : ∃ wd, wr.drew = wd := ⟨_, rfl⟩
                  refine wp_region_held (S := fun W => Kept Nil W12 W) (by kernel_rfl) ?_
                  show wpAnyH _ _ _ _ _ _ _ _ wr.drew
                  rw [hwd]
                  refine capQ fun Q hQ => ?_
                  have hQP : ∀ c (a : Act) (d : Nat) v w, Q (.panic c) (a.put (some d) v) w → Q (.panic c) a w := by
                    subst hQ
                    exact fun _ _ _ _ _ h => h
                  have BD : Below wr.heap.size wr W12 := by rw [← hwd]; exact below_drewB (Below.refl _ _)
                  clear hwd
                  replace E := below_next E BD
                  replace Rn := Rn.below BD
                  replace Rx := Rx.below BD
                  clear BD
                  have S : Kept Nil W12 W12 := Kept.refl _ _
                  have d_Rn := Rn
                  have d_Rx := Rx
                  have hn0 := Rn.2 i (by omega)
                  have hn1 := Rn.2 (i + 1) (by omega)
                  have hxx0 := Rx.2 i (by omega)
                  have hxx1 := Rx.2 (i + 1) (by omega)
                  have hq := range_below (hr i hlt) E
                  have ltn := block_lt_of_cell hn0
                  have ltx := block_lt_of_cell hxx0
                  simp only at ltn ltx
                  refine ah_take (v := (.slice (some ⟨gn, 0, none⟩) (n + 1) (n + 1))) (i := 0) (some 75) rfl rfl (by kernel_rfl) (by kernel_rfl) (by kernel_rfl) rfl (fun W hK => ex_mv rfl rfl) S (fun c a w h => hQP c a _ _ w h) ?_
                  simp only [zp]
                  refine ah_take (v := (.int .i64 (i : Nat))) (i := 1) (some 76) rfl rfl (by kernel_rfl) (by kernel_rfl) (by kernel_rfl) rfl (fun W hK => ex_mv rfl rfl) S (fun c a w h => hQP c a _ _ w h) ?_
                  simp only [zp]
                  refine ah_take (v := (.int .i64 ((i + 1 : Nat) : Int))) (i := 2) (some 77) rfl rfl (by kernel_rfl) (by kernel_rfl) (by kernel_rfl) rfl (fun W hK => ex_bin (u := (.int .i64 (i : Nat))) (r := (.int .i64 1)) rfl rfl rfl (eg3 _ _ _ _ _ _) (add3 _ (by omega) (by omega))) S (fun c a w h => hQP c a _ _ w h) ?_
                  simp only [zp]
                  refine ah_take (v := (.pointer (some ⟨gn, (i + 1), none⟩))) (i := 3) (some 78) rfl rfl (by kernel_rfl) (by kernel_rfl) (by kernel_rfl) rfl (fun W hK => ex_ix36 (k := (i + 1)) rfl rfl rfl rfl (by omega)) S (fun c a w h => hQP c a _ _ w h) ?_
                  simp only [zp]
                  refine ah_take (v := (.int .i64 (N (i + 1)))) (i := 4) (some 79) rfl rfl (by kernel_rfl) (by kernel_rfl) (by kernel_rfl) rfl (fun W hK => ex_load rfl rfl (ld3 (cell_kept hK hn1 (nilN _)))) S (fun c a w h => hQP c a _ _ w h) ?_
                  simp only [zp]
                  refine ah_take (v := (.slice (some ⟨gx, 0, none⟩) (n + 1) (n + 1))) (i := 5) (some 80) rfl rfl (by kernel_rfl) (by kernel_rfl) (by kernel_rfl) rfl (fun W hK => ex_mv rfl rfl) S (fun c a w h => hQP c a _ _ w h) ?_
                  simp only [zp]
                  refine ah_take (v := (.int .i64 (i : Nat))) (i := 6) (some 81) rfl rfl (by kernel_rfl) (by kernel_rfl) (by kernel_rfl) rfl (fun W hK => ex_mv rfl rfl) S (fun c a w h => hQP c a _ _ w h) ?_
                  simp only [zp]
                  refine ah_take (v := (.int .i64 ((i + 1 : Nat) : Int))) (i := 7) (some 82) rfl rfl (by kernel_rfl) (by kernel_rfl) (by kernel_rfl) rfl (fun W hK => ex_bin (u := (.int .i64 (i : Nat))) (r := (.int .i64 1)) rfl rfl rfl (eg3 _ _ _ _ _ _) (add3 _ (by omega) (by omega))) S (fun c a w h => hQP c a _ _ w h) ?_
                  simp only [zp]
                  refine ah_take (v := (.pointer (some ⟨gx, (i + 1), none⟩))) (i := 8) (some 83) rfl rfl (by kernel_rfl) (by kernel_rfl) (by kernel_rfl) rfl (fun W hK => ex_ix36 (k := (i + 1)) rfl rfl rfl rfl (by omega)) S (fun c a w h => hQP c a _ _ w h) ?_
                  simp only [zp]
                  refine ah_take (v := (.int .i64 (X (i + 1)))) (i := 9) (some 84) rfl rfl (by kernel_rfl) (by kernel_rfl) (by kernel_rfl) rfl (fun W hK => ex_load rfl rfl (ld3 (cell_kept hK hxx1 (nilN _)))) S (fun c a w h => hQP c a _ _ w h) ?_
                  simp only [zp]
                  refine ah_take (v := (.agg (HZ 1 (N (i + 1)) (X (i + 1)) 0))) (i := 10) (some 85) rfl rfl (by kernel_rfl) (by kernel_rfl) (by kernel_rfl) rfl (fun W hK => ex_build3 (v1 := (.int .i64 1)) (v2 := (.int .i64 (N (i + 1)))) (v3 := (.int .i64 (X (i + 1)))) rfl rfl rfl rfl (b28 _ _ _ _)) S (fun c a w h => hQP c a _ _ w h) ?_
                  simp only [zp]
                  refine ah_or1 (i := 11) (by kernel_rfl) ?_
                  refine nx_new (fun b => .pointer (some ⟨b, 0, none⟩)) (some 16) rfl rfl rfl (ex_alloc rfl zero28) ?_
                  intro bt16 W13 kt16 gt16 B
                  refine ⟨S.next B, ?_⟩
                  simp only [zp]
                  have gd_bt16 := Nat.le_trans S.size gt16
                  have ge_bt16 := Nat.le_trans E.size gt16
                  replace E := below_next E B
                  replace Rn := Rn.below B
                  replace Rx := Rx.below B
                  replace S := S.next B
                  clear B
                  refine ah_or1 (i := 12) (by kernel_rfl) ?_
                  obtain ⟨W14, hst, kn, K⟩ := put_all (D := (HZ 1 (N (i + 1)) (X (i + 1)) 0)) kt16 (((show ((HZ 0 0 0 0) : Array Value).size = 101 from rfl)).trans ((HZ_is 1 (N (i + 1)) (X (i + 1)) 0).size).symm) (inf28.trans (congrArg some ((HZ_is 1 (N (i + 1)) (X (i + 1)) 0).size).symm)) (HZ_is 1 (N (i + 1)) (X (i + 1)) 0).one
                  refine nx_sk rfl rfl rfl (ex_store rfl rfl rfl hst) (S.putN K gd_bt16) ?_
                  replace E := below_put E ge_bt16 K
                  replace Rn := Rn.put K (fun e => by omega)
                  replace Rx := Rx.put K (fun e => by omega)
                  replace S := S.putN K gd_bt16
                  replace kt16 := kn
                  clear kn K hst
                  refine ah_done (by kernel_rfl) ?_
                  clear hQP
                  subst hQ
                  clear S  d_Rn d_Rx
                  refine wp_seq ?_
                  obtain ⟨W15, hwd⟩ : ∃ wd, W14.drew = wd := ⟨_, rfl⟩
                  refine wp_region_held (S := fun W => Kept Nil W15 W) (by kernel_rfl) ?_
                  show wpAnyH _ _ _ _ _ _ _ _ W14.drew
                  rw [hwd]
                  refine capQ fun Q hQ => ?_
                  have hQP : ∀ c (a : Act) (d : Nat) v w, Q (.panic c) (a.put (some d) v) w → Q (.panic c) a w := by
                    subst hQ
                    exact fun _ _ _ _ _ h => h
                  have BD : Below W14.heap.size W14 W15 := by rw [← hwd]; exact below_drewB (Below.refl _ _)
                  clear hwd
                  replace E := below_next E BD
                  replace Rn := Rn.below BD
                  replace Rx := Rx.below BD
                  replace kt16 := keep BD kt16
                  clear BD
                  have S : Kept Nil W15 W15 := Kept.refl _ _
                  have d_kt16 := kt16
                  have d_Rn := Rn
                  have d_Rx := Rx
                  have hn0 := Rn.2 i (by omega)
                  have hn1 := Rn.2 (i + 1) (by omega)
                  have hxx0 := Rx.2 i (by omega)
                  have hxx1 := Rx.2 (i + 1) (by omega)
                  have hq := range_below (hr i hlt) E
                  refine ah_take (v := (.slice (some ⟨b, off, none⟩) n c)) (i := 0) (some 86) rfl rfl (by kernel_rfl) (by kernel_rfl) (by kernel_rfl) rfl (fun W hK => ex_mv rfl rfl) S (fun c a w h => hQP c a _ _ w h) ?_
                  simp only [zp]
                  refine ah_take (v := (.int .i64 (i : Nat))) (i := 1) (some 87) rfl rfl (by kernel_rfl) (by kernel_rfl) (by kernel_rfl) rfl (fun W hK => ex_mv rfl rfl) S (fun c a w h => hQP c a _ _ w h) ?_
                  simp only [zp]
                  refine ah_take (v := (.pointer (some ⟨b, (off + i * 5), none⟩))) (i := 2) (some 88) rfl rfl (by kernel_rfl) (by kernel_rfl) (by kernel_rfl) rfl (fun W hK => ex_ix35 rfl rfl rfl hlt) S (fun c a w h => hQP c a _ _ w h) ?_
                  simp only [zp]
                  refine ah_take (v := (.agg (RL (qs i)))) (i := 3) (some 89) rfl rfl (by kernel_rfl) (by kernel_rfl) (by kernel_rfl) rfl (fun W hK => ex_load rfl rfl (ld_range (rng_kept hK hq (nilN _)) Try.underlying25 rfl inf25)) S (fun c a w h => hQP c a _ _ w h) ?_
                  simp only [zp]
                  refine ah_take (v := (.agg (HZ 1 (N (i + 1)) (X (i + 1)) 0))) (i := 4) (some 90) rfl rfl (by kernel_rfl) (by kernel_rfl) (by kernel_rfl) rfl (fun W hK => ex_load (p := (.pointer (some ⟨bt16, 0, none⟩))) rfl rfl (ld_all (keepK hK d_kt16 (nilN _)) Try.underlying28 rfl (inf28.trans (congrArg some ((HZ_is 1 (N (i + 1)) (X (i + 1)) 0).size).symm)))) S (fun c a w h => hQP c a _ _ w h) ?_
                  simp only [zp]
                  refine ah_take (v := (.slice (some ⟨gn, 0, none⟩) (n + 1) (n + 1))) (i := 5) (some 91) rfl rfl (by kernel_rfl) (by kernel_rfl) (by kernel_rfl) rfl (fun W hK => ex_mv rfl rfl) S (fun c a w h => hQP c a _ _ w h) ?_
                  simp only [zp]
                  refine ah_take (v := (.int .i64 (i : Nat))) (i := 6) (some 92) rfl rfl (by kernel_rfl) (by kernel_rfl) (by kernel_rfl) rfl (fun W hK => ex_mv rfl rfl) S (fun c a w h => hQP c a _ _ w h) ?_
                  simp only [zp]
                  refine ah_take (v := (.pointer (some ⟨gn, i, none⟩))) (i := 7) (some 93) rfl rfl (by kernel_rfl) (by kernel_rfl) (by kernel_rfl) rfl (fun W hK => ex_ix36 (k := i) rfl rfl rfl rfl (by omega)) S (fun c a w h => hQP c a _ _ w h) ?_
                  simp only [zp]
                  refine ah_take (v := (.int .i64 (N i))) (i := 8) (some 94) rfl rfl (by kernel_rfl) (by kernel_rfl) (by kernel_rfl) rfl (fun W hK => ex_load rfl rfl (ld3 (cell_kept hK hn0 (nilN _)))) S (fun c a w h => hQP c a _ _ w h) ?_
                  simp only [zp]
                  refine ah_take (v := (.slice (some ⟨gx, 0, none⟩) (n + 1) (n + 1))) (i := 9) (some 95) rfl rfl (by kernel_rfl) (by kernel_rfl) (by kernel_rfl) rfl (fun W hK => ex_mv rfl rfl) S (fun c a w h => hQP c a _ _ w h) ?_
                  simp only [zp]
                  refine ah_take (v := (.int .i64 (i : Nat))) (i := 10) (some 96) rfl rfl (by kernel_rfl) (by kernel_rfl) (by kernel_rfl) rfl (fun W hK => ex_mv rfl rfl) S (fun c a w h => hQP c a _ _ w h) ?_
                  simp only [zp]
                  refine ah_take (v := (.pointer (some ⟨gx, i, none⟩))) (i := 11) (some 97) rfl rfl (by kernel_rfl) (by kernel_rfl) (by kernel_rfl) rfl (fun W hK => ex_ix36 (k := i) rfl rfl rfl rfl (by omega)) S (fun c a w h => hQP c a _ _ w h) ?_
                  simp only [zp]
                  refine ah_take (v := (.int .i64 (X i))) (i := 12) (some 98) rfl rfl (by kernel_rfl) (by kernel_rfl) (by kernel_rfl) rfl (fun W hK => ex_load rfl rfl (ld3 (cell_kept hK hxx0 (nilN _)))) S (fun c a w h => hQP c a _ _ w h) ?_
                  simp only [zp]
                  refine ah_take (v := (.int .i64 h)) (i := 13) (some 99) rfl rfl (by kernel_rfl) (by kernel_rfl) (by kernel_rfl) rfl (fun W hK => ex_mv rfl rfl) S (fun c a w h => hQP c a _ _ w h) ?_
                  simp only [zp]
                  refine ah_or1 (i := 14) (by kernel_rfl) ?_
                  refine nx_call (some 100) rfl rfl rfl (fwd_any W15 (HZ_is _ _ _ _) (hqb i hlt) (by show _ ≤ N (i + 1); omega) am2 (FV.trans (if_pos e1))) (ex_call (f := 11) (vs := [(.agg (RL (qs i))), (.agg (HZ 1 (N (i + 1)) (X (i + 1)) 0)), (.int .i64 (N i)), (.int .i64 (X i)), (.int .i64 h)]) rfl (cf11 _) rfl) ?_
                  rintro e W16 ⟨rfl, B⟩
                  refine ⟨_, rfl, S.next B, ?_⟩
                  simp only [zp]
                  replace E := below_next E B
                  replace Rn := Rn.below B
                  replace Rx := Rx.below B
                  replace kt16 := keep B kt16
                  replace S := S.next B
                  refine ah_take (v := (.int .i64 6)) (i := 15) (some 17) rfl rfl (by kernel_rfl) (by kernel_rfl) (by kernel_rfl) rfl (fun W hK => ex_asg rfl rfl) S (fun c a w h => hQP c a _ _ w h) ?_
                  simp only [zp]
                  refine ah_done (by kernel_rfl) ?_
                  clear hQP
                  subst hQ
                  clear S d_kt16 d_Rn d_Rx
                  refine wp_seq ?_
                  obtain ⟨W17, hwd⟩ : ∃ wd, W16.drew = wd := ⟨_, rfl⟩
                  refine wp_region_held (S := fun W => Kept Nil W17 W) (by kernel_rfl) ?_
                  show wpAnyH _ _ _ _ _ _ _ _ W16.drew
                  rw [hwd]
                  refine capQ fun Q hQ => ?_
                  have hQP : ∀ c (a : Act) (d : Nat) v w, Q (.panic c) (a.put (some d) v) w → Q (.panic c) a w := by
                    subst hQ
                    exact fun _ _ _ _ _ h => h
                  have BD : Below W16.heap.size W16 W17 := by rw [← hwd]; exact below_drewB (Below.refl _ _)
                  clear hwd
                  replace E := below_next E BD
                  replace Rn := Rn.below BD
                  replace Rx := Rx.below BD
                  replace kt16 := keep BD kt16
                  clear BD
                  have S : Kept Nil W17 W17 := Kept.refl _ _
                  have d_kt16 := kt16
                  have d_Rn := Rn
                  have d_Rx := Rx
                  have hn0 := Rn.2 i (by omega)
                  have hn1 := Rn.2 (i + 1) (by omega)
                  have hxx0 := Rx.2 i (by omega)
                  have hxx1 := Rx.2 (i + 1) (by omega)
                  have hq := range_below (hr i hlt) E
                  refine ah_take (v := (.slice (some ⟨gx, 0, none⟩) (n + 1) (n + 1))) (i := 0) (some 101) rfl rfl (by kernel_rfl) (by kernel_rfl) (by kernel_rfl) rfl (fun W hK => ex_mv rfl rfl) S (fun c a w h => hQP c a _ _ w h) ?_
                  simp only [zp]
                  refine ah_take (v := (.int .i64 (i : Nat))) (i := 1) (some 102) rfl rfl (by kernel_rfl) (by kernel_rfl) (by kernel_rfl) rfl (fun W hK => ex_mv rfl rfl) S (fun c a w h => hQP c a _ _ w h) ?_
                  simp only [zp]
                  refine ah_take (v := (.pointer (some ⟨gx, i, none⟩))) (i := 2) (some 103) rfl rfl (by kernel_rfl) (by kernel_rfl) (by kernel_rfl) rfl (fun W hK => ex_ix36 (k := i) rfl rfl rfl rfl (by omega)) S (fun c a w h => hQP c a _ _ w h) ?_
                  simp only [zp]
                  refine ah_take (v := (.int .i64 (X i))) (i := 3) (some 104) rfl rfl (by kernel_rfl) (by kernel_rfl) (by kernel_rfl) rfl (fun W hK => ex_load rfl rfl (ld3 (cell_kept hK hxx0 (nilN _)))) S (fun c a w h => hQP c a _ _ w h) ?_
                  simp only [zp]
                  refine ah_take (v := (.int .i64 h)) (i := 4) (some 105) rfl rfl (by kernel_rfl) (by kernel_rfl) (by kernel_rfl) rfl (fun W hK => ex_mv rfl rfl) S (fun c a w h => hQP c a _ _ w h) ?_
                  simp only [zp]
                  refine ah_take (v := (.bool true)) (i := 5) (some 106) rfl rfl (by kernel_rfl) (by kernel_rfl) (by kernel_rfl) rfl (fun W hK => ex_bin (u := (.int .i64 (X i))) (r := (.int .i64 h)) rfl rfl rfl (eg3 _ _ _ _ _ _) (gtr3 _ (decide_eq_true (by omega)))) S (fun c a w h => hQP c a _ _ w h) ?_
                  simp only [zp]
                  refine ah_take (v := (.bool true)) (i := 6) (some 107) rfl rfl (by kernel_rfl) (by kernel_rfl) (by kernel_rfl) rfl (fun W hK => ex_mv rfl rfl) S (fun c a w h => hQP c a _ _ w h) ?_
                  simp only [zp]
                  refine ah_take (v := (.slice (some ⟨gx, 0, none⟩) (n + 1) (n + 1))) (i := 7) (some 108) rfl rfl (by kernel_rfl) (by kernel_rfl) (by kernel_rfl) rfl (fun W hK => ex_mv rfl rfl) S (fun c a w h => hQP c a _ _ w h) ?_
                  simp only [zp]
                  refine ah_take (v := (.int .i64 (i : Nat))) (i := 8) (some 109) rfl rfl (by kernel_rfl) (by kernel_rfl) (by kernel_rfl) rfl (fun W hK => ex_mv rfl rfl) S (fun c a w h => hQP c a _ _ w h) ?_
                  simp only [zp]
                  refine ah_take (v := (.pointer (some ⟨gx, i, none⟩))) (i := 9) (some 110) rfl rfl (by kernel_rfl) (by kernel_rfl) (by kernel_rfl) rfl (fun W hK => ex_ix36 (k := i) rfl rfl rfl rfl (by omega)) S (fun c a w h => hQP c a _ _ w h) ?_
                  simp only [zp]
                  refine ah_take (v := (.int .i64 (X i))) (i := 10) (some 111) rfl rfl (by kernel_rfl) (by kernel_rfl) (by kernel_rfl) rfl (fun W hK => ex_load rfl rfl (ld3 (cell_kept hK hxx0 (nilN _)))) S (fun c a w h => hQP c a _ _ w h) ?_
                  simp only [zp]
                  refine ah_take (v := (.int .i64 h)) (i := 11) (some 112) rfl rfl (by kernel_rfl) (by kernel_rfl) (by kernel_rfl) rfl (fun W hK => ex_mv rfl rfl) S (fun c a w h => hQP c a _ _ w h) ?_
                  simp only [zp]
                  refine ah_take (v := (.int .i64 (X i - h))) (i := 12) (some 113) rfl rfl (by kernel_rfl) (by kernel_rfl) (by kernel_rfl) rfl (fun W hK => ex_bin (u := (.int .i64 (X i))) (r := (.int .i64 h)) rfl rfl rfl (eg3 _ _ _ _ _ _) (sub3 _ rfl (by omega))) S (fun c a w h => hQP c a _ _ w h) ?_
                  simp only [zp]
                  refine ah_take (v := (.slice (some ⟨b, off, none⟩) n c)) (i := 13) (some 114) rfl rfl (by kernel_rfl) (by kernel_rfl) (by kernel_rfl) rfl (fun W hK => ex_mv rfl rfl) S (fun c a w h => hQP c a _ _ w h) ?_
                  simp only [zp]
                  refine ah_take (v := (.int .i64 (i : Nat))) (i := 14) (some 115) rfl rfl (by kernel_rfl) (by kernel_rfl) (by kernel_rfl) rfl (fun W hK => ex_mv rfl rfl) S (fun c a w h => hQP c a _ _ w h) ?_
                  simp only [zp]
                  refine ah_take (v := (.pointer (some ⟨b, (off + i * 5), none⟩))) (i := 15) (some 116) rfl rfl (by kernel_rfl) (by kernel_rfl) (by kernel_rfl) rfl (fun W hK => ex_ix35 rfl rfl rfl hlt) S (fun c a w h => hQP c a _ _ w h) ?_
                  simp only [zp]
                  refine ah_take (v := (.pointer (some ⟨b, (off + i * 5 + 4), none⟩))) (i := 16) (some 117) rfl rfl (by kernel_rfl) (by kernel_rfl) (by kernel_rfl) rfl (fun W hK => ex_fa rfl rfl (faL _ _ _)) S (fun c a w h => hQP c a _ _ w h) ?_
                  simp only [zp]
                  refine ah_take (v := (.int .i64 (qs i).f)) (i := 17) (some 118) rfl rfl (by kernel_rfl) (by kernel_rfl) (by kernel_rfl) rfl (fun W hK => ex_load rfl rfl (ld3 (cell_kept hK (hq 4 _ rfl) (nilN _)))) S (fun c a w h => hQP c a _ _ w h) ?_
                  simp only [zp]
                  refine ah_take (v := (.bool true)) (i := 18) (some 119) rfl rfl (by kernel_rfl) (by kernel_rfl) (by kernel_rfl) rfl (fun W hK => ex_bin (u := (.int .i64 (X i - h))) (r := (.int .i64 (qs i).f)) rfl rfl rfl (eg3 _ _ _ _ _ _) (gtr3 _ (decide_eq_true (by omega)))) S (fun c a w h => hQP c a _ _ w h) ?_
                  simp only [zp]
                  refine ah_take (v := (.bool true)) (i := 19) (some 120) rfl rfl (by kernel_rfl) (by kernel_rfl) (by kernel_rfl) rfl (fun W hK => ex_pkT rfl rfl rfl) S (fun c a w h => hQP c a _ _ w h) ?_
                  simp only [zp]
                  refine ah_take (v := (.bool true)) (i := 20) (some 18) rfl rfl (by kernel_rfl) (by kernel_rfl) (by kernel_rfl) rfl (fun W hK => ex_asg rfl rfl) S (fun c a w h => hQP c a _ _ w h) ?_
                  simp only [zp]
                  refine ah_done (by kernel_rfl) ?_
                  clear hQP
                  subst hQ
                  clear S d_kt16 d_Rn d_Rx
                  refine wp_seq ?_
                  obtain ⟨W18, hwd⟩ : ∃ wd, W17.drew = wd := ⟨_, rfl⟩
                  refine wp_region_held (S := fun W => Kept Nil W18 W) (by kernel_rfl) ?_
                  show wpAnyH _ _ _ _ _ _ _ _ W17.drew
                  rw [hwd]
                  refine capQ fun Q hQ => ?_
                  have hQP : ∀ c (a : Act) (d : Nat) v w, Q (.panic c) (a.put (some d) v) w → Q (.panic c) a w := by
                    subst hQ
                    exact fun _ _ _ _ _ h => h
                  have BD : Below W17.heap.size W17 W18 := by rw [← hwd]; exact below_drewB (Below.refl _ _)
                  clear hwd
                  replace E := below_next E BD
                  replace Rn := Rn.below BD
                  replace Rx := Rx.below BD
                  replace kt16 := keep BD kt16
                  clear BD
                  have S : Kept Nil W18 W18 := Kept.refl _ _
                  have d_kt16 := kt16
                  have d_Rn := Rn
                  have d_Rx := Rx
                  have hn0 := Rn.2 i (by omega)
                  have hn1 := Rn.2 (i + 1) (by omega)
                  have hxx0 := Rx.2 i (by omega)
                  have hxx1 := Rx.2 (i + 1) (by omega)
                  have hq := range_below (hr i hlt) E
                  refine ah_take (v := (.slice (some ⟨gx, 0, none⟩) (n + 1) (n + 1))) (i := 0) (some 121) rfl rfl (by kernel_rfl) (by kernel_rfl) (by kernel_rfl) rfl (fun W hK => ex_mv rfl rfl) S (fun c a w h => hQP c a _ _ w h) ?_
                  simp only [zp]
                  refine ah_take (v := (.int .i64 (i : Nat))) (i := 1) (some 122) rfl rfl (by kernel_rfl) (by kernel_rfl) (by kernel_rfl) rfl (fun W hK => ex_mv rfl rfl) S (fun c a w h => hQP c a _ _ w h) ?_
                  simp only [zp]
                  refine ah_take (v := (.int .i64 ((i + 1 : Nat) : Int))) (i := 2) (some 123) rfl rfl (by kernel_rfl) (by kernel_rfl) (by kernel_rfl) rfl (fun W hK => ex_bin (u := (.int .i64 (i : Nat))) (r := (.int .i64 1)) rfl rfl rfl (eg3 _ _ _ _ _ _) (add3 _ (by omega) (by omega))) S (fun c a w h => hQP c a _ _ w h) ?_
                  simp only [zp]
                  refine ah_take (v := (.pointer (some ⟨gx, (i + 1), none⟩))) (i := 3) (some 124) rfl rfl (by kernel_rfl) (by kernel_rfl) (by kernel_rfl) rfl (fun W hK => ex_ix36 (k := (i + 1)) rfl rfl rfl rfl (by omega)) S (fun c a w h => hQP c a _ _ w h) ?_
                  simp only [zp]
                  refine ah_take (v := (.int .i64 (X (i + 1)))) (i := 4) (some 125) rfl rfl (by kernel_rfl) (by kernel_rfl) (by kernel_rfl) rfl (fun W hK => ex_load rfl rfl (ld3 (cell_kept hK hxx1 (nilN _)))) S (fun c a w h => hQP c a _ _ w h) ?_
                  simp only [zp]
                  refine ah_take (v := (.int .i64 h)) (i := 5) (some 126) rfl rfl (by kernel_rfl) (by kernel_rfl) (by kernel_rfl) rfl (fun W hK => ex_mv rfl rfl) S (fun c a w h => hQP c a _ _ w h) ?_
                  simp only [zp]
                  refine ah_take (v := (.bool false)) (i := 6) (some 127) rfl rfl (by kernel_rfl) (by kernel_rfl) (by kernel_rfl) rfl (fun W hK => ex_bin (u := (.int .i64 (X (i + 1)))) (r := (.int .i64 h)) rfl rfl rfl (eg3 _ _ _ _ _ _) (lss3 _ (decide_eq_false (by omega)))) S (fun c a w h => hQP c a _ _ w h) ?_
                  simp only [zp]
                  refine ah_take (v := (.bool false)) (i := 7) (some 128) rfl rfl (by kernel_rfl) (by kernel_rfl) (by kernel_rfl) rfl (fun W hK => ex_mv rfl rfl) S (fun c a w h => hQP c a _ _ w h) ?_
                  simp only [zp]
                  refine ah_take (v := (.slice (some ⟨gx, 0, none⟩) (n + 1) (n + 1))) (i := 8) (some 129) rfl rfl (by kernel_rfl) (by kernel_rfl) (by kernel_rfl) rfl (fun W hK => ex_mv rfl rfl) S (fun c a w h => hQP c a _ _ w h) ?_
                  simp only [zp]
                  refine ah_take (v := (.int .i64 (i : Nat))) (i := 9) (some 130) rfl rfl (by kernel_rfl) (by kernel_rfl) (by kernel_rfl) rfl (fun W hK => ex_mv rfl rfl) S (fun c a w h => hQP c a _ _ w h) ?_
                  simp only [zp]
                  refine ah_take (v := (.int .i64 ((i + 1 : Nat) : Int))) (i := 10) (some 131) rfl rfl (by kernel_rfl) (by kernel_rfl) (by kernel_rfl) rfl (fun W hK => ex_bin (u := (.int .i64 (i : Nat))) (r := (.int .i64 1)) rfl rfl rfl (eg3 _ _ _ _ _ _) (add3 _ (by omega) (by omega))) S (fun c a w h => hQP c a _ _ w h) ?_
                  simp only [zp]
                  refine ah_take (v := (.pointer (some ⟨gx, (i + 1), none⟩))) (i := 11) (some 132) rfl rfl (by kernel_rfl) (by kernel_rfl) (by kernel_rfl) rfl (fun W hK => ex_ix36 (k := (i + 1)) rfl rfl rfl rfl (by omega)) S (fun c a w h => hQP c a _ _ w h) ?_
                  simp only [zp]
                  refine ah_take (v := (.int .i64 (X (i + 1)))) (i := 12) (some 133) rfl rfl (by kernel_rfl) (by kernel_rfl) (by kernel_rfl) rfl (fun W hK => ex_load rfl rfl (ld3 (cell_kept hK hxx1 (nilN _)))) S (fun c a w h => hQP c a _ _ w h) ?_
                  simp only [zp]
                  refine ah_take (v := (.int .i64 h)) (i := 13) (some 134) rfl rfl (by kernel_rfl) (by kernel_rfl) (by kernel_rfl) rfl (fun W hK => ex_mv rfl rfl) S (fun c a w h => hQP c a _ _ w h) ?_
                  simp only [zp]
                  refine ah_take (v := (.int .i64 (X (i + 1) - h))) (i := 14) (some 135) rfl rfl (by kernel_rfl) (by kernel_rfl) (by kernel_rfl) rfl (fun W hK => ex_bin (u := (.int .i64 (X (i + 1)))) (r := (.int .i64 h)) rfl rfl rfl (eg3 _ _ _ _ _ _) (sub3 _ rfl (by omega))) S (fun c a w h => hQP c a _ _ w h) ?_
                  simp only [zp]
                  refine ah_take (v := (.slice (some ⟨b, off, none⟩) n c)) (i := 15) (some 136) rfl rfl (by kernel_rfl) (by kernel_rfl) (by kernel_rfl) rfl (fun W hK => ex_mv rfl rfl) S (fun c a w h => hQP c a _ _ w h) ?_
                  simp only [zp]
                  refine ah_take (v := (.int .i64 (i : Nat))) (i := 16) (some 137) rfl rfl (by kernel_rfl) (by kernel_rfl) (by kernel_rfl) rfl (fun W hK => ex_mv rfl rfl) S (fun c a w h => hQP c a _ _ w h) ?_
                  simp only [zp]
                  refine ah_take (v := (.pointer (some ⟨b, (off + i * 5), none⟩))) (i := 17) (some 138) rfl rfl (by kernel_rfl) (by kernel_rfl) (by kernel_rfl) rfl (fun W hK => ex_ix35 rfl rfl rfl hlt) S (fun c a w h => hQP c a _ _ w h) ?_
                  simp only [zp]
                  refine ah_take (v := (.pointer (some ⟨b, (off + i * 5 + 3), none⟩))) (i := 18) (some 139) rfl rfl (by kernel_rfl) (by kernel_rfl) (by kernel_rfl) rfl (fun W hK => ex_fa rfl rfl (faG _ _ _)) S (fun c a w h => hQP c a _ _ w h) ?_
                  simp only [zp]
                  refine ah_take (v := (.int .i64 (qs i).g)) (i := 19) (some 140) rfl rfl (by kernel_rfl) (by kernel_rfl) (by kernel_rfl) rfl (fun W hK => ex_load rfl rfl (ld3 (cell_kept hK (hq 3 _ rfl) (nilN _)))) S (fun c a w h => hQP c a _ _ w h) ?_
                  simp only [zp]
                  refine ah_take (v := (.bool true)) (i := 20) (some 141) rfl rfl (by kernel_rfl) (by kernel_rfl) (by kernel_rfl) rfl (fun W hK => ex_bin (u := (.int .i64 (X (i + 1) - h))) (r := (.int .i64 (qs i).g)) rfl rfl rfl (eg3 _ _ _ _ _ _) (leq3 _ (decide_eq_true (by omega)))) S (fun c a w h => hQP c a _ _ w h) ?_
                  simp only [zp]
                  refine ah_take (v := (.bool true)) (i := 21) (some 142) rfl rfl (by kernel_rfl) (by kernel_rfl) (by kernel_rfl) rfl (fun W hK => ex_pkF rfl rfl rfl) S (fun c a w h => hQP c a _ _ w h) ?_
                  simp only [zp]
                  refine ah_take (v := (.bool true)) (i := 22) (some 19) rfl rfl (by kernel_rfl) (by kernel_rfl) (by kernel_rfl) rfl (fun W hK => ex_asg rfl rfl) S (fun c a w h => hQP c a _ _ w h) ?_
                  simp only [zp]
                  refine ah_done (by kernel_rfl) ?_
                  clear hQP
                  subst hQ
                  clear S d_kt16 d_Rn d_Rx
                  refine wq fun Q hQ => ?_
                  refine sm (.bool true) 143 rfl rfl rfl rfl ?_
                  simp only [zp]
                  refine sm (.bool true) 144 rfl rfl rfl rfl ?_
                  simp only [zp]
                  refine sm (.int .i64 6) 145 rfl rfl rfl rfl ?_
                  simp only [zp]
                  refine sv (.bool false) 146 rfl rfl (ex_bin (u := (.int .i64 6)) (r := (.int .i64 6)) rfl rfl rfl (eg3 _ _ _ _ _ _) (neq3 _ (by decide))) ?_
                  simp only [zp]
                  refine sv (.bool false) 147 rfl rfl (ex_pkT rfl rfl rfl) ?_
                  simp only [zp]
                  refine sm (.bool false) 148 rfl rfl rfl rfl ?_
                  simp only [zp]
                  refine sm (.bool true) 149 rfl rfl rfl rfl ?_
                  simp only [zp]
                  refine sv (.bool false) 150 rfl rfl (ex_not rfl rfl rfl) ?_
                  simp only [zp]
                  refine sm (.bool false) 151 rfl rfl rfl rfl ?_
                  simp only [zp]
                  refine sn 152 rfl rfl ?_
                  simp only [zp]
                  refine sv (.bool false) 153 rfl rfl (ex_pkF rfl rfl rfl) ?_
                  simp only [zp]
                  refine sm (.bool false) 154 rfl rfl rfl rfl ?_
                  simp only [zp]
                  refine sn 155 rfl rfl ?_
                  simp only [zp]
                  refine sn 156 rfl rfl ?_
                  simp only [zp]
                  refine sv (.bool false) 157 rfl rfl (ex_pkF rfl rfl rfl) ?_
                  simp only [zp]
                  refine sv (.bool false) 158 rfl rfl (ex_pkF rfl rfl rfl) ?_
                  simp only [zp]
                  refine sm (.bool false) 159 rfl rfl rfl rfl ?_
                  simp only [zp]
                  refine sm (.bool true) 160 rfl rfl rfl rfl ?_
                  simp only [zp]
                  refine sv (.bool false) 161 rfl rfl (ex_not rfl rfl rfl) ?_
                  simp only [zp]
                  refine sm (.bool false) 162 rfl rfl rfl rfl ?_
                  simp only [zp]
                  refine sn 163 rfl rfl ?_
                  simp only [zp]
                  refine sn 164 rfl rfl ?_
                  simp only [zp]
                  refine sv (.bool false) 165 rfl rfl (ex_pkF rfl rfl rfl) ?_
                  simp only [zp]
                  refine sm (.bool false) 166 rfl rfl rfl rfl ?_
                  simp only [zp]
                  refine sn 167 rfl rfl ?_
                  simp only [zp]
                  refine sn 168 rfl rfl ?_
                  simp only [zp]
                  refine sv (.bool false) 169 rfl rfl (ex_pkF rfl rfl rfl) ?_
                  simp only [zp]
                  refine sv (.bool false) 170 rfl rfl (ex_pkF rfl rfl rfl) ?_
                  simp only [zp]
                  refine st_end ?_
                  subst hQ
                  refine wp_cond_false rfl ?_
                  refine wp_skip ?_
                  refine wl_in (wl_cap fun Q hQ => ?_)
                  refine sm (.int .i64 (i : Nat)) 73 rfl rfl rfl rfl ?_
                  simp only [zp]
                  refine sv (.int .i64 ((i + 1 : Nat) : Int)) 74 rfl rfl (ex_bin rfl rfl rfl (eg3 _ _ _ _ _ _) (add3 _ (by omega) (by omega))) ?_
                  simp only [zp]
                  refine sg (.int .i64 ((i + 1 : Nat) : Int)) 15 rfl rfl rfl rfl ?_
                  simp only [zp]
                  refine st_end ?_
                  subst hQ
                  refine then_go ?_
                  go_roundw
                  case rel => exact ⟨i + 1, by omega, rfl, E, Rn, Rx⟩
                  case measure => simp [intOf]; omega
                · skip
                  refine wp_seq ?_
                  refine wq fun Q hQ => ?_
                  refine sm (.int .i64 (i : Nat)) 69 rfl rfl rfl rfl ?_
                  simp only [zp]
                  refine sm (.slice (some ⟨b, off, none⟩) n c) 70 rfl rfl rfl rfl ?_
                  simp only [zp]
                  refine sv (.int .i64 (n : Nat)) 71 rfl rfl (ex_len rfl rfl (len35 _ _ _ _ _)) ?_
                  simp only [zp]
                  refine sv (.bool true) 72 rfl rfl (ex_bin (u := (.int .i64 (i : Nat))) (r := (.int .i64 (n : Nat))) rfl rfl rfl (eg3 _ _ _ _ _ _) (lss3 _ (decide_eq_true (by omega)))) ?_
                  simp only [zp]
                  refine st_end ?_
                  subst hQ
                  refine wp_cond_true rfl ?_
                  refine wp_skip ?_
                  refine wp_seq ?_
                  refine wp_block ?_
                  refine wp_seq ?_
                  obtain ⟨W19, hwd⟩ : ∃ wd, wr.drew = wd := ⟨_, rfl⟩
                  refine wp_region_held (S := fun W => Kept Nil W19 W) (by kernel_rfl) ?_
                  show wpAnyH _ _ _ _ _ _ _ _ wr.drew
                  rw [hwd]
                  refine capQ fun Q hQ => ?_
                  have hQP : ∀ c (a : Act) (d : Nat) v w, Q (.panic c) (a.put (some d) v) w → Q (.panic c) a w := by
                    subst hQ
                    exact fun _ _ _ _ _ h => h
                  have BD : Below wr.heap.size wr W19 := by rw [← hwd]; exact below_drewB (Below.refl _ _)
                  clear hwd
                  replace E := below_next E BD
                  replace Rn := Rn.below BD
                  replace Rx := Rx.below BD
                  clear BD
                  have S : Kept Nil W19 W19 := Kept.refl _ _
                  have d_Rn := Rn
                  have d_Rx := Rx
                  have hn0 := Rn.2 i (by omega)
                  have hn1 := Rn.2 (i + 1) (by omega)
                  have hxx0 := Rx.2 i (by omega)
                  have hxx1 := Rx.2 (i + 1) (by omega)
                  have hq := range_below (hr i hlt) E
                  have ltn := block_lt_of_cell hn0
                  have ltx := block_lt_of_cell hxx0
                  simp only at ltn ltx
                  refine ah_take (v := (.slice (some ⟨gn, 0, none⟩) (n + 1) (n + 1))) (i := 0) (some 75) rfl rfl (by kernel_rfl) (by kernel_rfl) (by kernel_rfl) rfl (fun W hK => ex_mv rfl rfl) S (fun c a w h => hQP c a _ _ w h) ?_
                  simp only [zp]
                  refine ah_take (v := (.int .i64 (i : Nat))) (i := 1) (some 76) rfl rfl (by kernel_rfl) (by kernel_rfl) (by kernel_rfl) rfl (fun W hK => ex_mv rfl rfl) S (fun c a w h => hQP c a _ _ w h) ?_
                  simp only [zp]
                  refine ah_take (v := (.int .i64 ((i + 1 : Nat) : Int))) (i := 2) (some 77) rfl rfl (by kernel_rfl) (by kernel_rfl) (by kernel_rfl) rfl (fun W hK => ex_bin (u := (.int .i64 (i : Nat))) (r := (.int .i64 1)) rfl rfl rfl (eg3 _ _ _ _ _ _) (add3 _ (by omega) (by omega))) S (fun c a w h => hQP c a _ _ w h) ?_
                  simp only [zp]
                  refine ah_take (v := (.pointer (some ⟨gn, (i + 1), none⟩))) (i := 3) (some 78) rfl rfl (by kernel_rfl) (by kernel_rfl) (by kernel_rfl) rfl (fun W hK => ex_ix36 (k := (i + 1)) rfl rfl rfl rfl (by omega)) S (fun c a w h => hQP c a _ _ w h) ?_
                  simp only [zp]
                  refine ah_take (v := (.int .i64 (N (i + 1)))) (i := 4) (some 79) rfl rfl (by kernel_rfl) (by kernel_rfl) (by kernel_rfl) rfl (fun W hK => ex_load rfl rfl (ld3 (cell_kept hK hn1 (nilN _)))) S (fun c a w h => hQP c a _ _ w h) ?_
                  simp only [zp]
                  refine ah_take (v := (.slice (some ⟨gx, 0, none⟩) (n + 1) (n + 1))) (i := 5) (some 80) rfl rfl (by kernel_rfl) (by kernel_rfl) (by kernel_rfl) rfl (fun W hK => ex_mv rfl rfl) S (fun c a w h => hQP c a _ _ w h) ?_
                  simp only [zp]
                  refine ah_take (v := (.int .i64 (i : Nat))) (i := 6) (some 81) rfl rfl (by kernel_rfl) (by kernel_rfl) (by kernel_rfl) rfl (fun W hK => ex_mv rfl rfl) S (fun c a w h => hQP c a _ _ w h) ?_
                  simp only [zp]
                  refine ah_take (v := (.int .i64 ((i + 1 : Nat) : Int))) (i := 7) (some 82) rfl rfl (by kernel_rfl) (by kernel_rfl) (by kernel_rfl) rfl (fun W hK => ex_bin (u := (.int .i64 (i : Nat))) (r := (.int .i64 1)) rfl rfl rfl (eg3 _ _ _ _ _ _) (add3 _ (by omega) (by omega))) S (fun c a w h => hQP c a _ _ w h) ?_
                  simp only [zp]
                  refine ah_take (v := (.pointer (some ⟨gx, (i + 1), none⟩))) (i := 8) (some 83) rfl rfl (by kernel_rfl) (by kernel_rfl) (by kernel_rfl) rfl (fun W hK => ex_ix36 (k := (i + 1)) rfl rfl rfl rfl (by omega)) S (fun c a w h => hQP c a _ _ w h) ?_
                  simp only [zp]
                  refine ah_take (v := (.int .i64 (X (i + 1)))) (i := 9) (some 84) rfl rfl (by kernel_rfl) (by kernel_rfl) (by kernel_rfl) rfl (fun W hK => ex_load rfl rfl (ld3 (cell_kept hK hxx1 (nilN _)))) S (fun c a w h => hQP c a _ _ w h) ?_
                  simp only [zp]
                  refine ah_take (v := (.agg (HZ 1 (N (i + 1)) (X (i + 1)) 0))) (i := 10) (some 85) rfl rfl (by kernel_rfl) (by kernel_rfl) (by kernel_rfl) rfl (fun W hK => ex_build3 (v1 := (.int .i64 1)) (v2 := (.int .i64 (N (i + 1)))) (v3 := (.int .i64 (X (i + 1)))) rfl rfl rfl rfl (b28 _ _ _ _)) S (fun c a w h => hQP c a _ _ w h) ?_
                  simp only [zp]
                  refine ah_or1 (i := 11) (by kernel_rfl) ?_
                  refine nx_new (fun b => .pointer (some ⟨b, 0, none⟩)) (some 16) rfl rfl rfl (ex_alloc rfl zero28) ?_
                  intro bt16 W20 kt16 gt16 B
                  refine ⟨S.next B, ?_⟩
                  simp only [zp]
                  have gd_bt16 := Nat.le_trans S.size gt16
                  have ge_bt16 := Nat.le_trans E.size gt16
                  replace E := below_next E B
                  replace Rn := Rn.below B
                  replace Rx := Rx.below B
                  replace S := S.next B
                  clear B
                  refine ah_or1 (i := 12) (by kernel_rfl) ?_
                  obtain ⟨W21, hst, kn, K⟩ := put_all (D := (HZ 1 (N (i + 1)) (X (i + 1)) 0)) kt16 (((show ((HZ 0 0 0 0) : Array Value).size = 101 from rfl)).trans ((HZ_is 1 (N (i + 1)) (X (i + 1)) 0).size).symm) (inf28.trans (congrArg some ((HZ_is 1 (N (i + 1)) (X (i + 1)) 0).size).symm)) (HZ_is 1 (N (i + 1)) (X (i + 1)) 0).one
                  refine nx_sk rfl rfl rfl (ex_store rfl rfl rfl hst) (S.putN K gd_bt16) ?_
                  replace E := below_put E ge_bt16 K
                  replace Rn := Rn.put K (fun e => by omega)
                  replace Rx := Rx.put K (fun e => by omega)
                  replace S := S.putN K gd_bt16
                  replace kt16 := kn
                  clear kn K hst
                  refine ah_done (by kernel_rfl) ?_
                  clear hQP
                  subst hQ
                  clear S  d_Rn d_Rx
                  refine wp_seq ?_
                  obtain ⟨W22, hwd⟩ : ∃ wd, W21.drew = wd := ⟨_, rfl⟩
                  refine wp_region_held (S := fun W => Kept Nil W22 W) (by kernel_rfl) ?_
                  show wpAnyH _ _ _ _ _ _ _ _ W21.drew
                  rw [hwd]
                  refine capQ fun Q hQ => ?_
                  have hQP : ∀ c (a : Act) (d : Nat) v w, Q (.panic c) (a.put (some d) v) w → Q (.panic c) a w := by
                    subst hQ
                    exact fun _ _ _ _ _ h => h
                  have BD : Below W21.heap.size W21 W22 := by rw [← hwd]; exact below_drewB (Below.refl _ _)
                  clear hwd
                  replace E := below_next E BD
                  replace Rn := Rn.below BD
                  replace Rx := Rx.below BD
                  replace kt16 := keep BD kt16
                  clear BD
                  have S : Kept Nil W22 W22 := Kept.refl _ _
                  have d_kt16 := kt16
                  have d_Rn := Rn
                  have d_Rx := Rx
                  have hn0 := Rn.2 i (by omega)
                  have hn1 := Rn.2 (i + 1) (by omega)
                  have hxx0 := Rx.2 i (by omega)
                  have hxx1 := Rx.2 (i + 1) (by omega)
                  have hq := range_below (hr i hlt) E
                  refine ah_take (v := (.slice (some ⟨b, off, none⟩) n c)) (i := 0) (some 86) rfl rfl (by kernel_rfl) (by kernel_rfl) (by kernel_rfl) rfl (fun W hK => ex_mv rfl rfl) S (fun c a w h => hQP c a _ _ w h) ?_
                  simp only [zp]
                  refine ah_take (v := (.int .i64 (i : Nat))) (i := 1) (some 87) rfl rfl (by kernel_rfl) (by kernel_rfl) (by kernel_rfl) rfl (fun W hK => ex_mv rfl rfl) S (fun c a w h => hQP c a _ _ w h) ?_
                  simp only [zp]
                  refine ah_take (v := (.pointer (some ⟨b, (off + i * 5), none⟩))) (i := 2) (some 88) rfl rfl (by kernel_rfl) (by kernel_rfl) (by kernel_rfl) rfl (fun W hK => ex_ix35 rfl rfl rfl hlt) S (fun c a w h => hQP c a _ _ w h) ?_
                  simp only [zp]
                  refine ah_take (v := (.agg (RL (qs i)))) (i := 3) (some 89) rfl rfl (by kernel_rfl) (by kernel_rfl) (by kernel_rfl) rfl (fun W hK => ex_load rfl rfl (ld_range (rng_kept hK hq (nilN _)) Try.underlying25 rfl inf25)) S (fun c a w h => hQP c a _ _ w h) ?_
                  simp only [zp]
                  refine ah_take (v := (.agg (HZ 1 (N (i + 1)) (X (i + 1)) 0))) (i := 4) (some 90) rfl rfl (by kernel_rfl) (by kernel_rfl) (by kernel_rfl) rfl (fun W hK => ex_load (p := (.pointer (some ⟨bt16, 0, none⟩))) rfl rfl (ld_all (keepK hK d_kt16 (nilN _)) Try.underlying28 rfl (inf28.trans (congrArg some ((HZ_is 1 (N (i + 1)) (X (i + 1)) 0).size).symm)))) S (fun c a w h => hQP c a _ _ w h) ?_
                  simp only [zp]
                  refine ah_take (v := (.slice (some ⟨gn, 0, none⟩) (n + 1) (n + 1))) (i := 5) (some 91) rfl rfl (by kernel_rfl) (by kernel_rfl) (by kernel_rfl) rfl (fun W hK => ex_mv rfl rfl) S (fun c a w h => hQP c a _ _ w h) ?_
                  simp only [zp]
                  refine ah_take (v := (.int .i64 (i : Nat))) (i := 6) (some 92) rfl rfl (by kernel_rfl) (by kernel_rfl) (by kernel_rfl) rfl (fun W hK => ex_mv rfl rfl) S (fun c a w h => hQP c a _ _ w h) ?_
                  simp only [zp]
                  refine ah_take (v := (.pointer (some ⟨gn, i, none⟩))) (i := 7) (some 93) rfl rfl (by kernel_rfl) (by kernel_rfl) (by kernel_rfl) rfl (fun W hK => ex_ix36 (k := i) rfl rfl rfl rfl (by omega)) S (fun c a w h => hQP c a _ _ w h) ?_
                  simp only [zp]
                  refine ah_take (v := (.int .i64 (N i))) (i := 8) (some 94) rfl rfl (by kernel_rfl) (by kernel_rfl) (by kernel_rfl) rfl (fun W hK => ex_load rfl rfl (ld3 (cell_kept hK hn0 (nilN _)))) S (fun c a w h => hQP c a _ _ w h) ?_
                  simp only [zp]
                  refine ah_take (v := (.slice (some ⟨gx, 0, none⟩) (n + 1) (n + 1))) (i := 9) (some 95) rfl rfl (by kernel_rfl) (by kernel_rfl) (by kernel_rfl) rfl (fun W hK => ex_mv rfl rfl) S (fun c a w h => hQP c a _ _ w h) ?_
                  simp only [zp]
                  refine ah_take (v := (.int .i64 (i : Nat))) (i := 10) (some 96) rfl rfl (by kernel_rfl) (by kernel_rfl) (by kernel_rfl) rfl (fun W hK => ex_mv rfl rfl) S (fun c a w h => hQP c a _ _ w h) ?_
                  simp only [zp]
                  refine ah_take (v := (.pointer (some ⟨gx, i, none⟩))) (i := 11) (some 97) rfl rfl (by kernel_rfl) (by kernel_rfl) (by kernel_rfl) rfl (fun W hK => ex_ix36 (k := i) rfl rfl rfl rfl (by omega)) S (fun c a w h => hQP c a _ _ w h) ?_
                  simp only [zp]
                  refine ah_take (v := (.int .i64 (X i))) (i := 12) (some 98) rfl rfl (by kernel_rfl) (by kernel_rfl) (by kernel_rfl) rfl (fun W hK => ex_load rfl rfl (ld3 (cell_kept hK hxx0 (nilN _)))) S (fun c a w h => hQP c a _ _ w h) ?_
                  simp only [zp]
                  refine ah_take (v := (.int .i64 h)) (i := 13) (some 99) rfl rfl (by kernel_rfl) (by kernel_rfl) (by kernel_rfl) rfl (fun W hK => ex_mv rfl rfl) S (fun c a w h => hQP c a _ _ w h) ?_
                  simp only [zp]
                  refine ah_or1 (i := 14) (by kernel_rfl) ?_
                  refine nx_call (some 100) rfl rfl rfl (fwd_any W22 (HZ_is _ _ _ _) (hqb i hlt) (by show _ ≤ N (i + 1); omega) am2 (FV.trans (if_pos e1))) (ex_call (f := 11) (vs := [(.agg (RL (qs i))), (.agg (HZ 1 (N (i + 1)) (X (i + 1)) 0)), (.int .i64 (N i)), (.int .i64 (X i)), (.int .i64 h)]) rfl (cf11 _) rfl) ?_
                  rintro e W23 ⟨rfl, B⟩
                  refine ⟨_, rfl, S.next B, ?_⟩
                  simp only [zp]
                  replace E := below_next E B
                  replace Rn := Rn.below B
                  replace Rx := Rx.below B
                  replace kt16 := keep B kt16
                  replace S := S.next B
                  refine ah_take (v := (.int .i64 6)) (i := 15) (some 17) rfl rfl (by kernel_rfl) (by kernel_rfl) (by kernel_rfl) rfl (fun W hK => ex_asg rfl rfl) S (fun c a w h => hQP c a _ _ w h) ?_
                  simp only [zp]
                  refine ah_done (by kernel_rfl) ?_
                  clear hQP
                  subst hQ
                  clear S d_kt16 d_Rn d_Rx
                  refine wp_seq ?_
                  obtain ⟨W24, hwd⟩ : ∃ wd, W23.drew = wd := ⟨_, rfl⟩
                  refine wp_region_held (S := fun W => Kept Nil W24 W) (by kernel_rfl) ?_
                  show wpAnyH _ _ _ _ _ _ _ _ W23.drew
                  rw [hwd]
                  refine capQ fun Q hQ => ?_
                  have hQP : ∀ c (a : Act) (d : Nat) v w, Q (.panic c) (a.put (some d) v) w → Q (.panic c) a w := by
                    subst hQ
                    exact fun _ _ _ _ _ h => h
                  have BD : Below W23.heap.size W23 W24 := by rw [← hwd]; exact below_drewB (Below.refl _ _)
                  clear hwd
                  replace E := below_next E BD
                  replace Rn := Rn.below BD
                  replace Rx := Rx.below BD
                  replace kt16 := keep BD kt16
                  clear BD
                  have S : Kept Nil W24 W24 := Kept.refl _ _
                  have d_kt16 := kt16
                  have d_Rn := Rn
                  have d_Rx := Rx
                  have hn0 := Rn.2 i (by omega)
                  have hn1 := Rn.2 (i + 1) (by omega)
                  have hxx0 := Rx.2 i (by omega)
                  have hxx1 := Rx.2 (i + 1) (by omega)
                  have hq := range_below (hr i hlt) E
                  refine ah_take (v := (.slice (some ⟨gx, 0, none⟩) (n + 1) (n + 1))) (i := 0) (some 101) rfl rfl (by kernel_rfl) (by kernel_rfl) (by kernel_rfl) rfl (fun W hK => ex_mv rfl rfl) S (fun c a w h => hQP c a _ _ w h) ?_
                  simp only [zp]
                  refine ah_take (v := (.int .i64 (i : Nat))) (i := 1) (some 102) rfl rfl (by kernel_rfl) (by kernel_rfl) (by kernel_rfl) rfl (fun W hK => ex_mv rfl rfl) S (fun c a w h => hQP c a _ _ w h) ?_
                  simp only [zp]
                  refine ah_take (v := (.pointer (some ⟨gx, i, none⟩))) (i := 2) (some 103) rfl rfl (by kernel_rfl) (by kernel_rfl) (by kernel_rfl) rfl (fun W hK => ex_ix36 (k := i) rfl rfl rfl rfl (by omega)) S (fun c a w h => hQP c a _ _ w h) ?_
                  simp only [zp]
                  refine ah_take (v := (.int .i64 (X i))) (i := 3) (some 104) rfl rfl (by kernel_rfl) (by kernel_rfl) (by kernel_rfl) rfl (fun W hK => ex_load rfl rfl (ld3 (cell_kept hK hxx0 (nilN _)))) S (fun c a w h => hQP c a _ _ w h) ?_
                  simp only [zp]
                  refine ah_take (v := (.int .i64 h)) (i := 4) (some 105) rfl rfl (by kernel_rfl) (by kernel_rfl) (by kernel_rfl) rfl (fun W hK => ex_mv rfl rfl) S (fun c a w h => hQP c a _ _ w h) ?_
                  simp only [zp]
                  refine ah_take (v := (.bool true)) (i := 5) (some 106) rfl rfl (by kernel_rfl) (by kernel_rfl) (by kernel_rfl) rfl (fun W hK => ex_bin (u := (.int .i64 (X i))) (r := (.int .i64 h)) rfl rfl rfl (eg3 _ _ _ _ _ _) (gtr3 _ (decide_eq_true (by omega)))) S (fun c a w h => hQP c a _ _ w h) ?_
                  simp only [zp]
                  refine ah_take (v := (.bool true)) (i := 6) (some 107) rfl rfl (by kernel_rfl) (by kernel_rfl) (by kernel_rfl) rfl (fun W hK => ex_mv rfl rfl) S (fun c a w h => hQP c a _ _ w h) ?_
                  simp only [zp]
                  refine ah_take (v := (.slice (some ⟨gx, 0, none⟩) (n + 1) (n + 1))) (i := 7) (some 108) rfl rfl (by kernel_rfl) (by kernel_rfl) (by kernel_rfl) rfl (fun W hK => ex_mv rfl rfl) S (fun c a w h => hQP c a _ _ w h) ?_
                  simp only [zp]
                  refine ah_take (v := (.int .i64 (i : Nat))) (i := 8) (some 109) rfl rfl (by kernel_rfl) (by kernel_rfl) (by kernel_rfl) rfl (fun W hK => ex_mv rfl rfl) S (fun c a w h => hQP c a _ _ w h) ?_
                  simp only [zp]
                  refine ah_take (v := (.pointer (some ⟨gx, i, none⟩))) (i := 9) (some 110) rfl rfl (by kernel_rfl) (by kernel_rfl) (by kernel_rfl) rfl (fun W hK => ex_ix36 (k := i) rfl rfl rfl rfl (by omega)) S (fun c a w h => hQP c a _ _ w h) ?_
                  simp only [zp]
                  refine ah_take (v := (.int .i64 (X i))) (i := 10) (some 111) rfl rfl (by kernel_rfl) (by kernel_rfl) (by kernel_rfl) rfl (fun W hK => ex_load rfl rfl (ld3 (cell_kept hK hxx0 (nilN _)))) S (fun c a w h => hQP c a _ _ w h) ?_
                  simp only [zp]
                  refine ah_take (v := (.int .i64 h)) (i := 11) (some 112) rfl rfl (by kernel_rfl) (by kernel_rfl) (by kernel_rfl) rfl (fun W hK => ex_mv rfl rfl) S (fun c a w h => hQP c a _ _ w h) ?_
                  simp only [zp]
                  refine ah_take (v := (.int .i64 (X i - h))) (i := 12) (some 113) rfl rfl (by kernel_rfl) (by kernel_rfl) (by kernel_rfl) rfl (fun W hK => ex_bin (u := (.int .i64 (X i))) (r := (.int .i64 h)) rfl rfl rfl (eg3 _ _ _ _ _ _) (sub3 _ rfl (by omega))) S (fun c a w h => hQP c a _ _ w h) ?_
                  simp only [zp]
                  refine ah_take (v := (.slice (some ⟨b, off, none⟩) n c)) (i := 13) (some 114) rfl rfl (by kernel_rfl) (by kernel_rfl) (by kernel_rfl) rfl (fun W hK => ex_mv rfl rfl) S (fun c a w h => hQP c a _ _ w h) ?_
                  simp only [zp]
                  refine ah_take (v := (.int .i64 (i : Nat))) (i := 14) (some 115) rfl rfl (by kernel_rfl) (by kernel_rfl) (by kernel_rfl) rfl (fun W hK => ex_mv rfl rfl) S (fun c a w h => hQP c a _ _ w h) ?_
                  simp only [zp]
                  refine ah_take (v := (.pointer (some ⟨b, (off + i * 5), none⟩))) (i := 15) (some 116) rfl rfl (by kernel_rfl) (by kernel_rfl) (by kernel_rfl) rfl (fun W hK => ex_ix35 rfl rfl rfl hlt) S (fun c a w h => hQP c a _ _ w h) ?_
                  simp only [zp]
                  refine ah_take (v := (.pointer (some ⟨b, (off + i * 5 + 4), none⟩))) (i := 16) (some 117) rfl rfl (by kernel_rfl) (by kernel_rfl) (by kernel_rfl) rfl (fun W hK => ex_fa rfl rfl (faL _ _ _)) S (fun c a w h => hQP c a _ _ w h) ?_
                  simp only [zp]
                  refine ah_take (v := (.int .i64 (qs i).f)) (i := 17) (some 118) rfl rfl (by kernel_rfl) (by kernel_rfl) (by kernel_rfl) rfl (fun W hK => ex_load rfl rfl (ld3 (cell_kept hK (hq 4 _ rfl) (nilN _)))) S (fun c a w h => hQP c a _ _ w h) ?_
                  simp only [zp]
                  refine ah_take (v := (.bool true)) (i := 18) (some 119) rfl rfl (by kernel_rfl) (by kernel_rfl) (by kernel_rfl) rfl (fun W hK => ex_bin (u := (.int .i64 (X i - h))) (r := (.int .i64 (qs i).f)) rfl rfl rfl (eg3 _ _ _ _ _ _) (gtr3 _ (decide_eq_true (by omega)))) S (fun c a w h => hQP c a _ _ w h) ?_
                  simp only [zp]
                  refine ah_take (v := (.bool true)) (i := 19) (some 120) rfl rfl (by kernel_rfl) (by kernel_rfl) (by kernel_rfl) rfl (fun W hK => ex_pkT rfl rfl rfl) S (fun c a w h => hQP c a _ _ w h) ?_
                  simp only [zp]
                  refine ah_take (v := (.bool true)) (i := 20) (some 18) rfl rfl (by kernel_rfl) (by kernel_rfl) (by kernel_rfl) rfl (fun W hK => ex_asg rfl rfl) S (fun c a w h => hQP c a _ _ w h) ?_
                  simp only [zp]
                  refine ah_done (by kernel_rfl) ?_
                  clear hQP
                  subst hQ
                  clear S d_kt16 d_Rn d_Rx
                  refine wp_seq ?_
                  obtain ⟨W25, hwd⟩ : ∃ wd, W24.drew = wd := ⟨_, rfl⟩
                  refine wp_region_held (S := fun W => Kept Nil W25 W) (by kernel_rfl) ?_
                  show wpAnyH _ _ _ _ _ _ _ _ W24.drew
                  rw [hwd]
                  refine capQ fun Q hQ => ?_
                  have hQP : ∀ c (a : Act) (d : Nat) v w, Q (.panic c) (a.put (some d) v) w → Q (.panic c) a w := by
                    subst hQ
                    exact fun _ _ _ _ _ h => h
                  have BD : Below W24.heap.size W24 W25 := by rw [← hwd]; exact below_drewB (Below.refl _ _)
                  clear hwd
                  replace E := below_next E BD
                  replace Rn := Rn.below BD
                  replace Rx := Rx.below BD
                  replace kt16 := keep BD kt16
                  clear BD
                  have S : Kept Nil W25 W25 := Kept.refl _ _
                  have d_kt16 := kt16
                  have d_Rn := Rn
                  have d_Rx := Rx
                  have hn0 := Rn.2 i (by omega)
                  have hn1 := Rn.2 (i + 1) (by omega)
                  have hxx0 := Rx.2 i (by omega)
                  have hxx1 := Rx.2 (i + 1) (by omega)
                  have hq := range_below (hr i hlt) E
                  refine ah_take (v := (.slice (some ⟨gx, 0, none⟩) (n + 1) (n + 1))) (i := 0) (some 121) rfl rfl (by kernel_rfl) (by kernel_rfl) (by kernel_rfl) rfl (fun W hK => ex_mv rfl rfl) S (fun c a w h => hQP c a _ _ w h) ?_
                  simp only [zp]
                  refine ah_take (v := (.int .i64 (i : Nat))) (i := 1) (some 122) rfl rfl (by kernel_rfl) (by kernel_rfl) (by kernel_rfl) rfl (fun W hK => ex_mv rfl rfl) S (fun c a w h => hQP c a _ _ w h) ?_
                  simp only [zp]
                  refine ah_take (v := (.int .i64 ((i + 1 : Nat) : Int))) (i := 2) (some 123) rfl rfl (by kernel_rfl) (by kernel_rfl) (by kernel_rfl) rfl (fun W hK => ex_bin (u := (.int .i64 (i : Nat))) (r := (.int .i64 1)) rfl rfl rfl (eg3 _ _ _ _ _ _) (add3 _ (by omega) (by omega))) S (fun c a w h => hQP c a _ _ w h) ?_
                  simp only [zp]
                  refine ah_take (v := (.pointer (some ⟨gx, (i + 1), none⟩))) (i := 3) (some 124) rfl rfl (by kernel_rfl) (by kernel_rfl) (by kernel_rfl) rfl (fun W hK => ex_ix36 (k := (i + 1)) rfl rfl rfl rfl (by omega)) S (fun c a w h => hQP c a _ _ w h) ?_
                  simp only [zp]
                  refine ah_take (v := (.int .i64 (X (i + 1)))) (i := 4) (some 125) rfl rfl (by kernel_rfl) (by kernel_rfl) (by kernel_rfl) rfl (fun W hK => ex_load rfl rfl (ld3 (cell_kept hK hxx1 (nilN _)))) S (fun c a w h => hQP c a _ _ w h) ?_
                  simp only [zp]
                  refine ah_take (v := (.int .i64 h)) (i := 5) (some 126) rfl rfl (by kernel_rfl) (by kernel_rfl) (by kernel_rfl) rfl (fun W hK => ex_mv rfl rfl) S (fun c a w h => hQP c a _ _ w h) ?_
                  simp only [zp]
                  refine ah_take (v := (.bool false)) (i := 6) (some 127) rfl rfl (by kernel_rfl) (by kernel_rfl) (by kernel_rfl) rfl (fun W hK => ex_bin (u := (.int .i64 (X (i + 1)))) (r := (.int .i64 h)) rfl rfl rfl (eg3 _ _ _ _ _ _) (lss3 _ (decide_eq_false (by omega)))) S (fun c a w h => hQP c a _ _ w h) ?_
                  simp only [zp]
                  refine ah_take (v := (.bool false)) (i := 7) (some 128) rfl rfl (by kernel_rfl) (by kernel_rfl) (by kernel_rfl) rfl (fun W hK => ex_mv rfl rfl) S (fun c a w h => hQP c a _ _ w h) ?_
                  simp only [zp]
                  refine ah_take (v := (.slice (some ⟨gx, 0, none⟩) (n + 1) (n + 1))) (i := 8) (some 129) rfl rfl (by kernel_rfl) (by kernel_rfl) (by kernel_rfl) rfl (fun W hK => ex_mv rfl rfl) S (fun c a w h => hQP c a _ _ w h) ?_
                  simp only [zp]
                  refine ah_take (v := (.int .i64 (i : Nat))) (i := 9) (some 130) rfl rfl (by kernel_rfl) (by kernel_rfl) (by kernel_rfl) rfl (fun W hK => ex_mv rfl rfl) S (fun c a w h => hQP c a _ _ w h) ?_
                  simp only [zp]
                  refine ah_take (v := (.int .i64 ((i + 1 : Nat) : Int))) (i := 10) (some 131) rfl rfl (by kernel_rfl) (by kernel_rfl) (by kernel_rfl) rfl (fun W hK => ex_bin (u := (.int .i64 (i : Nat))) (r := (.int .i64 1)) rfl rfl rfl (eg3 _ _ _ _ _ _) (add3 _ (by omega) (by omega))) S (fun c a w h => hQP c a _ _ w h) ?_
                  simp only [zp]
                  refine ah_take (v := (.pointer (some ⟨gx, (i + 1), none⟩))) (i := 11) (some 132) rfl rfl (by kernel_rfl) (by kernel_rfl) (by kernel_rfl) rfl (fun W hK => ex_ix36 (k := (i + 1)) rfl rfl rfl rfl (by omega)) S (fun c a w h => hQP c a _ _ w h) ?_
                  simp only [zp]
                  refine ah_take (v := (.int .i64 (X (i + 1)))) (i := 12) (some 133) rfl rfl (by kernel_rfl) (by kernel_rfl) (by kernel_rfl) rfl (fun W hK => ex_load rfl rfl (ld3 (cell_kept hK hxx1 (nilN _)))) S (fun c a w h => hQP c a _ _ w h) ?_
                  simp only [zp]
                  refine ah_take (v := (.int .i64 h)) (i := 13) (some 134) rfl rfl (by kernel_rfl) (by kernel_rfl) (by kernel_rfl) rfl (fun W hK => ex_mv rfl rfl) S (fun c a w h => hQP c a _ _ w h) ?_
                  simp only [zp]
                  refine ah_take (v := (.int .i64 (X (i + 1) - h))) (i := 14) (some 135) rfl rfl (by kernel_rfl) (by kernel_rfl) (by kernel_rfl) rfl (fun W hK => ex_bin (u := (.int .i64 (X (i + 1)))) (r := (.int .i64 h)) rfl rfl rfl (eg3 _ _ _ _ _ _) (sub3 _ rfl (by omega))) S (fun c a w h => hQP c a _ _ w h) ?_
                  simp only [zp]
                  refine ah_take (v := (.slice (some ⟨b, off, none⟩) n c)) (i := 15) (some 136) rfl rfl (by kernel_rfl) (by kernel_rfl) (by kernel_rfl) rfl (fun W hK => ex_mv rfl rfl) S (fun c a w h => hQP c a _ _ w h) ?_
                  simp only [zp]
                  refine ah_take (v := (.int .i64 (i : Nat))) (i := 16) (some 137) rfl rfl (by kernel_rfl) (by kernel_rfl) (by kernel_rfl) rfl (fun W hK => ex_mv rfl rfl) S (fun c a w h => hQP c a _ _ w h) ?_
                  simp only [zp]
                  refine ah_take (v := (.pointer (some ⟨b, (off + i * 5), none⟩))) (i := 17) (some 138) rfl rfl (by kernel_rfl) (by kernel_rfl) (by kernel_rfl) rfl (fun W hK => ex_ix35 rfl rfl rfl hlt) S (fun c a w h => hQP c a _ _ w h) ?_
                  simp only [zp]
                  refine ah_take (v := (.pointer (some ⟨b, (off + i * 5 + 3), none⟩))) (i := 18) (some 139) rfl rfl (by kernel_rfl) (by kernel_rfl) (by kernel_rfl) rfl (fun W hK => ex_fa rfl rfl (faG _ _ _)) S (fun c a w h => hQP c a _ _ w h) ?_
                  simp only [zp]
                  refine ah_take (v := (.int .i64 (qs i).g)) (i := 19) (some 140) rfl rfl (by kernel_rfl) (by kernel_rfl) (by kernel_rfl) rfl (fun W hK => ex_load rfl rfl (ld3 (cell_kept hK (hq 3 _ rfl) (nilN _)))) S (fun c a w h => hQP c a _ _ w h) ?_
                  simp only [zp]
                  refine ah_take (v := (.bool false)) (i := 20) (some 141) rfl rfl (by kernel_rfl) (by kernel_rfl) (by kernel_rfl) rfl (fun W hK => ex_bin (u := (.int .i64 (X (i + 1) - h))) (r := (.int .i64 (qs i).g)) rfl rfl rfl (eg3 _ _ _ _ _ _) (leq3 _ (decide_eq_false (by omega)))) S (fun c a w h => hQP c a _ _ w h) ?_
                  simp only [zp]
                  refine ah_take (v := (.bool false)) (i := 21) (some 142) rfl rfl (by kernel_rfl) (by kernel_rfl) (by kernel_rfl) rfl (fun W hK => ex_pkF rfl rfl rfl) S (fun c a w h => hQP c a _ _ w h) ?_
                  simp only [zp]
                  refine ah_take (v := (.bool false)) (i := 22) (some 19) rfl rfl (by kernel_rfl) (by kernel_rfl) (by kernel_rfl) rfl (fun W hK => ex_asg rfl rfl) S (fun c a w h => hQP c a _ _ w h) ?_
                  simp only [zp]
                  refine ah_done (by kernel_rfl) ?_
                  clear hQP
                  subst hQ
                  clear S d_kt16 d_Rn d_Rx
                  refine wq fun Q hQ => ?_
                  refine sm (.bool true) 143 rfl rfl rfl rfl ?_
                  simp only [zp]
                  refine sm (.bool true) 144 rfl rfl rfl rfl ?_
                  simp only [zp]
                  refine sm (.int .i64 6) 145 rfl rfl rfl rfl ?_
                  simp only [zp]
                  refine sv (.bool false) 146 rfl rfl (ex_bin (u := (.int .i64 6)) (r := (.int .i64 6)) rfl rfl rfl (eg3 _ _ _ _ _ _) (neq3 _ (by decide))) ?_
                  simp only [zp]
                  refine sv (.bool false) 147 rfl rfl (ex_pkT rfl rfl rfl) ?_
                  simp only [zp]
                  refine sm (.bool false) 148 rfl rfl rfl rfl ?_
                  simp only [zp]
                  refine sm (.bool true) 149 rfl rfl rfl rfl ?_
                  simp only [zp]
                  refine sv (.bool false) 150 rfl rfl (ex_not rfl rfl rfl) ?_
                  simp only [zp]
                  refine sm (.bool false) 151 rfl rfl rfl rfl ?_
                  simp only [zp]
                  refine sn 152 rfl rfl ?_
                  simp only [zp]
                  refine sv (.bool false) 153 rfl rfl (ex_pkF rfl rfl rfl) ?_
                  simp only [zp]
                  refine sm (.bool false) 154 rfl rfl rfl rfl ?_
                  simp only [zp]
                  refine sn 155 rfl rfl ?_
                  simp only [zp]
                  refine sn 156 rfl rfl ?_
                  simp only [zp]
                  refine sv (.bool false) 157 rfl rfl (ex_pkF rfl rfl rfl) ?_
                  simp only [zp]
                  refine sv (.bool false) 158 rfl rfl (ex_pkF rfl rfl rfl) ?_
                  simp only [zp]
                  refine sm (.bool false) 159 rfl rfl rfl rfl ?_
                  simp only [zp]
                  refine sm (.bool true) 160 rfl rfl rfl rfl ?_
                  simp only [zp]
                  refine sv (.bool false) 161 rfl rfl (ex_not rfl rfl rfl) ?_
                  simp only [zp]
                  refine sm (.bool false) 162 rfl rfl rfl rfl ?_
                  simp only [zp]
                  refine sn 163 rfl rfl ?_
                  simp only [zp]
                  refine sn 164 rfl rfl ?_
                  simp only [zp]
                  refine sv (.bool false) 165 rfl rfl (ex_pkF rfl rfl rfl) ?_
                  simp only [zp]
                  refine sm (.bool false) 166 rfl rfl rfl rfl ?_
                  simp only [zp]
                  refine sn 167 rfl rfl ?_
                  simp only [zp]
                  refine sn 168 rfl rfl ?_
                  simp only [zp]
                  refine sv (.bool false) 169 rfl rfl (ex_pkF rfl rfl rfl) ?_
                  simp only [zp]
                  refine sv (.bool false) 170 rfl rfl (ex_pkF rfl rfl rfl) ?_
                  simp only [zp]
                  refine st_end ?_
                  subst hQ
                  refine wp_cond_false rfl ?_
                  refine wp_skip ?_
                  refine wl_in (wl_cap fun Q hQ => ?_)
                  refine sm (.int .i64 (i : Nat)) 73 rfl rfl rfl rfl ?_
                  simp only [zp]
                  refine sv (.int .i64 ((i + 1 : Nat) : Int)) 74 rfl rfl (ex_bin rfl rfl rfl (eg3 _ _ _ _ _ _) (add3 _ (by omega) (by omega))) ?_
                  simp only [zp]
                  refine sg (.int .i64 ((i + 1 : Nat) : Int)) 15 rfl rfl rfl rfl ?_
                  simp only [zp]
                  refine st_end ?_
                  subst hQ
                  refine then_go ?_
                  go_roundw
                  case rel => exact ⟨i + 1, by omega, rfl, E, Rn, Rx⟩
                  case measure => simp [intOf]; omega
            · skip
              by_cases e2 : X (i + 1) < h
              · skip
                refine wp_seq ?_
                refine wq fun Q hQ => ?_
                refine sm (.int .i64 (i : Nat)) 69 rfl rfl rfl rfl ?_
                simp only [zp]
                refine sm (.slice (some ⟨b, off, none⟩) n c) 70 rfl rfl rfl rfl ?_
                simp only [zp]
                refine sv (.int .i64 (n : Nat)) 71 rfl rfl (ex_len rfl rfl (len35 _ _ _ _ _)) ?_
                simp only [zp]
                refine sv (.bool true) 72 rfl rfl (ex_bin (u := (.int .i64 (i : Nat))) (r := (.int .i64 (n : Nat))) rfl rfl rfl (eg3 _ _ _ _ _ _) (lss3 _ (decide_eq_true (by omega)))) ?_
                simp only [zp]
                refine st_end ?_
                subst hQ
                refine wp_cond_true rfl ?_
                refine wp_skip ?_
                refine wp_seq ?_
                refine wp_block ?_
                refine wp_seq ?_
                obtain ⟨W26, hwd⟩ : ∃ wd, wr.drew = wd := ⟨_, rfl⟩
                refine wp_region_held (S := fun W => Kept Nil W26 W) (by kernel_rfl) ?_
                show wpAnyH _ _ _ _ _ _ _ _ wr.drew
                rw [hwd]
                refine capQ fun Q hQ => ?_
                have hQP : ∀ c (a : Act) (d : Nat) v w, Q (.panic c) (a.put (some d) v) w → Q (.panic c) a w := by
                  subst hQ
                  exact fun _ _ _ _ _ h => h
                have BD : Below wr.heap.size wr W26 := by rw [← hwd]; exact below_drewB (Below.refl _ _)
                clear hwd
                replace E := below_next E BD
                replace Rn := Rn.below BD
                replace Rx := Rx.below BD
                clear BD
                have S : Kept Nil W26 W26 := Kept.refl _ _
                have d_Rn := Rn
                have d_Rx := Rx
                have hn0 := Rn.2 i (by omega)
                have hn1 := Rn.2 (i + 1) (by omega)
                have hxx0 := Rx.2 i (by omega)
                have hxx1 := Rx.2 (i + 1) (by omega)
                have hq := range_below (hr i hlt) E
                have ltn := block_lt_of_cell hn0
                have ltx := block_lt_of_cell hxx0
                simp only at ltn ltx
                refine ah_take (v := (.slice (some ⟨gn, 0, none⟩) (n + 1) (n + 1))) (i := 0) (some 75) rfl rfl (by kernel_rfl) (by kernel_rfl) (by kernel_rfl) rfl (fun W hK => ex_mv rfl rfl) S (fun c a w h => hQP c a _ _ w h) ?_
                simp only [zp]
                refine ah_take (v := (.int .i64 (i : Nat))) (i := 1) (some 76) rfl rfl (by kernel_rfl) (by kernel_rfl) (by kernel_rfl) rfl (fun W hK => ex_mv rfl rfl) S (fun c a w h => hQP c a _ _ w h) ?_
                simp only [zp]
                refine ah_take (v := (.int .i64 ((i + 1 : Nat) : Int))) (i := 2) (some 77) rfl rfl (by kernel_rfl) (by kernel_rfl) (by kernel_rfl) rfl (fun W hK => ex_bin (u := (.int .i64 (i : Nat))) (r := (.int .i64 1)) rfl rfl rfl (eg3 _ _ _ _ _ _) (add3 _ (by omega) (by omega))) S (fun c a w h => hQP c a _ _ w h) ?_
                simp only [zp]
                refine ah_take (v := (.pointer (some ⟨gn, (i + 1), none⟩))) (i := 3) (some 78) rfl rfl (by kernel_rfl) (by kernel_rfl) (by kernel_rfl) rfl (fun W hK => ex_ix36 (k := (i + 1)) rfl rfl rfl rfl (by omega)) S (fun c a w h => hQP c a _ _ w h) ?_
                simp only [zp]
                refine ah_take (v := (.int .i64 (N (i + 1)))) (i := 4) (some 79) rfl rfl (by kernel_rfl) (by kernel_rfl) (by kernel_rfl) rfl (fun W hK => ex_load rfl rfl (ld3 (cell_kept hK hn1 (nilN _)))) S (fun c a w h => hQP c a _ _ w h) ?_
                simp only [zp]
                refine ah_take (v := (.slice (some ⟨gx, 0, none⟩) (n + 1) (n + 1))) (i := 5) (some 80) rfl rfl (by kernel_rfl) (by kernel_rfl) (by kernel_rfl) rfl (fun W hK => ex_mv rfl rfl) S (fun c a w h => hQP c a _ _ w h) ?_
                simp only [zp]
                refine ah_take (v := (.int .i64 (i : Nat))) (i := 6) (some 81) rfl rfl (by kernel_rfl) (by kernel_rfl) (by kernel_rfl) rfl (fun W hK => ex_mv rfl rfl) S (fun c a w h => hQP c a _ _ w h) ?_
                simp only [zp]
                refine ah_take (v := (.int .i64 ((i + 1 : Nat) : Int))) (i := 7) (some 82) rfl rfl (by kernel_rfl) (by kernel_rfl) (by kernel_rfl) rfl (fun W hK => ex_bin (u := (.int .i64 (i : Nat))) (r := (.int .i64 1)) rfl rfl rfl (eg3 _ _ _ _ _ _) (add3 _ (by omega) (by omega))) S (fun c a w h => hQP c a _ _ w h) ?_
                simp only [zp]
                refine ah_take (v := (.pointer (some ⟨gx, (i + 1), none⟩))) (i := 8) (some 83) rfl rfl (by kernel_rfl) (by kernel_rfl) (by kernel_rfl) rfl (fun W hK => ex_ix36 (k := (i + 1)) rfl rfl rfl rfl (by omega)) S (fun c a w h => hQP c a _ _ w h) ?_
                simp only [zp]
                refine ah_take (v := (.int .i64 (X (i + 1)))) (i := 9) (some 84) rfl rfl (by kernel_rfl) (by kernel_rfl) (by kernel_rfl) rfl (fun W hK => ex_load rfl rfl (ld3 (cell_kept hK hxx1 (nilN _)))) S (fun c a w h => hQP c a _ _ w h) ?_
                simp only [zp]
                refine ah_take (v := (.agg (HZ 1 (N (i + 1)) (X (i + 1)) 0))) (i := 10) (some 85) rfl rfl (by kernel_rfl) (by kernel_rfl) (by kernel_rfl) rfl (fun W hK => ex_build3 (v1 := (.int .i64 1)) (v2 := (.int .i64 (N (i + 1)))) (v3 := (.int .i64 (X (i + 1)))) rfl rfl rfl rfl (b28 _ _ _ _)) S (fun c a w h => hQP c a _ _ w h) ?_
                simp only [zp]
                refine ah_or1 (i := 11) (by kernel_rfl) ?_
                refine nx_new (fun b => .pointer (some ⟨b, 0, none⟩)) (some 16) rfl rfl rfl (ex_alloc rfl zero28) ?_
                intro bt16 W27 kt16 gt16 B
                refine ⟨S.next B, ?_⟩
                simp only [zp]
                have gd_bt16 := Nat.le_trans S.size gt16
                have ge_bt16 := Nat.le_trans E.size gt16
                replace E := below_next E B
                replace Rn := Rn.below B
                replace Rx := Rx.below B
                replace S := S.next B
                clear B
                refine ah_or1 (i := 12) (by kernel_rfl) ?_
                obtain ⟨W28, hst, kn, K⟩ := put_all (D := (HZ 1 (N (i + 1)) (X (i + 1)) 0)) kt16 (((show ((HZ 0 0 0 0) : Array Value).size = 101 from rfl)).trans ((HZ_is 1 (N (i + 1)) (X (i + 1)) 0).size).symm) (inf28.trans (congrArg some ((HZ_is 1 (N (i + 1)) (X (i + 1)) 0).size).symm)) (HZ_is 1 (N (i + 1)) (X (i + 1)) 0).one
                refine nx_sk rfl rfl rfl (ex_store rfl rfl rfl hst) (S.putN K gd_bt16) ?_
                replace E := below_put E ge_bt16 K
                replace Rn := Rn.put K (fun e => by omega)
                replace Rx := Rx.put K (fun e => by omega)
                replace S := S.putN K gd_bt16
                replace kt16 := kn
                clear kn K hst
                refine ah_done (by kernel_rfl) ?_
                clear hQP
                subst hQ
                clear S  d_Rn d_Rx
                refine wp_seq ?_
                obtain ⟨W29, hwd⟩ : ∃ wd, W28.drew = wd := ⟨_, rfl⟩
                refine wp_region_held (S := fun W => Kept Nil W29 W) (by kernel_rfl) ?_
                show wpAnyH _ _ _ _ _ _ _ _ W28.drew
                rw [hwd]
                refine capQ fun Q hQ => ?_
                have hQP : ∀ c (a : Act) (d : Nat) v w, Q (.panic c) (a.put (some d) v) w → Q (.panic c) a w := by
                  subst hQ
                  exact fun _ _ _ _ _ h => h
                have BD : Below W28.heap.size W28 W29 := by rw [← hwd]; exact below_drewB (Below.refl _ _)
                clear hwd
                replace E := below_next E BD
                replace Rn := Rn.below BD
                replace Rx := Rx.below BD
                replace kt16 := keep BD kt16
                clear BD
                have S : Kept Nil W29 W29 := Kept.refl _ _
                have d_kt16 := kt16
                have d_Rn := Rn
                have d_Rx := Rx
                have hn0 := Rn.2 i (by omega)
                have hn1 := Rn.2 (i + 1) (by omega)
                have hxx0 := Rx.2 i (by omega)
                have hxx1 := Rx.2 (i + 1) (by omega)
                have hq := range_below (hr i hlt) E
                refine ah_take (v := (.slice (some ⟨b, off, none⟩) n c)) (i := 0) (some 86) rfl rfl (by kernel_rfl) (by kernel_rfl) (by kernel_rfl) rfl (fun W hK => ex_mv rfl rfl) S (fun c a w h => hQP c a _ _ w h) ?_
                simp only [zp]
                refine ah_take (v := (.int .i64 (i : Nat))) (i := 1) (some 87) rfl rfl (by kernel_rfl) (by kernel_rfl) (by kernel_rfl) rfl (fun W hK => ex_mv rfl rfl) S (fun c a w h => hQP c a _ _ w h) ?_
                simp only [zp]
                refine ah_take (v := (.pointer (some ⟨b, (off + i * 5), none⟩))) (i := 2) (some 88) rfl rfl (by kernel_rfl) (by kernel_rfl) (by kernel_rfl) rfl (fun W hK => ex_ix35 rfl rfl rfl hlt) S (fun c a w h => hQP c a _ _ w h) ?_
                simp only [zp]
                refine ah_take (v := (.agg (RL (qs i)))) (i := 3) (some 89) rfl rfl (by kernel_rfl) (by kernel_rfl) (by kernel_rfl) rfl (fun W hK => ex_load rfl rfl (ld_range (rng_kept hK hq (nilN _)) Try.underlying25 rfl inf25)) S (fun c a w h => hQP c a _ _ w h) ?_
                simp only [zp]
                refine ah_take (v := (.agg (HZ 1 (N (i + 1)) (X (i + 1)) 0))) (i := 4) (some 90) rfl rfl (by kernel_rfl) (by kernel_rfl) (by kernel_rfl) rfl (fun W hK => ex_load (p := (.pointer (some ⟨bt16, 0, none⟩))) rfl rfl (ld_all (keepK hK d_kt16 (nilN _)) Try.underlying28 rfl (inf28.trans (congrArg some ((HZ_is 1 (N (i + 1)) (X (i + 1)) 0).size).symm)))) S (fun c a w h => hQP c a _ _ w h) ?_
                simp only [zp]
                refine ah_take (v := (.slice (some ⟨gn, 0, none⟩) (n + 1) (n + 1))) (i := 5) (some 91) rfl rfl (by kernel_rfl) (by kernel_rfl) (by kernel_rfl) rfl (fun W hK => ex_mv rfl rfl) S (fun c a w h => hQP c a _ _ w h) ?_
                simp only [zp]
                refine ah_take (v := (.int .i64 (i : Nat))) (i := 6) (some 92) rfl rfl (by kernel_rfl) (by kernel_rfl) (by kernel_rfl) rfl (fun W hK => ex_mv rfl rfl) S (fun c a w h => hQP c a _ _ w h) ?_
                simp only [zp]
                refine ah_take (v := (.pointer (some ⟨gn, i, none⟩))) (i := 7) (some 93) rfl rfl (by kernel_rfl) (by kernel_rfl) (by kernel_rfl) rfl (fun W hK => ex_ix36 (k := i) rfl rfl rfl rfl (by omega)) S (fun c a w h => hQP c a _ _ w h) ?_
                simp only [zp]
                refine ah_take (v := (.int .i64 (N i))) (i := 8) (some 94) rfl rfl (by kernel_rfl) (by kernel_rfl) (by kernel_rfl) rfl (fun W hK => ex_load rfl rfl (ld3 (cell_kept hK hn0 (nilN _)))) S (fun c a w h => hQP c a _ _ w h) ?_
                simp only [zp]
                refine ah_take (v := (.slice (some ⟨gx, 0, none⟩) (n + 1) (n + 1))) (i := 9) (some 95) rfl rfl (by kernel_rfl) (by kernel_rfl) (by kernel_rfl) rfl (fun W hK => ex_mv rfl rfl) S (fun c a w h => hQP c a _ _ w h) ?_
                simp only [zp]
                refine ah_take (v := (.int .i64 (i : Nat))) (i := 10) (some 96) rfl rfl (by kernel_rfl) (by kernel_rfl) (by kernel_rfl) rfl (fun W hK => ex_mv rfl rfl) S (fun c a w h => hQP c a _ _ w h) ?_
                simp only [zp]
                refine ah_take (v := (.pointer (some ⟨gx, i, none⟩))) (i := 11) (some 97) rfl rfl (by kernel_rfl) (by kernel_rfl) (by kernel_rfl) rfl (fun W hK => ex_ix36 (k := i) rfl rfl rfl rfl (by omega)) S (fun c a w h => hQP c a _ _ w h) ?_
                simp only [zp]
                refine ah_take (v := (.int .i64 (X i))) (i := 12) (some 98) rfl rfl (by kernel_rfl) (by kernel_rfl) (by kernel_rfl) rfl (fun W hK => ex_load rfl rfl (ld3 (cell_kept hK hxx0 (nilN _)))) S (fun c a w h => hQP c a _ _ w h) ?_
                simp only [zp]
                refine ah_take (v := (.int .i64 h)) (i := 13) (some 99) rfl rfl (by kernel_rfl) (by kernel_rfl) (by kernel_rfl) rfl (fun W hK => ex_mv rfl rfl) S (fun c a w h => hQP c a _ _ w h) ?_
                simp only [zp]
                refine ah_or1 (i := 14) (by kernel_rfl) ?_
                refine nx_call (some 100) rfl rfl rfl (fwd_any W29 (HZ_is _ _ _ _) (hqb i hlt) (by show _ ≤ N (i + 1); omega) am2 (FV.trans ((if_neg (e1)).trans (if_pos (by omega))))) (ex_call (f := 11) (vs := [(.agg (RL (qs i))), (.agg (HZ 1 (N (i + 1)) (X (i + 1)) 0)), (.int .i64 (N i)), (.int .i64 (X i)), (.int .i64 h)]) rfl (cf11 _) rfl) ?_
                rintro e W30 ⟨rfl, B⟩
                refine ⟨_, rfl, S.next B, ?_⟩
                simp only [zp]
                replace E := below_next E B
                replace Rn := Rn.below B
                replace Rx := Rx.below B
                replace kt16 := keep B kt16
                replace S := S.next B
                refine ah_take (v := (.int .i64 5)) (i := 15) (some 17) rfl rfl (by kernel_rfl) (by kernel_rfl) (by kernel_rfl) rfl (fun W hK => ex_asg rfl rfl) S (fun c a w h => hQP c a _ _ w h) ?_
                simp only [zp]
                refine ah_done (by kernel_rfl) ?_
                clear hQP
                subst hQ
                clear S d_kt16 d_Rn d_Rx
                refine wp_seq ?_
                obtain ⟨W31, hwd⟩ : ∃ wd, W30.drew = wd := ⟨_, rfl⟩
                refine wp_region_held (S := fun W => Kept Nil W31 W) (by kernel_rfl) ?_
                show wpAnyH _ _ _ _ _ _ _ _ W30.drew
                rw [hwd]
                refine capQ fun Q hQ => ?_
                have hQP : ∀ c (a : Act) (d : Nat) v w, Q (.panic c) (a.put (some d) v) w → Q (.panic c) a w := by
                  subst hQ
                  exact fun _ _ _ _ _ h => h
                have BD : Below W30.heap.size W30 W31 := by rw [← hwd]; exact below_drewB (Below.refl _ _)
                clear hwd
                replace E := below_next E BD
                replace Rn := Rn.below BD
                replace Rx := Rx.below BD
                replace kt16 := keep BD kt16
                clear BD
                have S : Kept Nil W31 W31 := Kept.refl _ _
                have d_kt16 := kt16
                have d_Rn := Rn
                have d_Rx := Rx
                have hn0 := Rn.2 i (by omega)
                have hn1 := Rn.2 (i + 1) (by omega)
                have hxx0 := Rx.2 i (by omega)
                have hxx1 := Rx.2 (i + 1) (by omega)
                have hq := range_below (hr i hlt) E
                refine ah_take (v := (.slice (some ⟨gx, 0, none⟩) (n + 1) (n + 1))) (i := 0) (some 101) rfl rfl (by kernel_rfl) (by kernel_rfl) (by kernel_rfl) rfl (fun W hK => ex_mv rfl rfl) S (fun c a w h => hQP c a _ _ w h) ?_
                simp only [zp]
                refine ah_take (v := (.int .i64 (i : Nat))) (i := 1) (some 102) rfl rfl (by kernel_rfl) (by kernel_rfl) (by kernel_rfl) rfl (fun W hK => ex_mv rfl rfl) S (fun c a w h => hQP c a _ _ w h) ?_
                simp only [zp]
                refine ah_take (v := (.pointer (some ⟨gx, i, none⟩))) (i := 2) (some 103) rfl rfl (by kernel_rfl) (by kernel_rfl) (by kernel_rfl) rfl (fun W hK => ex_ix36 (k := i) rfl rfl rfl rfl (by omega)) S (fun c a w h => hQP c a _ _ w h) ?_
                simp only [zp]
                refine ah_take (v := (.int .i64 (X i))) (i := 3) (some 104) rfl rfl (by kernel_rfl) (by kernel_rfl) (by kernel_rfl) rfl (fun W hK => ex_load rfl rfl (ld3 (cell_kept hK hxx0 (nilN _)))) S (fun c a w h => hQP c a _ _ w h) ?_
                simp only [zp]
                refine ah_take (v := (.int .i64 h)) (i := 4) (some 105) rfl rfl (by kernel_rfl) (by kernel_rfl) (by kernel_rfl) rfl (fun W hK => ex_mv rfl rfl) S (fun c a w h => hQP c a _ _ w h) ?_
                simp only [zp]
                refine ah_take (v := (.bool true)) (i := 5) (some 106) rfl rfl (by kernel_rfl) (by kernel_rfl) (by kernel_rfl) rfl (fun W hK => ex_bin (u := (.int .i64 (X i))) (r := (.int .i64 h)) rfl rfl rfl (eg3 _ _ _ _ _ _) (gtr3 _ (decide_eq_true (by omega)))) S (fun c a w h => hQP c a _ _ w h) ?_
                simp only [zp]
                refine ah_take (v := (.bool true)) (i := 6) (some 107) rfl rfl (by kernel_rfl) (by kernel_rfl) (by kernel_rfl) rfl (fun W hK => ex_mv rfl rfl) S (fun c a w h => hQP c a _ _ w h) ?_
                simp only [zp]
                refine ah_take (v := (.slice (some ⟨gx, 0, none⟩) (n + 1) (n + 1))) (i := 7) (some 108) rfl rfl (by kernel_rfl) (by kernel_rfl) (by kernel_rfl) rfl (fun W hK => ex_mv rfl rfl) S (fun c a w h => hQP c a _ _ w h) ?_
                simp only [zp]
                refine ah_take (v := (.int .i64 (i : Nat))) (i := 8) (some 109) rfl rfl (by kernel_rfl) (by kernel_rfl) (by kernel_rfl) rfl (fun W hK => ex_mv rfl rfl) S (fun c a w h => hQP c a _ _ w h) ?_
                simp only [zp]
                refine ah_take (v := (.pointer (some ⟨gx, i, none⟩))) (i := 9) (some 110) rfl rfl (by kernel_rfl) (by kernel_rfl) (by kernel_rfl) rfl (fun W hK => ex_ix36 (k := i) rfl rfl rfl rfl (by omega)) S (fun c a w h => hQP c a _ _ w h) ?_
                simp only [zp]
                refine ah_take (v := (.int .i64 (X i))) (i := 10) (some 111) rfl rfl (by kernel_rfl) (by kernel_rfl) (by kernel_rfl) rfl (fun W hK => ex_load rfl rfl (ld3 (cell_kept hK hxx0 (nilN _)))) S (fun c a w h => hQP c a _ _ w h) ?_
                simp only [zp]
                refine ah_take (v := (.int .i64 h)) (i := 11) (some 112) rfl rfl (by kernel_rfl) (by kernel_rfl) (by kernel_rfl) rfl (fun W hK => ex_mv rfl rfl) S (fun c a w h => hQP c a _ _ w h) ?_
                simp only [zp]
                refine ah_take (v := (.int .i64 (X i - h))) (i := 12) (some 113) rfl rfl (by kernel_rfl) (by kernel_rfl) (by kernel_rfl) rfl (fun W hK => ex_bin (u := (.int .i64 (X i))) (r := (.int .i64 h)) rfl rfl rfl (eg3 _ _ _ _ _ _) (sub3 _ rfl (by omega))) S (fun c a w h => hQP c a _ _ w h) ?_
                simp only [zp]
                refine ah_take (v := (.slice (some ⟨b, off, none⟩) n c)) (i := 13) (some 114) rfl rfl (by kernel_rfl) (by kernel_rfl) (by kernel_rfl) rfl (fun W hK => ex_mv rfl rfl) S (fun c a w h => hQP c a _ _ w h) ?_
                simp only [zp]
                refine ah_take (v := (.int .i64 (i : Nat))) (i := 14) (some 115) rfl rfl (by kernel_rfl) (by kernel_rfl) (by kernel_rfl) rfl (fun W hK => ex_mv rfl rfl) S (fun c a w h => hQP c a _ _ w h) ?_
                simp only [zp]
                refine ah_take (v := (.pointer (some ⟨b, (off + i * 5), none⟩))) (i := 15) (some 116) rfl rfl (by kernel_rfl) (by kernel_rfl) (by kernel_rfl) rfl (fun W hK => ex_ix35 rfl rfl rfl hlt) S (fun c a w h => hQP c a _ _ w h) ?_
                simp only [zp]
                refine ah_take (v := (.pointer (some ⟨b, (off + i * 5 + 4), none⟩))) (i := 16) (some 117) rfl rfl (by kernel_rfl) (by kernel_rfl) (by kernel_rfl) rfl (fun W hK => ex_fa rfl rfl (faL _ _ _)) S (fun c a w h => hQP c a _ _ w h) ?_
                simp only [zp]
                refine ah_take (v := (.int .i64 (qs i).f)) (i := 17) (some 118) rfl rfl (by kernel_rfl) (by kernel_rfl) (by kernel_rfl) rfl (fun W hK => ex_load rfl rfl (ld3 (cell_kept hK (hq 4 _ rfl) (nilN _)))) S (fun c a w h => hQP c a _ _ w h) ?_
                simp only [zp]
                refine ah_take (v := (.bool false)) (i := 18) (some 119) rfl rfl (by kernel_rfl) (by kernel_rfl) (by kernel_rfl) rfl (fun W hK => ex_bin (u := (.int .i64 (X i - h))) (r := (.int .i64 (qs i).f)) rfl rfl rfl (eg3 _ _ _ _ _ _) (gtr3 _ (decide_eq_false (by omega)))) S (fun c a w h => hQP c a _ _ w h) ?_
                simp only [zp]
                refine ah_take (v := (.bool false)) (i := 19) (some 120) rfl rfl (by kernel_rfl) (by kernel_rfl) (by kernel_rfl) rfl (fun W hK => ex_pkT rfl rfl rfl) S (fun c a w h => hQP c a _ _ w h) ?_
                simp only [zp]
                refine ah_take (v := (.bool false)) (i := 20) (some 18) rfl rfl (by kernel_rfl) (by kernel_rfl) (by kernel_rfl) rfl (fun W hK => ex_asg rfl rfl) S (fun c a w h => hQP c a _ _ w h) ?_
                simp only [zp]
                refine ah_done (by kernel_rfl) ?_
                clear hQP
                subst hQ
                clear S d_kt16 d_Rn d_Rx
                refine wp_seq ?_
                obtain ⟨W32, hwd⟩ : ∃ wd, W31.drew = wd := ⟨_, rfl⟩
                refine wp_region_held (S := fun W => Kept Nil W32 W) (by kernel_rfl) ?_
                show wpAnyH _ _ _ _ _ _ _ _ W31.drew
                rw [hwd]
                refine capQ fun Q hQ => ?_
                have hQP : ∀ c (a : Act) (d : Nat) v w, Q (.panic c) (a.put (some d) v) w → Q (.panic c) a w := by
                  subst hQ
                  exact fun _ _ _ _ _ h => h
                have BD : Below W31.heap.size W31 W32 := by rw [← hwd]; exact below_drewB (Below.refl _ _)
                clear hwd
                replace E := below_next E BD
                replace Rn := Rn.below BD
                replace Rx := Rx.below BD
                replace kt16 := keep BD kt16
                clear BD
                have S : Kept Nil W32 W32 := Kept.refl _ _
                have d_kt16 := kt16
                have d_Rn := Rn
                have d_Rx := Rx
                have hn0 := Rn.2 i (by omega)
                have hn1 := Rn.2 (i + 1) (by omega)
                have hxx0 := Rx.2 i (by omega)
                have hxx1 := Rx.2 (i + 1) (by omega)
                have hq := range_below (hr i hlt) E
                refine ah_take (v := (.slice (some ⟨gx, 0, none⟩) (n + 1) (n + 1))) (i := 0) (some 121) rfl rfl (by kernel_rfl) (by kernel_rfl) (by kernel_rfl) rfl (fun W hK => ex_mv rfl rfl) S (fun c a w h => hQP c a _ _ w h) ?_
                simp only [zp]
                refine ah_take (v := (.int .i64 (i : Nat))) (i := 1) (some 122) rfl rfl (by kernel_rfl) (by kernel_rfl) (by kernel_rfl) rfl (fun W hK => ex_mv rfl rfl) S (fun c a w h => hQP c a _ _ w h) ?_
                simp only [zp]
                refine ah_take (v := (.int .i64 ((i + 1 : Nat) : Int))) (i := 2) (some 123) rfl rfl (by kernel_rfl) (by kernel_rfl) (by kernel_rfl) rfl (fun W hK => ex_bin (u := (.int .i64 (i : Nat))) (r := (.int .i64 1)) rfl rfl rfl (eg3 _ _ _ _ _ _) (add3 _ (by omega) (by omega))) S (fun c a w h => hQP c a _ _ w h) ?_
                simp only [zp]
                refine ah_take (v := (.pointer (some ⟨gx, (i + 1), none⟩))) (i := 3) (some 124) rfl rfl (by kernel_rfl) (by kernel_rfl) (by kernel_rfl) rfl (fun W hK => ex_ix36 (k := (i + 1)) rfl rfl rfl rfl (by omega)) S (fun c a w h => hQP c a _ _ w h) ?_
                simp only [zp]
                refine ah_take (v := (.int .i64 (X (i + 1)))) (i := 4) (some 125) rfl rfl (by kernel_rfl) (by kernel_rfl) (by kernel_rfl) rfl (fun W hK => ex_load rfl rfl (ld3 (cell_kept hK hxx1 (nilN _)))) S (fun c a w h => hQP c a _ _ w h) ?_
                simp only [zp]
                refine ah_take (v := (.int .i64 h)) (i := 5) (some 126) rfl rfl (by kernel_rfl) (by kernel_rfl) (by kernel_rfl) rfl (fun W hK => ex_mv rfl rfl) S (fun c a w h => hQP c a _ _ w h) ?_
                simp only [zp]
                refine ah_take (v := (.bool true)) (i := 6) (some 127) rfl rfl (by kernel_rfl) (by kernel_rfl) (by kernel_rfl) rfl (fun W hK => ex_bin (u := (.int .i64 (X (i + 1)))) (r := (.int .i64 h)) rfl rfl rfl (eg3 _ _ _ _ _ _) (lss3 _ (decide_eq_true (by omega)))) S (fun c a w h => hQP c a _ _ w h) ?_
                simp only [zp]
                refine ah_take (v := (.bool true)) (i := 7) (some 128) rfl rfl (by kernel_rfl) (by kernel_rfl) (by kernel_rfl) rfl (fun W hK => ex_mv rfl rfl) S (fun c a w h => hQP c a _ _ w h) ?_
                simp only [zp]
                refine ah_skip (i := 8) (some 129) rfl rfl (by kernel_rfl) (by kernel_rfl) (by kernel_rfl) rfl S (fun c a w h => hQP c a _ _ w h) ?_
                simp only [zp]
                refine ah_skip (i := 9) (some 130) rfl rfl (by kernel_rfl) (by kernel_rfl) (by kernel_rfl) rfl S (fun c a w h => hQP c a _ _ w h) ?_
                simp only [zp]
                refine ah_skip (i := 10) (some 131) rfl rfl (by kernel_rfl) (by kernel_rfl) (by kernel_rfl) rfl S (fun c a w h => hQP c a _ _ w h) ?_
                simp only [zp]
                refine ah_skip (i := 11) (some 132) rfl rfl (by kernel_rfl) (by kernel_rfl) (by kernel_rfl) rfl S (fun c a w h => hQP c a _ _ w h) ?_
                simp only [zp]
                refine ah_skip (i := 12) (some 133) rfl rfl (by kernel_rfl) (by kernel_rfl) (by kernel_rfl) rfl S (fun c a w h => hQP c a _ _ w h) ?_
                simp only [zp]
                refine ah_skip (i := 13) (some 134) rfl rfl (by kernel_rfl) (by kernel_rfl) (by kernel_rfl) rfl S (fun c a w h => hQP c a _ _ w h) ?_
                simp only [zp]
                refine ah_skip (i := 14) (some 135) rfl rfl (by kernel_rfl) (by kernel_rfl) (by kernel_rfl) rfl S (fun c a w h => hQP c a _ _ w h) ?_
                simp only [zp]
                refine ah_skip (i := 15) (some 136) rfl rfl (by kernel_rfl) (by kernel_rfl) (by kernel_rfl) rfl S (fun c a w h => hQP c a _ _ w h) ?_
                simp only [zp]
                refine ah_skip (i := 16) (some 137) rfl rfl (by kernel_rfl) (by kernel_rfl) (by kernel_rfl) rfl S (fun c a w h => hQP c a _ _ w h) ?_
                simp only [zp]
                refine ah_skip (i := 17) (some 138) rfl rfl (by kernel_rfl) (by kernel_rfl) (by kernel_rfl) rfl S (fun c a w h => hQP c a _ _ w h) ?_
                simp only [zp]
                refine ah_skip (i := 18) (some 139) rfl rfl (by kernel_rfl) (by kernel_rfl) (by kernel_rfl) rfl S (fun c a w h => hQP c a _ _ w h) ?_
                simp only [zp]
                refine ah_skip (i := 19) (some 140) rfl rfl (by kernel_rfl) (by kernel_rfl) (by kernel_rfl) rfl S (fun c a w h => hQP c a _ _ w h) ?_
                simp only [zp]
                refine ah_skip (i := 20) (some 141) rfl rfl (by kernel_rfl) (by kernel_rfl) (by kernel_rfl) rfl S (fun c a w h => hQP c a _ _ w h) ?_
                simp only [zp]
                refine ah_take (v := (.bool true)) (i := 21) (some 142) rfl rfl (by kernel_rfl) (by kernel_rfl) (by kernel_rfl) rfl (fun W hK => ex_pkT rfl rfl rfl) S (fun c a w h => hQP c a _ _ w h) ?_
                simp only [zp]
                refine ah_take (v := (.bool true)) (i := 22) (some 19) rfl rfl (by kernel_rfl) (by kernel_rfl) (by kernel_rfl) rfl (fun W hK => ex_asg rfl rfl) S (fun c a w h => hQP c a _ _ w h) ?_
                simp only [zp]
                refine ah_done (by kernel_rfl) ?_
                clear hQP
                subst hQ
                clear S d_kt16 d_Rn d_Rx
                refine wq fun Q hQ => ?_
                refine sm (.bool false) 143 rfl rfl rfl rfl ?_
                simp only [zp]
                refine sm (.bool false) 144 rfl rfl rfl rfl ?_
                simp only [zp]
                refine sn 145 rfl rfl ?_
                simp only [zp]
                refine sn 146 rfl rfl ?_
                simp only [zp]
                refine sv (.bool false) 147 rfl rfl (ex_pkF rfl rfl rfl) ?_
                simp only [zp]
                refine sm (.bool false) 148 rfl rfl rfl rfl ?_
                simp only [zp]
                refine sm (.bool false) 149 rfl rfl rfl rfl ?_
                simp only [zp]
                refine sv (.bool true) 150 rfl rfl (ex_not rfl rfl rfl) ?_
                simp only [zp]
                refine sm (.bool true) 151 rfl rfl rfl rfl ?_
                simp only [zp]
                refine sm (.bool true) 152 rfl rfl rfl rfl ?_
                simp only [zp]
                refine sv (.bool true) 153 rfl rfl (ex_pkT rfl rfl rfl) ?_
                simp only [zp]
                refine sm (.bool true) 154 rfl rfl rfl rfl ?_
                simp only [zp]
                refine sm (.int .i64 5) 155 rfl rfl rfl rfl ?_
                simp only [zp]
                refine sv (.bool false) 156 rfl rfl (ex_bin (u := (.int .i64 5)) (r := (.int .i64 5)) rfl rfl rfl (eg3 _ _ _ _ _ _) (neq3 _ (by decide))) ?_
                simp only [zp]
                refine sv (.bool false) 157 rfl rfl (ex_pkT rfl rfl rfl) ?_
                simp only [zp]
                refine sv (.bool false) 158 rfl rfl (ex_pkF rfl rfl rfl) ?_
                simp only [zp]
                refine sm (.bool false) 159 rfl rfl rfl rfl ?_
                simp only [zp]
                refine sm (.bool false) 160 rfl rfl rfl rfl ?_
                simp only [zp]
                refine sv (.bool true) 161 rfl rfl (ex_not rfl rfl rfl) ?_
                simp only [zp]
                refine sm (.bool true) 162 rfl rfl rfl rfl ?_
                simp only [zp]
                refine sm (.bool true) 163 rfl rfl rfl rfl ?_
                simp only [zp]
                refine sv (.bool false) 164 rfl rfl (ex_not rfl rfl rfl) ?_
                simp only [zp]
                refine sv (.bool false) 165 rfl rfl (ex_pkT rfl rfl rfl) ?_
                simp only [zp]
                refine sm (.bool false) 166 rfl rfl rfl rfl ?_
                simp only [zp]
                refine sn 167 rfl rfl ?_
                simp only [zp]
                refine sn 168 rfl rfl ?_
                simp only [zp]
                refine sv (.bool false) 169 rfl rfl (ex_pkF rfl rfl rfl) ?_
                simp only [zp]
                refine sv (.bool false) 170 rfl rfl (ex_pkF rfl rfl rfl) ?_
                simp only [zp]
                refine st_end ?_
                subst hQ
                refine wp_cond_false rfl ?_
                refine wp_skip ?_
                refine wl_in (wl_cap fun Q hQ => ?_)
                refine sm (.int .i64 (i : Nat)) 73 rfl rfl rfl rfl ?_
                simp only [zp]
                refine sv (.int .i64 ((i + 1 : Nat) : Int)) 74 rfl rfl (ex_bin rfl rfl rfl (eg3 _ _ _ _ _ _) (add3 _ (by omega) (by omega))) ?_
                simp only [zp]
                refine sg (.int .i64 ((i + 1 : Nat) : Int)) 15 rfl rfl rfl rfl ?_
                simp only [zp]
                refine st_end ?_
                subst hQ
                refine then_go ?_
                go_roundw
                case rel => exact ⟨i + 1, by omega, rfl, E, Rn, Rx⟩
                case measure => simp [intOf]; omega
              · skip
                by_cases e3 : X (i + 1) - h ≤ (qs i).g
                · skip
                  refine wp_seq ?_
                  refine wq fun Q hQ => ?_
                  refine sm (.int .i64 (i : Nat)) 69 rfl rfl rfl rfl ?_
                  simp only [zp]
                  refine sm (.slice (some ⟨b, off, none⟩) n c) 70 rfl rfl rfl rfl ?_
                  simp only [zp]
                  refine sv (.int .i64 (n : Nat)) 71 rfl rfl (ex_len rfl rfl (len35 _ _ _ _ _)) ?_
                  simp only [zp]
                  refine sv (.bool true) 72 rfl rfl (ex_bin (u := (.int .i64 (i : Nat))) (r := (.int .i64 (n : Nat))) rfl rfl rfl (eg3 _ _ _ _ _ _) (lss3 _ (decide_eq_true (by omega)))) ?_
                  simp only [zp]
                  refine st_end ?_
                  subst hQ
                  refine wp_cond_true rfl ?_
                  refine wp_skip ?_
                  refine wp_seq ?_
                  refine wp_block ?_
                  refine wp_seq ?_
                  obtain ⟨W33, hwd⟩ : ∃ wd, wr.drew = wd := ⟨_, rfl⟩
                  refine wp_region_held (S := fun W => Kept Nil W33 W) (by kernel_rfl) ?_
                  show wpAnyH _ _ _ _ _ _ _ _ wr.drew
                  rw [hwd]
                  refine capQ fun Q hQ => ?_
                  have hQP : ∀ c (a : Act) (d : Nat) v w, Q (.panic c) (a.put (some d) v) w → Q (.panic c) a w := by
                    subst hQ
                    exact fun _ _ _ _ _ h => h
                  have BD : Below wr.heap.size wr W33 := by rw [← hwd]; exact below_drewB (Below.refl _ _)
                  clear hwd
                  replace E := below_next E BD
                  replace Rn := Rn.below BD
                  replace Rx := Rx.below BD
                  clear BD
                  have S : Kept Nil W33 W33 := Kept.refl _ _
                  have d_Rn := Rn
                  have d_Rx := Rx
                  have hn0 := Rn.2 i (by omega)
                  have hn1 := Rn.2 (i + 1) (by omega)
                  have hxx0 := Rx.2 i (by omega)
                  have hxx1 := Rx.2 (i + 1) (by omega)
                  have hq := range_below (hr i hlt) E
                  have ltn := block_lt_of_cell hn0
                  have ltx := block_lt_of_cell hxx0
                  simp only at ltn ltx
                  refine ah_take (v := (.slice (some ⟨gn, 0, none⟩) (n + 1) (n + 1))) (i := 0) (some 75) rfl rfl (by kernel_rfl) (by kernel_rfl) (by kernel_rfl) rfl (fun W hK => ex_mv rfl rfl) S (fun c a w h => hQP c a _ _ w h) ?_
                  simp only [zp]
                  refine ah_take (v := (.int .i64 (i : Nat))) (i := 1) (some 76) rfl rfl (by kernel_rfl) (by kernel_rfl) (by kernel_rfl) rfl (fun W hK => ex_mv rfl rfl) S (fun c a w h => hQP c a _ _ w h) ?_
                  simp only [zp]
                  refine ah_take (v := (.int .i64 ((i + 1 : Nat) : Int))) (i := 2) (some 77) rfl rfl (by kernel_rfl) (by kernel_rfl) (by kernel_rfl) rfl (fun W hK => ex_bin (u := (.int .i64 (i : Nat))) (r := (.int .i64 1)) rfl rfl rfl (eg3 _ _ _ _ _ _) (add3 _ (by omega) (by omega))) S (fun c a w h => hQP c a _ _ w h) ?_
                  simp only [zp]
                  refine ah_take (v := (.pointer (some ⟨gn, (i + 1), none⟩))) (i := 3) (some 78) rfl rfl (by kernel_rfl) (by kernel_rfl) (by kernel_rfl) rfl (fun W hK => ex_ix36 (k := (i + 1)) rfl rfl rfl rfl (by omega)) S (fun c a w h => hQP c a _ _ w h) ?_
                  simp only [zp]
                  refine ah_take (v := (.int .i64 (N (i + 1)))) (i := 4) (some 79) rfl rfl (by kernel_rfl) (by kernel_rfl) (by kernel_rfl) rfl (fun W hK => ex_load rfl rfl (ld3 (cell_kept hK hn1 (nilN _)))) S (fun c a w h => hQP c a _ _ w h) ?_
                  simp only [zp]
                  refine ah_take (v := (.slice (some ⟨gx, 0, none⟩) (n + 1) (n + 1))) (i := 5) (some 80) rfl rfl (by kernel_rfl) (by kernel_rfl) (by kernel_rfl) rfl (fun W hK => ex_mv rfl rfl) S (fun c a w h => hQP c a _ _ w h) ?_
                  simp only [zp]
                  refine ah_take (v := (.int .i64 (i : Nat))) (i := 6) (some 81) rfl rfl (by kernel_rfl) (by kernel_rfl) (by kernel_rfl) rfl (fun W hK => ex_mv rfl rfl) S (fun c a w h => hQP c a _ _ w h) ?_
                  simp only [zp]
                  refine ah_take (v := (.int .i64 ((i + 1 : Nat) : Int))) (i := 7) (some 82) rfl rfl (by kernel_rfl) (by kernel_rfl) (by kernel_rfl) rfl (fun W hK => ex_bin (u := (.int .i64 (i : Nat))) (r := (.int .i64 1)) rfl rfl rfl (eg3 _ _ _ _ _ _) (add3 _ (by omega) (by omega))) S (fun c a w h => hQP c a _ _ w h) ?_
                  simp only [zp]
                  refine ah_take (v := (.pointer (some ⟨gx, (i + 1), none⟩))) (i := 8) (some 83) rfl rfl (by kernel_rfl) (by kernel_rfl) (by kernel_rfl) rfl (fun W hK => ex_ix36 (k := (i + 1)) rfl rfl rfl rfl (by omega)) S (fun c a w h => hQP c a _ _ w h) ?_
                  simp only [zp]
                  refine ah_take (v := (.int .i64 (X (i + 1)))) (i := 9) (some 84) rfl rfl (by kernel_rfl) (by kernel_rfl) (by kernel_rfl) rfl (fun W hK => ex_load rfl rfl (ld3 (cell_kept hK hxx1 (nilN _)))) S (fun c a w h => hQP c a _ _ w h) ?_
                  simp only [zp]
                  refine ah_take (v := (.agg (HZ 1 (N (i + 1)) (X (i + 1)) 0))) (i := 10) (some 85) rfl rfl (by kernel_rfl) (by kernel_rfl) (by kernel_rfl) rfl (fun W hK => ex_build3 (v1 := (.int .i64 1)) (v2 := (.int .i64 (N (i + 1)))) (v3 := (.int .i64 (X (i + 1)))) rfl rfl rfl rfl (b28 _ _ _ _)) S (fun c a w h => hQP c a _ _ w h) ?_
                  simp only [zp]
                  refine ah_or1 (i := 11) (by kernel_rfl) ?_
                  refine nx_new (fun b => .pointer (some ⟨b, 0, none⟩)) (some 16) rfl rfl rfl (ex_alloc rfl zero28) ?_
                  intro bt16 W34 kt16 gt16 B
                  refine ⟨S.next B, ?_⟩
                  simp only [zp]
                  have gd_bt16 := Nat.le_trans S.size gt16
                  have ge_bt16 := Nat.le_trans E.size gt16
                  replace E := below_next E B
                  replace Rn := Rn.below B
                  replace Rx := Rx.below B
                  replace S := S.next B
                  clear B
                  refine ah_or1 (i := 12) (by kernel_rfl) ?_
                  obtain ⟨W35, hst, kn, K⟩ := put_all (D := (HZ 1 (N (i + 1)) (X (i + 1)) 0)) kt16 (((show ((HZ 0 0 0 0) : Array Value).size = 101 from rfl)).trans ((HZ_is 1 (N (i + 1)) (X (i + 1)) 0).size).symm) (inf28.trans (congrArg some ((HZ_is 1 (N (i + 1)) (X (i + 1)) 0).size).symm)) (HZ_is 1 (N (i + 1)) (X (i + 1)) 0).one
                  refine nx_sk rfl rfl rfl (ex_store rfl rfl rfl hst) (S.putN K gd_bt16) ?_
                  replace E := below_put E ge_bt16 K
                  replace Rn := Rn.put K (fun e => by omega)
                  replace Rx := Rx.put K (fun e => by omega)
                  replace S := S.putN K gd_bt16
                  replace kt16 := kn
                  clear kn K hst
                  refine ah_done (by kernel_rfl) ?_
                  clear hQP
                  subst hQ
                  clear S  d_Rn d_Rx
                  refine wp_seq ?_
                  obtain ⟨W36, hwd⟩ : ∃ wd, W35.drew = wd := ⟨_, rfl⟩
                  refine wp_region_held (S := fun W => Kept Nil W36 W) (by kernel_rfl) ?_
                  show wpAnyH _ _ _ _ _ _ _ _ W35.drew
                  rw [hwd]
                  refine capQ fun Q hQ => ?_
                  have hQP : ∀ c (a : Act) (d : Nat) v w, Q (.panic c) (a.put (some d) v) w → Q (.panic c) a w := by
                    subst hQ
                    exact fun _ _ _ _ _ h => h
                  have BD : Below W35.heap.size W35 W36 := by rw [← hwd]; exact below_drewB (Below.refl _ _)
                  clear hwd
                  replace E := below_next E BD
                  replace Rn := Rn.below BD
                  replace Rx := Rx.below BD
                  replace kt16 := keep BD kt16
                  clear BD
                  have S : Kept Nil W36 W36 := Kept.refl _ _
                  have d_kt16 := kt16
                  have d_Rn := Rn
                  have d_Rx := Rx
                  have hn0 := Rn.2 i (by omega)
                  have hn1 := Rn.2 (i + 1) (by omega)
                  have hxx0 := Rx.2 i (by omega)
                  have hxx1 := Rx.2 (i + 1) (by omega)
                  have hq := range_below (hr i hlt) E
                  refine ah_take (v := (.slice (some ⟨b, off, none⟩) n c)) (i := 0) (some 86) rfl rfl (by kernel_rfl) (by kernel_rfl) (by kernel_rfl) rfl (fun W hK => ex_mv rfl rfl) S (fun c a w h => hQP c a _ _ w h) ?_
                  simp only [zp]
                  refine ah_take (v := (.int .i64 (i : Nat))) (i := 1) (some 87) rfl rfl (by kernel_rfl) (by kernel_rfl) (by kernel_rfl) rfl (fun W hK => ex_mv rfl rfl) S (fun c a w h => hQP c a _ _ w h) ?_
                  simp only [zp]
                  refine ah_take (v := (.pointer (some ⟨b, (off + i * 5), none⟩))) (i := 2) (some 88) rfl rfl (by kernel_rfl) (by kernel_rfl) (by kernel_rfl) rfl (fun W hK => ex_ix35 rfl rfl rfl hlt) S (fun c a w h => hQP c a _ _ w h) ?_
                  simp only [zp]
                  refine ah_take (v := (.agg (RL (qs i)))) (i := 3) (some 89) rfl rfl (by kernel_rfl) (by kernel_rfl) (by kernel_rfl) rfl (fun W hK => ex_load rfl rfl (ld_range (rng_kept hK hq (nilN _)) Try.underlying25 rfl inf25)) S (fun c a w h => hQP c a _ _ w h) ?_
                  simp only [zp]
                  refine ah_take (v := (.agg (HZ 1 (N (i + 1)) (X (i + 1)) 0))) (i := 4) (some 90) rfl rfl (by kernel_rfl) (by kernel_rfl) (by kernel_rfl) rfl (fun W hK => ex_load (p := (.pointer (some ⟨bt16, 0, none⟩))) rfl rfl (ld_all (keepK hK d_kt16 (nilN _)) Try.underlying28 rfl (inf28.trans (congrArg some ((HZ_is 1 (N (i + 1)) (X (i + 1)) 0).size).symm)))) S (fun c a w h => hQP c a _ _ w h) ?_
                  simp only [zp]
                  refine ah_take (v := (.slice (some ⟨gn, 0, none⟩) (n + 1) (n + 1))) (i := 5) (some 91) rfl rfl (by kernel_rfl) (by kernel_rfl) (by kernel_rfl) rfl (fun W hK => ex_mv rfl rfl) S (fun c a w h => hQP c a _ _ w h) ?_
                  simp only [zp]
                  refine ah_take (v := (.int .i64 (i : Nat))) (i := 6) (some 92) rfl rfl (by kernel_rfl) (by kernel_rfl) (by kernel_rfl) rfl (fun W hK => ex_mv rfl rfl) S (fun c a w h => hQP c a _ _ w h) ?_
                  simp only [zp]
                  refine ah_take (v := (.pointer (some ⟨gn, i, none⟩))) (i := 7) (some 93) rfl rfl (by kernel_rfl) (by kernel_rfl) (by kernel_rfl) rfl (fun W hK => ex_ix36 (k := i) rfl rfl rfl rfl (by omega)) S (fun c a w h => hQP c a _ _ w h) ?_
                  simp only [zp]
                  refine ah_take (v := (.int .i64 (N i))) (i := 8) (some 94) rfl rfl (by kernel_rfl) (by kernel_rfl) (by kernel_rfl) rfl (fun W hK => ex_load rfl rfl (ld3 (cell_kept hK hn0 (nilN _)))) S (fun c a w h => hQP c a _ _ w h) ?_
                  simp only [zp]
                  refine ah_take (v := (.slice (some ⟨gx, 0, none⟩) (n + 1) (n + 1))) (i := 9) (some 95) rfl rfl (by kernel_rfl) (by kernel_rfl) (by kernel_rfl) rfl (fun W hK => ex_mv rfl rfl) S (fun c a w h => hQP c a _ _ w h) ?_
                  simp only [zp]
                  refine ah_take (v := (.int .i64 (i : Nat))) (i := 10) (some 96) rfl rfl (by kernel_rfl) (by kernel_rfl) (by kernel_rfl) rfl (fun W hK => ex_mv rfl rfl) S (fun c a w h => hQP c a _ _ w h) ?_
                  simp only [zp]
                  refine ah_take (v := (.pointer (some ⟨gx, i, none⟩))) (i := 11) (some 97) rfl rfl (by kernel_rfl) (by kernel_rfl) (by kernel_rfl) rfl (fun W hK => ex_ix36 (k := i) rfl rfl rfl rfl (by omega)) S (fun c a w h => hQP c a _ _ w h) ?_
                  simp only [zp]
                  refine ah_take (v := (.int .i64 (X i))) (i := 12) (some 98) rfl rfl (by kernel_rfl) (by kernel_rfl) (by kernel_rfl) rfl (fun W hK => ex_load rfl rfl (ld3 (cell_kept hK hxx0 (nilN _)))) S (fun c a w h => hQP c a _ _ w h) ?_
                  simp only [zp]
                  refine ah_take (v := (.int .i64 h)) (i := 13) (some 99) rfl rfl (by kernel_rfl) (by kernel_rfl) (by kernel_rfl) rfl (fun W hK => ex_mv rfl rfl) S (fun c a w h => hQP c a _ _ w h) ?_
                  simp only [zp]
                  refine ah_or1 (i := 14) (by kernel_rfl) ?_
                  refine nx_call (some 100) rfl rfl rfl (fwd_any W36 (HZ_is _ _ _ _) (hqb i hlt) (by show _ ≤ N (i + 1); omega) am2 (FV.trans ((if_neg (e1)).trans (if_pos (by omega))))) (ex_call (f := 11) (vs := [(.agg (RL (qs i))), (.agg (HZ 1 (N (i + 1)) (X (i + 1)) 0)), (.int .i64 (N i)), (.int .i64 (X i)), (.int .i64 h)]) rfl (cf11 _) rfl) ?_
                  rintro e W37 ⟨rfl, B⟩
                  refine ⟨_, rfl, S.next B, ?_⟩
                  simp only [zp]
                  replace E := below_next E B
                  replace Rn := Rn.below B
                  replace Rx := Rx.below B
                  replace kt16 := keep B kt16
                  replace S := S.next B
                  refine ah_take (v := (.int .i64 5)) (i := 15) (some 17) rfl rfl (by kernel_rfl) (by kernel_rfl) (by kernel_rfl) rfl (fun W hK => ex_asg rfl rfl) S (fun c a w h => hQP c a _ _ w h) ?_
                  simp only [zp]
                  refine ah_done (by kernel_rfl) ?_
                  clear hQP
                  subst hQ
                  clear S d_kt16 d_Rn d_Rx
                  refine wp_seq ?_
                  obtain ⟨W38, hwd⟩ : ∃ wd, W37.drew = wd := ⟨_, rfl⟩
                  refine wp_region_held (S := fun W => Kept Nil W38 W) (by kernel_rfl) ?_
                  show wpAnyH _ _ _ _ _ _ _ _ W37.drew
                  rw [hwd]
                  refine capQ fun Q hQ => ?_
                  have hQP : ∀ c (a : Act) (d : Nat) v w, Q (.panic c) (a.put (some d) v) w → Q (.panic c) a w := by
                    subst hQ
                    exact fun _ _ _ _ _ h => h
                  have BD : Below W37.heap.size W37 W38 := by rw [← hwd]; exact below_drewB (Below.refl _ _)
                  clear hwd
                  replace E := below_next E BD
                  replace Rn := Rn.below BD
                  replace Rx := Rx.below BD
                  replace kt16 := keep BD kt16
                  clear BD
                  have S : Kept Nil W38 W38 := Kept.refl _ _
                  have d_kt16 := kt16
                  have d_Rn := Rn
                  have d_Rx := Rx
                  have hn0 := Rn.2 i (by omega)
                  have hn1 := Rn.2 (i + 1) (by omega)
                  have hxx0 := Rx.2 i (by omega)
                  have hxx1 := Rx.2 (i + 1) (by omega)
                  have hq := range_below (hr i hlt) E
                  refine ah_take (v := (.slice (some ⟨gx, 0, none⟩) (n + 1) (n + 1))) (i := 0) (some 101) rfl rfl (by kernel_rfl) (by kernel_rfl) (by kernel_rfl) rfl (fun W hK => ex_mv rfl rfl) S (fun c a w h => hQP c a _ _ w h) ?_
                  simp only [zp]
                  refine ah_take (v := (.int .i64 (i : Nat))) (i := 1) (some 102) rfl rfl (by kernel_rfl) (by kernel_rfl) (by kernel_rfl) rfl (fun W hK => ex_mv rfl rfl) S (fun c a w h => hQP c a _ _ w h) ?_
                  simp only [zp]
                  refine ah_take (v := (.pointer (some ⟨gx, i, none⟩))) (i := 2) (some 103) rfl rfl (by kernel_rfl) (by kernel_rfl) (by kernel_rfl) rfl (fun W hK => ex_ix36 (k := i) rfl rfl rfl rfl (by omega)) S (fun c a w h => hQP c a _ _ w h) ?_
                  simp only [zp]
                  refine ah_take (v := (.int .i64 (X i))) (i := 3) (some 104) rfl rfl (by kernel_rfl) (by kernel_rfl) (by kernel_rfl) rfl (fun W hK => ex_load rfl rfl (ld3 (cell_kept hK hxx0 (nilN _)))) S (fun c a w h => hQP c a _ _ w h) ?_
                  simp only [zp]
                  refine ah_take (v := (.int .i64 h)) (i := 4) (some 105) rfl rfl (by kernel_rfl) (by kernel_rfl) (by kernel_rfl) rfl (fun W hK => ex_mv rfl rfl) S (fun c a w h => hQP c a _ _ w h) ?_
                  simp only [zp]
                  refine ah_take (v := (.bool true)) (i := 5) (some 106) rfl rfl (by kernel_rfl) (by kernel_rfl) (by kernel_rfl) rfl (fun W hK => ex_bin (u := (.int .i64 (X i))) (r := (.int .i64 h)) rfl rfl rfl (eg3 _ _ _ _ _ _) (gtr3 _ (decide_eq_true (by omega)))) S (fun c a w h => hQP c a _ _ w h) ?_
                  simp only [zp]
                  refine ah_take (v := (.bool true)) (i := 6) (some 107) rfl rfl (by kernel_rfl) (by kernel_rfl) (by kernel_rfl) rfl (fun W hK => ex_mv rfl rfl) S (fun c a w h => hQP c a _ _ w h) ?_
                  simp only [zp]
                  refine ah_take (v := (.slice (some ⟨gx, 0, none⟩) (n + 1) (n + 1))) (i := 7) (some 108) rfl rfl (by kernel_rfl) (by kernel_rfl) (by kernel_rfl) rfl (fun W hK => ex_mv rfl rfl) S (fun c a w h => hQP c a _ _ w h) ?_
                  simp only [zp]
                  refine ah_take (v := (.int .i64 (i : Nat))) (i := 8) (some 109) rfl rfl (by kernel_rfl) (by kernel_rfl) (by kernel_rfl) rfl (fun W hK => ex_mv rfl rfl) S (fun c a w h => hQP c a _ _ w h) ?_
                  simp only [zp]
                  refine ah_take (v := (.pointer (some ⟨gx, i, none⟩))) (i := 9) (some 110) rfl rfl (by kernel_rfl) (by kernel_rfl) (by kernel_rfl) rfl (fun W hK => ex_ix36 (k := i) rfl rfl rfl rfl (by omega)) S (fun c a w h => hQP c a _ _ w h) ?_
                  simp only [zp]
                  refine ah_take (v := (.int .i64 (X i))) (i := 10) (some 111) rfl rfl (by kernel_rfl) (by kernel_rfl) (by kernel_rfl) rfl (fun W hK => ex_load rfl rfl (ld3 (cell_kept hK hxx0 (nilN _)))) S (fun c a w h => hQP c a _ _ w h) ?_
                  simp only [zp]
                  refine ah_take (v := (.int .i64 h)) (i := 11) (some 112) rfl rfl (by kernel_rfl) (by kernel_rfl) (by kernel_rfl) rfl (fun W hK => ex_mv rfl rfl) S (fun c a w h => hQP c a _ _ w h) ?_
                  simp only [zp]
                  refine ah_take (v := (.int .i64 (X i - h))) (i := 12) (some 113) rfl rfl (by kernel_rfl) (by kernel_rfl) (by kernel_rfl) rfl (fun W hK => ex_bin (u := (.int .i64 (X i))) (r := (.int .i64 h)) rfl rfl rfl (eg3 _ _ _ _ _ _) (sub3 _ rfl (by omega))) S (fun c a w h => hQP c a _ _ w h) ?_
                  simp only [zp]
                  refine ah_take (v := (.slice (some ⟨b, off, none⟩) n c)) (i := 13) (some 114) rfl rfl (by kernel_rfl) (by kernel_rfl) (by kernel_rfl) rfl (fun W hK => ex_mv rfl rfl) S (fun c a w h => hQP c a _ _ w h) ?_
                  simp only [zp]
                  refine ah_take (v := (.int .i64 (i : Nat))) (i := 14) (some 115) rfl rfl (by kernel_rfl) (by kernel_rfl) (by kernel_rfl) rfl (fun W hK => ex_mv rfl rfl) S (fun c a w h => hQP c a _ _ w h) ?_
                  simp only [zp]
                  refine ah_take (v := (.pointer (some ⟨b, (off + i * 5), none⟩))) (i := 15) (some 116) rfl rfl (by kernel_rfl) (by kernel_rfl) (by kernel_rfl) rfl (fun W hK => ex_ix35 rfl rfl rfl hlt) S (fun c a w h => hQP c a _ _ w h) ?_
                  simp only [zp]
                  refine ah_take (v := (.pointer (some ⟨b, (off + i * 5 + 4), none⟩))) (i := 16) (some 117) rfl rfl (by kernel_rfl) (by kernel_rfl) (by kernel_rfl) rfl (fun W hK => ex_fa rfl rfl (faL _ _ _)) S (fun c a w h => hQP c a _ _ w h) ?_
                  simp only [zp]
                  refine ah_take (v := (.int .i64 (qs i).f)) (i := 17) (some 118) rfl rfl (by kernel_rfl) (by kernel_rfl) (by kernel_rfl) rfl (fun W hK => ex_load rfl rfl (ld3 (cell_kept hK (hq 4 _ rfl) (nilN _)))) S (fun c a w h => hQP c a _ _ w h) ?_
                  simp only [zp]
                  refine ah_take (v := (.bool false)) (i := 18) (some 119) rfl rfl (by kernel_rfl) (by kernel_rfl) (by kernel_rfl) rfl (fun W hK => ex_bin (u := (.int .i64 (X i - h))) (r := (.int .i64 (qs i).f)) rfl rfl rfl (eg3 _ _ _ _ _ _) (gtr3 _ (decide_eq_false (by omega)))) S (fun c a w h => hQP c a _ _ w h) ?_
                  simp only [zp]
                  refine ah_take (v := (.bool false)) (i := 19) (some 120) rfl rfl (by kernel_rfl) (by kernel_rfl) (by kernel_rfl) rfl (fun W hK => ex_pkT rfl rfl rfl) S (fun c a w h => hQP c a _ _ w h) ?_
                  simp only [zp]
                  refine ah_take (v := (.bool false)) (i := 20) (some 18) rfl rfl (by kernel_rfl) (by kernel_rfl) (by kernel_rfl) rfl (fun W hK => ex_asg rfl rfl) S (fun c a w h => hQP c a _ _ w h) ?_
                  simp only [zp]
                  refine ah_done (by kernel_rfl) ?_
                  clear hQP
                  subst hQ
                  clear S d_kt16 d_Rn d_Rx
                  refine wp_seq ?_
                  obtain ⟨W39, hwd⟩ : ∃ wd, W38.drew = wd := ⟨_, rfl⟩
                  refine wp_region_held (S := fun W => Kept Nil W39 W) (by kernel_rfl) ?_
                  show wpAnyH _ _ _ _ _ _ _ _ W38.drew
                  rw [hwd]
                  refine capQ fun Q hQ => ?_
                  have hQP : ∀ c (a : Act) (d : Nat) v w, Q (.panic c) (a.put (some d) v) w → Q (.panic c) a w := by
                    subst hQ
                    exact fun _ _ _ _ _ h => h
                  have BD : Below W38.heap.size W38 W39 := by rw [← hwd]; exact below_drewB (Below.refl _ _)
                  clear hwd
                  replace E := below_next E BD
                  replace Rn := Rn.below BD
                  replace Rx := Rx.below BD
                  replace kt16 := keep BD kt16
                  clear BD
                  have S : Kept Nil W39 W39 := Kept.refl _ _
                  have d_kt16 := kt16
                  have d_Rn := Rn
                  have d_Rx := Rx
                  have hn0 := Rn.2 i (by omega)
                  have hn1 := Rn.2 (i + 1) (by omega)
                  have hxx0 := Rx.2 i (by omega)
                  have hxx1 := Rx.2 (i + 1) (by omega)
                  have hq := range_below (hr i hlt) E
                  refine ah_take (v := (.slice (some ⟨gx, 0, none⟩) (n + 1) (n + 1))) (i := 0) (some 121) rfl rfl (by kernel_rfl) (by kernel_rfl) (by kernel_rfl) rfl (fun W hK => ex_mv rfl rfl) S (fun c a w h => hQP c a _ _ w h) ?_
                  simp only [zp]
                  refine ah_take (v := (.int .i64 (i : Nat))) (i := 1) (some 122) rfl rfl (by kernel_rfl) (by kernel_rfl) (by kernel_rfl) rfl (fun W hK => ex_mv rfl rfl) S (fun c a w h => hQP c a _ _ w h) ?_
                  simp only [zp]
                  refine ah_take (v := (.int .i64 ((i + 1 : Nat) : Int))) (i := 2) (some 123) rfl rfl (by kernel_rfl) (by kernel_rfl) (by kernel_rfl) rfl (fun W hK => ex_bin (u := (.int .i64 (i : Nat))) (r := (.int .i64 1)) rfl rfl rfl (eg3 _ _ _ _ _ _) (add3 _ (by omega) (by omega))) S (fun c a w h => hQP c a _ _ w h) ?_
                  simp only [zp]
                  refine ah_take (v := (.pointer (some ⟨gx, (i + 1), none⟩))) (i := 3) (some 124) rfl rfl (by kernel_rfl) (by kernel_rfl) (by kernel_rfl) rfl (fun W hK => ex_ix36 (k := (i + 1)) rfl rfl rfl rfl (by omega)) S (fun c a w h => hQP c a _ _ w h) ?_
                  simp only [zp]
                  refine ah_take (v := (.int .i64 (X (i + 1)))) (i := 4) (some 125) rfl rfl (by kernel_rfl) (by kernel_rfl) (by kernel_rfl) rfl (fun W hK => ex_load rfl rfl (ld3 (cell_kept hK hxx1 (nilN _)))) S (fun c a w h => hQP c a _ _ w h) ?_
                  simp only [zp]
                  refine ah_take (v := (.int .i64 h)) (i := 5) (some 126) rfl rfl (by kernel_rfl) (by kernel_rfl) (by kernel_rfl) rfl (fun W hK => ex_mv rfl rfl) S (fun c a w h => hQP c a _ _ w h) ?_
                  simp only [zp]
                  refine ah_take (v := (.bool false)) (i := 6) (some 127) rfl rfl (by kernel_rfl) (by kernel_rfl) (by kernel_rfl) rfl (fun W hK => ex_bin (u := (.int .i64 (X (i + 1)))) (r := (.int .i64 h)) rfl rfl rfl (eg3 _ _ _ _ _ _) (lss3 _ (decide_eq_false (by omega)))) S (fun c a w h => hQP c a _ _ w h) ?_
                  simp only [zp]
                  refine ah_take (v := (.bool false)) (i := 7) (some 128) rfl rfl (by kernel_rfl) (by kernel_rfl) (by kernel_rfl) rfl (fun W hK => ex_mv rfl rfl) S (fun c a w h => hQP c a _ _ w h) ?_
                  simp only [zp]
                  refine ah_take (v := (.slice (some ⟨gx, 0, none⟩) (n + 1) (n + 1))) (i := 8) (some 129) rfl rfl (by kernel_rfl) (by kernel_rfl) (by kernel_rfl) rfl (fun W hK => ex_mv rfl rfl) S (fun c a w h => hQP c a _ _ w h) ?_
                  simp only [zp]
                  refine ah_take (v := (.int .i64 (i : Nat))) (i := 9) (some 130) rfl rfl (by kernel_rfl) (by kernel_rfl) (by kernel_rfl) rfl (fun W hK => ex_mv rfl rfl) S (fun c a w h => hQP c a _ _ w h) ?_
                  simp only [zp]
                  refine ah_take (v := (.int .i64 ((i + 1 : Nat) : Int))) (i := 10) (some 131) rfl rfl (by kernel_rfl) (by kernel_rfl) (by kernel_rfl) rfl (fun W hK => ex_bin (u := (.int .i64 (i : Nat))) (r := (.int .i64 1)) rfl rfl rfl (eg3 _ _ _ _ _ _) (add3 _ (by omega) (by omega))) S (fun c a w h => hQP c a _ _ w h) ?_
                  simp only [zp]
                  refine ah_take (v := (.pointer (some ⟨gx, (i + 1), none⟩))) (i := 11) (some 132) rfl rfl (by kernel_rfl) (by kernel_rfl) (by kernel_rfl) rfl (fun W hK => ex_ix36 (k := (i + 1)) rfl rfl rfl rfl (by omega)) S (fun c a w h => hQP c a _ _ w h) ?_
                  simp only [zp]
                  refine ah_take (v := (.int .i64 (X (i + 1)))) (i := 12) (some 133) rfl rfl (by kernel_rfl) (by kernel_rfl) (by kernel_rfl) rfl (fun W hK => ex_load rfl rfl (ld3 (cell_kept hK hxx1 (nilN _)))) S (fun c a w h => hQP c a _ _ w h) ?_
                  simp only [zp]
                  refine ah_take (v := (.int .i64 h)) (i := 13) (some 134) rfl rfl (by kernel_rfl) (by kernel_rfl) (by kernel_rfl) rfl (fun W hK => ex_mv rfl rfl) S (fun c a w h => hQP c a _ _ w h) ?_
                  simp only [zp]
                  refine ah_take (v := (.int .i64 (X (i + 1) - h))) (i := 14) (some 135) rfl rfl (by kernel_rfl) (by kernel_rfl) (by kernel_rfl) rfl (fun W hK => ex_bin (u := (.int .i64 (X (i + 1)))) (r := (.int .i64 h)) rfl rfl rfl (eg3 _ _ _ _ _ _) (sub3 _ rfl (by omega))) S (fun c a w h => hQP c a _ _ w h) ?_
                  simp only [zp]
                  refine ah_take (v := (.slice (some ⟨b, off, none⟩) n c)) (i := 15) (some 136) rfl rfl (by kernel_rfl) (by kernel_rfl) (by kernel_rfl) rfl (fun W hK => ex_mv rfl rfl) S (fun c a w h => hQP c a _ _ w h) ?_
                  simp only [zp]
                  refine ah_take (v := (.int .i64 (i : Nat))) (i := 16) (some 137) rfl rfl (by kernel_rfl) (by kernel_rfl) (by kernel_rfl) rfl (fun W hK => ex_mv rfl rfl) S (fun c a w h => hQP c a _ _ w h) ?_
                  simp only [zp]
                  refine ah_take (v := (.pointer (some ⟨b, (off + i * 5), none⟩))) (i := 17) (some 138) rfl rfl (by kernel_rfl) (by kernel_rfl) (by kernel_rfl) rfl (fun W hK => ex_ix35 rfl rfl rfl hlt) S (fun c a w h => hQP c a _ _ w h) ?_
                  simp only [zp]
                  refine ah_take (v := (.pointer (some ⟨b, (off + i * 5 + 3), none⟩))) (i := 18) (some 139) rfl rfl (by kernel_rfl) (by kernel_rfl) (by kernel_rfl) rfl (fun W hK => ex_fa rfl rfl (faG _ _ _)) S (fun c a w h => hQP c a _ _ w h) ?_
                  simp only [zp]
                  refine ah_take (v := (.int .i64 (qs i).g)) (i := 19) (some 140) rfl rfl (by kernel_rfl) (by kernel_rfl) (by kernel_rfl) rfl (fun W hK => ex_load rfl rfl (ld3 (cell_kept hK (hq 3 _ rfl) (nilN _)))) S (fun c a w h => hQP c a _ _ w h) ?_
                  simp only [zp]
                  refine ah_take (v := (.bool true)) (i := 20) (some 141) rfl rfl (by kernel_rfl) (by kernel_rfl) (by kernel_rfl) rfl (fun W hK => ex_bin (u := (.int .i64 (X (i + 1) - h))) (r := (.int .i64 (qs i).g)) rfl rfl rfl (eg3 _ _ _ _ _ _) (leq3 _ (decide_eq_true (by omega)))) S (fun c a w h => hQP c a _ _ w h) ?_
                  simp only [zp]
                  refine ah_take (v := (.bool true)) (i := 21) (some 142) rfl rfl (by kernel_rfl) (by kernel_rfl) (by kernel_rfl) rfl (fun W hK => ex_pkF rfl rfl rfl) S (fun c a w h => hQP c a _ _ w h) ?_
                  simp only [zp]
                  refine ah_take (v := (.bool true)) (i := 22) (some 19) rfl rfl (by kernel_rfl) (by kernel_rfl) (by kernel_rfl) rfl (fun W hK => ex_asg rfl rfl) S (fun c a w h => hQP c a _ _ w h) ?_
                  simp only [zp]
                  refine ah_done (by kernel_rfl) ?_
                  clear hQP
                  subst hQ
                  clear S d_kt16 d_Rn d_Rx
                  refine wq fun Q hQ => ?_
                  refine sm (.bool false) 143 rfl rfl rfl rfl ?_
                  simp only [zp]
                  refine sm (.bool false) 144 rfl rfl rfl rfl ?_
                  simp only [zp]
                  refine sn 145 rfl rfl ?_
                  simp only [zp]
                  refine sn 146 rfl rfl ?_
                  simp only [zp]
                  refine sv (.bool false) 147 rfl rfl (ex_pkF rfl rfl rfl) ?_
                  simp only [zp]
                  refine sm (.bool false) 148 rfl rfl rfl rfl ?_
                  simp only [zp]
                  refine sm (.bool false) 149 rfl rfl rfl rfl ?_
                  simp only [zp]
                  refine sv (.bool true) 150 rfl rfl (ex_not rfl rfl rfl) ?_
                  simp only [zp]
                  refine sm (.bool true) 151 rfl rfl rfl rfl ?_
                  simp only [zp]
                  refine sm (.bool true) 152 rfl rfl rfl rfl ?_
                  simp only [zp]
                  refine sv (.bool true) 153 rfl rfl (ex_pkT rfl rfl rfl) ?_
                  simp only [zp]
                  refine sm (.bool true) 154 rfl rfl rfl rfl ?_
                  simp only [zp]
                  refine sm (.int .i64 5) 155 rfl rfl rfl rfl ?_
                  simp only [zp]
                  refine sv (.bool false) 156 rfl rfl (ex_bin (u := (.int .i64 5)) (r := (.int .i64 5)) rfl rfl rfl (eg3 _ _ _ _ _ _) (neq3 _ (by decide))) ?_
                  simp only [zp]
                  refine sv (.bool false) 157 rfl rfl (ex_pkT rfl rfl rfl) ?_
                  simp only [zp]
                  refine sv (.bool false) 158 rfl rfl (ex_pkF rfl rfl rfl) ?_
                  simp only [zp]
                  refine sm (.bool false) 159 rfl rfl rfl rfl ?_
                  simp only [zp]
                  refine sm (.bool false) 160 rfl rfl rfl rfl ?_
                  simp only [zp]
                  refine sv (.bool true) 161 rfl rfl (ex_not rfl rfl rfl) ?_
                  simp only [zp]
                  refine sm (.bool true) 162 rfl rfl rfl rfl ?_
                  simp only [zp]
                  refine sm (.bool true) 163 rfl rfl rfl rfl ?_
                  simp only [zp]
                  refine sv (.bool false) 164 rfl rfl (ex_not rfl rfl rfl) ?_
                  simp only [zp]
                  refine sv (.bool false) 165 rfl rfl (ex_pkT rfl rfl rfl) ?_
                  simp only [zp]
                  refine sm (.bool false) 166 rfl rfl rfl rfl ?_
                  simp only [zp]
                  refine sn 167 rfl rfl ?_
                  simp only [zp]
                  refine sn 168 rfl rfl ?_
                  simp only [zp]
                  refine sv (.bool false) 169 rfl rfl (ex_pkF rfl rfl rfl) ?_
                  simp only [zp]
                  refine sv (.bool false) 170 rfl rfl (ex_pkF rfl rfl rfl) ?_
                  simp only [zp]
                  refine st_end ?_
                  subst hQ
                  refine wp_cond_false rfl ?_
                  refine wp_skip ?_
                  refine wl_in (wl_cap fun Q hQ => ?_)
                  refine sm (.int .i64 (i : Nat)) 73 rfl rfl rfl rfl ?_
                  simp only [zp]
                  refine sv (.int .i64 ((i + 1 : Nat) : Int)) 74 rfl rfl (ex_bin rfl rfl rfl (eg3 _ _ _ _ _ _) (add3 _ (by omega) (by omega))) ?_
                  simp only [zp]
                  refine sg (.int .i64 ((i + 1 : Nat) : Int)) 15 rfl rfl rfl rfl ?_
                  simp only [zp]
                  refine st_end ?_
                  subst hQ
                  refine then_go ?_
                  go_roundw
                  case rel => exact ⟨i + 1, by omega, rfl, E, Rn, Rx⟩
                  case measure => simp [intOf]; omega
                · skip
                  refine wp_seq ?_
                  refine wq fun Q hQ => ?_
                  refine sm (.int .i64 (i : Nat)) 69 rfl rfl rfl rfl ?_
                  simp only [zp]
                  refine sm (.slice (some ⟨b, off, none⟩) n c) 70 rfl rfl rfl rfl ?_
                  simp only [zp]
                  refine sv (.int .i64 (n : Nat)) 71 rfl rfl (ex_len rfl rfl (len35 _ _ _ _ _)) ?_
                  simp only [zp]
                  refine sv (.bool true) 72 rfl rfl (ex_bin (u := (.int .i64 (i : Nat))) (r := (.int .i64 (n : Nat))) rfl rfl rfl (eg3 _ _ _ _ _ _) (lss3 _ (decide_eq_true (by omega)))) ?_
                  simp only [zp]
                  refine st_end ?_
                  subst hQ
                  refine wp_cond_true rfl ?_
                  refine wp_skip ?_
                  refine wp_seq ?_
                  refine wp_block ?_
                  refine wp_seq ?_
                  obtain ⟨W40, hwd⟩ : ∃ wd, wr.drew = wd := ⟨_, rfl⟩
                  refine wp_region_held (S := fun W => Kept Nil W40 W) (by kernel_rfl) ?_
                  show wpAnyH _ _ _ _ _ _ _ _ wr.drew
                  rw [hwd]
                  refine capQ fun Q hQ => ?_
                  have hQP : ∀ c (a : Act) (d : Nat) v w, Q (.panic c) (a.put (some d) v) w → Q (.panic c) a w := by
                    subst hQ
                    exact fun _ _ _ _ _ h => h
                  have BD : Below wr.heap.size wr W40 := by rw [← hwd]; exact below_drewB (Below.refl _ _)
                  clear hwd
                  replace E := below_next E BD
                  replace Rn := Rn.below BD
                  replace Rx := Rx.below BD
                  clear BD
                  have S : Kept Nil W40 W40 := Kept.refl _ _
                  have d_Rn := Rn
                  have d_Rx := Rx
                  have hn0 := Rn.2 i (by omega)
                  have hn1 := Rn.2 (i + 1) (by omega)
                  have hxx0 := Rx.2 i (by omega)
                  have hxx1 := Rx.2 (i + 1) (by omega)
                  have hq := range_below (hr i hlt) E
                  have ltn := block_lt_of_cell hn0
                  have ltx := block_lt_of_cell hxx0
                  simp only at ltn ltx
                  refine ah_take (v := (.slice (some ⟨gn, 0, none⟩) (n + 1) (n + 1))) (i := 0) (some 75) rfl rfl (by kernel_rfl) (by kernel_rfl) (by kernel_rfl) rfl (fun W hK => ex_mv rfl rfl) S (fun c a w h => hQP c a _ _ w h) ?_
                  simp only [zp]
                  refine ah_take (v := (.int .i64 (i : Nat))) (i := 1) (some 76) rfl rfl (by kernel_rfl) (by kernel_rfl) (by kernel_rfl) rfl (fun W hK => ex_mv rfl rfl) S (fun c a w h => hQP c a _ _ w h) ?_
                  simp only [zp]
                  refine ah_take (v := (.int .i64 ((i + 1 : Nat) : Int))) (i := 2) (some 77) rfl rfl (by kernel_rfl) (by kernel_rfl) (by kernel_rfl) rfl (fun W hK => ex_bin (u := (.int .i64 (i : Nat))) (r := (.int .i64 1)) rfl rfl rfl (eg3 _ _ _ _ _ _) (add3 _ (by omega) (by omega))) S (fun c a w h => hQP c a _ _ w h) ?_
                  simp only [zp]
                  refine ah_take (v := (.pointer (some ⟨gn, (i + 1), none⟩))) (i := 3) (some 78) rfl rfl (by kernel_rfl) (by kernel_rfl) (by kernel_rfl) rfl (fun W hK => ex_ix36 (k := (i + 1)) rfl rfl rfl rfl (by omega)) S (fun c a w h => hQP c a _ _ w h) ?_
                  simp only [zp]
                  refine ah_take (v := (.int .i64 (N (i + 1)))) (i := 4) (some 79) rfl rfl (by kernel_rfl) (by kernel_rfl) (by kernel_rfl) rfl (fun W hK => ex_load rfl rfl (ld3 (cell_kept hK hn1 (nilN _)))) S (fun c a w h => hQP c a _ _ w h) ?_
                  simp only [zp]
                  refine ah_take (v := (.slice (some ⟨gx, 0, none⟩) (n + 1) (n + 1))) (i := 5) (some 80) rfl rfl (by kernel_rfl) (by kernel_rfl) (by kernel_rfl) rfl (fun W hK => ex_mv rfl rfl) S (fun c a w h => hQP c a _ _ w h) ?_
                  simp only [zp]
                  refine ah_take (v := (.int .i64 (i : Nat))) (i := 6) (some 81) rfl rfl (by kernel_rfl) (by kernel_rfl) (by kernel_rfl) rfl (fun W hK => ex_mv rfl rfl) S (fun c a w h => hQP c a _ _ w h) ?_
                  simp only [zp]
                  refine ah_take (v := (.int .i64 ((i + 1 : Nat) : Int))) (i := 7) (some 82) rfl rfl (by kernel_rfl) (by kernel_rfl) (by kernel_rfl) rfl (fun W hK => ex_bin (u := (.int .i64 (i : Nat))) (r := (.int .i64 1)) rfl rfl rfl (eg3 _ _ _ _ _ _) (add3 _ (by omega) (by omega))) S (fun c a w h => hQP c a _ _ w h) ?_
                  simp only [zp]
                  refine ah_take (v := (.pointer (some ⟨gx, (i + 1), none⟩))) (i := 8) (some 83) rfl rfl (by kernel_rfl) (by kernel_rfl) (by kernel_rfl) rfl (fun W hK => ex_ix36 (k := (i + 1)) rfl rfl rfl rfl (by omega)) S (fun c a w h => hQP c a _ _ w h) ?_
                  simp only [zp]
                  refine ah_take (v := (.int .i64 (X (i + 1)))) (i := 9) (some 84) rfl rfl (by kernel_rfl) (by kernel_rfl) (by kernel_rfl) rfl (fun W hK => ex_load rfl rfl (ld3 (cell_kept hK hxx1 (nilN _)))) S (fun c a w h => hQP c a _ _ w h) ?_
                  simp only [zp]
                  refine ah_take (v := (.agg (HZ 1 (N (i + 1)) (X (i + 1)) 0))) (i := 10) (some 85) rfl rfl (by kernel_rfl) (by kernel_rfl) (by kernel_rfl) rfl (fun W hK => ex_build3 (v1 := (.int .i64 1)) (v2 := (.int .i64 (N (i + 1)))) (v3 := (.int .i64 (X (i + 1)))) rfl rfl rfl rfl (b28 _ _ _ _)) S (fun c a w h => hQP c a _ _ w h) ?_
                  simp only [zp]
                  refine ah_or1 (i := 11) (by kernel_rfl) ?_
                  refine nx_new (fun b => .pointer (some ⟨b, 0, none⟩)) (some 16) rfl rfl rfl (ex_alloc rfl zero28) ?_
                  intro bt16 W41 kt16 gt16 B
                  refine ⟨S.next B, ?_⟩
                  simp only [zp]
                  have gd_bt16 := Nat.le_trans S.size gt16
                  have ge_bt16 := Nat.le_trans E.size gt16
                  replace E := below_next E B
                  replace Rn := Rn.below B
                  replace Rx := Rx.below B
                  replace S := S.next B
                  clear B
                  refine ah_or1 (i := 12) (by kernel_rfl) ?_
                  obtain ⟨W42, hst, kn, K⟩ := put_all (D := (HZ 1 (N (i + 1)) (X (i + 1)) 0)) kt16 (((show ((HZ 0 0 0 0) : Array Value).size = 101 from rfl)).trans ((HZ_is 1 (N (i + 1)) (X (i + 1)) 0).size).symm) (inf28.trans (congrArg some ((HZ_is 1 (N (i + 1)) (X (i + 1)) 0).size).symm)) (HZ_is 1 (N (i + 1)) (X (i + 1)) 0).one
                  refine nx_sk rfl rfl rfl (ex_store rfl rfl rfl hst) (S.putN K gd_bt16) ?_
                  replace E := below_put E ge_bt16 K
                  replace Rn := Rn.put K (fun e => by omega)
                  replace Rx := Rx.put K (fun e => by omega)
                  replace S := S.putN K gd_bt16
                  replace kt16 := kn
                  clear kn K hst
                  refine ah_done (by kernel_rfl) ?_
                  clear hQP
                  subst hQ
                  clear S  d_Rn d_Rx
                  refine wp_seq ?_
                  obtain ⟨W43, hwd⟩ : ∃ wd, W42.drew = wd := ⟨_, rfl⟩
                  refine wp_region_held (S := fun W => Kept Nil W43 W) (by kernel_rfl) ?_
                  show wpAnyH _ _ _ _ _ _ _ _ W42.drew
                  rw [hwd]
                  refine capQ fun Q hQ => ?_
                  have hQP : ∀ c (a : Act) (d : Nat) v w, Q (.panic c) (a.put (some d) v) w → Q (.panic c) a w := by
                    subst hQ
                    exact fun _ _ _ _ _ h => h
                  have BD : Below W42.heap.size W42 W43 := by rw [← hwd]; exact below_drewB (Below.refl _ _)
                  clear hwd
                  replace E := below_next E BD
                  replace Rn := Rn.below BD
                  replace Rx := Rx.below BD
                  replace kt16 := keep BD kt16
                  clear BD
                  have S : Kept Nil W43 W43 := Kept.refl _ _
                  have d_kt16 := kt16
                  have d_Rn := Rn
                  have d_Rx := Rx
                  have hn0 := Rn.2 i (by omega)
                  have hn1 := Rn.2 (i + 1) (by omega)
                  have hxx0 := Rx.2 i (by omega)
                  have hxx1 := Rx.2 (i + 1) (by omega)
                  have hq := range_below (hr i hlt) E
                  refine ah_take (v := (.slice (some ⟨b, off, none⟩) n c)) (i := 0) (some 86) rfl rfl (by kernel_rfl) (by kernel_rfl) (by kernel_rfl) rfl (fun W hK => ex_mv rfl rfl) S (fun c a w h => hQP c a _ _ w h) ?_
                  simp only [zp]
                  refine ah_take (v := (.int .i64 (i : Nat))) (i := 1) (some 87) rfl rfl (by kernel_rfl) (by kernel_rfl) (by kernel_rfl) rfl (fun W hK => ex_mv rfl rfl) S (fun c a w h => hQP c a _ _ w h) ?_
                  simp only [zp]
                  refine ah_take (v := (.pointer (some ⟨b, (off + i * 5), none⟩))) (i := 2) (some 88) rfl rfl (by kernel_rfl) (by kernel_rfl) (by kernel_rfl) rfl (fun W hK => ex_ix35 rfl rfl rfl hlt) S (fun c a w h => hQP c a _ _ w h) ?_
                  simp only [zp]
                  refine ah_take (v := (.agg (RL (qs i)))) (i := 3) (some 89) rfl rfl (by kernel_rfl) (by kernel_rfl) (by kernel_rfl) rfl (fun W hK => ex_load rfl rfl (ld_range (rng_kept hK hq (nilN _)) Try.underlying25 rfl inf25)) S (fun c a w h => hQP c a _ _ w h) ?_
                  simp only [zp]
                  refine ah_take (v := (.agg (HZ 1 (N (i + 1)) (X (i + 1)) 0))) (i := 4) (some 90) rfl rfl (by kernel_rfl) (by kernel_rfl) (by kernel_rfl) rfl (fun W hK => ex_load (p := (.pointer (some ⟨bt16, 0, none⟩))) rfl rfl (ld_all (keepK hK d_kt16 (nilN _)) Try.underlying28 rfl (inf28.trans (congrArg some ((HZ_is 1 (N (i + 1)) (X (i + 1)) 0).size).symm)))) S (fun c a w h => hQP c a _ _ w h) ?_
                  simp only [zp]
                  refine ah_take (v := (.slice (some ⟨gn, 0, none⟩) (n + 1) (n + 1))) (i := 5) (some 91) rfl rfl (by kernel_rfl) (by kernel_rfl) (by kernel_rfl) rfl (fun W hK => ex_mv rfl rfl) S (fun c a w h => hQP c a _ _ w h) ?_
                  simp only [zp]
                  refine ah_take (v := (.int .i64 (i : Nat))) (i := 6) (some 92) rfl rfl (by kernel_rfl) (by kernel_rfl) (by kernel_rfl) rfl (fun W hK => ex_mv rfl rfl) S (fun c a w h => hQP c a _ _ w h) ?_
                  simp only [zp]
                  refine ah_take (v := (.pointer (some ⟨gn, i, none⟩))) (i := 7) (some 93) rfl rfl (by kernel_rfl) (by kernel_rfl) (by kernel_rfl) rfl (fun W hK => ex_ix36 (k := i) rfl rfl rfl rfl (by omega)) S (fun c a w h => hQP c a _ _ w h) ?_
                  simp only [zp]
                  refine ah_take (v := (.int .i64 (N i))) (i := 8) (some 94) rfl rfl (by kernel_rfl) (by kernel_rfl) (by kernel_rfl) rfl (fun W hK => ex_load rfl rfl (ld3 (cell_kept hK hn0 (nilN _)))) S (fun c a w h => hQP c a _ _ w h) ?_
                  simp only [zp]
                  refine ah_take (v := (.slice (some ⟨gx, 0, none⟩) (n + 1) (n + 1))) (i := 9) (some 95) rfl rfl (by kernel_rfl) (by kernel_rfl) (by kernel_rfl) rfl (fun W hK => ex_mv rfl rfl) S (fun c a w h => hQP c a _ _ w h) ?_
                  simp only [zp]
                  refine ah_take (v := (.int .i64 (i : Nat))) (i := 10) (some 96) rfl rfl (by kernel_rfl) (by kernel_rfl) (by kernel_rfl) rfl (fun W hK => ex_mv rfl rfl) S (fun c a w h => hQP c a _ _ w h) ?_
                  simp only [zp]
                  refine ah_take (v := (.pointer (some ⟨gx, i, none⟩))) (i := 11) (some 97) rfl rfl (by kernel_rfl) (by kernel_rfl) (by kernel_rfl) rfl (fun W hK => ex_ix36 (k := i) rfl rfl rfl rfl (by omega)) S (fun c a w h => hQP c a _ _ w h) ?_
                  simp only [zp]
                  refine ah_take (v := (.int .i64 (X i))) (i := 12) (some 98) rfl rfl (by kernel_rfl) (by kernel_rfl) (by kernel_rfl) rfl (fun W hK => ex_load rfl rfl (ld3 (cell_kept hK hxx0 (nilN _)))) S (fun c a w h => hQP c a _ _ w h) ?_
                  simp only [zp]
                  refine ah_take (v := (.int .i64 h)) (i := 13) (some 99) rfl rfl (by kernel_rfl) (by kernel_rfl) (by kernel_rfl) rfl (fun W hK => ex_mv rfl rfl) S (fun c a w h => hQP c a _ _ w h) ?_
                  simp only [zp]
                  refine ah_or1 (i := 14) (by kernel_rfl) ?_
                  refine nx_call (some 100) rfl rfl rfl (fwd_any W43 (HZ_is _ _ _ _) (hqb i hlt) (by show _ ≤ N (i + 1); omega) am2 (FV.trans ((if_neg (e1)).trans (if_neg (by omega))))) (ex_call (f := 11) (vs := [(.agg (RL (qs i))), (.agg (HZ 1 (N (i + 1)) (X (i + 1)) 0)), (.int .i64 (N i)), (.int .i64 (X i)), (.int .i64 h)]) rfl (cf11 _) rfl) ?_
                  rintro e W44 ⟨rfl, B⟩
                  refine ⟨_, rfl, S.next B, ?_⟩
                  simp only [zp]
                  replace E := below_next E B
                  replace Rn := Rn.below B
                  replace Rx := Rx.below B
                  replace kt16 := keep B kt16
                  replace S := S.next B
                  refine ah_take (v := (.int .i64 0)) (i := 15) (some 17) rfl rfl (by kernel_rfl) (by kernel_rfl) (by kernel_rfl) rfl (fun W hK => ex_asg rfl rfl) S (fun c a w h => hQP c a _ _ w h) ?_
                  simp only [zp]
                  refine ah_done (by kernel_rfl) ?_
                  clear hQP
                  subst hQ
                  clear S d_kt16 d_Rn d_Rx
                  refine wp_seq ?_
                  obtain ⟨W45, hwd⟩ : ∃ wd, W44.drew = wd := ⟨_, rfl⟩
                  refine wp_region_held (S := fun W => Kept Nil W45 W) (by kernel_rfl) ?_
                  show wpAnyH _ _ _ _ _ _ _ _ W44.drew
                  rw [hwd]
                  refine capQ fun Q hQ => ?_
                  have hQP : ∀ c (a : Act) (d : Nat) v w, Q (.panic c) (a.put (some d) v) w → Q (.panic c) a w := by
                    subst hQ
                    exact fun _ _ _ _ _ h => h
                  have BD : Below W44.heap.size W44 W45 := by rw [← hwd]; exact below_drewB (Below.refl _ _)
                  clear hwd
                  replace E := below_next E BD
                  replace Rn := Rn.below BD
                  replace Rx := Rx.below BD
                  replace kt16 := keep BD kt16
                  clear BD
                  have S : Kept Nil W45 W45 := Kept.refl _ _
                  have d_kt16 := kt16
                  have d_Rn := Rn
                  have d_Rx := Rx
                  have hn0 := Rn.2 i (by omega)
                  have hn1 := Rn.2 (i + 1) (by omega)
                  have hxx0 := Rx.2 i (by omega)
                  have hxx1 := Rx.2 (i + 1) (by omega)
                  have hq := range_below (hr i hlt) E
                  refine ah_take (v := (.slice (some ⟨gx, 0, none⟩) (n + 1) (n + 1))) (i := 0) (some 101) rfl rfl (by kernel_rfl) (by kernel_rfl) (by kernel_rfl) rfl (fun W hK => ex_mv rfl rfl) S (fun c a w h => hQP c a _ _ w h) ?_
                  simp only [zp]
                  refine ah_take (v := (.int .i64 (i : Nat))) (i := 1) (some 102) rfl rfl (by kernel_rfl) (by kernel_rfl) (by kernel_rfl) rfl (fun W hK => ex_mv rfl rfl) S (fun c a w h => hQP c a _ _ w h) ?_
                  simp only [zp]
                  refine ah_take (v := (.pointer (some ⟨gx, i, none⟩))) (i := 2) (some 103) rfl rfl (by kernel_rfl) (by kernel_rfl) (by kernel_rfl) rfl (fun W hK => ex_ix36 (k := i) rfl rfl rfl rfl (by omega)) S (fun c a w h => hQP c a _ _ w h) ?_
                  simp only [zp]
                  refine ah_take (v := (.int .i64 (X i))) (i := 3) (some 104) rfl rfl (by kernel_rfl) (by kernel_rfl) (by kernel_rfl) rfl (fun W hK => ex_load rfl rfl (ld3 (cell_kept hK hxx0 (nilN _)))) S (fun c a w h => hQP c a _ _ w h) ?_
                  simp only [zp]
                  refine ah_take (v := (.int .i64 h)) (i := 4) (some 105) rfl rfl (by kernel_rfl) (by kernel_rfl) (by kernel_rfl) rfl (fun W hK => ex_mv rfl rfl) S (fun c a w h => hQP c a _ _ w h) ?_
                  simp only [zp]
                  refine ah_take (v := (.bool true)) (i := 5) (some 106) rfl rfl (by kernel_rfl) (by kernel_rfl) (by kernel_rfl) rfl (fun W hK => ex_bin (u := (.int .i64 (X i))) (r := (.int .i64 h)) rfl rfl rfl (eg3 _ _ _ _ _ _) (gtr3 _ (decide_eq_true (by omega)))) S (fun c a w h => hQP c a _ _ w h) ?_
                  simp only [zp]
                  refine ah_take (v := (.bool true)) (i := 6) (some 107) rfl rfl (by kernel_rfl) (by kernel_rfl) (by kernel_rfl) rfl (fun W hK => ex_mv rfl rfl) S (fun c a w h => hQP c a _ _ w h) ?_
                  simp only [zp]
                  refine ah_take (v := (.slice (some ⟨gx, 0, none⟩) (n + 1) (n + 1))) (i := 7) (some 108) rfl rfl (by kernel_rfl) (by kernel_rfl) (by kernel_rfl) rfl (fun W hK => ex_mv rfl rfl) S (fun c a w h => hQP c a _ _ w h) ?_
                  simp only [zp]
                  refine ah_take (v := (.int .i64 (i : Nat))) (i := 8) (some 109) rfl rfl (by kernel_rfl) (by kernel_rfl) (by kernel_rfl) rfl (fun W hK => ex_mv rfl rfl) S (fun c a w h => hQP c a _ _ w h) ?_
                  simp only [zp]
                  refine ah_take (v := (.pointer (some ⟨gx, i, none⟩))) (i := 9) (some 110) rfl rfl (by kernel_rfl) (by kernel_rfl) (by kernel_rfl) rfl (fun W hK => ex_ix36 (k := i) rfl rfl rfl rfl (by omega)) S (fun c a w h => hQP c a _ _ w h) ?_
                  simp only [zp]
                  refine ah_take (v := (.int .i64 (X i))) (i := 10) (some 111) rfl rfl (by kernel_rfl) (by kernel_rfl) (by kernel_rfl) rfl (fun W hK => ex_load rfl rfl (ld3 (cell_kept hK hxx0 (nilN _)))) S (fun c a w h => hQP c a _ _ w h) ?_
                  simp only [zp]
                  refine ah_take (v := (.int .i64 h)) (i := 11) (some 112) rfl rfl (by kernel_rfl) (by kernel_rfl) (by kernel_rfl) rfl (fun W hK => ex_mv rfl rfl) S (fun c a w h => hQP c a _ _ w h) ?_
                  simp only [zp]
                  refine ah_take (v := (.int .i64 (X i - h))) (i := 12) (some 113) rfl rfl (by kernel_rfl) (by kernel_rfl) (by kernel_rfl) rfl (fun W hK => ex_bin (u := (.int .i64 (X i))) (r := (.int .i64 h)) rfl rfl rfl (eg3 _ _ _ _ _ _) (sub3 _ rfl (by omega))) S (fun c a w h => hQP c a _ _ w h) ?_
                  simp only [zp]
                  refine ah_take (v := (.slice (some ⟨b, off, none⟩) n c)) (i := 13) (some 114) rfl rfl (by kernel_rfl) (by kernel_rfl) (by kernel_rfl) rfl (fun W hK => ex_mv rfl rfl) S (fun c a w h => hQP c a _ _ w h) ?_
                  simp only [zp]
                  refine ah_take (v := (.int .i64 (i : Nat))) (i := 14) (some 115) rfl rfl (by kernel_rfl) (by kernel_rfl) (by kernel_rfl) rfl (fun W hK => ex_mv rfl rfl) S (fun c a w h => hQP c a _ _ w h) ?_
                  simp only [zp]
                  refine ah_take (v := (.pointer (some ⟨b, (off + i * 5), none⟩))) (i := 15) (some 116) rfl rfl (by kernel_rfl) (by kernel_rfl) (by kernel_rfl) rfl (fun W hK => ex_ix35 rfl rfl rfl hlt) S (fun c a w h => hQP c a _ _ w h) ?_
                  simp only [zp]
                  refine ah_take (v := (.pointer (some ⟨b, (off + i * 5 + 4), none⟩))) (i := 16) (some 117) rfl rfl (by kernel_rfl) (by kernel_rfl) (by kernel_rfl) rfl (fun W hK => ex_fa rfl rfl (faL _ _ _)) S (fun c a w h => hQP c a _ _ w h) ?_
                  simp only [zp]
                  refine ah_take (v := (.int .i64 (qs i).f)) (i := 17) (some 118) rfl rfl (by kernel_rfl) (by kernel_rfl) (by kernel_rfl) rfl (fun W hK => ex_load rfl rfl (ld3 (cell_kept hK (hq 4 _ rfl) (nilN _)))) S (fun c a w h => hQP c a _ _ w h) ?_
                  simp only [zp]
                  refine ah_take (v := (.bool false)) (i := 18) (some 119) rfl rfl (by kernel_rfl) (by kernel_rfl) (by kernel_rfl) rfl (fun W hK => ex_bin (u := (.int .i64 (X i - h))) (r := (.int .i64 (qs i).f)) rfl rfl rfl (eg3 _ _ _ _ _ _) (gtr3 _ (decide_eq_false (by omega)))) S (fun c a w h => hQP c a _ _ w h) ?_
                  simp only [zp]
                  refine ah_take (v := (.bool false)) (i := 19) (some 120) rfl rfl (by kernel_rfl) (by kernel_rfl) (by kernel_rfl) rfl (fun W hK => ex_pkT rfl rfl rfl) S (fun c a w h => hQP c a _ _ w h) ?_
                  simp only [zp]
                  refine ah_take (v := (.bool false)) (i := 20) (some 18) rfl rfl (by kernel_rfl) (by kernel_rfl) (by kernel_rfl) rfl (fun W hK => ex_asg rfl rfl) S (fun c a w h => hQP c a _ _ w h) ?_
                  simp only [zp]
                  refine ah_done (by kernel_rfl) ?_
                  clear hQP
                  subst hQ
                  clear S d_kt16 d_Rn d_Rx
                  refine wp_seq ?_
                  obtain ⟨W46, hwd⟩ : ∃ wd, W45.drew = wd := ⟨_, rfl⟩
                  refine wp_region_held (S := fun W => Kept Nil W46 W) (by kernel_rfl) ?_
                  show wpAnyH _ _ _ _ _ _ _ _ W45.drew
                  rw [hwd]
                  refine capQ fun Q hQ => ?_
                  have hQP : ∀ c (a : Act) (d : Nat) v w, Q (.panic c) (a.put (some d) v) w → Q (.panic c) a w := by
                    subst hQ
                    exact fun _ _ _ _ _ h => h
                  have BD : Below W45.heap.size W45 W46 := by rw [← hwd]; exact below_drewB (Below.refl _ _)
                  clear hwd
                  replace E := below_next E BD
                  replace Rn := Rn.below BD
                  replace Rx := Rx.below BD
                  replace kt16 := keep BD kt16
                  clear BD
                  have S : Kept Nil W46 W46 := Kept.refl _ _
                  have d_kt16 := kt16
                  have d_Rn := Rn
                  have d_Rx := Rx
                  have hn0 := Rn.2 i (by omega)
                  have hn1 := Rn.2 (i + 1) (by omega)
                  have hxx0 := Rx.2 i (by omega)
                  have hxx1 := Rx.2 (i + 1) (by omega)
                  have hq := range_below (hr i hlt) E
                  refine ah_take (v := (.slice (some ⟨gx, 0, none⟩) (n + 1) (n + 1))) (i := 0) (some 121) rfl rfl (by kernel_rfl) (by kernel_rfl) (by kernel_rfl) rfl (fun W hK => ex_mv rfl rfl) S (fun c a w h => hQP c a _ _ w h) ?_
                  simp only [zp]
                  refine ah_take (v := (.int .i64 (i : Nat))) (i := 1) (some 122) rfl rfl (by kernel_rfl) (by kernel_rfl) (by kernel_rfl) rfl (fun W hK => ex_mv rfl rfl) S (fun c a w h => hQP c a _ _ w h) ?_
                  simp only [zp]
                  refine ah_take (v := (.int .i64 ((i + 1 : Nat) : Int))) (i := 2) (some 123) rfl rfl (by kernel_rfl) (by kernel_rfl) (by kernel_rfl) rfl (fun W hK => ex_bin (u := (.int .i64 (i : Nat))) (r := (.int .i64 1)) rfl rfl rfl (eg3 _ _ _ _ _ _) (add3 _ (by omega) (by omega))) S (fun c a w h => hQP c a _ _ w h) ?_
                  simp only [zp]
                  refine ah_take (v := (.pointer (some ⟨gx, (i + 1), none⟩))) (i := 3) (some 124) rfl rfl (by kernel_rfl) (by kernel_rfl) (by kernel_rfl) rfl (fun W hK => ex_ix36 (k := (i + 1)) rfl rfl rfl rfl (by omega)) S (fun c a w h => hQP c a _ _ w h) ?_
                  simp only [zp]
                  refine ah_take (v := (.int .i64 (X (i + 1)))) (i := 4) (some 125) rfl rfl (by kernel_rfl) (by kernel_rfl) (by kernel_rfl) rfl (fun W hK => ex_load rfl rfl (ld3 (cell_kept hK hxx1 (nilN _)))) S (fun c a w h => hQP c a _ _ w h) ?_
                  simp only [zp]
                  refine ah_take (v := (.int .i64 h)) (i := 5) (some 126) rfl rfl (by kernel_rfl) (by kernel_rfl) (by kernel_rfl) rfl (fun W hK => ex_mv rfl rfl) S (fun c a w h => hQP c a _ _ w h) ?_
                  simp only [zp]
                  refine ah_take (v := (.bool false)) (i := 6) (some 127) rfl rfl (by kernel_rfl) (by kernel_rfl) (by kernel_rfl) rfl (fun W hK => ex_bin (u := (.int .i64 (X (i + 1)))) (r := (.int .i64 h)) rfl rfl rfl (eg3 _ _ _ _ _ _) (lss3 _ (decide_eq_false (by omega)))) S (fun c a w h => hQP c a _ _ w h) ?_
                  simp only [zp]
                  refine ah_take (v := (.bool false)) (i := 7) (some 128) rfl rfl (by kernel_rfl) (by kernel_rfl) (by kernel_rfl) rfl (fun W hK => ex_mv rfl rfl) S (fun c a w h => hQP c a _ _ w h) ?_
                  simp only [zp]
                  refine ah_take (v := (.slice (some ⟨gx, 0, none⟩) (n + 1) (n + 1))) (i := 8) (some 129) rfl rfl (by kernel_rfl) (by kernel_rfl) (by kernel_rfl) rfl (fun W hK => ex_mv rfl rfl) S (fun c a w h => hQP c a _ _ w h) ?_
                  simp only [zp]
                  refine ah_take (v := (.int .i64 (i : Nat))) (i := 9) (some 130) rfl rfl (by kernel_rfl) (by kernel_rfl) (by kernel_rfl) rfl (fun W hK => ex_mv rfl rfl) S (fun c a w h => hQP c a _ _ w h) ?_
                  simp only [zp]
                  refine ah_take (v := (.int .i64 ((i + 1 : Nat) : Int))) (i := 10) (some 131) rfl rfl (by kernel_rfl) (by kernel_rfl) (by kernel_rfl) rfl (fun W hK => ex_bin (u := (.int .i64 (i : Nat))) (r := (.int .i64 1)) rfl rfl rfl (eg3 _ _ _ _ _ _) (add3 _ (by omega) (by omega))) S (fun c a w h => hQP c a _ _ w h) ?_
                  simp only [zp]
                  refine ah_take (v := (.pointer (some ⟨gx, (i + 1), none⟩))) (i := 11) (some 132) rfl rfl (by kernel_rfl) (by kernel_rfl) (by kernel_rfl) rfl (fun W hK => ex_ix36 (k := (i + 1)) rfl rfl rfl rfl (by omega)) S (fun c a w h => hQP c a _ _ w h) ?_
                  simp only [zp]
                  refine ah_take (v := (.int .i64 (X (i + 1)))) (i := 12) (some 133) rfl rfl (by kernel_rfl) (by kernel_rfl) (by kernel_rfl) rfl (fun W hK => ex_load rfl rfl (ld3 (cell_kept hK hxx1 (nilN _)))) S (fun c a w h => hQP c a _ _ w h) ?_
                  simp only [zp]
                  refine ah_take (v := (.int .i64 h)) (i := 13) (some 134) rfl rfl (by kernel_rfl) (by kernel_rfl) (by kernel_rfl) rfl (fun W hK => ex_mv rfl rfl) S (fun c a w h => hQP c a _ _ w h) ?_
                  simp only [zp]
                  refine ah_take (v := (.int .i64 (X (i + 1) - h))) (i := 14) (some 135) rfl rfl (by kernel_rfl) (by kernel_rfl) (by kernel_rfl) rfl (fun W hK => ex_bin (u := (.int .i64 (X (i + 1)))) (r := (.int .i64 h)) rfl rfl rfl (eg3 _ _ _ _ _ _) (sub3 _ rfl (by omega))) S (fun c a w h => hQP c a _ _ w h) ?_
                  simp only [zp]
                  refine ah_take (v := (.slice (some ⟨b, off, none⟩) n c)) (i := 15) (some 136) rfl rfl (by kernel_rfl) (by kernel_rfl) (by kernel_rfl) rfl (fun W hK => ex_mv rfl rfl) S (fun c a w h => hQP c a _ _ w h) ?_
                  simp only [zp]
                  refine ah_take (v := (.int .i64 (i : Nat))) (i := 16) (some 137) rfl rfl (by kernel_rfl) (by kernel_rfl) (by kernel_rfl) rfl (fun W hK => ex_mv rfl rfl) S (fun c a w h => hQP c a _ _ w h) ?_
                  simp only [zp]
                  refine ah_take (v := (.pointer (some ⟨b, (off + i * 5), none⟩))) (i := 17) (some 138) rfl rfl (by kernel_rfl) (by kernel_rfl) (by kernel_rfl) rfl (fun W hK => ex_ix35 rfl rfl rfl hlt) S (fun c a w h => hQP c a _ _ w h) ?_
                  simp only [zp]
                  refine ah_take (v := (.pointer (some ⟨b, (off + i * 5 + 3), none⟩))) (i := 18) (some 139) rfl rfl (by kernel_rfl) (by kernel_rfl) (by kernel_rfl) rfl (fun W hK => ex_fa rfl rfl (faG _ _ _)) S (fun c a w h => hQP c a _ _ w h) ?_
                  simp only [zp]
                  refine ah_take (v := (.int .i64 (qs i).g)) (i := 19) (some 140) rfl rfl (by kernel_rfl) (by kernel_rfl) (by kernel_rfl) rfl (fun W hK => ex_load rfl rfl (ld3 (cell_kept hK (hq 3 _ rfl) (nilN _)))) S (fun c a w h => hQP c a _ _ w h) ?_
                  simp only [zp]
                  refine ah_take (v := (.bool false)) (i := 20) (some 141) rfl rfl (by kernel_rfl) (by kernel_rfl) (by kernel_rfl) rfl (fun W hK => ex_bin (u := (.int .i64 (X (i + 1) - h))) (r := (.int .i64 (qs i).g)) rfl rfl rfl (eg3 _ _ _ _ _ _) (leq3 _ (decide_eq_false (by omega)))) S (fun c a w h => hQP c a _ _ w h) ?_
                  simp only [zp]
                  refine ah_take (v := (.bool false)) (i := 21) (some 142) rfl rfl (by kernel_rfl) (by kernel_rfl) (by kernel_rfl) rfl (fun W hK => ex_pkF rfl rfl rfl) S (fun c a w h => hQP c a _ _ w h) ?_
                  simp only [zp]
                  refine ah_take (v := (.bool false)) (i := 22) (some 19) rfl rfl (by kernel_rfl) (by kernel_rfl) (by kernel_rfl) rfl (fun W hK => ex_asg rfl rfl) S (fun c a w h => hQP c a _ _ w h) ?_
                  simp only [zp]
                  refine ah_done (by kernel_rfl) ?_
                  clear hQP
                  subst hQ
                  clear S d_kt16 d_Rn d_Rx
                  refine wq fun Q hQ => ?_
                  refine sm (.bool false) 143 rfl rfl rfl rfl ?_
                  simp only [zp]
                  refine sm (.bool false) 144 rfl rfl rfl rfl ?_
                  simp only [zp]
                  refine sn 145 rfl rfl ?_
                  simp only [zp]
                  refine sn 146 rfl rfl ?_
                  simp only [zp]
                  refine sv (.bool false) 147 rfl rfl (ex_pkF rfl rfl rfl) ?_
                  simp only [zp]
                  refine sm (.bool false) 148 rfl rfl rfl rfl ?_
                  simp only [zp]
                  refine sm (.bool false) 149 rfl rfl rfl rfl ?_
                  simp only [zp]
                  refine sv (.bool true) 150 rfl rfl (ex_not rfl rfl rfl) ?_
                  simp only [zp]
                  refine sm (.bool true) 151 rfl rfl rfl rfl ?_
                  simp only [zp]
                  refine sm (.bool false) 152 rfl rfl rfl rfl ?_
                  simp only [zp]
                  refine sv (.bool false) 153 rfl rfl (ex_pkT rfl rfl rfl) ?_
                  simp only [zp]
                  refine sm (.bool false) 154 rfl rfl rfl rfl ?_
                  simp only [zp]
                  refine sn 155 rfl rfl ?_
                  simp only [zp]
                  refine sn 156 rfl rfl ?_
                  simp only [zp]
                  refine sv (.bool false) 157 rfl rfl (ex_pkF rfl rfl rfl) ?_
                  simp only [zp]
                  refine sv (.bool false) 158 rfl rfl (ex_pkF rfl rfl rfl) ?_
                  simp only [zp]
                  refine sm (.bool false) 159 rfl rfl rfl rfl ?_
                  simp only [zp]
                  refine sm (.bool false) 160 rfl rfl rfl rfl ?_
                  simp only [zp]
                  refine sv (.bool true) 161 rfl rfl (ex_not rfl rfl rfl) ?_
                  simp only [zp]
                  refine sm (.bool true) 162 rfl rfl rfl rfl ?_
                  simp only [zp]
                  refine sm (.bool false) 163 rfl rfl rfl rfl ?_
                  simp only [zp]
                  refine sv (.bool true) 164 rfl rfl (ex_not rfl rfl rfl) ?_
                  simp only [zp]
                  refine sv (.bool true) 165 rfl rfl (ex_pkT rfl rfl rfl) ?_
                  simp only [zp]
                  refine sm (.bool true) 166 rfl rfl rfl rfl ?_
                  simp only [zp]
                  refine sm (.int .i64 0) 167 rfl rfl rfl rfl ?_
                  simp only [zp]
                  refine sv (.bool false) 168 rfl rfl (ex_bin (u := (.int .i64 0)) (r := (.int .i64 0)) rfl rfl rfl (eg3 _ _ _ _ _ _) (neq3 _ (by decide))) ?_
                  simp only [zp]
                  refine sv (.bool false) 169 rfl rfl (ex_pkT rfl rfl rfl) ?_
                  simp only [zp]
                  refine sv (.bool false) 170 rfl rfl (ex_pkF rfl rfl rfl) ?_
                  simp only [zp]
                  refine st_end ?_
                  subst hQ
                  refine wp_cond_false rfl ?_
                  refine wp_skip ?_
                  refine wl_in (wl_cap fun Q hQ => ?_)
                  refine sm (.int .i64 (i : Nat)) 73 rfl rfl rfl rfl ?_
                  simp only [zp]
                  refine sv (.int .i64 ((i + 1 : Nat) : Int)) 74 rfl rfl (ex_bin rfl rfl rfl (eg3 _ _ _ _ _ _) (add3 _ (by omega) (by omega))) ?_
                  simp only [zp]
                  refine sg (.int .i64 ((i + 1 : Nat) : Int)) 15 rfl rfl rfl rfl ?_
                  simp only [zp]
                  refine st_end ?_
                  subst hQ
                  refine then_go ?_
                  go_roundw
                  case rel => exact ⟨i + 1, by omega, rfl, E, Rn, Rx⟩
                  case measure => simp [intOf]; omega
          · skip
            by_cases e2 : X (i + 1) < h
            · skip
              refine wp_seq ?_
              refine wq fun Q hQ => ?_
              refine sm (.int .i64 (i : Nat)) 69 rfl rfl rfl rfl ?_
              simp only [zp]
              refine sm (.slice (some ⟨b, off, none⟩) n c) 70 rfl rfl rfl rfl ?_
              simp only [zp]
              refine sv (.int .i64 (n : Nat)) 71 rfl rfl (ex_len rfl rfl (len35 _ _ _ _ _)) ?_
              simp only [zp]
              refine sv (.bool true) 72 rfl rfl (ex_bin (u := (.int .i64 (i : Nat))) (r := (.int .i64 (n : Nat))) rfl rfl rfl (eg3 _ _ _ _ _ _) (lss3 _ (decide_eq_true (by omega)))) ?_
              simp only [zp]
              refine st_end ?_
              subst hQ
              refine wp_cond_true rfl ?_
              refine wp_skip ?_
              refine wp_seq ?_
              refine wp_block ?_
              refine wp_seq ?_
              obtain ⟨W47, hwd⟩ : ∃ wd, wr.drew = wd := ⟨_, rfl⟩
              refine wp_region_held (S := fun W => Kept Nil W47 W) (by kernel_rfl) ?_
              show wpAnyH _ _ _ _ _ _ _ _ wr.drew
              rw [hwd]
              refine capQ fun Q hQ => ?_
              have hQP : ∀ c (a : Act) (d : Nat) v w, Q (.panic c) (a.put (some d) v) w → Q (.panic c) a w := by
                subst hQ
                exact fun _ _ _ _ _ h => h
              have BD : Below wr.heap.size wr W47 := by rw [← hwd]; exact below_drewB (Below.refl _ _)
              clear hwd
              replace E := below_next E BD
              replace Rn := Rn.below BD
              replace Rx := Rx.below BD
              clear BD
              have S : Kept Nil W47 W47 := Kept.refl _ _
              have d_Rn := Rn
              have d_Rx := Rx
              have hn0 := Rn.2 i (by omega)
              have hn1 := Rn.2 (i + 1) (by omega)
              have hxx0 := Rx.2 i (by omega)
              have hxx1 := Rx.2 (i + 1) (by omega)
              have hq := range_below (hr i hlt) E
              have ltn := block_lt_of_cell hn0
              have ltx := block_lt_of_cell hxx0
              simp only at ltn ltx
              refine ah_take (v := (.slice (some ⟨gn, 0, none⟩) (n + 1) (n + 1))) (i := 0) (some 75) rfl rfl (by kernel_rfl) (by kernel_rfl) (by kernel_rfl) rfl (fun W hK => ex_mv rfl rfl) S (fun c a w h => hQP c a _ _ w h) ?_
              simp only [zp]
              refine ah_take (v := (.int .i64 (i : Nat))) (i := 1) (some 76) rfl rfl (by kernel_rfl) (by kernel_rfl) (by kernel_rfl) rfl (fun W hK => ex_mv rfl rfl) S (fun c a w h => hQP c a _ _ w h) ?_
              simp only [zp]
              refine ah_take (v := (.int .i64 ((i + 1 : Nat) : Int))) (i := 2) (some 77) rfl rfl (by kernel_rfl) (by kernel_rfl) (by kernel_rfl) rfl (fun W hK => ex_bin (u := (.int .i64 (i : Nat))) (r := (.int .i64 1)) rfl rfl rfl (eg3 _ _ _ _ _ _) (add3 _ (by omega) (by omega))) S (fun c a w h => hQP c a _ _ w h) ?_
              simp only [zp]
              refine ah_take (v := (.pointer (some ⟨gn, (i + 1), none⟩))) (i := 3) (some 78) rfl rfl (by kernel_rfl) (by kernel_rfl) (by kernel_rfl) rfl (fun W hK => ex_ix36 (k := (i + 1)) rfl rfl rfl rfl (by omega)) S (fun c a w h => hQP c a _ _ w h) ?_
              simp only [zp]
              refine ah_take (v := (.int .i64 (N (i + 1)))) (i := 4) (some 79) rfl rfl (by kernel_rfl) (by kernel_rfl) (by kernel_rfl) rfl (fun W hK => ex_load rfl rfl (ld3 (cell_kept hK hn1 (nilN _)))) S (fun c a w h => hQP c a _ _ w h) ?_
              simp only [zp]
              refine ah_take (v := (.slice (some ⟨gx, 0, none⟩) (n + 1) (n + 1))) (i := 5) (some 80) rfl rfl (by kernel_rfl) (by kernel_rfl) (by kernel_rfl) rfl (fun W hK => ex_mv rfl rfl) S (fun c a w h => hQP c a _ _ w h) ?_
              simp only [zp]
              refine ah_take (v := (.int .i64 (i : Nat))) (i := 6) (some 81) rfl rfl (by kernel_rfl) (by kernel_rfl) (by kernel_rfl) rfl (fun W hK => ex_mv rfl rfl) S (fun c a w h => hQP c a _ _ w h) ?_
              simp only [zp]
              refine ah_take (v := (.int .i64 ((i + 1 : Nat) : Int))) (i := 7) (some 82) rfl rfl (by kernel_rfl) (by kernel_rfl) (by kernel_rfl) rfl (fun W hK => ex_bin (u := (.int .i64 (i : Nat))) (r := (.int .i64 1)) rfl rfl rfl (eg3 _ _ _ _ _ _) (add3 _ (by omega) (by omega))) S (fun c a w h => hQP c a _ _ w h) ?_
              simp only [zp]
              refine ah_take (v := (.pointer (some ⟨gx, (i + 1), none⟩))) (i := 8) (some 83) rfl rfl (by kernel_rfl) (by kernel_rfl) (by kernel_rfl) rfl (fun W hK => ex_ix36 (k := (i + 1)) rfl rfl rfl rfl (by omega)) S (fun c a w h => hQP c a _ _ w h) ?_
              simp only [zp]
              refine ah_take (v := (.int .i64 (X (i + 1)))) (i := 9) (some 84) rfl rfl (by kernel_rfl) (by kernel_rfl) (by kernel_rfl) rfl (fun W hK => ex_load rfl rfl (ld3 (cell_kept hK hxx1 (nilN _)))) S (fun c a w h => hQP c a _ _ w h) ?_
              simp only [zp]
              refine ah_take (v := (.agg (HZ 1 (N (i + 1)) (X (i + 1)) 0))) (i := 10) (some 85) rfl rfl (by kernel_rfl) (by kernel_rfl) (by kernel_rfl) rfl (fun W hK => ex_build3 (v1 := (.int .i64 1)) (v2 := (.int .i64 (N (i + 1)))) (v3 := (.int .i64 (X (i + 1)))) rfl rfl rfl rfl (b28 _ _ _ _)) S (fun c a w h => hQP c a _ _ w h) ?_
              simp only [zp]
              refine ah_or1 (i := 11) (by kernel_rfl) ?_
              refine nx_new (fun b => .pointer (some ⟨b, 0, none⟩)) (some 16) rfl rfl rfl (ex_alloc rfl zero28) ?_
              intro bt16 W48 kt16 gt16 B
              refine ⟨S.next B, ?_⟩
              simp only [zp]
              have gd_bt16 := Nat.le_trans S.size gt16
              have ge_bt16 := Nat.le_trans E.size gt16
              replace E := below_next E B
              replace Rn := Rn.below B
              replace Rx := Rx.below B
              replace S := S.next B
              clear B
              refine ah_or1 (i := 12) (by kernel_rfl) ?_
              obtain ⟨W49, hst, kn, K⟩ := put_all (D := (HZ 1 (N (i + 1)) (X (i + 1)) 0)) kt16 (((show ((HZ 0 0 0 0) : Array Value).size = 101 from rfl)).trans ((HZ_is 1 (N (i + 1)) (X (i + 1)) 0).size).symm) (inf28.trans (congrArg some ((HZ_is 1 (N (i + 1)) (X (i + 1)) 0).size).symm)) (HZ_is 1 (N (i + 1)) (X (i + 1)) 0).one
              refine nx_sk rfl rfl rfl (ex_store rfl rfl rfl hst) (S.putN K gd_bt16) ?_
              replace E := below_put E ge_bt16 K
              replace Rn := Rn.put K (fun e => by omega)
              replace Rx := Rx.put K (fun e => by omega)
              replace S := S.putN K gd_bt16
              replace kt16 := kn
              clear kn K hst
              refine ah_done (by kernel_rfl) ?_
              clear hQP
              subst hQ
              clear S  d_Rn d_Rx
              refine wp_seq ?_
              obtain ⟨W50, hwd⟩ : ∃ wd, W49.drew = wd := ⟨_, rfl⟩
              refine wp_region_held (S := fun W => Kept Nil W50 W) (by kernel_rfl) ?_
              show wpAnyH _ _ _ _ _ _ _ _ W49.drew
              rw [hwd]
              refine capQ fun Q hQ => ?_
              have hQP : ∀ c (a : Act) (d : Nat) v w, Q (.panic c) (a.put (some d) v) w → Q (.panic c) a w := by
                subst hQ
                exact fun _ _ _ _ _ h => h
              have BD : Below W49.heap.size W49 W50 := by rw [← hwd]; exact below_drewB (Below.refl _ _)
              clear hwd
              replace E := below_next E BD
              replace Rn := Rn.below BD
              replace Rx := Rx.below BD
              replace kt16 := keep BD kt16
              clear BD
              have S : Kept Nil W50 W50 := Kept.refl _ _
              have d_kt16 := kt16
              have d_Rn := Rn
              have d_Rx := Rx
              have hn0 := Rn.2 i (by omega)
              have hn1 := Rn.2 (i + 1) (by omega)
              have hxx0 := Rx.2 i (by omega)
              have hxx1 := Rx.2 (i + 1) (by omega)
              have hq := range_below (hr i hlt) E
              refine ah_take (v := (.slice (some ⟨b, off, none⟩) n c)) (i := 0) (some 86) rfl rfl (by kernel_rfl) (by kernel_rfl) (by kernel_rfl) rfl (fun W hK => ex_mv rfl rfl) S (fun c a w h => hQP c a _ _ w h) ?_
              simp only [zp]
              refine ah_take (v := (.int .i64 (i : Nat))) (i := 1) (some 87) rfl rfl (by kernel_rfl) (by kernel_rfl) (by kernel_rfl) rfl (fun W hK => ex_mv rfl rfl) S (fun c a w h => hQP c a _ _ w h) ?_
              simp only [zp]
              refine ah_take (v := (.pointer (some ⟨b, (off + i * 5), none⟩))) (i := 2) (some 88) rfl rfl (by kernel_rfl) (by kernel_rfl) (by kernel_rfl) rfl (fun W hK => ex_ix35 rfl rfl rfl hlt) S (fun c a w h => hQP c a _ _ w h) ?_
              simp only [zp]
              refine ah_take (v := (.agg (RL (qs i)))) (i := 3) (some 89) rfl rfl (by kernel_rfl) (by kernel_rfl) (by kernel_rfl) rfl (fun W hK => ex_load rfl rfl (ld_range (rng_kept hK hq (nilN _)) Try.underlying25 rfl inf25)) S (fun c a w h => hQP c a _ _ w h) ?_
              simp only [zp]
              refine ah_take (v := (.agg (HZ 1 (N (i + 1)) (X (i + 1)) 0))) (i := 4) (some 90) rfl rfl (by kernel_rfl) (by kernel_rfl) (by kernel_rfl) rfl (fun W hK => ex_load (p := (.pointer (some ⟨bt16, 0, none⟩))) rfl rfl (ld_all (keepK hK d_kt16 (nilN _)) Try.underlying28 rfl (inf28.trans (congrArg some ((HZ_is 1 (N (i + 1)) (X (i + 1)) 0).size).symm)))) S (fun c a w h => hQP c a _ _ w h) ?_
              simp only [zp]
              refine ah_take (v := (.slice (some ⟨gn, 0, none⟩) (n + 1) (n + 1))) (i := 5) (some 91) rfl rfl (by kernel_rfl) (by kernel_rfl) (by kernel_rfl) rfl (fun W hK => ex_mv rfl rfl) S (fun c a w h => hQP c a _ _ w h) ?_
              simp only [zp]
              refine ah_take (v := (.int .i64 (i : Nat))) (i := 6) (some 92) rfl rfl (by kernel_rfl) (by kernel_rfl) (by kernel_rfl) rfl (fun W hK => ex_mv rfl rfl) S (fun c a w h => hQP c a _ _ w h) ?_
              simp only [zp]
              refine ah_take (v := (.pointer (some ⟨gn, i, none⟩))) (i := 7) (some 93) rfl rfl (by kernel_rfl) (by kernel_rfl) (by kernel_rfl) rfl (fun W hK => ex_ix36 (k := i) rfl rfl rfl rfl (by omega)) S (fun c a w h => hQP c a _ _ w h) ?_
              simp only [zp]
              refine ah_take (v := (.int .i64 (N i))) (i := 8) (some 94) rfl rfl (by kernel_rfl) (by kernel_rfl) (by kernel_rfl) rfl (fun W hK => ex_load rfl rfl (ld3 (cell_kept hK hn0 (nilN _)))) S (fun c a w h => hQP c a _ _ w h) ?_
              simp only [zp]
              refine ah_take (v := (.slice (some ⟨gx, 0, none⟩) (n + 1) (n + 1))) (i := 9) (some 95) rfl rfl (by kernel_rfl) (by kernel_rfl) (by kernel_rfl) rfl (fun W hK => ex_mv rfl rfl) S (fun c a w h => hQP c a _ _ w h) ?_
              simp only [zp]
              refine ah_take (v := (.int .i64 (i : Nat))) (i := 10) (some 96) rfl rfl (by kernel_rfl) (by kernel_rfl) (by kernel_rfl) rfl (fun W hK => ex_mv rfl rfl) S (fun c a w h => hQP c a _ _ w h) ?_
              simp only [zp]
              refine ah_take (v := (.pointer (some ⟨gx, i, none⟩))) (i := 11) (some 97) rfl rfl (by kernel_rfl) (by kernel_rfl) (by kernel_rfl) rfl (fun W hK => ex_ix36 (k := i) rfl rfl rfl rfl (by omega)) S (fun c a w h => hQP c a _ _ w h) ?_
              simp only [zp]
              refine ah_take (v := (.int .i64 (X i))) (i := 12) (some 98) rfl rfl (by kernel_rfl) (by kernel_rfl) (by kernel_rfl) rfl (fun W hK => ex_load rfl rfl (ld3 (cell_kept hK hxx0 (nilN _)))) S (fun c a w h => hQP c a _ _ w h) ?_
              simp only [zp]
              refine ah_take (v := (.int .i64 h)) (i := 13) (some 99) rfl rfl (by kernel_rfl) (by kernel_rfl) (by kernel_rfl) rfl (fun W hK => ex_mv rfl rfl) S (fun c a w h => hQP c a _ _ w h) ?_
              simp only [zp]
              refine ah_or1 (i := 14) (by kernel_rfl) ?_
              refine nx_call (some 100) rfl rfl rfl (fwd_any W50 (HZ_is _ _ _ _) (hqb i hlt) (by show _ ≤ N (i + 1); omega) am2 (FV.trans ((if_neg (by omega)).trans (if_pos (by omega))))) (ex_call (f := 11) (vs := [(.agg (RL (qs i))), (.agg (HZ 1 (N (i + 1)) (X (i + 1)) 0)), (.int .i64 (N i)), (.int .i64 (X i)), (.int .i64 h)]) rfl (cf11 _) rfl) ?_
              rintro e W51 ⟨rfl, B⟩
              refine ⟨_, rfl, S.next B, ?_⟩
              simp only [zp]
              replace E := below_next E B
              replace Rn := Rn.below B
              replace Rx := Rx.below B
              replace kt16 := keep B kt16
              replace S := S.next B
              refine ah_take (v := (.int .i64 5)) (i := 15) (some 17) rfl rfl (by kernel_rfl) (by kernel_rfl) (by kernel_rfl) rfl (fun W hK => ex_asg rfl rfl) S (fun c a w h => hQP c a _ _ w h) ?_
              simp only [zp]
              refine ah_done (by kernel_rfl) ?_
              clear hQP
              subst hQ
              clear S d_kt16 d_Rn d_Rx
              refine wp_seq ?_
              obtain ⟨W52, hwd⟩ : ∃ wd, W51.drew = wd := ⟨_, rfl⟩
              refine wp_region_held (S := fun W => Kept Nil W52 W) (by kernel_rfl) ?_
              show wpAnyH _ _ _ _ _ _ _ _ W51.drew
              rw [hwd]
              refine capQ fun Q hQ => ?_
              have hQP : ∀ c (a : Act) (d : Nat) v w, Q (.panic c) (a.put (some d) v) w → Q (.panic c) a w := by
                subst hQ
                exact fun _ _ _ _ _ h => h
              have BD : Below W51.heap.size W51 W52 := by rw [← hwd]; exact below_drewB (Below.refl _ _)
              clear hwd
              replace E := below_next E BD
              replace Rn := Rn.below BD
              replace Rx := Rx.below BD
              replace kt16 := keep BD kt16
              clear BD
              have S : Kept Nil W52 W52 := Kept.refl _ _
              have d_kt16 := kt16
              have d_Rn := Rn
              have d_Rx := Rx
              have hn0 := Rn.2 i (by omega)
              have hn1 := Rn.2 (i + 1) (by omega)
              have hxx0 := Rx.2 i (by omega)
              have hxx1 := Rx.2 (i + 1) (by omega)
              have hq := range_below (hr i hlt) E
              refine ah_take (v := (.slice (some ⟨gx, 0, none⟩) (n + 1) (n + 1))) (i := 0) (some 101) rfl rfl (by kernel_rfl) (by kernel_rfl) (by kernel_rfl) rfl (fun W hK => ex_mv rfl rfl) S (fun c a w h => hQP c a _ _ w h) ?_
              simp only [zp]
              refine ah_take (v := (.int .i64 (i : Nat))) (i := 1) (some 102) rfl rfl (by kernel_rfl) (by kernel_rfl) (by kernel_rfl) rfl (fun W hK => ex_mv rfl rfl) S (fun c a w h => hQP c a _ _ w h) ?_
              simp only [zp]
              refine ah_take (v := (.pointer (some ⟨gx, i, none⟩))) (i := 2) (some 103) rfl rfl (by kernel_rfl) (by kernel_rfl) (by kernel_rfl) rfl (fun W hK => ex_ix36 (k := i) rfl rfl rfl rfl (by omega)) S (fun c a w h => hQP c a _ _ w h) ?_
              simp only [zp]
              refine ah_take (v := (.int .i64 (X i))) (i := 3) (some 104) rfl rfl (by kernel_rfl) (by kernel_rfl) (by kernel_rfl) rfl (fun W hK => ex_load rfl rfl (ld3 (cell_kept hK hxx0 (nilN _)))) S (fun c a w h => hQP c a _ _ w h) ?_
              simp only [zp]
              refine ah_take (v := (.int .i64 h)) (i := 4) (some 105) rfl rfl (by kernel_rfl) (by kernel_rfl) (by kernel_rfl) rfl (fun W hK => ex_mv rfl rfl) S (fun c a w h => hQP c a _ _ w h) ?_
              simp only [zp]
              refine ah_take (v := (.bool false)) (i := 5) (some 106) rfl rfl (by kernel_rfl) (by kernel_rfl) (by kernel_rfl) rfl (fun W hK => ex_bin (u := (.int .i64 (X i))) (r := (.int .i64 h)) rfl rfl rfl (eg3 _ _ _ _ _ _) (gtr3 _ (decide_eq_false (by omega)))) S (fun c a w h => hQP c a _ _ w h) ?_
              simp only [zp]
              refine ah_take (v := (.bool false)) (i := 6) (some 107) rfl rfl (by kernel_rfl) (by kernel_rfl) (by kernel_rfl) rfl (fun W hK => ex_mv rfl rfl) S (fun c a w h => hQP c a _ _ w h) ?_
              simp only [zp]
              refine ah_skip (i := 7) (some 108) rfl rfl (by kernel_rfl) (by kernel_rfl) (by kernel_rfl) rfl S (fun c a w h => hQP c a _ _ w h) ?_
              simp only [zp]
              refine ah_skip (i := 8) (some 109) rfl rfl (by kernel_rfl) (by kernel_rfl) (by kernel_rfl) rfl S (fun c a w h => hQP c a _ _ w h) ?_
              simp only [zp]
              refine ah_skip (i := 9) (some 110) rfl rfl (by kernel_rfl) (by kernel_rfl) (by kernel_rfl) rfl S (fun c a w h => hQP c a _ _ w h) ?_
              simp only [zp]
              refine ah_skip (i := 10) (some 111) rfl rfl (by kernel_rfl) (by kernel_rfl) (by kernel_rfl) rfl S (fun c a w h => hQP c a _ _ w h) ?_
              simp only [zp]
              refine ah_skip (i := 11) (some 112) rfl rfl (by kernel_rfl) (by kernel_rfl) (by kernel_rfl) rfl S (fun c a w h => hQP c a _ _ w h) ?_
              simp only [zp]
              refine ah_skip (i := 12) (some 113) rfl rfl (by kernel_rfl) (by kernel_rfl) (by kernel_rfl) rfl S (fun c a w h => hQP c a _ _ w h) ?_
              simp only [zp]
              refine ah_skip (i := 13) (some 114) rfl rfl (by kernel_rfl) (by kernel_rfl) (by kernel_rfl) rfl S (fun c a w h => hQP c a _ _ w h) ?_
              simp only [zp]
              refine ah_skip (i := 14) (some 115) rfl rfl (by kernel_rfl) (by kernel_rfl) (by kernel_rfl) rfl S (fun c a w h => hQP c a _ _ w h) ?_
              simp only [zp]
              refine ah_skip (i := 15) (some 116) rfl rfl (by kernel_rfl) (by kernel_rfl) (by kernel_rfl) rfl S (fun c a w h => hQP c a _ _ w h) ?_
              simp only [zp]
              refine ah_skip (i := 16) (some 117) rfl rfl (by kernel_rfl) (by kernel_rfl) (by kernel_rfl) rfl S (fun c a w h => hQP c a _ _ w h) ?_
              simp only [zp]
              refine ah_skip (i := 17) (some 118) rfl rfl (by kernel_rfl) (by kernel_rfl) (by kernel_rfl) rfl S (fun c a w h => hQP c a _ _ w h) ?_
              simp only [zp]
              refine ah_skip (i := 18) (some 119) rfl rfl (by kernel_rfl) (by kernel_rfl) (by kernel_rfl) rfl S (fun c a w h => hQP c a _ _ w h) ?_
              simp only [zp]
              refine ah_take (v := (.bool false)) (i := 19) (some 120) rfl rfl (by kernel_rfl) (by kernel_rfl) (by kernel_rfl) rfl (fun W hK => ex_pkF rfl rfl rfl) S (fun c a w h => hQP c a _ _ w h) ?_
              simp only [zp]
              refine ah_take (v := (.bool false)) (i := 20) (some 18) rfl rfl (by kernel_rfl) (by kernel_rfl) (by kernel_rfl) rfl (fun W hK => ex_asg rfl rfl) S (fun c a w h => hQP c a _ _ w h) ?_
              simp only [zp]
              refine ah_done (by kernel_rfl) ?_
              clear hQP
              subst hQ
              clear S d_kt16 d_Rn d_Rx
              refine wp_seq ?_
              obtain ⟨W53, hwd⟩ : ∃ wd, W52.drew = wd := ⟨_, rfl⟩
              refine wp_region_held (S := fun W => Kept Nil W53 W) (by kernel_rfl) ?_
              show wpAnyH _ _ _ _ _ _ _ _ W52.drew
              rw [hwd]
              refine capQ fun Q hQ => ?_
              have hQP : ∀ c (a : Act) (d : Nat) v w, Q (.panic c) (a.put (some d) v) w → Q (.panic c) a w := by
                subst hQ
                exact fun _ _ _ _ _ h => h
              have BD : Below W52.heap.size W52 W53 := by rw [← hwd]; exact below_drewB (Below.refl _ _)
              clear hwd
              replace E := below_next E BD
              replace Rn := Rn.below BD
              replace Rx := Rx.below BD
              replace kt16 := keep BD kt16
              clear BD
              have S : Kept Nil W53 W53 := Kept.refl _ _
              have d_kt16 := kt16
              have d_Rn := Rn
              have d_Rx := Rx
              have hn0 := Rn.2 i (by omega)
              have hn1 := Rn.2 (i + 1) (by omega)
              have hxx0 := Rx.2 i (by omega)
              have hxx1 := Rx.2 (i + 1) (by omega)
              have hq := range_below (hr i hlt) E
              refine ah_take (v := (.slice (some ⟨gx, 0, none⟩) (n + 1) (n + 1))) (i := 0) (some 121) rfl rfl (by kernel_rfl) (by kernel_rfl) (by kernel_rfl) rfl (fun W hK => ex_mv rfl rfl) S (fun c a w h => hQP c a _ _ w h) ?_
              simp only [zp]
              refine ah_take (v := (.int .i64 (i : Nat))) (i := 1) (some 122) rfl rfl (by kernel_rfl) (by kernel_rfl) (by kernel_rfl) rfl (fun W hK => ex_mv rfl rfl) S (fun c a w h => hQP c a _ _ w h) ?_
              simp only [zp]
              refine ah_take (v := (.int .i64 ((i + 1 : Nat) : Int))) (i := 2) (some 123) rfl rfl (by kernel_rfl) (by kernel_rfl) (by kernel_rfl) rfl (fun W hK => ex_bin (u := (.int .i64 (i : Nat))) (r := (.int .i64 1)) rfl rfl rfl (eg3 _ _ _ _ _ _) (add3 _ (by omega) (by omega))) S (fun c a w h => hQP c a _ _ w h) ?_
              simp only [zp]
              refine ah_take (v := (.pointer (some ⟨gx, (i + 1), none⟩))) (i := 3) (some 124) rfl rfl (by kernel_rfl) (by kernel_rfl) (by kernel_rfl) rfl (fun W hK => ex_ix36 (k := (i + 1)) rfl rfl rfl rfl (by omega)) S (fun c a w h => hQP c a _ _ w h) ?_
              simp only [zp]
              refine ah_take (v := (.int .i64 (X (i + 1)))) (i := 4) (some 125) rfl rfl (by kernel_rfl) (by kernel_rfl) (by kernel_rfl) rfl (fun W hK => ex_load rfl rfl (ld3 (cell_kept hK hxx1 (nilN _)))) S (fun c a w h => hQP c a _ _ w h) ?_
              simp only [zp]
              refine ah_take (v := (.int .i64 h)) (i := 5) (some 126) rfl rfl (by kernel_rfl) (by kernel_rfl) (by kernel_rfl) rfl (fun W hK => ex_mv rfl rfl) S (fun c a w h => hQP c a _ _ w h) ?_
              simp only [zp]
              refine ah_take (v := (.bool true)) (i := 6) (some 127) rfl rfl (by kernel_rfl) (by kernel_rfl) (by kernel_rfl) rfl (fun W hK => ex_bin (u := (.int .i64 (X (i + 1)))) (r := (.int .i64 h)) rfl rfl rfl (eg3 _ _ _ _ _ _) (lss3 _ (decide_eq_true (by omega)))) S (fun c a w h => hQP c a _ _ w h) ?_
              simp only [zp]
              refine ah_take (v := (.bool true)) (i := 7) (some 128) rfl rfl (by kernel_rfl) (by kernel_rfl) (by kernel_rfl) rfl (fun W hK => ex_mv rfl rfl) S (fun c a w h => hQP c a _ _ w h) ?_
              simp only [zp]
              refine ah_skip (i := 8) (some 129) rfl rfl (by kernel_rfl) (by kernel_rfl) (by kernel_rfl) rfl S (fun c a w h => hQP c a _ _ w h) ?_
              simp only [zp]
              refine ah_skip (i := 9) (some 130) rfl rfl (by kernel_rfl) (by kernel_rfl) (by kernel_rfl) rfl S (fun c a w h => hQP c a _ _ w h) ?_
              simp only [zp]
              refine ah_skip (i := 10) (some 131) rfl rfl (by kernel_rfl) (by kernel_rfl) (by kernel_rfl) rfl S (fun c a w h => hQP c a _ _ w h) ?_
              simp only [zp]
              refine ah_skip (i := 11) (some 132) rfl rfl (by kernel_rfl) (by kernel_rfl) (by kernel_rfl) rfl S (fun c a w h => hQP c a _ _ w h) ?_
              simp only [zp]
              refine ah_skip (i := 12) (some 133) rfl rfl (by kernel_rfl) (by kernel_rfl) (by kernel_rfl) rfl S (fun c a w h => hQP c a _ _ w h) ?_
              simp only [zp]
              refine ah_skip (i := 13) (some 134) rfl rfl (by kernel_rfl) (by kernel_rfl) (by kernel_rfl) rfl S (fun c a w h => hQP c a _ _ w h) ?_
              simp only [zp]
              refine ah_skip (i := 14) (some 135) rfl rfl (by kernel_rfl) (by kernel_rfl) (by kernel_rfl) rfl S (fun c a w h => hQP c a _ _ w h) ?_
              simp only [zp]
              refine ah_skip (i := 15) (some 136) rfl rfl (by kernel_rfl) (by kernel_rfl) (by kernel_rfl) rfl S (fun c a w h => hQP c a _ _ w h) ?_
              simp only [zp]
              refine ah_skip (i := 16) (some 137) rfl rfl (by kernel_rfl) (by kernel_rfl) (by kernel_rfl) rfl S (fun c a w h => hQP c a _ _ w h) ?_
              simp only [zp]
              refine ah_skip (i := 17) (some 138) rfl rfl (by kernel_rfl) (by kernel_rfl) (by kernel_rfl) rfl S (fun c a w h => hQP c a _ _ w h) ?_
              simp only [zp]
              refine ah_skip (i := 18) (some 139) rfl rfl (by kernel_rfl) (by kernel_rfl) (by kernel_rfl) rfl S (fun c a w h => hQP c a _ _ w h) ?_
              simp only [zp]
              refine ah_skip (i := 19) (some 140) rfl rfl (by kernel_rfl) (by kernel_rfl) (by kernel_rfl) rfl S (fun c a w h => hQP c a _ _ w h) ?_
              simp only [zp]
              refine ah_skip (i := 20) (some 141) rfl rfl (by kernel_rfl) (by kernel_rfl) (by kernel_rfl) rfl S (fun c a w h => hQP c a _ _ w h) ?_
              simp only [zp]
              refine ah_take (v := (.bool true)) (i := 21) (some 142) rfl rfl (by kernel_rfl) (by kernel_rfl) (by kernel_rfl) rfl (fun W hK => ex_pkT rfl rfl rfl) S (fun c a w h => hQP c a _ _ w h) ?_
              simp only [zp]
              refine ah_take (v := (.bool true)) (i := 22) (some 19) rfl rfl (by kernel_rfl) (by kernel_rfl) (by kernel_rfl) rfl (fun W hK => ex_asg rfl rfl) S (fun c a w h => hQP c a _ _ w h) ?_
              simp only [zp]
              refine ah_done (by kernel_rfl) ?_
              clear hQP
              subst hQ
              clear S d_kt16 d_Rn d_Rx
              refine wq fun Q hQ => ?_
              refine sm (.bool false) 143 rfl rfl rfl rfl ?_
              simp only [zp]
              refine sm (.bool false) 144 rfl rfl rfl rfl ?_
              simp only [zp]
              refine sn 145 rfl rfl ?_
              simp only [zp]
              refine sn 146 rfl rfl ?_
              simp only [zp]
              refine sv (.bool false) 147 rfl rfl (ex_pkF rfl rfl rfl) ?_
              simp only [zp]
              refine sm (.bool false) 148 rfl rfl rfl rfl ?_
              simp only [zp]
              refine sm (.bool false) 149 rfl rfl rfl rfl ?_
              simp only [zp]
              refine sv (.bool true) 150 rfl rfl (ex_not rfl rfl rfl) ?_
              simp only [zp]
              refine sm (.bool true) 151 rfl rfl rfl rfl ?_
              simp only [zp]
              refine sm (.bool true) 152 rfl rfl rfl rfl ?_
              simp only [zp]
              refine sv (.bool true) 153 rfl rfl (ex_pkT rfl rfl rfl) ?_
              simp only [zp]
              refine sm (.bool true) 154 rfl rfl rfl rfl ?_
              simp only [zp]
              refine sm (.int .i64 5) 155 rfl rfl rfl rfl ?_
              simp only [zp]
              refine sv (.bool false) 156 rfl rfl (ex_bin (u := (.int .i64 5)) (r := (.int .i64 5)) rfl rfl rfl (eg3 _ _ _ _ _ _) (neq3 _ (by decide))) ?_
              simp only [zp]
              refine sv (.bool false) 157 rfl rfl (ex_pkT rfl rfl rfl) ?_
              simp only [zp]
              refine sv (.bool false) 158 rfl rfl (ex_pkF rfl rfl rfl) ?_
              simp only [zp]
              refine sm (.bool false) 159 rfl rfl rfl rfl ?_
              simp only [zp]
              refine sm (.bool false) 160 rfl rfl rfl rfl ?_
              simp only [zp]
              refine sv (.bool true) 161 rfl rfl (ex_not rfl rfl rfl) ?_
              simp only [zp]
              refine sm (.bool true) 162 rfl rfl rfl rfl ?_
              simp only [zp]
              refine sm (.bool true) 163 rfl rfl rfl rfl ?_
              simp only [zp]
              refine sv (.bool false) 164 rfl rfl (ex_not rfl rfl rfl) ?_
              simp only [zp]
              refine sv (.bool false) 165 rfl rfl (ex_pkT rfl rfl rfl) ?_
              simp only [zp]
              refine sm (.bool false) 166 rfl rfl rfl rfl ?_
              simp only [zp]
              refine sn 167 rfl rfl ?_
              simp only [zp]
              refine sn 168 rfl rfl ?_
              simp only [zp]
              refine sv (.bool false) 169 rfl rfl (ex_pkF rfl rfl rfl) ?_
              simp only [zp]
              refine sv (.bool false) 170 rfl rfl (ex_pkF rfl rfl rfl) ?_
              simp only [zp]
              refine st_end ?_
              subst hQ
              refine wp_cond_false rfl ?_
              refine wp_skip ?_
              refine wl_in (wl_cap fun Q hQ => ?_)
              refine sm (.int .i64 (i : Nat)) 73 rfl rfl rfl rfl ?_
              simp only [zp]
              refine sv (.int .i64 ((i + 1 : Nat) : Int)) 74 rfl rfl (ex_bin rfl rfl rfl (eg3 _ _ _ _ _ _) (add3 _ (by omega) (by omega))) ?_
              simp only [zp]
              refine sg (.int .i64 ((i + 1 : Nat) : Int)) 15 rfl rfl rfl rfl ?_
              simp only [zp]
              refine st_end ?_
              subst hQ
              refine then_go ?_
              go_roundw
              case rel => exact ⟨i + 1, by omega, rfl, E, Rn, Rx⟩
              case measure => simp [intOf]; omega
            · skip
              by_cases e3 : X (i + 1) - h ≤ (qs i).g
              · skip
                refine wp_seq ?_
                refine wq fun Q hQ => ?_
                refine sm (.int .i64 (i : Nat)) 69 rfl rfl rfl rfl ?_
                simp only [zp]
                refine sm (.slice (some ⟨b, off, none⟩) n c) 70 rfl rfl rfl rfl ?_
                simp only [zp]
                refine sv (.int .i64 (n : Nat)) 71 rfl rfl (ex_len rfl rfl (len35 _ _ _ _ _)) ?_
                simp only [zp]
                refine sv (.bool true) 72 rfl rfl (ex_bin (u := (.int .i64 (i : Nat))) (r := (.int .i64 (n : Nat))) rfl rfl rfl (eg3 _ _ _ _ _ _) (lss3 _ (decide_eq_true (by omega)))) ?_
                simp only [zp]
                refine st_end ?_
                subst hQ
                refine wp_cond_true rfl ?_
                refine wp_skip ?_
                refine wp_seq ?_
                refine wp_block ?_
                refine wp_seq ?_
                obtain ⟨W54, hwd⟩ : ∃ wd, wr.drew = wd := ⟨_, rfl⟩
                refine wp_region_held (S := fun W => Kept Nil W54 W) (by kernel_rfl) ?_
                show wpAnyH _ _ _ _ _ _ _ _ wr.drew
                rw [hwd]
                refine capQ fun Q hQ => ?_
                have hQP : ∀ c (a : Act) (d : Nat) v w, Q (.panic c) (a.put (some d) v) w → Q (.panic c) a w := by
                  subst hQ
                  exact fun _ _ _ _ _ h => h
                have BD : Below wr.heap.size wr W54 := by rw [← hwd]; exact below_drewB (Below.refl _ _)
                clear hwd
                replace E := below_next E BD
                replace Rn := Rn.below BD
                replace Rx := Rx.below BD
                clear BD
                have S : Kept Nil W54 W54 := Kept.refl _ _
                have d_Rn := Rn
                have d_Rx := Rx
                have hn0 := Rn.2 i (by omega)
                have hn1 := Rn.2 (i + 1) (by omega)
                have hxx0 := Rx.2 i (by omega)
                have hxx1 := Rx.2 (i + 1) (by omega)
                have hq := range_below (hr i hlt) E
                have ltn := block_lt_of_cell hn0
                have ltx := block_lt_of_cell hxx0
                simp only at ltn ltx
                refine ah_take (v := (.slice (some ⟨gn, 0, none⟩) (n + 1) (n + 1))) (i := 0) (some 75) rfl rfl (by kernel_rfl) (by kernel_rfl) (by kernel_rfl) rfl (fun W hK => ex_mv rfl rfl) S (fun c a w h => hQP c a _ _ w h) ?_
                simp only [zp]
                refine ah_take (v := (.int .i64 (i : Nat))) (i := 1) (some 76) rfl rfl (by kernel_rfl) (by kernel_rfl) (by kernel_rfl) rfl (fun W hK => ex_mv rfl rfl) S (fun c a w h => hQP c a _ _ w h) ?_
                simp only [zp]
                refine ah_take (v := (.int .i64 ((i + 1 : Nat) : Int))) (i := 2) (some 77) rfl rfl (by kernel_rfl) (by kernel_rfl) (by kernel_rfl) rfl (fun W hK => ex_bin (u := (.int .i64 (i : Nat))) (r := (.int .i64 1)) rfl rfl rfl (eg3 _ _ _ _ _ _) (add3 _ (by omega) (by omega))) S (fun c a w h => hQP c a _ _ w h) ?_
                simp only [zp]
                refine ah_take (v := (.pointer (some ⟨gn, (i + 1), none⟩))) (i := 3) (some 78) rfl rfl (by kernel_rfl) (by kernel_rfl) (by kernel_rfl) rfl (fun W hK => ex_ix36 (k := (i + 1)) rfl rfl rfl rfl (by omega)) S (fun c a w h => hQP c a _ _ w h) ?_
                simp only [zp]
                refine ah_take (v := (.int .i64 (N (i + 1)))) (i := 4) (some 79) rfl rfl (by kernel_rfl) (by kernel_rfl) (by kernel_rfl) rfl (fun W hK => ex_load rfl rfl (ld3 (cell_kept hK hn1 (nilN _)))) S (fun c a w h => hQP c a _ _ w h) ?_
                simp only [zp]
                refine ah_take (v := (.slice (some ⟨gx, 0, none⟩) (n + 1) (n + 1))) (i := 5) (some 80) rfl rfl (by kernel_rfl) (by kernel_rfl) (by kernel_rfl) rfl (fun W hK => ex_mv rfl rfl) S (fun c a w h => hQP c a _ _ w h) ?_
                simp only [zp]
                refine ah_take (v := (.int .i64 (i : Nat))) (i := 6) (some 81) rfl rfl (by kernel_rfl) (by kernel_rfl) (by kernel_rfl) rfl (fun W hK => ex_mv rfl rfl) S (fun c a w h => hQP c a _ _ w h) ?_
                simp only [zp]
                refine ah_take (v := (.int .i64 ((i + 1 : Nat) : Int))) (i := 7) (some 82) rfl rfl (by kernel_rfl) (by kernel_rfl) (by kernel_rfl) rfl (fun W hK => ex_bin (u := (.int .i64 (i : Nat))) (r := (.int .i64 1)) rfl rfl rfl (eg3 _ _ _ _ _ _) (add3 _ (by omega) (by omega))) S (fun c a w h => hQP c a _ _ w h) ?_
                simp only [zp]
                refine ah_take (v := (.pointer (some ⟨gx, (i + 1), none⟩))) (i := 8) (some 83) rfl rfl (by kernel_rfl) (by kernel_rfl) (by kernel_rfl) rfl (fun W hK => ex_ix36 (k := (i + 1)) rfl rfl rfl rfl (by omega)) S (fun c a w h => hQP c a _ _ w h) ?_
                simp only [zp]
                refine ah_take (v := (.int .i64 (X (i + 1)))) (i := 9) (some 84) rfl rfl (by kernel_rfl) (by kernel_rfl) (by kernel_rfl) rfl (fun W hK => ex_load rfl rfl (ld3 (cell_kept hK hxx1 (nilN _)))) S (fun c a w h => hQP c a _ _ w h) ?_
                simp only [zp]
                refine ah_take (v := (.agg (HZ 1 (N (i + 1)) (X (i + 1)) 0))) (i := 10) (some 85) rfl rfl (by kernel_rfl) (by kernel_rfl) (by kernel_rfl) rfl (fun W hK => ex_build3 (v1 := (.int .i64 1)) (v2 := (.int .i64 (N (i + 1)))) (v3 := (.int .i64 (X (i + 1)))) rfl rfl rfl rfl (b28 _ _ _ _)) S (fun c a w h => hQP c a _ _ w h) ?_
                simp only [zp]
                refine ah_or1 (i := 11) (by kernel_rfl) ?_
                refine nx_new (fun b => .pointer (some ⟨b, 0, none⟩)) (some 16) rfl rfl rfl (ex_alloc rfl zero28) ?_
                intro bt16 W55 kt16 gt16 B
                refine ⟨S.next B, ?_⟩
                simp only [zp]
                have gd_bt16 := Nat.le_trans S.size gt16
                have ge_bt16 := Nat.le_trans E.size gt16
                replace E := below_next E B
                replace Rn := Rn.below B
                replace Rx := Rx.below B
                replace S := S.next B
                clear B
                refine ah_or1 (i := 12) (by kernel_rfl) ?_
                obtain ⟨W56, hst, kn, K⟩ := put_all (D := (HZ 1 (N (i + 1)) (X (i + 1)) 0)) kt16 (((show ((HZ 0 0 0 0) : Array Value).size = 101 from rfl)).trans ((HZ_is 1 (N (i + 1)) (X (i + 1)) 0).size).symm) (inf28.trans (congrArg some ((HZ_is 1 (N (i + 1)) (X (i + 1)) 0).size).symm)) (HZ_is 1 (N (i + 1)) (X (i + 1)) 0).one
                refine nx_sk rfl rfl rfl (ex_store rfl rfl rfl hst) (S.putN K gd_bt16) ?_
                replace E := below_put E ge_bt16 K
                replace Rn := Rn.put K (fun e => by omega)
                replace Rx := Rx.put K (fun e => by omega)
                replace S := S.putN K gd_bt16
                replace kt16 := kn
                clear kn K hst
                refine ah_done (by kernel_rfl) ?_
                clear hQP
                subst hQ
                clear S  d_Rn d_Rx
                refine wp_seq ?_
                obtain ⟨W57, hwd⟩ : ∃ wd, W56.drew = wd := ⟨_, rfl⟩
                refine wp_region_held (S := fun W => Kept Nil W57 W) (by kernel_rfl) ?_
                show wpAnyH _ _ _ _ _ _ _ _ W56.drew
                rw [hwd]
                refine capQ fun Q hQ => ?_
                have hQP : ∀ c (a : Act) (d : Nat) v w, Q (.panic c) (a.put (some d) v) w → Q (.panic c) a w := by
                  subst hQ
                  exact fun _ _ _ _ _ h => h
                have BD : Below W56.heap.size W56 W57 := by rw [← hwd]; exact below_drewB (Below.refl _ _)
                clear hwd
                replace E := below_next E BD
                replace Rn := Rn.below BD
                replace Rx := Rx.below BD
                replace kt16 := keep BD kt16
                clear BD
                have S : Kept Nil W57 W57 := Kept.refl _ _
                have d_kt16 := kt16
                have d_Rn := Rn
                have d_Rx := Rx
                have hn0 := Rn.2 i (by omega)
                have hn1 := Rn.2 (i + 1) (by omega)
                have hxx0 := Rx.2 i (by omega)
                have hxx1 := Rx.2 (i + 1) (by omega)
                have hq := range_below (hr i hlt) E
                refine ah_take (v := (.slice (some ⟨b, off, none⟩) n c)) (i := 0) (some 86) rfl rfl (by kernel_rfl) (by kernel_rfl) (by kernel_rfl) rfl (fun W hK => ex_mv rfl rfl) S (fun c a w h => hQP c a _ _ w h) ?_
                simp only [zp]
                refine ah_take (v := (.int .i64 (i : Nat))) (i := 1) (some 87) rfl rfl (by kernel_rfl) (by kernel_rfl) (by kernel_rfl) rfl (fun W hK => ex_mv rfl rfl) S (fun c a w h => hQP c a _ _ w h) ?_
                simp only [zp]
                refine ah_take (v := (.pointer (some ⟨b, (off + i * 5), none⟩))) (i := 2) (some 88) rfl rfl (by kernel_rfl) (by kernel_rfl) (by kernel_rfl) rfl (fun W hK => ex_ix35 rfl rfl rfl hlt) S (fun c a w h => hQP c a _ _ w h) ?_
                simp only [zp]
                refine ah_take (v := (.agg (RL (qs i)))) (i := 3) (some 89) rfl rfl (by kernel_rfl) (by kernel_rfl) (by kernel_rfl) rfl (fun W hK => ex_load rfl rfl (ld_range (rng_kept hK hq (nilN _)) Try.underlying25 rfl inf25)) S (fun c a w h => hQP c a _ _ w h) ?_
                simp only [zp]
                refine ah_take (v := (.agg (HZ 1 (N (i + 1)) (X (i + 1)) 0))) (i := 4) (some 90) rfl rfl (by kernel_rfl) (by kernel_rfl) (by kernel_rfl) rfl (fun W hK => ex_load (p := (.pointer (some ⟨bt16, 0, none⟩))) rfl rfl (ld_all (keepK hK d_kt16 (nilN _)) Try.underlying28 rfl (inf28.trans (congrArg some ((HZ_is 1 (N (i + 1)) (X (i + 1)) 0).size).symm)))) S (fun c a w h => hQP c a _ _ w h) ?_
                simp only [zp]
                refine ah_take (v := (.slice (some ⟨gn, 0, none⟩) (n + 1) (n + 1))) (i := 5) (some 91) rfl rfl (by kernel_rfl) (by kernel_rfl) (by kernel_rfl) rfl (fun W hK => ex_mv rfl rfl) S (fun c a w h => hQP c a _ _ w h) ?_
                simp only [zp]
                refine ah_take (v := (.int .i64 (i : Nat))) (i := 6) (some 92) rfl rfl (by kernel_rfl) (by kernel_rfl) (by kernel_rfl) rfl (fun W hK => ex_mv rfl rfl) S (fun c a w h => hQP c a _ _ w h) ?_
                simp only [zp]
                refine ah_take (v := (.pointer (some ⟨gn, i, none⟩))) (i := 7) (some 93) rfl rfl (by kernel_rfl) (by kernel_rfl) (by kernel_rfl) rfl (fun W hK => ex_ix36 (k := i) rfl rfl rfl rfl (by omega)) S (fun c a w h => hQP c a _ _ w h) ?_
                simp only [zp]
                refine ah_take (v := (.int .i64 (N i))) (i := 8) (some 94) rfl rfl (by kernel_rfl) (by kernel_rfl) (by kernel_rfl) rfl (fun W hK => ex_load rfl rfl (ld3 (cell_kept hK hn0 (nilN _)))) S (fun c a w h => hQP c a _ _ w h) ?_
                simp only [zp]
                refine ah_take (v := (.slice (some ⟨gx, 0, none⟩) (n + 1) (n + 1))) (i := 9) (some 95) rfl rfl (by kernel_rfl) (by kernel_rfl) (by kernel_rfl) rfl (fun W hK => ex_mv rfl rfl) S (fun c a w h => hQP c a _ _ w h) ?_
                simp only [zp]
                refine ah_take (v := (.int .i64 (i : Nat))) (i := 10) (some 96) rfl rfl (by kernel_rfl) (by kernel_rfl) (by kernel_rfl) rfl (fun W hK => ex_mv rfl rfl) S (fun c a w h => hQP c a _ _ w h) ?_
                simp only [zp]
                refine ah_take (v := (.pointer (some ⟨gx, i, none⟩))) (i := 11) (some 97) rfl rfl (by kernel_rfl) (by kernel_rfl) (by kernel_rfl) rfl (fun W hK => ex_ix36 (k := i) rfl rfl rfl rfl (by omega)) S (fun c a w h => hQP c a _ _ w h) ?_
                simp only [zp]
                refine ah_take (v := (.int .i64 (X i))) (i := 12) (some 98) rfl rfl (by kernel_rfl) (by kernel_rfl) (by kernel_rfl) rfl (fun W hK => ex_load rfl rfl (ld3 (cell_kept hK hxx0 (nilN _)))) S (fun c a w h => hQP c a _ _ w h) ?_
                simp only [zp]
                refine ah_take (v := (.int .i64 h)) (i := 13) (some 99) rfl rfl (by kernel_rfl) (by kernel_rfl) (by kernel_rfl) rfl (fun W hK => ex_mv rfl rfl) S (fun c a w h => hQP c a _ _ w h) ?_
                simp only [zp]
                refine ah_or1 (i := 14) (by kernel_rfl) ?_
                refine nx_call (some 100) rfl rfl rfl (fwd_any W57 (HZ_is _ _ _ _) (hqb i hlt) (by show _ ≤ N (i + 1); omega) am2 (FV.trans ((if_neg (by omega)).trans (if_pos (by omega))))) (ex_call (f := 11) (vs := [(.agg (RL (qs i))), (.agg (HZ 1 (N (i + 1)) (X (i + 1)) 0)), (.int .i64 (N i)), (.int .i64 (X i)), (.int .i64 h)]) rfl (cf11 _) rfl) ?_
                rintro e W58 ⟨rfl, B⟩
                refine ⟨_, rfl, S.next B, ?_⟩
                simp only [zp]
                replace E := below_next E B
                replace Rn := Rn.below B
                replace Rx := Rx.below B
                replace kt16 := keep B kt16
                replace S := S.next B
                refine ah_take (v := (.int .i64 5)) (i := 15) (some 17) rfl rfl (by kernel_rfl) (by kernel_rfl) (by kernel_rfl) rfl (fun W hK => ex_asg rfl rfl) S (fun c a w h => hQP c a _ _ w h) ?_
                simp only [zp]
                refine ah_done (by kernel_rfl) ?_
                clear hQP
                subst hQ
                clear S d_kt16 d_Rn d_Rx
                refine wp_seq ?_
                obtain ⟨W59, hwd⟩ : ∃ wd, W58.drew = wd := ⟨_, rfl⟩
                refine wp_region_held (S := fun W => Kept Nil W59 W) (by kernel_rfl) ?_
                show wpAnyH _ _ _ _ _ _ _ _ W58.drew
                rw [hwd]
                refine capQ fun Q hQ => ?_
                have hQP : ∀ c (a : Act) (d : Nat) v w, Q (.panic c) (a.put (some d) v) w → Q (.panic c) a w := by
                  subst hQ
                  exact fun _ _ _ _ _ h => h
                have BD : Below W58.heap.size W58 W59 := by rw [← hwd]; exact below_drewB (Below.refl _ _)
                clear hwd
                replace E := below_next E BD
                replace Rn := Rn.below BD
                replace Rx := Rx.below BD
                replace kt16 := keep BD kt16
                clear BD
                have S : Kept Nil W59 W59 := Kept.refl _ _
                have d_kt16 := kt16
                have d_Rn := Rn
                have d_Rx := Rx
                have hn0 := Rn.2 i (by omega)
                have hn1 := Rn.2 (i + 1) (by omega)
                have hxx0 := Rx.2 i (by omega)
                have hxx1 := Rx.2 (i + 1) (by omega)
                have hq := range_below (hr i hlt) E
                refine ah_take (v := (.slice (some ⟨gx, 0, none⟩) (n + 1) (n + 1))) (i := 0) (some 101) rfl rfl (by kernel_rfl) (by kernel_rfl) (by kernel_rfl) rfl (fun W hK => ex_mv rfl rfl) S (fun c a w h => hQP c a _ _ w h) ?_
                simp only [zp]
                refine ah_take (v := (.int .i64 (i : Nat))) (i := 1) (some 102) rfl rfl (by kernel_rfl) (by kernel_rfl) (by kernel_rfl) rfl (fun W hK => ex_mv rfl rfl) S (fun c a w h => hQP c a _ _ w h) ?_
                simp only [zp]
                refine ah_take (v := (.pointer (some ⟨gx, i, none⟩))) (i := 2) (some 103) rfl rfl (by kernel_rfl) (by kernel_rfl) (by kernel_rfl) rfl (fun W hK => ex_ix36 (k := i) rfl rfl rfl rfl (by omega)) S (fun c a w h => hQP c a _ _ w h) ?_
                simp only [zp]
                refine ah_take (v := (.int .i64 (X i))) (i := 3) (some 104) rfl rfl (by kernel_rfl) (by kernel_rfl) (by kernel_rfl) rfl (fun W hK => ex_load rfl rfl (ld3 (cell_kept hK hxx0 (nilN _)))) S (fun c a w h => hQP c a _ _ w h) ?_
                simp only [zp]
                refine ah_take (v := (.int .i64 h)) (i := 4) (some 105) rfl rfl (by kernel_rfl) (by kernel_rfl) (by kernel_rfl) rfl (fun W hK => ex_mv rfl rfl) S (fun c a w h => hQP c a _ _ w h) ?_
                simp only [zp]
                refine ah_take (v := (.bool false)) (i := 5) (some 106) rfl rfl (by kernel_rfl) (by kernel_rfl) (by kernel_rfl) rfl (fun W hK => ex_bin (u := (.int .i64 (X i))) (r := (.int .i64 h)) rfl rfl rfl (eg3 _ _ _ _ _ _) (gtr3 _ (decide_eq_false (by omega)))) S (fun c a w h => hQP c a _ _ w h) ?_
                simp only [zp]
                refine ah_take (v := (.bool false)) (i := 6) (some 107) rfl rfl (by kernel_rfl) (by kernel_rfl) (by kernel_rfl) rfl (fun W hK => ex_mv rfl rfl) S (fun c a w h => hQP c a _ _ w h) ?_
                simp only [zp]
                refine ah_skip (i := 7) (some 108) rfl rfl (by kernel_rfl) (by kernel_rfl) (by kernel_rfl) rfl S (fun c a w h => hQP c a _ _ w h) ?_
                simp only [zp]
                refine ah_skip (i := 8) (some 109) rfl rfl (by kernel_rfl) (by kernel_rfl) (by kernel_rfl) rfl S (fun c a w h => hQP c a _ _ w h) ?_
                simp only [zp]
                refine ah_skip (i := 9) (some 110) rfl rfl (by kernel_rfl) (by kernel_rfl) (by kernel_rfl) rfl S (fun c a w h => hQP c a _ _ w h) ?_
                simp only [zp]
                refine ah_skip (i := 10) (some 111) rfl rfl (by kernel_rfl) (by kernel_rfl) (by kernel_rfl) rfl S (fun c a w h => hQP c a _ _ w h) ?_
                simp only [zp]
                refine ah_skip (i := 11) (some 112) rfl rfl (by kernel_rfl) (by kernel_rfl) (by kernel_rfl) rfl S (fun c a w h => hQP c a _ _ w h) ?_
                simp only [zp]
                refine ah_skip (i := 12) (some 113) rfl rfl (by kernel_rfl) (by kernel_rfl) (by kernel_rfl) rfl S (fun c a w h => hQP c a _ _ w h) ?_
                simp only [zp]
                refine ah_skip (i := 13) (some 114) rfl rfl (by kernel_rfl) (by kernel_rfl) (by kernel_rfl) rfl S (fun c a w h => hQP c a _ _ w h) ?_
                simp only [zp]
                refine ah_skip (i := 14) (some 115) rfl rfl (by kernel_rfl) (by kernel_rfl) (by kernel_rfl) rfl S (fun c a w h => hQP c a _ _ w h) ?_
                simp only [zp]
                refine ah_skip (i := 15) (some 116) rfl rfl (by kernel_rfl) (by kernel_rfl) (by kernel_rfl) rfl S (fun c a w h => hQP c a _ _ w h) ?_
                simp only [zp]
                refine ah_skip (i := 16) (some 117) rfl rfl (by kernel_rfl) (by kernel_rfl) (by kernel_rfl) rfl S (fun c a w h => hQP c a _ _ w h) ?_
                simp only [zp]
                refine ah_skip (i := 17) (some 118) rfl rfl (by kernel_rfl) (by kernel_rfl) (by kernel_rfl) rfl S (fun c a w h => hQP c a _ _ w h) ?_
                simp only [zp]
                refine ah_skip (i := 18) (some 119) rfl rfl (by kernel_rfl) (by kernel_rfl) (by kernel_rfl) rfl S (fun c a w h => hQP c a _ _ w h) ?_
                simp only [zp]
                refine ah_take (v := (.bool false)) (i := 19) (some 120) rfl rfl (by kernel_rfl) (by kernel_rfl) (by kernel_rfl) rfl (fun W hK => ex_pkF rfl rfl rfl) S (fun c a w h => hQP c a _ _ w h) ?_
                simp only [zp]
                refine ah_take (v := (.bool false)) (i := 20) (some 18) rfl rfl (by kernel_rfl) (by kernel_rfl) (by kernel_rfl) rfl (fun W hK => ex_asg rfl rfl) S (fun c a w h => hQP c a _ _ w h) ?_
                simp only [zp]
                refine ah_done (by kernel_rfl) ?_
                clear hQP
                subst hQ
                clear S d_kt16 d_Rn d_Rx
                refine wp_seq ?_
                obtain ⟨W60, hwd⟩ : ∃ wd, W59.drew = wd := ⟨_, rfl⟩
                refine wp_region_held (S := fun W => Kept Nil W60 W) (by kernel_rfl) ?_
                show wpAnyH _ _ _ _ _ _ _ _ W59.drew
                rw [hwd]
                refine capQ fun Q hQ => ?_
                have hQP : ∀ c (a : Act) (d : Nat) v w, Q (.panic c) (a.put (some d) v) w → Q (.panic c) a w := by
                  subst hQ
                  exact fun _ _ _ _ _ h => h
                have BD : Below W59.heap.size W59 W60 := by rw [← hwd]; exact below_drewB (Below.refl _ _)
                clear hwd
                replace E := below_next E BD
                replace Rn := Rn.below BD
                replace Rx := Rx.below BD
                replace kt16 := keep BD kt16
                clear BD
                have S : Kept Nil W60 W60 := Kept.refl _ _
                have d_kt16 := kt16
                have d_Rn := Rn
                have d_Rx := Rx
                have hn0 := Rn.2 i (by omega)
                have hn1 := Rn.2 (i + 1) (by omega)
                have hxx0 := Rx.2 i (by omega)
                have hxx1 := Rx.2 (i + 1) (by omega)
                have hq := range_below (hr i hlt) E
                refine ah_take (v := (.slice (some ⟨gx, 0, none⟩) (n + 1) (n + 1))) (i := 0) (some 121) rfl rfl (by kernel_rfl) (by kernel_rfl) (by kernel_rfl) rfl (fun W hK => ex_mv rfl rfl) S (fun c a w h => hQP c a _ _ w h) ?_
                simp only [zp]
                refine ah_take (v := (.int .i64 (i : Nat))) (i := 1) (some 122) rfl rfl (by kernel_rfl) (by kernel_rfl) (by kernel_rfl) rfl (fun W hK => ex_mv rfl rfl) S (fun c a w h => hQP c a _ _ w h) ?_
                simp only [zp]
                refine ah_take (v := (.int .i64 ((i + 1 : Nat) : Int))) (i := 2) (some 123) rfl rfl (by kernel_rfl) (by kernel_rfl) (by kernel_rfl) rfl (fun W hK => ex_bin (u := (.int .i64 (i : Nat))) (r := (.int .i64 1)) rfl rfl rfl (eg3 _ _ _ _ _ _) (add3 _ (by omega) (by omega))) S (fun c a w h => hQP c a _ _ w h) ?_
                simp only [zp]
                refine ah_take (v := (.pointer (some ⟨gx, (i + 1), none⟩))) (i := 3) (some 124) rfl rfl (by kernel_rfl) (by kernel_rfl) (by kernel_rfl) rfl (fun W hK => ex_ix36 (k := (i + 1)) rfl rfl rfl rfl (by omega)) S (fun c a w h => hQP c a _ _ w h) ?_
                simp only [zp]
                refine ah_take (v := (.int .i64 (X (i + 1)))) (i := 4) (some 125) rfl rfl (by kernel_rfl) (by kernel_rfl) (by kernel_rfl) rfl (fun W hK => ex_load rfl rfl (ld3 (cell_kept hK hxx1 (nilN _)))) S (fun c a w h => hQP c a _ _ w h) ?_
                simp only [zp]
                refine ah_take (v := (.int .i64 h)) (i := 5) (some 126) rfl rfl (by kernel_rfl) (by kernel_rfl) (by kernel_rfl) rfl (fun W hK => ex_mv rfl rfl) S (fun c a w h => hQP c a _ _ w h) ?_
                simp only [zp]
                refine ah_take (v := (.bool false)) (i := 6) (some 127) rfl rfl (by kernel_rfl) (by kernel_rfl) (by kernel_rfl) rfl (fun W hK => ex_bin (u := (.int .i64 (X (i + 1)))) (r := (.int .i64 h)) rfl rfl rfl (eg3 _ _ _ _ _ _) (lss3 _ (decide_eq_false (by omega)))) S (fun c a w h => hQP c a _ _ w h) ?_
                simp only [zp]
                refine ah_take (v := (.bool false)) (i := 7) (some 128) rfl rfl (by kernel_rfl) (by kernel_rfl) (by kernel_rfl) rfl (fun W hK => ex_mv rfl rfl) S (fun c a w h => hQP c a _ _ w h) ?_
                simp only [zp]
                refine ah_take (v := (.slice (some ⟨gx, 0, none⟩) (n + 1) (n + 1))) (i := 8) (some 129) rfl rfl (by kernel_rfl) (by kernel_rfl) (by kernel_rfl) rfl (fun W hK => ex_mv rfl rfl) S (fun c a w h => hQP c a _ _ w h) ?_
                simp only [zp]
                refine ah_take (v := (.int .i64 (i : Nat))) (i := 9) (some 130) rfl rfl (by kernel_rfl) (by kernel_rfl) (by kernel_rfl) rfl (fun W hK => ex_mv rfl rfl) S (fun c a w h => hQP c a _ _ w h) ?_
                simp only [zp]
                refine ah_take (v := (.int .i64 ((i + 1 : Nat) : Int))) (i := 10) (some 131) rfl rfl (by kernel_rfl) (by kernel_rfl) (by kernel_rfl) rfl (fun W hK => ex_bin (u := (.int .i64 (i : Nat))) (r := (.int .i64 1)) rfl rfl rfl (eg3 _ _ _ _ _ _) (add3 _ (by omega) (by omega))) S (fun c a w h => hQP c a _ _ w h) ?_
                simp only [zp]
                refine ah_take (v := (.pointer (some ⟨gx, (i + 1), none⟩))) (i := 11) (some 132) rfl rfl (by kernel_rfl) (by kernel_rfl) (by kernel_rfl) rfl (fun W hK => ex_ix36 (k := (i + 1)) rfl rfl rfl rfl (by omega)) S (fun c a w h => hQP c a _ _ w h) ?_
                simp only [zp]
                refine ah_take (v := (.int .i64 (X (i + 1)))) (i := 12) (some 133) rfl rfl (by kernel_rfl) (by kernel_rfl) (by kernel_rfl) rfl (fun W hK => ex_load rfl rfl (ld3 (cell_kept hK hxx1 (nilN _)))) S (fun c a w h => hQP c a _ _ w h) ?_
                simp only [zp]
                refine ah_take (v := (.int .i64 h)) (i := 13) (some 134) rfl rfl (by kernel_rfl) (by kernel_rfl) (by kernel_rfl) rfl (fun W hK => ex_mv rfl rfl) S (fun c a w h => hQP c a _ _ w h) ?_
                simp only [zp]
                refine ah_take (v := (.int .i64 (X (i + 1) - h))) (i := 14) (some 135) rfl rfl (by kernel_rfl) (by kernel_rfl) (by kernel_rfl) rfl (fun W hK => ex_bin (u := (.int .i64 (X (i + 1)))) (r := (.int .i64 h)) rfl rfl rfl (eg3 _ _ _ _ _ _) (sub3 _ rfl (by omega))) S (fun c a w h => hQP c a _ _ w h) ?_
                simp only [zp]
                refine ah_take (v := (.slice (some ⟨b, off, none⟩) n c)) (i := 15) (some 136) rfl rfl (by kernel_rfl) (by kernel_rfl) (by kernel_rfl) rfl (fun W hK => ex_mv rfl rfl) S (fun c a w h => hQP c a _ _ w h) ?_
                simp only [zp]
                refine ah_take (v := (.int .i64 (i : Nat))) (i := 16) (some 137) rfl rfl (by kernel_rfl) (by kernel_rfl) (by kernel_rfl) rfl (fun W hK => ex_mv rfl rfl) S (fun c a w h => hQP c a _ _ w h) ?_
                simp only [zp]
                refine ah_take (v := (.pointer (some ⟨b, (off + i * 5), none⟩))) (i := 17) (some 138) rfl rfl (by kernel_rfl) (by kernel_rfl) (by kernel_rfl) rfl (fun W hK => ex_ix35 rfl rfl rfl hlt) S (fun c a w h => hQP c a _ _ w h) ?_
                simp only [zp]
                refine ah_take (v := (.pointer (some ⟨b, (off + i * 5 + 3), none⟩))) (i := 18) (some 139) rfl rfl (by kernel_rfl) (by kernel_rfl) (by kernel_rfl) rfl (fun W hK => ex_fa rfl rfl (faG _ _ _)) S (fun c a w h => hQP c a _ _ w h) ?_
                simp only [zp]
                refine ah_take (v := (.int .i64 (qs i).g)) (i := 19) (some 140) rfl rfl (by kernel_rfl) (by kernel_rfl) (by kernel_rfl) rfl (fun W hK => ex_load rfl rfl (ld3 (cell_kept hK (hq 3 _ rfl) (nilN _)))) S (fun c a w h => hQP c a _ _ w h) ?_
                simp only [zp]
                refine ah_take (v := (.bool true)) (i := 20) (some 141) rfl rfl (by kernel_rfl) (by kernel_rfl) (by kernel_rfl) rfl (fun W hK => ex_bin (u := (.int .i64 (X (i + 1) - h))) (r := (.int .i64 (qs i).g)) rfl rfl rfl (eg3 _ _ _ _ _ _) (leq3 _ (decide_eq_true (by omega)))) S (fun c a w h => hQP c a _ _ w h) ?_
                simp only [zp]
                refine ah_take (v := (.bool true)) (i := 21) (some 142) rfl rfl (by kernel_rfl) (by kernel_rfl) (by kernel_rfl) rfl (fun W hK => ex_pkF rfl rfl rfl) S (fun c a w h => hQP c a _ _ w h) ?_
                simp only [zp]
                refine ah_take (v := (.bool true)) (i := 22) (some 19) rfl rfl (by kernel_rfl) (by kernel_rfl) (by kernel_rfl) rfl (fun W hK => ex_asg rfl rfl) S (fun c a w h => hQP c a _ _ w h) ?_
                simp only [zp]
                refine ah_done (by kernel_rfl) ?_
                clear hQP
                subst hQ
                clear S d_kt16 d_Rn d_Rx
                refine wq fun Q hQ => ?_
                refine sm (.bool false) 143 rfl rfl rfl rfl ?_
                simp only [zp]
                refine sm (.bool false) 144 rfl rfl rfl rfl ?_
                simp only [zp]
                refine sn 145 rfl rfl ?_
                simp only [zp]
                refine sn 146 rfl rfl ?_
                simp only [zp]
                refine sv (.bool false) 147 rfl rfl (ex_pkF rfl rfl rfl) ?_
                simp only [zp]
                refine sm (.bool false) 148 rfl rfl rfl rfl ?_
                simp only [zp]
                refine sm (.bool false) 149 rfl rfl rfl rfl ?_
                simp only [zp]
                refine sv (.bool true) 150 rfl rfl (ex_not rfl rfl rfl) ?_
                simp only [zp]
                refine sm (.bool true) 151 rfl rfl rfl rfl ?_
                simp only [zp]
                refine sm (.bool true) 152 rfl rfl rfl rfl ?_
                simp only [zp]
                refine sv (.bool true) 153 rfl rfl (ex_pkT rfl rfl rfl) ?_
                simp only [zp]
                refine sm (.bool true) 154 rfl rfl rfl rfl ?_
                simp only [zp]
                refine sm (.int .i64 5) 155 rfl rfl rfl rfl ?_
                simp only [zp]
                refine sv (.bool false) 156 rfl rfl (ex_bin (u := (.int .i64 5)) (r := (.int .i64 5)) rfl rfl rfl (eg3 _ _ _ _ _ _) (neq3 _ (by decide))) ?_
                simp only [zp]
                refine sv (.bool false) 157 rfl rfl (ex_pkT rfl rfl rfl) ?_
                simp only [zp]
                refine sv (.bool false) 158 rfl rfl (ex_pkF rfl rfl rfl) ?_
                simp only [zp]
                refine sm (.bool false) 159 rfl rfl rfl rfl ?_
                simp only [zp]
                refine sm (.bool false) 160 rfl rfl rfl rfl ?_
                simp only [zp]
                refine sv (.bool true) 161 rfl rfl (ex_not rfl rfl rfl) ?_
                simp only [zp]
                refine sm (.bool true) 162 rfl rfl rfl rfl ?_
                simp only [zp]
                refine sm (.bool true) 163 rfl rfl rfl rfl ?_
                simp only [zp]
                refine sv (.bool false) 164 rfl rfl (ex_not rfl rfl rfl) ?_
                simp only [zp]
                refine sv (.bool false) 165 rfl rfl (ex_pkT rfl rfl rfl) ?_
                simp only [zp]
                refine sm (.bool false) 166 rfl rfl rfl rfl ?_
                simp only [zp]
                refine sn 167 rfl rfl ?_
                simp only [zp]
                refine sn 168 rfl rfl ?_
                simp only [zp]
                refine sv (.bool false) 169 rfl rfl (ex_pkF rfl rfl rfl) ?_
                simp only [zp]
                refine sv (.bool false) 170 rfl rfl (ex_pkF rfl rfl rfl) ?_
                simp only [zp]
                refine st_end ?_
                subst hQ
                refine wp_cond_false rfl ?_
                refine wp_skip ?_
                refine wl_in (wl_cap fun Q hQ => ?_)
                refine sm (.int .i64 (i : Nat)) 73 rfl rfl rfl rfl ?_
                simp only [zp]
                refine sv (.int .i64 ((i + 1 : Nat) : Int)) 74 rfl rfl (ex_bin rfl rfl rfl (eg3 _ _ _ _ _ _) (add3 _ (by omega) (by omega))) ?_
                simp only [zp]
                refine sg (.int .i64 ((i + 1 : Nat) : Int)) 15 rfl rfl rfl rfl ?_
                simp only [zp]
                refine st_end ?_
                subst hQ
                refine then_go ?_
                go_roundw
                case rel => exact ⟨i + 1, by omega, rfl, E, Rn, Rx⟩
                case measure => simp [intOf]; omega
              · skip
                refine wp_seq ?_
                refine wq fun Q hQ => ?_
                refine sm (.int .i64 (i : Nat)) 69 rfl rfl rfl rfl ?_
                simp only [zp]
                refine sm (.slice (some ⟨b, off, none⟩) n c) 70 rfl rfl rfl rfl ?_
                simp only [zp]
                refine sv (.int .i64 (n : Nat)) 71 rfl rfl (ex_len rfl rfl (len35 _ _ _ _ _)) ?_
                simp only [zp]
                refine sv (.bool true) 72 rfl rfl (ex_bin (u := (.int .i64 (i : Nat))) (r := (.int .i64 (n : Nat))) rfl rfl rfl (eg3 _ _ _ _ _ _) (lss3 _ (decide_eq_true (by omega)))) ?_
                simp only [zp]
                refine st_end ?_
                subst hQ
                refine wp_cond_true rfl ?_
                refine wp_skip ?_
                refine wp_seq ?_
                refine wp_block ?_
                refine wp_seq ?_
                obtain ⟨W61, hwd⟩ : ∃ wd, wr.drew = wd := ⟨_, rfl⟩
                refine wp_region_held (S := fun W => Kept Nil W61 W) (by kernel_rfl) ?_
                show wpAnyH _ _ _ _ _ _ _ _ wr.drew
                rw [hwd]
                refine capQ fun Q hQ => ?_
                have hQP : ∀ c (a : Act) (d : Nat) v w, Q (.panic c) (a.put (some d) v) w → Q (.panic c) a w := by
                  subst hQ
                  exact fun _ _ _ _ _ h => h
                have BD : Below wr.heap.size wr W61 := by rw [← hwd]; exact below_drewB (Below.refl _ _)
                clear hwd
                replace E := below_next E BD
                replace Rn := Rn.below BD
                replace Rx := Rx.below BD
                clear BD
                have S : Kept Nil W61 W61 := Kept.refl _ _
                have d_Rn := Rn
                have d_Rx := Rx
                have hn0 := Rn.2 i (by omega)
                have hn1 := Rn.2 (i + 1) (by omega)
                have hxx0 := Rx.2 i (by omega)
                have hxx1 := Rx.2 (i + 1) (by omega)
                have hq := range_below (hr i hlt) E
                have ltn := block_lt_of_cell hn0
                have ltx := block_lt_of_cell hxx0
                simp only at ltn ltx
                refine ah_take (v := (.slice (some ⟨gn, 0, none⟩) (n + 1) (n + 1))) (i := 0) (some 75) rfl rfl (by kernel_rfl) (by kernel_rfl) (by kernel_rfl) rfl (fun W hK => ex_mv rfl rfl) S (fun c a w h => hQP c a _ _ w h) ?_
                simp only [zp]
                refine ah_take (v := (.int .i64 (i : Nat))) (i := 1) (some 76) rfl rfl (by kernel_rfl) (by kernel_rfl) (by kernel_rfl) rfl (fun W hK => ex_mv rfl rfl) S (fun c a w h => hQP c a _ _ w h) ?_
                simp only [zp]
                refine ah_take (v := (.int .i64 ((i + 1 : Nat) : Int))) (i := 2) (some 77) rfl rfl (by kernel_rfl) (by kernel_rfl) (by kernel_rfl) rfl (fun W hK => ex_bin (u := (.int .i64 (i : Nat))) (r := (.int .i64 1)) rfl rfl rfl (eg3 _ _ _ _ _ _) (add3 _ (by omega) (by omega))) S (fun c a w h => hQP c a _ _ w h) ?_
                simp only [zp]
                refine ah_take (v := (.pointer (some ⟨gn, (i + 1), none⟩))) (i := 3) (some 78) rfl rfl (by kernel_rfl) (by kernel_rfl) (by kernel_rfl) rfl (fun W hK => ex_ix36 (k := (i + 1)) rfl rfl rfl rfl (by omega)) S (fun c a w h => hQP c a _ _ w h) ?_
                simp only [zp]
                refine ah_take (v := (.int .i64 (N (i + 1)))) (i := 4) (some 79) rfl rfl (by kernel_rfl) (by kernel_rfl) (by kernel_rfl) rfl (fun W hK => ex_load rfl rfl (ld3 (cell_kept hK hn1 (nilN _)))) S (fun c a w h => hQP c a _ _ w h) ?_
                simp only [zp]
                refine ah_take (v := (.slice (some ⟨gx, 0, none⟩) (n + 1) (n + 1))) (i := 5) (some 80) rfl rfl (by kernel_rfl) (by kernel_rfl) (by kernel_rfl) rfl (fun W hK => ex_mv rfl rfl) S (fun c a w h => hQP c a _ _ w h) ?_
                simp only [zp]
                refine ah_take (v := (.int .i64 (i : Nat))) (i := 6) (some 81) rfl rfl (by kernel_rfl) (by kernel_rfl) (by kernel_rfl) rfl (fun W hK => ex_mv rfl rfl) S (fun c a w h => hQP c a _ _ w h) ?_
                simp only [zp]
                refine ah_take (v := (.int .i64 ((i + 1 : Nat) : Int))) (i := 7) (some 82) rfl rfl (by kernel_rfl) (by kernel_rfl) (by kernel_rfl) rfl (fun W hK => ex_bin (u := (.int .i64 (i : Nat))) (r := (.int .i64 1)) rfl rfl rfl (eg3 _ _ _ _ _ _) (add3 _ (by omega) (by omega))) S (fun c a w h => hQP c a _ _ w h) ?_
                simp only [zp]
                refine ah_take (v := (.pointer (some ⟨gx, (i + 1), none⟩))) (i := 8) (some 83) rfl rfl (by kernel_rfl) (by kernel_rfl) (by kernel_rfl) rfl (fun W hK => ex_ix36 (k := (i + 1)) rfl rfl rfl rfl (by omega)) S (fun c a w h => hQP c a _ _ w h) ?_
                simp only [zp]
                refine ah_take (v := (.int .i64 (X (i + 1)))) (i := 9) (some 84) rfl rfl (by kernel_rfl) (by kernel_rfl) (by kernel_rfl) rfl (fun W hK => ex_load rfl rfl (ld3 (cell_kept hK hxx1 (nilN _)))) S (fun c a w h => hQP c a _ _ w h) ?_
                simp only [zp]
                refine ah_take (v := (.agg (HZ 1 (N (i + 1)) (X (i + 1)) 0))) (i := 10) (some 85) rfl rfl (by kernel_rfl) (by kernel_rfl) (by kernel_rfl) rfl (fun W hK => ex_build3 (v1 := (.int .i64 1)) (v2 := (.int .i64 (N (i + 1)))) (v3 := (.int .i64 (X (i + 1)))) rfl rfl rfl rfl (b28 _ _ _ _)) S (fun c a w h => hQP c a _ _ w h) ?_
                simp only [zp]
                refine ah_or1 (i := 11) (by kernel_rfl) ?_
                refine nx_new (fun b => .pointer (some ⟨b, 0, none⟩)) (some 16) rfl rfl rfl (ex_alloc rfl zero28) ?_
                intro bt16 W62 kt16 gt16 B
                refine ⟨S.next B, ?_⟩
                simp only [zp]
                have gd_bt16 := Nat.le_trans S.size gt16
                have ge_bt16 := Nat.le_trans E.size gt16
                replace E := below_next E B
                replace Rn := Rn.below B
                replace Rx := Rx.below B
                replace S := S.next B
                clear B
                refine ah_or1 (i := 12) (by kernel_rfl) ?_
                obtain ⟨W63, hst, kn, K⟩ := put_all (D := (HZ 1 (N (i + 1)) (X (i + 1)) 0)) kt16 (((show ((HZ 0 0 0 0) : Array Value).size = 101 from rfl)).trans ((HZ_is 1 (N (i + 1)) (X (i + 1)) 0).size).symm) (inf28.trans (congrArg some ((HZ_is 1 (N (i + 1)) (X (i + 1)) 0).size).symm)) (HZ_is 1 (N (i + 1)) (X (i + 1)) 0).one
                refine nx_sk rfl rfl rfl (ex_store rfl rfl rfl hst) (S.putN K gd_bt16) ?_
                replace E := below_put E ge_bt16 K
                replace Rn := Rn.put K (fun e => by omega)
                replace Rx := Rx.put K (fun e => by omega)
                replace S := S.putN K gd_bt16
                replace kt16 := kn
                clear kn K hst
                refine ah_done (by kernel_rfl) ?_
                clear hQP
                subst hQ
                clear S  d_Rn d_Rx
                refine wp_seq ?_
                obtain ⟨W64, hwd⟩ : ∃ wd, W63.drew = wd := ⟨_, rfl⟩
                refine wp_region_held (S := fun W => Kept Nil W64 W) (by kernel_rfl) ?_
                show wpAnyH _ _ _ _ _ _ _ _ W63.drew
                rw [hwd]
                refine capQ fun Q hQ => ?_
                have hQP : ∀ c (a : Act) (d : Nat) v w, Q (.panic c) (a.put (some d) v) w → Q (.panic c) a w := by
                  subst hQ
                  exact fun _ _ _ _ _ h => h
                have BD : Below W63.heap.size W63 W64 := by rw [← hwd]; exact below_drewB (Below.refl _ _)
                clear hwd
                replace E := below_next E BD
                replace Rn := Rn.below BD
                replace Rx := Rx.below BD
                replace kt16 := keep BD kt16
                clear BD
                have S : Kept Nil W64 W64 := Kept.refl _ _
                have d_kt16 := kt16
                have d_Rn := Rn
                have d_Rx := Rx
                have hn0 := Rn.2 i (by omega)
                have hn1 := Rn.2 (i + 1) (by omega)
                have hxx0 := Rx.2 i (by omega)
                have hxx1 := Rx.2 (i + 1) (by omega)
                have hq := range_below (hr i hlt) E
                refine ah_take (v := (.slice (some ⟨b, off, none⟩) n c)) (i := 0) (some 86) rfl rfl (by kernel_rfl) (by kernel_rfl) (by kernel_rfl) rfl (fun W hK => ex_mv rfl rfl) S (fun c a w h => hQP c a _ _ w h) ?_
                simp only [zp]
                refine ah_take (v := (.int .i64 (i : Nat))) (i := 1) (some 87) rfl rfl (by kernel_rfl) (by kernel_rfl) (by kernel_rfl) rfl (fun W hK => ex_mv rfl rfl) S (fun c a w h => hQP c a _ _ w h) ?_
                simp only [zp]
                refine ah_take (v := (.pointer (some ⟨b, (off + i * 5), none⟩))) (i := 2) (some 88) rfl rfl (by kernel_rfl) (by kernel_rfl) (by kernel_rfl) rfl (fun W hK => ex_ix35 rfl rfl rfl hlt) S (fun c a w h => hQP c a _ _ w h) ?_
                simp only [zp]
                refine ah_take (v := (.agg (RL (qs i)))) (i := 3) (some 89) rfl rfl (by kernel_rfl) (by kernel_rfl) (by kernel_rfl) rfl (fun W hK => ex_load rfl rfl (ld_range (rng_kept hK hq (nilN _)) Try.underlying25 rfl inf25)) S (fun c a w h => hQP c a _ _ w h) ?_
                simp only [zp]
                refine ah_take (v := (.agg (HZ 1 (N (i + 1)) (X (i + 1)) 0))) (i := 4) (some 90) rfl rfl (by kernel_rfl) (by kernel_rfl) (by kernel_rfl) rfl (fun W hK => ex_load (p := (.pointer (some ⟨bt16, 0, none⟩))) rfl rfl (ld_all (keepK hK d_kt16 (nilN _)) Try.underlying28 rfl (inf28.trans (congrArg some ((HZ_is 1 (N (i + 1)) (X (i + 1)) 0).size).symm)))) S (fun c a w h => hQP c a _ _ w h) ?_
                simp only [zp]
                refine ah_take (v := (.slice (some ⟨gn, 0, none⟩) (n + 1) (n + 1))) (i := 5) (some 91) rfl rfl (by kernel_rfl) (by kernel_rfl) (by kernel_rfl) rfl (fun W hK => ex_mv rfl rfl) S (fun c a w h => hQP c a _ _ w h) ?_
                simp only [zp]
                refine ah_take (v := (.int .i64 (i : Nat))) (i := 6) (some 92) rfl rfl (by kernel_rfl) (by kernel_rfl) (by kernel_rfl) rfl (fun W hK => ex_mv rfl rfl) S (fun c a w h => hQP c a _ _ w h) ?_
                simp only [zp]
                refine ah_take (v := (.pointer (some ⟨gn, i, none⟩))) (i := 7) (some 93) rfl rfl (by kernel_rfl) (by kernel_rfl) (by kernel_rfl) rfl (fun W hK => ex_ix36 (k := i) rfl rfl rfl rfl (by omega)) S (fun c a w h => hQP c a _ _ w h) ?_
                simp only [zp]
                refine ah_take (v := (.int .i64 (N i))) (i := 8) (some 94) rfl rfl (by kernel_rfl) (by kernel_rfl) (by kernel_rfl) rfl (fun W hK => ex_load rfl rfl (ld3 (cell_kept hK hn0 (nilN _)))) S (fun c a w h => hQP c a _ _ w h) ?_
                simp only [zp]
                refine ah_take (v := (.slice (some ⟨gx, 0, none⟩) (n + 1) (n + 1))) (i := 9) (some 95) rfl rfl (by kernel_rfl) (by kernel_rfl) (by kernel_rfl) rfl (fun W hK => ex_mv rfl rfl) S (fun c a w h => hQP c a _ _ w h) ?_
                simp only [zp]
                refine ah_take (v := (.int .i64 (i : Nat))) (i := 10) (some 96) rfl rfl (by kernel_rfl) (by kernel_rfl) (by kernel_rfl) rfl (fun W hK => ex_mv rfl rfl) S (fun c a w h => hQP c a _ _ w h) ?_
                simp only [zp]
                refine ah_take (v := (.pointer (some ⟨gx, i, none⟩))) (i := 11) (some 97) rfl rfl (by kernel_rfl) (by kernel_rfl) (by kernel_rfl) rfl (fun W hK => ex_ix36 (k := i) rfl rfl rfl rfl (by omega)) S (fun c a w h => hQP c a _ _ w h) ?_
                simp only [zp]
                refine ah_take (v := (.int .i64 (X i))) (i := 12) (some 98) rfl rfl (by kernel_rfl) (by kernel_rfl) (by kernel_rfl) rfl (fun W hK => ex_load rfl rfl (ld3 (cell_kept hK hxx0 (nilN _)))) S (fun c a w h => hQP c a _ _ w h) ?_
                simp only [zp]
                refine ah_take (v := (.int .i64 h)) (i := 13) (some 99) rfl rfl (by kernel_rfl) (by kernel_rfl) (by kernel_rfl) rfl (fun W hK => ex_mv rfl rfl) S (fun c a w h => hQP c a _ _ w h) ?_
                simp only [zp]
                refine ah_or1 (i := 14) (by kernel_rfl) ?_
                refine nx_call (some 100) rfl rfl rfl (fwd_any W64 (HZ_is _ _ _ _) (hqb i hlt) (by show _ ≤ N (i + 1); omega) am2 (FV.trans ((if_neg (by omega)).trans (if_neg (by omega))))) (ex_call (f := 11) (vs := [(.agg (RL (qs i))), (.agg (HZ 1 (N (i + 1)) (X (i + 1)) 0)), (.int .i64 (N i)), (.int .i64 (X i)), (.int .i64 h)]) rfl (cf11 _) rfl) ?_
                rintro e W65 ⟨rfl, B⟩
                refine ⟨_, rfl, S.next B, ?_⟩
                simp only [zp]
                replace E := below_next E B
                replace Rn := Rn.below B
                replace Rx := Rx.below B
                replace kt16 := keep B kt16
                replace S := S.next B
                refine ah_take (v := (.int .i64 0)) (i := 15) (some 17) rfl rfl (by kernel_rfl) (by kernel_rfl) (by kernel_rfl) rfl (fun W hK => ex_asg rfl rfl) S (fun c a w h => hQP c a _ _ w h) ?_
                simp only [zp]
                refine ah_done (by kernel_rfl) ?_
                clear hQP
                subst hQ
                clear S d_kt16 d_Rn d_Rx
                refine wp_seq ?_
                obtain ⟨W66, hwd⟩ : ∃ wd, W65.drew = wd := ⟨_, rfl⟩
                refine wp_region_held (S := fun W => Kept Nil W66 W) (by kernel_rfl) ?_
                show wpAnyH _ _ _ _ _ _ _ _ W65.drew
                rw [hwd]
                refine capQ fun Q hQ => ?_
                have hQP : ∀ c (a : Act) (d : Nat) v w, Q (.panic c) (a.put (some d) v) w → Q (.panic c) a w := by
                  subst hQ
                  exact fun _ _ _ _ _ h => h
                have BD : Below W65.heap.size W65 W66 := by rw [← hwd]; exact below_drewB (Below.refl _ _)
                clear hwd
                replace E := below_next E BD
                replace Rn := Rn.below BD
                replace Rx := Rx.below BD
                replace kt16 := keep BD kt16
                clear BD
                have S : Kept Nil W66 W66 := Kept.refl _ _
                have d_kt16 := kt16
                have d_Rn := Rn
                have d_Rx := Rx
                have hn0 := Rn.2 i (by omega)
                have hn1 := Rn.2 (i + 1) (by omega)
                have hxx0 := Rx.2 i (by omega)
                have hxx1 := Rx.2 (i + 1) (by omega)
                have hq := range_below (hr i hlt) E
                refine ah_take (v := (.slice (some ⟨gx, 0, none⟩) (n + 1) (n + 1))) (i := 0) (some 101) rfl rfl (by kernel_rfl) (by kernel_rfl) (by kernel_rfl) rfl (fun W hK => ex_mv rfl rfl) S (fun c a w h => hQP c a _ _ w h) ?_
                simp only [zp]
                refine ah_take (v := (.int .i64 (i : Nat))) (i := 1) (some 102) rfl rfl (by kernel_rfl) (by kernel_rfl) (by kernel_rfl) rfl (fun W hK => ex_mv rfl rfl) S (fun c a w h => hQP c a _ _ w h) ?_
                simp only [zp]
                refine ah_take (v := (.pointer (some ⟨gx, i, none⟩))) (i := 2) (some 103) rfl rfl (by kernel_rfl) (by kernel_rfl) (by kernel_rfl) rfl (fun W hK => ex_ix36 (k := i) rfl rfl rfl rfl (by omega)) S (fun c a w h => hQP c a _ _ w h) ?_
                simp only [zp]
                refine ah_take (v := (.int .i64 (X i))) (i := 3) (some 104) rfl rfl (by kernel_rfl) (by kernel_rfl) (by kernel_rfl) rfl (fun W hK => ex_load rfl rfl (ld3 (cell_kept hK hxx0 (nilN _)))) S (fun c a w h => hQP c a _ _ w h) ?_
                simp only [zp]
                refine ah_take (v := (.int .i64 h)) (i := 4) (some 105) rfl rfl (by kernel_rfl) (by kernel_rfl) (by kernel_rfl) rfl (fun W hK => ex_mv rfl rfl) S (fun c a w h => hQP c a _ _ w h) ?_
                simp only [zp]
                refine ah_take (v := (.bool false)) (i := 5) (some 106) rfl rfl (by kernel_rfl) (by kernel_rfl) (by kernel_rfl) rfl (fun W hK => ex_bin (u := (.int .i64 (X i))) (r := (.int .i64 h)) rfl rfl rfl (eg3 _ _ _ _ _ _) (gtr3 _ (decide_eq_false (by omega)))) S (fun c a w h => hQP c a _ _ w h) ?_
                simp only [zp]
                refine ah_take (v := (.bool false)) (i := 6) (some 107) rfl rfl (by kernel_rfl) (by kernel_rfl) (by kernel_rfl) rfl (fun W hK => ex_mv rfl rfl) S (fun c a w h => hQP c a _ _ w h) ?_
                simp only [zp]
                refine ah_skip (i := 7) (some 108) rfl rfl (by kernel_rfl) (by kernel_rfl) (by kernel_rfl) rfl S (fun c a w h => hQP c a _ _ w h) ?_
                simp only [zp]
                refine ah_skip (i := 8) (some 109) rfl rfl (by kernel_rfl) (by kernel_rfl) (by kernel_rfl) rfl S (fun c a w h => hQP c a _ _ w h) ?_
                simp only [zp]
                refine ah_skip (i := 9) (some 110) rfl rfl (by kernel_rfl) (by kernel_rfl) (by kernel_rfl) rfl S (fun c a w h => hQP c a _ _ w h) ?_
                simp only [zp]
                refine ah_skip (i := 10) (some 111) rfl rfl (by kernel_rfl) (by kernel_rfl) (by kernel_rfl) rfl S (fun c a w h => hQP c a _ _ w h) ?_
                simp only [zp]
                refine ah_skip (i := 11) (some 112) rfl rfl (by kernel_rfl) (by kernel_rfl) (by kernel_rfl) rfl S (fun c a w h => hQP c a _ _ w h) ?_
                simp only [zp]
                refine ah_skip (i := 12) (some 113) rfl rfl (by kernel_rfl) (by kernel_rfl) (by kernel_rfl) rfl S (fun c a w h => hQP c a _ _ w h) ?_
                simp only [zp]
                refine ah_skip (i := 13) (some 114) rfl rfl (by kernel_rfl) (by kernel_rfl) (by kernel_rfl) rfl S (fun c a w h => hQP c a _ _ w h) ?_
                simp only [zp]
                refine ah_skip (i := 14) (some 115) rfl rfl (by kernel_rfl) (by kernel_rfl) (by kernel_rfl) rfl S (fun c a w h => hQP c a _ _ w h) ?_
                simp only [zp]
                refine ah_skip (i := 15) (some 116) rfl rfl (by kernel_rfl) (by kernel_rfl) (by kernel_rfl) rfl S (fun c a w h => hQP c a _ _ w h) ?_
                simp only [zp]
                refine ah_skip (i := 16) (some 117) rfl rfl (by kernel_rfl) (by kernel_rfl) (by kernel_rfl) rfl S (fun c a w h => hQP c a _ _ w h) ?_
                simp only [zp]
                refine ah_skip (i := 17) (some 118) rfl rfl (by kernel_rfl) (by kernel_rfl) (by kernel_rfl) rfl S (fun c a w h => hQP c a _ _ w h) ?_
                simp only [zp]
                refine ah_skip (i := 18) (some 119) rfl rfl (by kernel_rfl) (by kernel_rfl) (by kernel_rfl) rfl S (fun c a w h => hQP c a _ _ w h) ?_
                simp only [zp]
                refine ah_take (v := (.bool false)) (i := 19) (some 120) rfl rfl (by kernel_rfl) (by kernel_rfl) (by kernel_rfl) rfl (fun W hK => ex_pkF rfl rfl rfl) S (fun c a w h => hQP c a _ _ w h) ?_
                simp only [zp]
                refine ah_take (v := (.bool false)) (i := 20) (some 18) rfl rfl (by kernel_rfl) (by kernel_rfl) (by kernel_rfl) rfl (fun W hK => ex_asg rfl rfl) S (fun c a w h => hQP c a _ _ w h) ?_
                simp only [zp]
                refine ah_done (by kernel_rfl) ?_
                clear hQP
                subst hQ
                clear S d_kt16 d_Rn d_Rx
                refine wp_seq ?_
                obtain ⟨W67, hwd⟩ : ∃ wd, W66.drew = wd := ⟨_, rfl⟩
                refine wp_region_held (S := fun W => Kept Nil W67 W) (by kernel_rfl) ?_
                show wpAnyH _ _ _ _ _ _ _ _ W66.drew
                rw [hwd]
                refine capQ fun Q hQ => ?_
                have hQP : ∀ c (a : Act) (d : Nat) v w, Q (.panic c) (a.put (some d) v) w → Q (.panic c) a w := by
                  subst hQ
                  exact fun _ _ _ _ _ h => h
                have BD : Below W66.heap.size W66 W67 := by rw [← hwd]; exact below_drewB (Below.refl _ _)
                clear hwd
                replace E := below_next E BD
                replace Rn := Rn.below BD
                replace Rx := Rx.below BD
                replace kt16 := keep BD kt16
                clear BD
                have S : Kept Nil W67 W67 := Kept.refl _ _
                have d_kt16 := kt16
                have d_Rn := Rn
                have d_Rx := Rx
                have hn0 := Rn.2 i (by omega)
                have hn1 := Rn.2 (i + 1) (by omega)
                have hxx0 := Rx.2 i (by omega)
                have hxx1 := Rx.2 (i + 1) (by omega)
                have hq := range_below (hr i hlt) E
                refine ah_take (v := (.slice (some ⟨gx, 0, none⟩) (n + 1) (n + 1))) (i := 0) (some 121) rfl rfl (by kernel_rfl) (by kernel_rfl) (by kernel_rfl) rfl (fun W hK => ex_mv rfl rfl) S (fun c a w h => hQP c a _ _ w h) ?_
                simp only [zp]
                refine ah_take (v := (.int .i64 (i : Nat))) (i := 1) (some 122) rfl rfl (by kernel_rfl) (by kernel_rfl) (by kernel_rfl) rfl (fun W hK => ex_mv rfl rfl) S (fun c a w h => hQP c a _ _ w h) ?_
                simp only [zp]
                refine ah_take (v := (.int .i64 ((i + 1 : Nat) : Int))) (i := 2) (some 123) rfl rfl (by kernel_rfl) (by kernel_rfl) (by kernel_rfl) rfl (fun W hK => ex_bin (u := (.int .i64 (i : Nat))) (r := (.int .i64 1)) rfl rfl rfl (eg3 _ _ _ _ _ _) (add3 _ (by omega) (by omega))) S (fun c a w h => hQP c a _ _ w h) ?_
                simp only [zp]
                refine ah_take (v := (.pointer (some ⟨gx, (i + 1), none⟩))) (i := 3) (some 124) rfl rfl (by kernel_rfl) (by kernel_rfl) (by kernel_rfl) rfl (fun W hK => ex_ix36 (k := (i + 1)) rfl rfl rfl rfl (by omega)) S (fun c a w h => hQP c a _ _ w h) ?_
                simp only [zp]
                refine ah_take (v := (.int .i64 (X (i + 1)))) (i := 4) (some 125) rfl rfl (by kernel_rfl) (by kernel_rfl) (by kernel_rfl) rfl (fun W hK => ex_load rfl rfl (ld3 (cell_kept hK hxx1 (nilN _)))) S (fun c a w h => hQP c a _ _ w h) ?_
                simp only [zp]
                refine ah_take (v := (.int .i64 h)) (i := 5) (some 126) rfl rfl (by kernel_rfl) (by kernel_rfl) (by kernel_rfl) rfl (fun W hK => ex_mv rfl rfl) S (fun c a w h => hQP c a _ _ w h) ?_
                simp only [zp]
                refine ah_take (v := (.bool false)) (i := 6) (some 127) rfl rfl (by kernel_rfl) (by kernel_rfl) (by kernel_rfl) rfl (fun W hK => ex_bin (u := (.int .i64 (X (i + 1)))) (r := (.int .i64 h)) rfl rfl rfl (eg3 _ _ _ _ _ _) (lss3 _ (decide_eq_false (by omega)))) S (fun c a w h => hQP c a _ _ w h) ?_
                simp only [zp]
                refine ah_take (v := (.bool false)) (i := 7) (some 128) rfl rfl (by kernel_rfl) (by kernel_rfl) (by kernel_rfl) rfl (fun W hK => ex_mv rfl rfl) S (fun c a w h => hQP c a _ _ w h) ?_
                simp only [zp]
                refine ah_take (v := (.slice (some ⟨gx, 0, none⟩) (n + 1) (n + 1))) (i := 8) (some 129) rfl rfl (by kernel_rfl) (by kernel_rfl) (by kernel_rfl) rfl (fun W hK => ex_mv rfl rfl) S (fun c a w h => hQP c a _ _ w h) ?_
                simp only [zp]
                refine ah_take (v := (.int .i64 (i : Nat))) (i := 9) (some 130) rfl rfl (by kernel_rfl) (by kernel_rfl) (by kernel_rfl) rfl (fun W hK => ex_mv rfl rfl) S (fun c a w h => hQP c a _ _ w h) ?_
                simp only [zp]
                refine ah_take (v := (.int .i64 ((i + 1 : Nat) : Int))) (i := 10) (some 131) rfl rfl (by kernel_rfl) (by kernel_rfl) (by kernel_rfl) rfl (fun W hK => ex_bin (u := (.int .i64 (i : Nat))) (r := (.int .i64 1)) rfl rfl rfl (eg3 _ _ _ _ _ _) (add3 _ (by omega) (by omega))) S (fun c a w h => hQP c a _ _ w h) ?_
                simp only [zp]
                refine ah_take (v := (.pointer (some ⟨gx, (i + 1), none⟩))) (i := 11) (some 132) rfl rfl (by kernel_rfl) (by kernel_rfl) (by kernel_rfl) rfl (fun W hK => ex_ix36 (k := (i + 1)) rfl rfl rfl rfl (by omega)) S (fun c a w h => hQP c a _ _ w h) ?_
                simp only [zp]
                refine ah_take (v := (.int .i64 (X (i + 1)))) (i := 12) (some 133) rfl rfl (by kernel_rfl) (by kernel_rfl) (by kernel_rfl) rfl (fun W hK => ex_load rfl rfl (ld3 (cell_kept hK hxx1 (nilN _)))) S (fun c a w h => hQP c a _ _ w h) ?_
                simp only [zp]
                refine ah_take (v := (.int .i64 h)) (i := 13) (some 134) rfl rfl (by kernel_rfl) (by kernel_rfl) (by kernel_rfl) rfl (fun W hK => ex_mv rfl rfl) S (fun c a w h => hQP c a _ _ w h) ?_
                simp only [zp]
                refine ah_take (v := (.int .i64 (X (i + 1) - h))) (i := 14) (some 135) rfl rfl (by kernel_rfl) (by kernel_rfl) (by kernel_rfl) rfl (fun W hK => ex_bin (u := (.int .i64 (X (i + 1)))) (r := (.int .i64 h)) rfl rfl rfl (eg3 _ _ _ _ _ _) (sub3 _ rfl (by omega))) S (fun c a w h => hQP c a _ _ w h) ?_
                simp only [zp]
                refine ah_take (v := (.slice (some ⟨b, off, none⟩) n c)) (i := 15) (some 136) rfl rfl (by kernel_rfl) (by kernel_rfl) (by kernel_rfl) rfl (fun W hK => ex_mv rfl rfl) S (fun c a w h => hQP c a _ _ w h) ?_
                simp only [zp]
                refine ah_take (v := (.int .i64 (i : Nat))) (i := 16) (some 137) rfl rfl (by kernel_rfl) (by kernel_rfl) (by kernel_rfl) rfl (fun W hK => ex_mv rfl rfl) S (fun c a w h => hQP c a _ _ w h) ?_
                simp only [zp]
                refine ah_take (v := (.pointer (some ⟨b, (off + i * 5), none⟩))) (i := 17) (some 138) rfl rfl (by kernel_rfl) (by kernel_rfl) (by kernel_rfl) rfl (fun W hK => ex_ix35 rfl rfl rfl hlt) S (fun c a w h => hQP c a _ _ w h) ?_
                simp only [zp]
                refine ah_take (v := (.pointer (some ⟨b, (off + i * 5 + 3), none⟩))) (i := 18) (some 139) rfl rfl (by kernel_rfl) (by kernel_rfl) (by kernel_rfl) rfl (fun W hK => ex_fa rfl rfl (faG _ _ _)) S (fun c a w h => hQP c a _ _ w h) ?_
                simp only [zp]
                refine ah_take (v := (.int .i64 (qs i).g)) (i := 19) (some 140) rfl rfl (by kernel_rfl) (by kernel_rfl) (by kernel_rfl) rfl (fun W hK => ex_load rfl rfl (ld3 (cell_kept hK (hq 3 _ rfl) (nilN _)))) S (fun c a w h => hQP c a _ _ w h) ?_
                simp only [zp]
                refine ah_take (v := (.bool false)) (i := 20) (some 141) rfl rfl (by kernel_rfl) (by kernel_rfl) (by kernel_rfl) rfl (fun W hK => ex_bin (u := (.int .i64 (X (i + 1) - h))) (r := (.int .i64 (qs i).g)) rfl rfl rfl (eg3 _ _ _ _ _ _) (leq3 _ (decide_eq_false (by omega)))) S (fun c a w h => hQP c a _ _ w h) ?_
                simp only [zp]
                refine ah_take (v := (.bool false)) (i := 21) (some 142) rfl rfl (by kernel_rfl) (by kernel_rfl) (by kernel_rfl) rfl (fun W hK => ex_pkF rfl rfl rfl) S (fun c a w h => hQP c a _ _ w h) ?_
                simp only [zp]
                refine ah_take (v := (.bool false)) (i := 22) (some 19) rfl rfl (by kernel_rfl) (by kernel_rfl) (by kernel_rfl) rfl (fun W hK => ex_asg rfl rfl) S (fun c a w h => hQP c a _ _ w h) ?_
                simp only [zp]
                refine ah_done (by kernel_rfl) ?_
                clear hQP
                subst hQ
                clear S d_kt16 d_Rn d_Rx
                refine wq fun Q hQ => ?_
                refine sm (.bool false) 143 rfl rfl rfl rfl ?_
                simp only [zp]
                refine sm (.bool false) 144 rfl rfl rfl rfl ?_
                simp only [zp]
                refine sn 145 rfl rfl ?_
                simp only [zp]
                refine sn 146 rfl rfl ?_
                simp only [zp]
                refine sv (.bool false) 147 rfl rfl (ex_pkF rfl rfl rfl) ?_
                simp only [zp]
                refine sm (.bool false) 148 rfl rfl rfl rfl ?_
                simp only [zp]
                refine sm (.bool false) 149 rfl rfl rfl rfl ?_
                simp only [zp]
                refine sv (.bool true) 150 rfl rfl (ex_not rfl rfl rfl) ?_
                simp only [zp]
                refine sm (.bool true) 151 rfl rfl rfl rfl ?_
                simp only [zp]
                refine sm (.bool false) 152 rfl rfl rfl rfl ?_
                simp only [zp]
                refine sv (.bool false) 153 rfl rfl (ex_pkT rfl rfl rfl) ?_
                simp only [zp]
                refine sm (.bool false) 154 rfl rfl rfl rfl ?_
                simp only [zp]
                refine sn 155 rfl rfl ?_
                simp only [zp]
                refine sn 156 rfl rfl ?_
                simp only [zp]
                refine sv (.bool false) 157 rfl rfl (ex_pkF rfl rfl rfl) ?_
                simp only [zp]
                refine sv (.bool false) 158 rfl rfl (ex_pkF rfl rfl rfl) ?_
                simp only [zp]
                refine sm (.bool false) 159 rfl rfl rfl rfl ?_
                simp only [zp]
                refine sm (.bool false) 160 rfl rfl rfl rfl ?_
                simp only [zp]
                refine sv (.bool true) 161 rfl rfl (ex_not rfl rfl rfl) ?_
                simp only [zp]
                refine sm (.bool true) 162 rfl rfl rfl rfl ?_
                simp only [zp]
                refine sm (.bool false) 163 rfl rfl rfl rfl ?_
                simp only [zp]
                refine sv (.bool true) 164 rfl rfl (ex_not rfl rfl rfl) ?_
                simp only [zp]
                refine sv (.bool true) 165 rfl rfl (ex_pkT rfl rfl rfl) ?_
                simp only [zp]
                refine sm (.bool true) 166 rfl rfl rfl rfl ?_
                simp only [zp]
                refine sm (.int .i64 0) 167 rfl rfl rfl rfl ?_
                simp only [zp]
                refine sv (.bool false) 168 rfl rfl (ex_bin (u := (.int .i64 0)) (r := (.int .i64 0)) rfl rfl rfl (eg3 _ _ _ _ _ _) (neq3 _ (by decide))) ?_
                simp only [zp]
                refine sv (.bool false) 169 rfl rfl (ex_pkT rfl rfl rfl) ?_
                simp only [zp]
                refine sv (.bool false) 170 rfl rfl (ex_pkF rfl rfl rfl) ?_
                simp only [zp]
                refine st_end ?_
                subst hQ
                refine wp_cond_false rfl ?_
                refine wp_skip ?_
                refine wl_in (wl_cap fun Q hQ => ?_)
                refine sm (.int .i64 (i : Nat)) 73 rfl rfl rfl rfl ?_
                simp only [zp]
                refine sv (.int .i64 ((i + 1 : Nat) : Int)) 74 rfl rfl (ex_bin rfl rfl rfl (eg3 _ _ _ _ _ _) (add3 _ (by omega) (by omega))) ?_
                simp only [zp]
                refine sg (.int .i64 ((i + 1 : Nat) : Int)) 15 rfl rfl rfl rfl ?_
                simp only [zp]
                refine st_end ?_
                subst hQ
                refine then_go ?_
                go_roundw
                case rel => exact ⟨i + 1, by omega, rfl, E, Rn, Rx⟩
                case measure => simp [intOf]; omega
        · skip
          refine wp_seq ?_
          refine wq fun Q hQ => ?_
          refine sm (.int .i64 (i : Nat)) 69 rfl rfl rfl rfl ?_
          simp only [zp]
          refine sm (.slice ao n c) 70 rfl rfl rfl rfl ?_
          simp only [zp]
          refine sv (.int .i64 (n : Nat)) 71 rfl rfl (ex_len rfl rfl (len35 _ _ _ _ _)) ?_
          simp only [zp]
          refine sv (.bool false) 72 rfl rfl (ex_bin (u := (.int .i64 (i : Nat))) (r := (.int .i64 (n : Nat))) rfl rfl rfl (eg3 _ _ _ _ _ _) (lss3 _ (decide_eq_false (by omega)))) ?_
          simp only [zp]
          refine st_end ?_
          subst hQ
          refine wp_cond_false rfl ?_
          refine wp_exit ?_
          refine ex_then ?_
          refine ex_then ?_
          refine ex_blk ?_
          refine wq fun Q hQ => ?_
          refine sg (.bool true) 8 rfl rfl rfl rfl ?_
          simp only [zp]
          refine st_end ?_
          subst hQ
          refine wp_ret ?_
          exact bodyPost_ret (results_tmp Try.results6 _ _ _) rfl ⟨rfl, E⟩
end Go.Proofs.Ytfbaidmnnkcaeaa
