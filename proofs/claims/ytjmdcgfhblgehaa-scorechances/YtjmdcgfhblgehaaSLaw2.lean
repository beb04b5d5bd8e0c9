/- Score: the walks of ScoreLearns and ScoreCosts. -/
import Derived.Test.YtjmdcgfhblgehaaSLaw
namespace Go.Proofs.Ytjmdcgfhblgehaa
open Go.RowKit
set_option linter.unusedVariables false
set_option linter.unusedSimpArgs false
set_option maxRecDepth 100000

/-- n numbers lie there -/
def Ns (w : World) (ao : Option Addr) (n : Nat) (z : Nat → Int) : Prop := n = 0 ∨ ∃ b o, ao = some ⟨b, o, none⟩ ∧ ∀ i, i < n → w.cell? ⟨b, o + i, none⟩ = some (.int .i64 (z i))
theorem cell_kept {F : Nat → Prop} {W W' : World} {b o : Nat} {v : Value} (hK : Kept F W W') (h : W.cell? ⟨b, o, none⟩ = some v) (hn : ¬ F b) : W'.cell? ⟨b, o, none⟩ = some v := by
  have hl := block_lt_of_cell h
  unfold World.cell? at h ⊢
  rw [hK.block b hl hn]
  exact h
theorem modw {x z : Int} (W : World) (hx : 0 ≤ x) (hx2 : x ≤ 9223372036854775807) (hz : x % 3 = z) : (binOp .rem 3 (.int .i64 x) (.int .i64 3)).run Try.prog W = .ok (.int .i64 z) W := by
  subst hz
  have h1 : Int.tmod x 3 = x % 3 := Int.tmod_eq_emod_of_nonneg hx
  have h2 := IntKind.wrap_i64 (x % 3)
  go_simp
  all_goals omega
theorem pl_same (p : PV) (W : World) : (binOp .neq 23 (.agg (PL p)) (.agg (PL p))).run Try.prog W = .ok (.bool false) W := by
  unfold PL
  go_simp
theorem pl_eg (bop : BinOp) (x y : Operand) (p q : PV) (W : World) : (eqGuard bop 23 x y (.agg (PL p)) (.agg (PL q))).run Try.prog W = .ok () W := by
  unfold PL
  cases bop <;> go_simp
section
variable {o : Oper} {a : Act} {W : World}
theorem ex_ixI {x y : Operand} {b p n c k : Nat} (ho : o.op = .indexAddr 37 x y) (hx : a.eval x = .slice (some ⟨b, p, none⟩) n c) (hy : a.eval y = .int .i64 k) (hk : k < n) : (execOp a.eval o).run Try.prog W = .ok (.value (.pointer (some ⟨b, p + k, none⟩))) W := by
  have h1 : (k : Int) < (n : Int) := by omega
  unfold execOp
  simp only [ho, hx, hy]
  go_simp
end
theorem neq4 {x y c : Bool} (W : World) (hc : (x != y) = c) : (binOp .neq 4 (.bool x) (.bool y)).run Try.prog W = .ok (.bool c) W := by
  subst hc
  cases x <;> cases y <;> (go_simp; try rfl)
set_option maxHeartbeats 16000000 in
theorem costs_any {fe d : Int} {x : Nat} {ao : Option Addr} {n c : Nat} {z : Nat → Nat} (w : World) (hx : x < 18446744073709551616) (f2 : fe ≤ 9223372036854775807) (d2 : d ≤ 9223372036854775807) (hF : Fs w ao n z) (hn : n ≤ 140737488355328) (hz : ∀ i, i < n → z i < 18446744073709551616) : Calls Try.prog 4 #[.int .i64 fe, .int .i64 d, .float .f64 x, .slice ao n c] w fun e w' => e = .returned (.bool true) ∧ Below w.heap.size w w' := by
  have E : Below w.heap.size w w := Below.refl _ _
  go_enter Try.func4, Try.ntmps4
  refine wq fun Q hQ => ?_
  refine sg (.bool false) 8 rfl rfl rfl rfl ?_
  simp only [zp]
  refine st_end ?_
  subst hQ
  refine wp_seq ?_
  refine wq fun Q hQ => ?_
  refine st_call (some 11) rfl rfl (lives_any w) (ex_call (f := 9) (vs := []) rfl (cf9 _) rfl) ?_
  rintro e W1 ⟨rfl, B⟩
  refine ⟨_, rfl, ?_⟩
  simp only [zp]
  replace E := below_next E B
  refine sv (.bool false) 12 rfl rfl (ex_not rfl rfl rfl) ?_
  simp only [zp]
  refine sm (.bool false) 13 rfl rfl rfl rfl ?_
  simp only [zp]
  refine sm (.int .i64 fe) 14 rfl rfl rfl rfl ?_
  simp only [zp]
  refine sm (.int .i64 d) 15 rfl rfl rfl rfl ?_
  simp only [zp]
  refine sm (.float .f64 x) 16 rfl rfl rfl rfl ?_
  simp only [zp]
  refine st_call (some 17) rfl rfl (scost_any fe d x W1 hx f2 d2) (ex_call (f := 19) (vs := [(.int .i64 fe), (.int .i64 d), (.float .f64 x)]) rfl (cf19 _) rfl) ?_
  rintro e W2 ⟨rfl, B⟩
  refine ⟨_, rfl, ?_⟩
  simp only [zp]
  replace E := below_next E B
  refine sm (.int .i64 fe) 18 rfl rfl rfl rfl ?_
  simp only [zp]
  refine sm (.int .i64 d) 19 rfl rfl rfl rfl ?_
  simp only [zp]
  refine sm (.float .f64 x) 20 rfl rfl rfl rfl ?_
  simp only [zp]
  refine st_call (some 21) rfl rfl (rcost_any fe d x W2 hx f2 d2) (ex_call (f := 20) (vs := [(.int .i64 fe), (.int .i64 d), (.float .f64 x)]) rfl (cf20 _) rfl) ?_
  rintro e W3 ⟨rfl, B⟩
  refine ⟨_, rfl, ?_⟩
  simp only [zp]
  replace E := below_next E B
  refine st_call (some 22) rfl rfl (same_any _ W3) (ex_call (f := 10) (vs := [(.float .f64 (costN fe d x)), (.float .f64 (costN fe d x))]) rfl (cf10 _) rfl) ?_
  rintro e W4 ⟨rfl, B⟩
  refine ⟨_, rfl, ?_⟩
  simp only [zp]
  replace E := below_next E B
  refine sv (.bool false) 23 rfl rfl (ex_not rfl rfl rfl) ?_
  simp only [zp]
  refine sv (.bool false) 24 rfl rfl (ex_pkF rfl rfl rfl) ?_
  simp only [zp]
  refine sm (.bool false) 25 rfl rfl rfl rfl ?_
  simp only [zp]
  refine sm (.slice ao n c) 26 rfl rfl rfl rfl ?_
  simp only [zp]
  refine st_call (some 27) rfl rfl (sjoin_any W4 (hF.below E) hn hz) (ex_call (f := 21) (vs := [(.slice ao n c)]) rfl (cf21 _) rfl) ?_
  rintro e W5 ⟨rfl, B⟩
  refine ⟨_, rfl, ?_⟩
  simp only [zp]
  replace E := below_next E B
  refine sm (.slice ao n c) 28 rfl rfl rfl rfl ?_
  simp only [zp]
  refine st_call (some 29) rfl rfl (rjoin_any W5 (hF.below E) hn hz) (ex_call (f := 22) (vs := [(.slice ao n c)]) rfl (cf22 _) rfl) ?_
  rintro e W6 ⟨rfl, B⟩
  refine ⟨_, rfl, ?_⟩
  simp only [zp]
  replace E := below_next E B
  refine st_call (some 30) rfl rfl (same_any _ W6) (ex_call (f := 10) (vs := [(.float .f64 (jk z n 0 0)), (.float .f64 (jk z n 0 0))]) rfl (cf10 _) rfl) ?_
  rintro e W7 ⟨rfl, B⟩
  refine ⟨_, rfl, ?_⟩
  simp only [zp]
  replace E := below_next E B
  refine sv (.bool false) 31 rfl rfl (ex_not rfl rfl rfl) ?_
  simp only [zp]
  refine sv (.bool false) 32 rfl rfl (ex_pkF rfl rfl rfl) ?_
  simp only [zp]
  refine st_end ?_
  subst hQ
  refine wp_cond_false rfl ?_
  refine wp_skip ?_
  refine wp_seq ?_
  refine wq fun Q hQ => ?_
  refine sg (.int .i64 0) 9 rfl rfl rfl rfl ?_
  simp only [zp]
  refine st_end ?_
  subst hQ
  refine wp_block ?_
  go_loopw [9] (fun v9 wr => ∃ i : Nat, i ≤ 20 ∧ i ≤ n ∧ v9 = .int .i64 i ∧ Below w.heap.size w wr) (fun v9 _ => 20 - (intOf v9).toNat)
  case atStart => exact ⟨0, Nat.zero_le _, Nat.zero_le _, rfl, E⟩
  case round =>
    clear E
    obtain ⟨i, hi, hin, rfl, E⟩ := hrel
    by_cases hlt : i < n ∧ i < 20
    · rcases hF with h | ⟨b, off, rfl, h⟩
      · omega
      refine wp_seq ?_
      refine wq fun Q hQ => ?_
      refine sm (.int .i64 (i : Nat)) 33 rfl rfl rfl rfl ?_
      simp only [zp]
      refine sm (.slice (some ⟨b, off, none⟩) n c) 34 rfl rfl rfl rfl ?_
      simp only [zp]
      refine sv (.int .i64 (n : Nat)) 35 rfl rfl (ex_len rfl rfl (len32 _ _ _ _ _)) ?_
      simp only [zp]
      refine sv (.bool true) 36 rfl rfl (ex_bin (u := (.int .i64 (i : Nat))) (r := (.int .i64 (n : Nat))) rfl rfl rfl (eg3 _ _ _ _ _ _) (lss3 _ (decide_eq_true (by omega)))) ?_
      simp only [zp]
      refine sm (.bool true) 37 rfl rfl rfl rfl ?_
      simp only [zp]
      refine sm (.int .i64 (i : Nat)) 38 rfl rfl rfl rfl ?_
      simp only [zp]
      refine sv (.bool true) 39 rfl rfl (ex_bin (u := (.int .i64 (i : Nat))) (r := (.int .i64 20)) rfl rfl rfl (eg3 _ _ _ _ _ _) (lss3 _ (decide_eq_true (by omega)))) ?_
      simp only [zp]
      refine sv (.bool true) 40 rfl rfl (ex_pkT rfl rfl rfl) ?_
      simp only [zp]
      refine st_end ?_
      subst hQ
      refine wp_cond_true rfl ?_
      refine wp_skip ?_
      refine wp_seq ?_
      refine wp_block ?_
      refine wq fun Q hQ => ?_
      refine sg (.int .i64 0) 10 rfl rfl rfl rfl ?_
      simp only [zp]
      refine st_end ?_
      subst hQ
      refine wp_block ?_
      go_loopw [10] (fun v10 wr => ∃ k : Nat, k ≤ 20 ∧ k ≤ n ∧ v10 = .int .i64 k ∧ Below w.heap.size w wr) (fun v10 _ => 20 - (intOf v10).toNat)
      case atStart => exact ⟨0, Nat.zero_le _, Nat.zero_le _, rfl, E⟩
      case round =>
        clear E
        obtain ⟨k, hk, hkn, rfl, E⟩ := hrel
        by_cases hlk : k < n ∧ k < 20
        · skip
          refine wp_seq ?_
          refine wq fun Q hQ => ?_
          refine sm (.int .i64 (k : Nat)) 43 rfl rfl rfl rfl ?_
          simp only [zp]
          refine sm (.slice (some ⟨b, off, none⟩) n c) 44 rfl rfl rfl rfl ?_
          simp only [zp]
          refine sv (.int .i64 (n : Nat)) 45 rfl rfl (ex_len rfl rfl (len32 _ _ _ _ _)) ?_
          simp only [zp]
          refine sv (.bool true) 46 rfl rfl (ex_bin (u := (.int .i64 (k : Nat))) (r := (.int .i64 (n : Nat))) rfl rfl rfl (eg3 _ _ _ _ _ _) (lss3 _ (decide_eq_true (by omega)))) ?_
          simp only [zp]
          refine sm (.bool true) 47 rfl rfl rfl rfl ?_
          simp only [zp]
          refine sm (.int .i64 (k : Nat)) 48 rfl rfl rfl rfl ?_
          simp only [zp]
          refine sv (.bool true) 49 rfl rfl (ex_bin (u := (.int .i64 (k : Nat))) (r := (.int .i64 20)) rfl rfl rfl (eg3 _ _ _ _ _ _) (lss3 _ (decide_eq_true (by omega)))) ?_
          simp only [zp]
          refine sv (.bool true) 50 rfl rfl (ex_pkT rfl rfl rfl) ?_
          simp only [zp]
          refine st_end ?_
          subst hQ
          refine wp_cond_true rfl ?_
          refine wp_skip ?_
          refine wp_seq ?_
          refine wp_block ?_
          refine wp_seq ?_
          obtain ⟨W8, hwd⟩ : ∃ wd, wr.drew = wd := ⟨_, rfl⟩
          refine wp_region_held (S := fun W => Kept Nil W8 W) (by kernel_rfl) ?_
          show wpAnyH _ _ _ _ _ _ _ _ wr.drew
          rw [hwd]
          refine capQ fun Q hQ => ?_
          have hQP : ∀ c (a : Act) (d : Nat) v w, Q (.panic c) (a.put (some d) v) w → Q (.panic c) a w := by
            subst hQ
            exact fun _ _ _ _ _ h => h
          have BD : Below wr.heap.size wr W8 := by rw [← hwd]; exact below_drewB (Below.refl _ _)
          clear hwd
          replace E := below_next E BD
          clear BD
          have S : Kept Nil W8 W8 := Kept.refl _ _
          have hci : W8.cell? ⟨b, off + i, none⟩ = some (.float .f64 (z i)) := (E.cell (block_lt_of_cell (h i hlt.1))).trans (h i hlt.1)
          have hck : W8.cell? ⟨b, off + k, none⟩ = some (.float .f64 (z k)) := (E.cell (block_lt_of_cell (h k hlk.1))).trans (h k hlk.1)
          refine ah_take (v := (.slice (some ⟨b, off, none⟩) n c)) (i := 0) (some 53) rfl rfl (by kernel_rfl) (by kernel_rfl) (by kernel_rfl) rfl (fun W hK => ex_mv rfl rfl) S (fun c a w h => hQP c a _ _ w h) ?_
          simp only [zp]
          refine ah_take (v := (.int .i64 (i : Nat))) (i := 1) (some 54) rfl rfl (by kernel_rfl) (by kernel_rfl) (by kernel_rfl) rfl (fun W hK => ex_mv rfl rfl) S (fun c a w h => hQP c a _ _ w h) ?_
          simp only [zp]
          refine ah_take (v := (.pointer (some ⟨b, (off + i), none⟩))) (i := 2) (some 55) rfl rfl (by kernel_rfl) (by kernel_rfl) (by kernel_rfl) rfl (fun W hK => ex_ixF rfl rfl rfl hlt.1) S (fun c a w h => hQP c a _ _ w h) ?_
          simp only [zp]
          refine ah_take (v := (.float .f64 (z i))) (i := 3) (some 56) rfl rfl (by kernel_rfl) (by kernel_rfl) (by kernel_rfl) rfl (fun W hK => ex_load rfl rfl (ld24 (cell_kept hK hci (nilN _)))) S (fun c a w h => hQP c a _ _ w h) ?_
          simp only [zp]
          refine ah_take (v := (.slice (some ⟨b, off, none⟩) n c)) (i := 4) (some 57) rfl rfl (by kernel_rfl) (by kernel_rfl) (by kernel_rfl) rfl (fun W hK => ex_mv rfl rfl) S (fun c a w h => hQP c a _ _ w h) ?_
          simp only [zp]
          refine ah_take (v := (.int .i64 (k : Nat))) (i := 5) (some 58) rfl rfl (by kernel_rfl) (by kernel_rfl) (by kernel_rfl) rfl (fun W hK => ex_mv rfl rfl) S (fun c a w h => hQP c a _ _ w h) ?_
          simp only [zp]
          refine ah_take (v := (.pointer (some ⟨b, (off + k), none⟩))) (i := 6) (some 59) rfl rfl (by kernel_rfl) (by kernel_rfl) (by kernel_rfl) rfl (fun W hK => ex_ixF rfl rfl rfl hlk.1) S (fun c a w h => hQP c a _ _ w h) ?_
          simp only [zp]
          refine ah_take (v := (.float .f64 (z k))) (i := 7) (some 60) rfl rfl (by kernel_rfl) (by kernel_rfl) (by kernel_rfl) rfl (fun W hK => ex_load rfl rfl (ld24 (cell_kept hK hck (nilN _)))) S (fun c a w h => hQP c a _ _ w h) ?_
          simp only [zp]
          refine ah_take (v := (.slice (some ⟨b, off, none⟩) n c)) (i := 9) (some 62) rfl rfl (by kernel_rfl) (by kernel_rfl) (by kernel_rfl) rfl (fun W hK => ex_mv rfl rfl) S (fun c a w h => hQP c a _ _ w h) ?_
          simp only [zp]
          refine ah_take (v := (.int .i64 (i : Nat))) (i := 10) (some 63) rfl rfl (by kernel_rfl) (by kernel_rfl) (by kernel_rfl) rfl (fun W hK => ex_mv rfl rfl) S (fun c a w h => hQP c a _ _ w h) ?_
          simp only [zp]
          refine ah_take (v := (.pointer (some ⟨b, (off + i), none⟩))) (i := 11) (some 64) rfl rfl (by kernel_rfl) (by kernel_rfl) (by kernel_rfl) rfl (fun W hK => ex_ixF rfl rfl rfl hlt.1) S (fun c a w h => hQP c a _ _ w h) ?_
          simp only [zp]
          refine ah_take (v := (.float .f64 (z i))) (i := 12) (some 65) rfl rfl (by kernel_rfl) (by kernel_rfl) (by kernel_rfl) rfl (fun W hK => ex_load rfl rfl (ld24 (cell_kept hK hci (nilN _)))) S (fun c a w h => hQP c a _ _ w h) ?_
          simp only [zp]
          refine ah_take (v := (.slice (some ⟨b, off, none⟩) n c)) (i := 13) (some 66) rfl rfl (by kernel_rfl) (by kernel_rfl) (by kernel_rfl) rfl (fun W hK => ex_mv rfl rfl) S (fun c a w h => hQP c a _ _ w h) ?_
          simp only [zp]
          refine ah_take (v := (.int .i64 (k : Nat))) (i := 14) (some 67) rfl rfl (by kernel_rfl) (by kernel_rfl) (by kernel_rfl) rfl (fun W hK => ex_mv rfl rfl) S (fun c a w h => hQP c a _ _ w h) ?_
          simp only [zp]
          refine ah_take (v := (.pointer (some ⟨b, (off + k), none⟩))) (i := 15) (some 68) rfl rfl (by kernel_rfl) (by kernel_rfl) (by kernel_rfl) rfl (fun W hK => ex_ixF rfl rfl rfl hlk.1) S (fun c a w h => hQP c a _ _ w h) ?_
          simp only [zp]
          refine ah_take (v := (.float .f64 (z k))) (i := 16) (some 69) rfl rfl (by kernel_rfl) (by kernel_rfl) (by kernel_rfl) rfl (fun W hK => ex_load rfl rfl (ld24 (cell_kept hK hck (nilN _)))) S (fun c a w h => hQP c a _ _ w h) ?_
          simp only [zp]
          refine ah_or1 (i := 8) (by kernel_rfl) ?_
          refine nx_call (some 61) rfl rfl rfl (sless_any _ _ W8 rfl) (ex_call (f := 23) (vs := [(.float .f64 (z i)), (.float .f64 (z k))]) rfl (cf23 _) rfl) ?_
          rintro e W9 ⟨rfl, B⟩
          refine ⟨_, rfl, S.next B, ?_⟩
          simp only [zp]
          replace E := below_next E B
          replace S := S.next B
          refine ah_or1 (i := 17) (by kernel_rfl) ?_
          refine nx_call (some 70) rfl rfl rfl (rless_any _ _ W9 rfl) (ex_call (f := 24) (vs := [(.float .f64 (z i)), (.float .f64 (z k))]) rfl (cf24 _) rfl) ?_
          rintro e W10 ⟨rfl, B⟩
          refine ⟨_, rfl, S.next B, ?_⟩
          simp only [zp]
          replace E := below_next E B
          replace S := S.next B
          refine ah_take (v := (.bool false)) (i := 18) (some 71) rfl rfl (by kernel_rfl) (by kernel_rfl) (by kernel_rfl) rfl (fun W hK => ex_bin (u := (.bool (lsN (z i) (z k)))) (r := (.bool (lsN (z i) (z k)))) rfl rfl rfl (eg4 _ _ _ _ _ _) (neq4 _ (bne_self_eq_false _))) S (fun c a w h => hQP c a _ _ w h) ?_
          simp only [zp]
          refine ah_done (by kernel_rfl) ?_
          clear hQP
          subst hQ
          clear S  
          refine wp_cond_false rfl ?_
          refine wp_skip ?_
          refine wl_in (wl_cap fun Q hQ => ?_)
          refine sm (.int .i64 (k : Nat)) 51 rfl rfl rfl rfl ?_
          simp only [zp]
          refine sv (.int .i64 ((k + 1 : Nat) : Int)) 52 rfl rfl (ex_bin rfl rfl rfl (eg3 _ _ _ _ _ _) (add3 _ (by omega) (by omega))) ?_
          simp only [zp]
          refine sg (.int .i64 ((k + 1 : Nat) : Int)) 10 rfl rfl rfl rfl ?_
          simp only [zp]
          refine st_end ?_
          subst hQ
          refine then_go ?_
          go_roundw
          case rel => exact ⟨k + 1, by omega, by omega, rfl, E⟩
          case measure => simp [intOf]; omega
        · skip
          refine wp_seq ?_
          refine wp_seq ?_
          refine wl_in ?_
          refine wl_cap fun Q hQ => ?_
          suffices JOIN : ∀ (j43 j44 j45 j46 j47 j48 j49 : Value), Q .normal { tmps := #[(.int .i64 fe), (.int .i64 d), (.float .f64 x), (.slice (some ⟨b, off, none⟩) n c), undef, undef, undef, undef, u8, (.int .i64 (i : Nat)), (.int .i64 (k : Nat)), (.bool true), (.bool false), (.bool false), (.int .i64 fe), (.int .i64 d), (.float .f64 x), (.float .f64 (costN fe d x)), (.int .i64 fe), (.int .i64 d), (.float .f64 x), (.float .f64 (costN fe d x)), (.bool true), (.bool false), (.bool false), (.bool false), (.slice (some ⟨b, off, none⟩) n c), (.float .f64 (jk z n 0 0)), (.slice (some ⟨b, off, none⟩) n c), (.float .f64 (jk z n 0 0)), (.bool true), (.bool false), (.bool false), (.int .i64 (i : Nat)), (.slice (some ⟨b, off, none⟩) n c), (.int .i64 (n : Nat)), (.bool true), (.bool true), (.int .i64 (i : Nat)), (.bool true), (.bool true), u41, u42, j43, j44, j45, j46, j47, j48, j49, (.bool false), u51, u52, u53, u54, u55, u56, u57, u58, u59, u60, u61, u62, u63, u64, u65, u66, u67, u68, u69, u70, u71], defers := [] } wr by
            by_cases qx : k < n
            · skip
              refine sm (.int .i64 (k : Nat)) 43 rfl rfl rfl rfl ?_
              simp only [zp]
              refine sm (.slice (some ⟨b, off, none⟩) n c) 44 rfl rfl rfl rfl ?_
              simp only [zp]
              refine sv (.int .i64 (n : Nat)) 45 rfl rfl (ex_len rfl rfl (len32 _ _ _ _ _)) ?_
              simp only [zp]
              refine sv (.bool true) 46 rfl rfl (ex_bin (u := (.int .i64 (k : Nat))) (r := (.int .i64 (n : Nat))) rfl rfl rfl (eg3 _ _ _ _ _ _) (lss3 _ (decide_eq_true (by omega)))) ?_
              simp only [zp]
              refine sm (.bool true) 47 rfl rfl rfl rfl ?_
              simp only [zp]
              refine sm (.int .i64 (k : Nat)) 48 rfl rfl rfl rfl ?_
              simp only [zp]
              refine sv (.bool false) 49 rfl rfl (ex_bin (u := (.int .i64 (k : Nat))) (r := (.int .i64 20)) rfl rfl rfl (eg3 _ _ _ _ _ _) (lss3 _ (decide_eq_false (by omega)))) ?_
              simp only [zp]
              refine sv (.bool false) 50 rfl rfl (ex_pkT rfl rfl rfl) ?_
              simp only [zp]
              refine st_end ?_
              exact JOIN _ _ _ _ _ _ _
            · skip
              refine sm (.int .i64 (k : Nat)) 43 rfl rfl rfl rfl ?_
              simp only [zp]
              refine sm (.slice (some ⟨b, off, none⟩) n c) 44 rfl rfl rfl rfl ?_
              simp only [zp]
              refine sv (.int .i64 (n : Nat)) 45 rfl rfl (ex_len rfl rfl (len32 _ _ _ _ _)) ?_
              simp only [zp]
              refine sv (.bool false) 46 rfl rfl (ex_bin (u := (.int .i64 (k : Nat))) (r := (.int .i64 (n : Nat))) rfl rfl rfl (eg3 _ _ _ _ _ _) (lss3 _ (decide_eq_false (by omega)))) ?_
              simp only [zp]
              refine sm (.bool false) 47 rfl rfl rfl rfl ?_
              simp only [zp]
              refine sn 48 rfl rfl ?_
              simp only [zp]
              refine sn 49 rfl rfl ?_
              simp only [zp]
              refine sv (.bool false) 50 rfl rfl (ex_pkF rfl rfl rfl) ?_
              simp only [zp]
              refine st_end ?_
              exact JOIN _ _ _ _ _ _ _
          intro j43 j44 j45 j46 j47 j48 j49 
          subst hQ
          refine wp_cond_false rfl ?_
          refine wp_exit ?_
          refine ex_then ?_
          refine ex_then ?_
          refine ex_blk ?_
          refine wl_in (wl_cap fun Q hQ => ?_)
          refine sm (.int .i64 (i : Nat)) 41 rfl rfl rfl rfl ?_
          simp only [zp]
          refine sv (.int .i64 ((i + 1 : Nat) : Int)) 42 rfl rfl (ex_bin rfl rfl rfl (eg3 _ _ _ _ _ _) (add3 _ (by omega) (by omega))) ?_
          simp only [zp]
          refine sg (.int .i64 ((i + 1 : Nat) : Int)) 9 rfl rfl rfl rfl ?_
          simp only [zp]
          refine st_end ?_
          subst hQ
          refine then_go ?_
          go_roundw
          case rel => exact ⟨i + 1, by omega, by omega, rfl, E⟩
          case measure => simp [intOf]; omega
    · skip
      refine wp_seq ?_
      refine wp_seq ?_
      refine wl_in ?_
      refine wl_cap fun Q hQ => ?_
      suffices JOIN : ∀ (j33 j34 j35 j36 j37 j38 j39 : Value), Q .normal { tmps := #[(.int .i64 fe), (.int .i64 d), (.float .f64 x), (.slice ao n c), undef, undef, undef, undef, u8, (.int .i64 (i : Nat)), u10, (.bool true), (.bool false), (.bool false), (.int .i64 fe), (.int .i64 d), (.float .f64 x), (.float .f64 (costN fe d x)), (.int .i64 fe), (.int .i64 d), (.float .f64 x), (.float .f64 (costN fe d x)), (.bool true), (.bool false), (.bool false), (.bool false), (.slice ao n c), (.float .f64 (jk z n 0 0)), (.slice ao n c), (.float .f64 (jk z n 0 0)), (.bool true), (.bool false), (.bool false), j33, j34, j35, j36, j37, j38, j39, (.bool false), u41, u42, u43, u44, u45, u46, u47, u48, u49, u50, u51, u52, u53, u54, u55, u56, u57, u58, u59, u60, u61, u62, u63, u64, u65, u66, u67, u68, u69, u70, u71], defers := [] } wr by
        by_cases qx : i < n
        · skip
          refine sm (.int .i64 (i : Nat)) 33 rfl rfl rfl rfl ?_
          simp only [zp]
          refine sm (.slice ao n c) 34 rfl rfl rfl rfl ?_
          simp only [zp]
          refine sv (.int .i64 (n : Nat)) 35 rfl rfl (ex_len rfl rfl (len32 _ _ _ _ _)) ?_
          simp only [zp]
          refine sv (.bool true) 36 rfl rfl (ex_bin (u := (.int .i64 (i : Nat))) (r := (.int .i64 (n : Nat))) rfl rfl rfl (eg3 _ _ _ _ _ _) (lss3 _ (decide_eq_true (by omega)))) ?_
          simp only [zp]
          refine sm (.bool true) 37 rfl rfl rfl rfl ?_
          simp only [zp]
          refine sm (.int .i64 (i : Nat)) 38 rfl rfl rfl rfl ?_
          simp only [zp]
          refine sv (.bool false) 39 rfl rfl (ex_bin (u := (.int .i64 (i : Nat))) (r := (.int .i64 20)) rfl rfl rfl (eg3 _ _ _ _ _ _) (lss3 _ (decide_eq_false (by omega)))) ?_
          simp only [zp]
          refine sv (.bool false) 40 rfl rfl (ex_pkT rfl rfl rfl) ?_
          simp only [zp]
          refine st_end ?_
          exact JOIN _ _ _ _ _ _ _
        · skip
          refine sm (.int .i64 (i : Nat)) 33 rfl rfl rfl rfl ?_
          simp only [zp]
          refine sm (.slice ao n c) 34 rfl rfl rfl rfl ?_
          simp only [zp]
          refine sv (.int .i64 (n : Nat)) 35 rfl rfl (ex_len rfl rfl (len32 _ _ _ _ _)) ?_
          simp only [zp]
          refine sv (.bool false) 36 rfl rfl (ex_bin (u := (.int .i64 (i : Nat))) (r := (.int .i64 (n : Nat))) rfl rfl rfl (eg3 _ _ _ _ _ _) (lss3 _ (decide_eq_false (by omega)))) ?_
          simp only [zp]
          refine sm (.bool false) 37 rfl rfl rfl rfl ?_
          simp only [zp]
          refine sn 38 rfl rfl ?_
          simp only [zp]
          refine sn 39 rfl rfl ?_
          simp only [zp]
          refine sv (.bool false) 40 rfl rfl (ex_pkF rfl rfl rfl) ?_
          simp only [zp]
          refine st_end ?_
          exact JOIN _ _ _ _ _ _ _
      intro j33 j34 j35 j36 j37 j38 j39 
      subst hQ
      refine wp_cond_false rfl ?_
      refine wp_exit ?_
      refine ex_then ?_
      refine ex_then ?_
      refine ex_blk ?_
      refine wq fun Q hQ => ?_
      refine sg (.bool true) 8 rfl rfl rfl rfl ?_
      simp only [zp]
      refine st_end ?_
      subst hQ
      refine wp_ret ?_
      repeat (first | refine ret_out ?_ | refine ret_blk ?_)
      exact bodyPost_ret (results_tmp Try.results4 _ _ _) rfl ⟨rfl, E⟩
set_option maxHeartbeats 16000000 in
theorem learns_any {p : PV} {ao bo : Option Addr} {n c m e : Nat} {x y : Nat → Int} (w : World) (hX : Ns w ao n x) (hY : Ns w bo m y) (hn : n ≤ 140737488355328) (hx : ∀ i, i < n → -9223372036854775808 ≤ x i ∧ x i ≤ 9223372036854775807) : Calls Try.prog 5 #[.agg (PL p), .slice ao n c, .slice bo m e] w fun e w' => e = .returned (.bool true) ∧ Below w.heap.size w w' := by
  have E : Below w.heap.size w w := Below.refl _ _
  go_enter Try.func5, Try.ntmps5
  refine wq fun Q hQ => ?_
  refine st_new (fun b => .pointer (some ⟨b, 0, none⟩)) (some 3) rfl rfl (ex_box rfl rfl) ?_
  intro b1 W1 k1 g1 B
  simp only [zp]
  have ge_b1 := Nat.le_trans E.size g1
  replace E := below_next E B
  clear B
  refine sg (.bool false) 6 rfl rfl rfl rfl ?_
  simp only [zp]
  refine st_end ?_
  subst hQ
  refine wp_seq ?_
  obtain ⟨W2, hwd⟩ : ∃ wd, W1.drew = wd := ⟨_, rfl⟩
  refine wp_region_held (S := fun W => Kept Nil W2 W) (by kernel_rfl) ?_
  show wpAnyH _ _ _ _ _ _ _ _ W1.drew
  rw [hwd]
  refine capQ fun Q hQ => ?_
  have hQP : ∀ c (a : Act) (d : Nat) v w, Q (.panic c) (a.put (some d) v) w → Q (.panic c) a w := by
    subst hQ
    exact fun _ _ _ _ _ h => h
  have BD : Below W1.heap.size W1 W2 := by rw [← hwd]; exact below_drewB (Below.refl _ _)
  clear hwd
  replace E := below_next E BD
  replace k1 := keep BD k1
  clear BD
  have S : Kept Nil W2 W2 := Kept.refl _ _
  have d_k1 := k1
  refine ah_take (v := (.agg (PL p))) (i := 0) (some 10) rfl rfl (by kernel_rfl) (by kernel_rfl) (by kernel_rfl) rfl (fun W hK => ex_load (p := (.pointer (some ⟨b1, 0, none⟩))) rfl rfl (ld_all (keepK hK d_k1 (nilN _)) Try.underlying23 rfl inf23)) S (fun c a w h => hQP c a _ _ w h) ?_
  simp only [zp]
  refine ah_take (v := (.agg (PL p))) (i := 1) (some 11) rfl rfl (by kernel_rfl) (by kernel_rfl) (by kernel_rfl) rfl (fun W hK => ex_load (p := (.pointer (some ⟨b1, 0, none⟩))) rfl rfl (ld_all (keepK hK d_k1 (nilN _)) Try.underlying23 rfl inf23)) S (fun c a w h => hQP c a _ _ w h) ?_
  simp only [zp]
  refine cap2 fun ops SS hops hS => ?_
  suffices FIN : ∀ (bt7 : Nat) (bt8 : Nat) (Wq : World) (gd_bt7 : W2.heap.size ≤ bt7) (ge_bt7 : w.heap.size ≤ bt7) (ne_b1_bt7 : b1 ≠ bt7) (ne_bt7_b1 : bt7 ≠ b1) (gd_bt8 : W2.heap.size ≤ bt8) (ge_bt8 : w.heap.size ≤ bt8) (ne_b1_bt8 : b1 ≠ bt8) (ne_bt8_b1 : bt8 ≠ b1) (ne_bt7_bt8 : bt7 ≠ bt8) (ne_bt8_bt7 : bt8 ≠ bt7) (E : Below w.heap.size w Wq) (k1 : Wq.heap[b1]? = some (.cells (PL p) 23)) (S : Kept Nil W2 Wq) (kt7 : Wq.heap[bt7]? = some (.cells (PL p) 23)) (kt8 : Wq.heap[bt8]? = some (.cells (PL p) 23)), wpAnyH Try.prog .any ops Q SS 0 #[true, true, true, true, true, true] { tmps := #[(.agg (PL p)), (.slice ao n c), (.slice bo m e), (.pointer (some ⟨b1, 0, none⟩)), undef, undef, (.bool false), (.pointer (some ⟨bt7, 0, none⟩)), (.pointer (some ⟨bt8, 0, none⟩)), undef, (.agg (PL p)), (.agg (PL p)), undef, undef, undef, undef, undef, undef, undef, undef, undef, undef, undef, undef, undef, undef, undef, undef, undef, undef, undef, undef, undef, undef, undef, undef, undef, undef, undef, undef, undef, undef, undef, undef, undef, undef, undef, undef, undef, undef, undef, undef, undef, undef], defers := [] } Wq by
    have ST1 : ∀ (bt7 : Nat) (bt8 : Nat) (Wq : World) (gd_bt7 : W2.heap.size ≤ bt7) (ge_bt7 : w.heap.size ≤ bt7) (ne_b1_bt7 : b1 ≠ bt7) (ne_bt7_b1 : bt7 ≠ b1) (gd_bt8 : W2.heap.size ≤ bt8) (ge_bt8 : w.heap.size ≤ bt8) (ne_b1_bt8 : b1 ≠ bt8) (ne_bt8_b1 : bt8 ≠ b1) (ne_bt7_bt8 : bt7 ≠ bt8) (ne_bt8_bt7 : bt8 ≠ bt7) (E : Below w.heap.size w Wq) (k1 : Wq.heap[b1]? = some (.cells (PL p) 23)) (S : Kept Nil W2 Wq) (kt8 : Wq.heap[bt8]? = some (.cells #[.int .i64 0, .int .i64 0, .int .i64 0, .int .i64 0] 23)) (kt7 : Wq.heap[bt7]? = some (.cells (PL p) 23)), wpAnyH Try.prog .any ops Q SS 1 #[true, true, true, true, true, false] { tmps := #[(.agg (PL p)), (.slice ao n c), (.slice bo m e), (.pointer (some ⟨b1, 0, none⟩)), undef, undef, (.bool false), (.pointer (some ⟨bt7, 0, none⟩)), (.pointer (some ⟨bt8, 0, none⟩)), undef, (.agg (PL p)), (.agg (PL p)), undef, undef, undef, undef, undef, undef, undef, undef, undef, undef, undef, undef, undef, undef, undef, undef, undef, undef, undef, undef, undef, undef, undef, undef, undef, undef, undef, undef, undef, undef, undef, undef, undef, undef, undef, undef, undef, undef, undef, undef, undef, undef], defers := [] } Wq := by
      intro bt7 bt8 Wq gd_bt7 ge_bt7 ne_b1_bt7 ne_bt7_b1 gd_bt8 ge_bt8 ne_b1_bt8 ne_bt8_b1 ne_bt7_bt8 ne_bt8_bt7 E k1 S kt8 kt7
      refine ops_in hops hS ?_
      refine ah_or1 (i := 5) (by kernel_rfl) ?_
      · skip
        obtain ⟨W9, hst, kn, K⟩ := put_all (D := (PL p)) kt8 rfl inf23 (by kernel_rfl)
        refine nx_sk rfl rfl rfl (ex_store rfl rfl rfl hst) (S.putN K gd_bt8) ?_
        replace E := below_put E ge_bt8 K
        replace k1 := keepK K k1 (fun e => by first | exact ne_b1_bt8 e | exact ne_bt8_b1 e.symm)
        replace S := S.putN K gd_bt8
        replace kt7 := keepK K kt7 (fun e => by first | exact ne_bt7_bt8 e | exact ne_bt8_bt7 e.symm)
        replace kt8 := kn
        clear kn K hst
        refine ah_L (L' := #[true, true, true, true, true, true]) (by kernel_rfl) ?_
        refine ops_out hops hS ?_
        exact FIN bt7 bt8 W9 gd_bt7 ge_bt7 ne_b1_bt7 ne_bt7_b1 gd_bt8 ge_bt8 ne_b1_bt8 ne_bt8_b1 ne_bt7_bt8 ne_bt8_bt7 E k1 S kt7 kt8
    have ST2 : ∀ (bt7 : Nat) (bt8 : Nat) (Wq : World) (gd_bt7 : W2.heap.size ≤ bt7) (ge_bt7 : w.heap.size ≤ bt7) (ne_b1_bt7 : b1 ≠ bt7) (ne_bt7_b1 : bt7 ≠ b1) (gd_bt8 : W2.heap.size ≤ bt8) (ge_bt8 : w.heap.size ≤ bt8) (ne_b1_bt8 : b1 ≠ bt8) (ne_bt8_b1 : bt8 ≠ b1) (ne_bt7_bt8 : bt7 ≠ bt8) (ne_bt8_bt7 : bt8 ≠ bt7) (E : Below w.heap.size w Wq) (k1 : Wq.heap[b1]? = some (.cells (PL p) 23)) (S : Kept Nil W2 Wq) (kt7 : Wq.heap[bt7]? = some (.cells #[.int .i64 0, .int .i64 0, .int .i64 0, .int .i64 0] 23)) (kt8 : Wq.heap[bt8]? = some (.cells #[.int .i64 0, .int .i64 0, .int .i64 0, .int .i64 0] 23)), wpAnyH Try.prog .any ops Q SS 2 #[true, true, true, true, false, false] { tmps := #[(.agg (PL p)), (.slice ao n c), (.slice bo m e), (.pointer (some ⟨b1, 0, none⟩)), undef, undef, (.bool false), (.pointer (some ⟨bt7, 0, none⟩)), (.pointer (some ⟨bt8, 0, none⟩)), undef, (.agg (PL p)), (.agg (PL p)), undef, undef, undef, undef, undef, undef, undef, undef, undef, undef, undef, undef, undef, undef, undef, undef, undef, undef, undef, undef, undef, undef, undef, undef, undef, undef, undef, undef, undef, undef, undef, undef, undef, undef, undef, undef, undef, undef, undef, undef, undef, undef], defers := [] } Wq := by
      intro bt7 bt8 Wq gd_bt7 ge_bt7 ne_b1_bt7 ne_bt7_b1 gd_bt8 ge_bt8 ne_b1_bt8 ne_bt8_b1 ne_bt7_bt8 ne_bt8_bt7 E k1 S kt7 kt8
      refine ops_in hops hS ?_
      refine ah_or1 (i := 4) (by kernel_rfl) ?_
      · skip
        obtain ⟨W10, hst, kn, K⟩ := put_all (D := (PL p)) kt7 rfl inf23 (by kernel_rfl)
        refine nx_sk rfl rfl rfl (ex_store rfl rfl rfl hst) (S.putN K gd_bt7) ?_
        replace E := below_put E ge_bt7 K
        replace k1 := keepK K k1 (fun e => by first | exact ne_b1_bt7 e | exact ne_bt7_b1 e.symm)
        replace S := S.putN K gd_bt7
        replace kt8 := keepK K kt8 (fun e => by first | exact ne_bt8_bt7 e | exact ne_bt7_bt8 e.symm)
        replace kt7 := kn
        clear kn K hst
        refine ah_L (L' := #[true, true, true, true, true, false]) (by kernel_rfl) ?_
        refine ops_out hops hS ?_
        exact ST1 bt7 bt8 W10 gd_bt7 ge_bt7 ne_b1_bt7 ne_bt7_b1 gd_bt8 ge_bt8 ne_b1_bt8 ne_bt8_b1 ne_bt7_bt8 ne_bt8_bt7 E k1 S kt8 kt7
    have ST3 : ∀ (bt7 : Nat) (Wq : World) (gd_bt7 : W2.heap.size ≤ bt7) (ge_bt7 : w.heap.size ≤ bt7) (ne_b1_bt7 : b1 ≠ bt7) (ne_bt7_b1 : bt7 ≠ b1) (E : Below w.heap.size w Wq) (k1 : Wq.heap[b1]? = some (.cells (PL p) 23)) (S : Kept Nil W2 Wq) (kt7 : Wq.heap[bt7]? = some (.cells #[.int .i64 0, .int .i64 0, .int .i64 0, .int .i64 0] 23)), wpAnyH Try.prog .any ops Q SS 3 #[true, true, true, false, false, false] { tmps := #[(.agg (PL p)), (.slice ao n c), (.slice bo m e), (.pointer (some ⟨b1, 0, none⟩)), undef, undef, (.bool false), (.pointer (some ⟨bt7, 0, none⟩)), undef, undef, (.agg (PL p)), (.agg (PL p)), undef, undef, undef, undef, undef, undef, undef, undef, undef, undef, undef, undef, undef, undef, undef, undef, undef, undef, undef, undef, undef, undef, undef, undef, undef, undef, undef, undef, undef, undef, undef, undef, undef, undef, undef, undef, undef, undef, undef, undef, undef, undef], defers := [] } Wq := by
      intro bt7 Wq gd_bt7 ge_bt7 ne_b1_bt7 ne_bt7_b1 E k1 S kt7
      refine ops_in hops hS ?_
      refine ah_or1 (i := 3) (by kernel_rfl) ?_
      · skip
        refine nx_new (fun b => .pointer (some ⟨b, 0, none⟩)) (some 8) rfl rfl rfl (ex_alloc rfl zero23) ?_
        intro bt8 W11 kt8 gt8 B
        refine ⟨S.next B, ?_⟩
        simp only [zp]
        have gd_bt8 := Nat.le_trans S.size gt8
        have ne_bt8_b1 : bt8 ≠ b1 := fun e => by have := lt_of k1; omega
        have ne_b1_bt8 := ne_bt8_b1.symm
        have ne_bt8_bt7 : bt8 ≠ bt7 := fun e => by have := lt_of kt7; omega
        have ne_bt7_bt8 := ne_bt8_bt7.symm
        have ge_bt8 := Nat.le_trans E.size gt8
        replace E := below_next E B
        replace k1 := keep B k1
        replace S := S.next B
        replace kt7 := keep B kt7
        clear B
        refine ah_L (L' := #[true, true, true, true, false, false]) (by kernel_rfl) ?_
        refine ops_out hops hS ?_
        exact ST2 bt7 bt8 W11 gd_bt7 ge_bt7 ne_b1_bt7 ne_bt7_b1 gd_bt8 ge_bt8 ne_b1_bt8 ne_bt8_b1 ne_bt7_bt8 ne_bt8_bt7 E k1 S kt7 kt8
    have ST4 : ∀ (bt8 : Nat) (Wq : World) (gd_bt8 : W2.heap.size ≤ bt8) (ge_bt8 : w.heap.size ≤ bt8) (ne_b1_bt8 : b1 ≠ bt8) (ne_bt8_b1 : bt8 ≠ b1) (E : Below w.heap.size w Wq) (k1 : Wq.heap[b1]? = some (.cells (PL p) 23)) (S : Kept Nil W2 Wq) (kt8 : Wq.heap[bt8]? = some (.cells #[.int .i64 0, .int .i64 0, .int .i64 0, .int .i64 0] 23)), wpAnyH Try.prog .any ops Q SS 3 #[true, true, false, true, false, false] { tmps := #[(.agg (PL p)), (.slice ao n c), (.slice bo m e), (.pointer (some ⟨b1, 0, none⟩)), undef, undef, (.bool false), undef, (.pointer (some ⟨bt8, 0, none⟩)), undef, (.agg (PL p)), (.agg (PL p)), undef, undef, undef, undef, undef, undef, undef, undef, undef, undef, undef, undef, undef, undef, undef, undef, undef, undef, undef, undef, undef, undef, undef, undef, undef, undef, undef, undef, undef, undef, undef, undef, undef, undef, undef, undef, undef, undef, undef, undef, undef, undef], defers := [] } Wq := by
      intro bt8 Wq gd_bt8 ge_bt8 ne_b1_bt8 ne_bt8_b1 E k1 S kt8
      refine ops_in hops hS ?_
      refine ah_or1 (i := 2) (by kernel_rfl) ?_
      · skip
        refine nx_new (fun b => .pointer (some ⟨b, 0, none⟩)) (some 7) rfl rfl rfl (ex_alloc rfl zero23) ?_
        intro bt7 W12 kt7 gt7 B
        refine ⟨S.next B, ?_⟩
        simp only [zp]
        have gd_bt7 := Nat.le_trans S.size gt7
        have ne_bt7_b1 : bt7 ≠ b1 := fun e => by have := lt_of k1; omega
        have ne_b1_bt7 := ne_bt7_b1.symm
        have ne_bt7_bt8 : bt7 ≠ bt8 := fun e => by have := lt_of kt8; omega
        have ne_bt8_bt7 := ne_bt7_bt8.symm
        have ge_bt7 := Nat.le_trans E.size gt7
        replace E := below_next E B
        replace k1 := keep B k1
        replace S := S.next B
        replace kt8 := keep B kt8
        clear B
        refine ah_L (L' := #[true, true, true, true, false, false]) (by kernel_rfl) ?_
        refine ops_out hops hS ?_
        exact ST2 bt7 bt8 W12 gd_bt7 ge_bt7 ne_b1_bt7 ne_bt7_b1 gd_bt8 ge_bt8 ne_b1_bt8 ne_bt8_b1 ne_bt7_bt8 ne_bt8_bt7 E k1 S kt7 kt8
    refine ops_in hops hS ?_
    refine ah_or2 (i := 2) (j := 3) (by kernel_rfl) ?_ ?_
    · skip
      refine nx_new (fun b => .pointer (some ⟨b, 0, none⟩)) (some 7) rfl rfl rfl (ex_alloc rfl zero23) ?_
      intro bt7 W13 kt7 gt7 B
      refine ⟨S.next B, ?_⟩
      simp only [zp]
      have gd_bt7 := Nat.le_trans S.size gt7
      have ne_bt7_b1 : bt7 ≠ b1 := fun e => by have := lt_of k1; omega
      have ne_b1_bt7 := ne_bt7_b1.symm
      have ge_bt7 := Nat.le_trans E.size gt7
      replace E := below_next E B
      replace k1 := keep B k1
      replace S := S.next B
      clear B
      refine ah_L (L' := #[true, true, true, false, false, false]) (by kernel_rfl) ?_
      refine ops_out hops hS ?_
      exact ST3 bt7 W13 gd_bt7 ge_bt7 ne_b1_bt7 ne_bt7_b1 E k1 S kt7
    · skip
      refine nx_new (fun b => .pointer (some ⟨b, 0, none⟩)) (some 8) rfl rfl rfl (ex_alloc rfl zero23) ?_
      intro bt8 W14 kt8 gt8 B
      refine ⟨S.next B, ?_⟩
      simp only [zp]
      have gd_bt8 := Nat.le_trans S.size gt8
      have ne_bt8_b1 : bt8 ≠ b1 := fun e => by have := lt_of k1; omega
      have ne_b1_bt8 := ne_bt8_b1.symm
      have ge_bt8 := Nat.le_trans E.size gt8
      replace E := below_next E B
      replace k1 := keep B k1
      replace S := S.next B
      clear B
      refine ah_L (L' := #[true, true, false, true, false, false]) (by kernel_rfl) ?_
      refine ops_out hops hS ?_
      exact ST4 bt8 W14 gd_bt8 ge_bt8 ne_b1_bt8 ne_bt8_b1 E k1 S kt8
  intro bt7 bt8 Wq gd_bt7 ge_bt7 ne_b1_bt7 ne_bt7_b1 gd_bt8 ge_bt8 ne_b1_bt8 ne_bt8_b1 ne_bt7_bt8 ne_bt8_bt7 E k1 S kt7 kt8
  refine ops_in hops hS ?_
  refine ah_done (by kernel_rfl) ?_
  clear hQP hops hS
  subst hQ
  clear S d_k1 
  refine wp_seq ?_
  refine wq fun Q hQ => ?_
  refine sg (.int .i64 0) 9 rfl rfl rfl rfl ?_
  simp only [zp]
  refine st_end ?_
  subst hQ
  refine wp_block ?_
  have ne78 : ¬ bt7 = bt8 := by first | exact ne_bt7_bt8 | exact fun e => ne_bt8_bt7 e.symm
  go_loopw [9] (fun v9 wr => ∃ (i : Nat) (q : PV), i ≤ n ∧ v9 = .int .i64 i ∧ Below w.heap.size w wr ∧ wr.heap[bt7]? = some (.cells (PL q) 23) ∧ wr.heap[bt8]? = some (.cells (PL q) 23)) (fun v9 _ => n - (intOf v9).toNat)
  case atStart => exact ⟨0, p, Nat.zero_le _, rfl, E, kt7, kt8⟩
  case round =>
    clear E kt7 kt8
    obtain ⟨i, q, hi, rfl, E, k7, k8⟩ := hrel
    by_cases hlt : i < n ∧ i < m
    · rcases hX with h | ⟨b, off, rfl, h⟩
      · omega
      rcases hY with h' | ⟨b', off', rfl, h'⟩
      · omega
      have hxi := hx i hlt.1
      have lb := block_lt_of_cell (h i hlt.1)
      have lb' := block_lt_of_cell (h' i hlt.2)
      simp only at lb lb'
      refine wp_seq ?_
      refine wq fun Q hQ => ?_
      refine sm (.int .i64 (i : Nat)) 12 rfl rfl rfl rfl ?_
      simp only [zp]
      refine sm (.slice (some ⟨b, off, none⟩) n c) 13 rfl rfl rfl rfl ?_
      simp only [zp]
      refine sv (.int .i64 (n : Nat)) 14 rfl rfl (ex_len rfl rfl (len37 _ _ _ _ _)) ?_
      simp only [zp]
      refine sv (.bool true) 15 rfl rfl (ex_bin (u := (.int .i64 (i : Nat))) (r := (.int .i64 (n : Nat))) rfl rfl rfl (eg3 _ _ _ _ _ _) (lss3 _ (decide_eq_true (by omega)))) ?_
      simp only [zp]
      refine sm (.bool true) 16 rfl rfl rfl rfl ?_
      simp only [zp]
      refine sm (.int .i64 (i : Nat)) 17 rfl rfl rfl rfl ?_
      simp only [zp]
      refine sm (.slice (some ⟨b', off', none⟩) m e) 18 rfl rfl rfl rfl ?_
      simp only [zp]
      refine sv (.int .i64 (m : Nat)) 19 rfl rfl (ex_len rfl rfl (len37 _ _ _ _ _)) ?_
      simp only [zp]
      refine sv (.bool true) 20 rfl rfl (ex_bin (u := (.int .i64 (i : Nat))) (r := (.int .i64 (m : Nat))) rfl rfl rfl (eg3 _ _ _ _ _ _) (lss3 _ (decide_eq_true (by omega)))) ?_
      simp only [zp]
      refine sv (.bool true) 21 rfl rfl (ex_pkT rfl rfl rfl) ?_
      simp only [zp]
      refine st_end ?_
      subst hQ
      refine wp_cond_true rfl ?_
      refine wp_skip ?_
      refine wp_seq ?_
      refine wp_block ?_
      refine wp_seq ?_
      obtain ⟨W15, hwd⟩ : ∃ wd, wr.drew = wd := ⟨_, rfl⟩
      refine wp_region_held (S := fun W => Kept (· = bt7) W15 W) (by kernel_rfl) ?_
      show wpAnyH _ _ _ _ _ _ _ _ wr.drew
      rw [hwd]
      refine capQ fun Q hQ => ?_
      have hQP : ∀ c (a : Act) (d : Nat) v w, Q (.panic c) (a.put (some d) v) w → Q (.panic c) a w := by
        subst hQ
        exact fun _ _ _ _ _ h => h
      have BD : Below wr.heap.size wr W15 := by rw [← hwd]; exact below_drewB (Below.refl _ _)
      clear hwd
      replace E := below_next E BD
      replace k7 := keep BD k7
      replace k8 := keep BD k8
      clear BD
      have S : Kept (· = bt7) W15 W15 := Kept.refl _ _
      have d_k7 := k7
      have d_k8 := k8
      have hcx : W15.cell? ⟨b, off + i, none⟩ = some (.int .i64 (x i)) := (E.cell (block_lt_of_cell (h i hlt.1))).trans (h i hlt.1)
      have hcy : W15.cell? ⟨b', off' + i, none⟩ = some (.int .i64 (y i)) := (E.cell (block_lt_of_cell (h' i hlt.2))).trans (h' i hlt.2)
      have nb : ¬ b = bt7 := by omega
      have nb' : ¬ b' = bt7 := by omega
      refine ah_take (v := (.slice (some ⟨b, off, none⟩) n c)) (i := 1) (some 25) rfl rfl (by kernel_rfl) (by kernel_rfl) (by kernel_rfl) rfl (fun W hK => ex_mv rfl rfl) S (fun c a w h => hQP c a _ _ w h) ?_
      simp only [zp]
      refine ah_take (v := (.int .i64 (i : Nat))) (i := 2) (some 26) rfl rfl (by kernel_rfl) (by kernel_rfl) (by kernel_rfl) rfl (fun W hK => ex_mv rfl rfl) S (fun c a w h => hQP c a _ _ w h) ?_
      simp only [zp]
      refine ah_take (v := (.pointer (some ⟨b, (off + i), none⟩))) (i := 3) (some 27) rfl rfl (by kernel_rfl) (by kernel_rfl) (by kernel_rfl) rfl (fun W hK => ex_ixI rfl rfl rfl hlt.1) S (fun c a w h => hQP c a _ _ w h) ?_
      simp only [zp]
      refine ah_take (v := (.int .i64 (x i))) (i := 4) (some 28) rfl rfl (by kernel_rfl) (by kernel_rfl) (by kernel_rfl) rfl (fun W hK => ex_load rfl rfl (ld3 (cell_kept hK hcx nb))) S (fun c a w h => hQP c a _ _ w h) ?_
      simp only [zp]
      refine ah_take (v := (.slice (some ⟨b', off', none⟩) m e)) (i := 5) (some 29) rfl rfl (by kernel_rfl) (by kernel_rfl) (by kernel_rfl) rfl (fun W hK => ex_mv rfl rfl) S (fun c a w h => hQP c a _ _ w h) ?_
      simp only [zp]
      refine ah_take (v := (.int .i64 (i : Nat))) (i := 6) (some 30) rfl rfl (by kernel_rfl) (by kernel_rfl) (by kernel_rfl) rfl (fun W hK => ex_mv rfl rfl) S (fun c a w h => hQP c a _ _ w h) ?_
      simp only [zp]
      refine ah_take (v := (.pointer (some ⟨b', (off' + i), none⟩))) (i := 7) (some 31) rfl rfl (by kernel_rfl) (by kernel_rfl) (by kernel_rfl) rfl (fun W hK => ex_ixI rfl rfl rfl hlt.2) S (fun c a w h => hQP c a _ _ w h) ?_
      simp only [zp]
      refine ah_take (v := (.int .i64 (y i))) (i := 8) (some 32) rfl rfl (by kernel_rfl) (by kernel_rfl) (by kernel_rfl) rfl (fun W hK => ex_load rfl rfl (ld3 (cell_kept hK hcy nb'))) S (fun c a w h => hQP c a _ _ w h) ?_
      simp only [zp]
      refine ah_take (v := (.int .i64 (i : Nat))) (i := 9) (some 33) rfl rfl (by kernel_rfl) (by kernel_rfl) (by kernel_rfl) rfl (fun W hK => ex_mv rfl rfl) S (fun c a w h => hQP c a _ _ w h) ?_
      simp only [zp]
      refine ah_take (v := (.int .i64 ((i : Int) % 3))) (i := 10) (some 34) rfl rfl (by kernel_rfl) (by kernel_rfl) (by kernel_rfl) rfl (fun W hK => ex_bin (u := (.int .i64 (i : Nat))) (r := (.int .i64 3)) rfl rfl rfl (eg3 _ _ _ _ _ _) (modw _ (by omega) (by omega) rfl)) S (fun c a w h => hQP c a _ _ w h) ?_
      simp only [zp]
      refine ah_take (v := (.bool (decide (¬ (i : Int) % 3 = 1)))) (i := 11) (some 35) rfl rfl (by kernel_rfl) (by kernel_rfl) (by kernel_rfl) rfl (fun W hK => ex_bin (u := (.int .i64 ((i : Int) % 3))) (r := (.int .i64 1)) rfl rfl rfl (eg3 _ _ _ _ _ _) (neq3 _ rfl)) S (fun c a w h => hQP c a _ _ w h) ?_
      simp only [zp]
      refine ah_or1 (i := 0) (by kernel_rfl) ?_
      refine nx_to (v := (.agg (PL q))) (some 24) rfl rfl rfl (ex_load (p := (.pointer (some ⟨bt7, 0, none⟩))) rfl rfl (ld_all k7 Try.underlying23 rfl inf23)) S ?_
      simp only [zp]
      refine ah_or1 (i := 12) (by kernel_rfl) ?_
      refine nx_call (some 36) rfl rfl rfl (slearn_any (p := q) (x i) (y i) (decide (¬ (i : Int) % 3 = 1)) W15 hxi.1 hxi.2) (ex_call (f := 25) (vs := [(.agg (PL q)), (.int .i64 (x i)), (.int .i64 (y i)), (.bool (decide (¬ (i : Int) % 3 = 1)))]) rfl (cf25 _) rfl) ?_
      rintro e W16 ⟨rfl, B⟩
      refine ⟨_, rfl, S.next B, ?_⟩
      simp only [zp]
      replace E := below_next E B
      replace k7 := keep B k7
      replace k8 := keep B k8
      replace S := S.next B
      refine ah_or1 (i := 13) (by kernel_rfl) ?_
      obtain ⟨W17, hst, kn, K⟩ := put_all (D := (PL (lrnN q (x i) (y i) (decide (¬ (i : Int) % 3 = 1))))) k7 rfl inf23 (by kernel_rfl)
      refine nx_sk rfl rfl rfl (ex_store rfl rfl rfl hst) (S.putX K) ?_
      replace E := below_put E ge_bt7 K
      replace k8 := keepK K k8 (fun e => ne78 e.symm)
      replace S := S.putX K
      replace k7 := kn
      clear kn K hst
      refine ah_done (by kernel_rfl) ?_
      clear hQP
      subst hQ
      clear S d_k7 d_k8 
      refine wp_seq ?_
      obtain ⟨W18, hwd⟩ : ∃ wd, W17.drew = wd := ⟨_, rfl⟩
      refine wp_region_held (S := fun W => Kept (· = bt8) W18 W) (by kernel_rfl) ?_
      show wpAnyH _ _ _ _ _ _ _ _ W17.drew
      rw [hwd]
      refine capQ fun Q hQ => ?_
      have hQP : ∀ c (a : Act) (d : Nat) v w, Q (.panic c) (a.put (some d) v) w → Q (.panic c) a w := by
        subst hQ
        exact fun _ _ _ _ _ h => h
      have BD : Below W17.heap.size W17 W18 := by rw [← hwd]; exact below_drewB (Below.refl _ _)
      clear hwd
      replace E := below_next E BD
      replace k8 := keep BD k8
      replace k7 := keep BD k7
      clear BD
      have S : Kept (· = bt8) W18 W18 := Kept.refl _ _
      have d_k7 := k7
      have d_k8 := k8
      have hcx : W18.cell? ⟨b, off + i, none⟩ = some (.int .i64 (x i)) := (E.cell (block_lt_of_cell (h i hlt.1))).trans (h i hlt.1)
      have hcy : W18.cell? ⟨b', off' + i, none⟩ = some (.int .i64 (y i)) := (E.cell (block_lt_of_cell (h' i hlt.2))).trans (h' i hlt.2)
      have nb : ¬ b = bt8 := by omega
      have nb' : ¬ b' = bt8 := by omega
      refine ah_take (v := (.slice (some ⟨b, off, none⟩) n c)) (i := 1) (some 38) rfl rfl (by kernel_rfl) (by kernel_rfl) (by kernel_rfl) rfl (fun W hK => ex_mv rfl rfl) S (fun c a w h => hQP c a _ _ w h) ?_
      simp only [zp]
      refine ah_take (v := (.int .i64 (i : Nat))) (i := 2) (some 39) rfl rfl (by kernel_rfl) (by kernel_rfl) (by kernel_rfl) rfl (fun W hK => ex_mv rfl rfl) S (fun c a w h => hQP c a _ _ w h) ?_
      simp only [zp]
      refine ah_take (v := (.pointer (some ⟨b, (off + i), none⟩))) (i := 3) (some 40) rfl rfl (by kernel_rfl) (by kernel_rfl) (by kernel_rfl) rfl (fun W hK => ex_ixI rfl rfl rfl hlt.1) S (fun c a w h => hQP c a _ _ w h) ?_
      simp only [zp]
      refine ah_take (v := (.int .i64 (x i))) (i := 4) (some 41) rfl rfl (by kernel_rfl) (by kernel_rfl) (by kernel_rfl) rfl (fun W hK => ex_load rfl rfl (ld3 (cell_kept hK hcx nb))) S (fun c a w h => hQP c a _ _ w h) ?_
      simp only [zp]
      refine ah_take (v := (.slice (some ⟨b', off', none⟩) m e)) (i := 5) (some 42) rfl rfl (by kernel_rfl) (by kernel_rfl) (by kernel_rfl) rfl (fun W hK => ex_mv rfl rfl) S (fun c a w h => hQP c a _ _ w h) ?_
      simp only [zp]
      refine ah_take (v := (.int .i64 (i : Nat))) (i := 6) (some 43) rfl rfl (by kernel_rfl) (by kernel_rfl) (by kernel_rfl) rfl (fun W hK => ex_mv rfl rfl) S (fun c a w h => hQP c a _ _ w h) ?_
      simp only [zp]
      refine ah_take (v := (.pointer (some ⟨b', (off' + i), none⟩))) (i := 7) (some 44) rfl rfl (by kernel_rfl) (by kernel_rfl) (by kernel_rfl) rfl (fun W hK => ex_ixI rfl rfl rfl hlt.2) S (fun c a w h => hQP c a _ _ w h) ?_
      simp only [zp]
      refine ah_take (v := (.int .i64 (y i))) (i := 8) (some 45) rfl rfl (by kernel_rfl) (by kernel_rfl) (by kernel_rfl) rfl (fun W hK => ex_load rfl rfl (ld3 (cell_kept hK hcy nb'))) S (fun c a w h => hQP c a _ _ w h) ?_
      simp only [zp]
      refine ah_take (v := (.int .i64 (i : Nat))) (i := 9) (some 46) rfl rfl (by kernel_rfl) (by kernel_rfl) (by kernel_rfl) rfl (fun W hK => ex_mv rfl rfl) S (fun c a w h => hQP c a _ _ w h) ?_
      simp only [zp]
      refine ah_take (v := (.int .i64 ((i : Int) % 3))) (i := 10) (some 47) rfl rfl (by kernel_rfl) (by kernel_rfl) (by kernel_rfl) rfl (fun W hK => ex_bin (u := (.int .i64 (i : Nat))) (r := (.int .i64 3)) rfl rfl rfl (eg3 _ _ _ _ _ _) (modw _ (by omega) (by omega) rfl)) S (fun c a w h => hQP c a _ _ w h) ?_
      simp only [zp]
      refine ah_take (v := (.bool (decide (¬ (i : Int) % 3 = 1)))) (i := 11) (some 48) rfl rfl (by kernel_rfl) (by kernel_rfl) (by kernel_rfl) rfl (fun W hK => ex_bin (u := (.int .i64 ((i : Int) % 3))) (r := (.int .i64 1)) rfl rfl rfl (eg3 _ _ _ _ _ _) (neq3 _ rfl)) S (fun c a w h => hQP c a _ _ w h) ?_
      simp only [zp]
      refine ah_or1 (i := 0) (by kernel_rfl) ?_
      refine nx_to (v := (.agg (PL q))) (some 37) rfl rfl rfl (ex_load (p := (.pointer (some ⟨bt8, 0, none⟩))) rfl rfl (ld_all k8 Try.underlying23 rfl inf23)) S ?_
      simp only [zp]
      refine ah_or1 (i := 12) (by kernel_rfl) ?_
      refine nx_call (some 49) rfl rfl rfl (rlearn_any (p := q) (x i) (y i) (decide (¬ (i : Int) % 3 = 1)) W18 hxi.1 hxi.2) (ex_call (f := 26) (vs := [(.agg (PL q)), (.int .i64 (x i)), (.int .i64 (y i)), (.bool (decide (¬ (i : Int) % 3 = 1)))]) rfl (cf26 _) rfl) ?_
      rintro e W19 ⟨rfl, B⟩
      refine ⟨_, rfl, S.next B, ?_⟩
      simp only [zp]
      replace E := below_next E B
      replace k8 := keep B k8
      replace k7 := keep B k7
      replace S := S.next B
      refine ah_or1 (i := 13) (by kernel_rfl) ?_
      obtain ⟨W20, hst, kn, K⟩ := put_all (D := (PL (lrnN q (x i) (y i) (decide (¬ (i : Int) % 3 = 1))))) k8 rfl inf23 (by kernel_rfl)
      refine nx_sk rfl rfl rfl (ex_store rfl rfl rfl hst) (S.putX K) ?_
      replace E := below_put E ge_bt8 K
      replace k7 := keepK K k7 (fun e => ne78 e)
      replace S := S.putX K
      replace k8 := kn
      clear kn K hst
      refine ah_done (by kernel_rfl) ?_
      clear hQP
      subst hQ
      clear S d_k7 d_k8 
      refine wq fun Q hQ => ?_
      refine sv (.agg (PL (lrnN q (x i) (y i) (decide (¬ (i : Int) % 3 = 1))))) 50 rfl rfl (ex_load (p := (.pointer (some ⟨bt7, 0, none⟩))) rfl rfl (ld_all k7 Try.underlying23 rfl inf23)) ?_
      simp only [zp]
      refine sv (.agg (PL (lrnN q (x i) (y i) (decide (¬ (i : Int) % 3 = 1))))) 51 rfl rfl (ex_load (p := (.pointer (some ⟨bt8, 0, none⟩))) rfl rfl (ld_all k8 Try.underlying23 rfl inf23)) ?_
      simp only [zp]
      refine sv (.bool false) 52 rfl rfl (ex_bin rfl rfl rfl (pl_eg _ _ _ _ _ _) (pl_same _ _)) ?_
      simp only [zp]
      refine st_end ?_
      subst hQ
      refine wp_cond_false rfl ?_
      refine wp_skip ?_
      refine wl_in (wl_cap fun Q hQ => ?_)
      refine sm (.int .i64 (i : Nat)) 22 rfl rfl rfl rfl ?_
      simp only [zp]
      refine sv (.int .i64 ((i + 1 : Nat) : Int)) 23 rfl rfl (ex_bin rfl rfl rfl (eg3 _ _ _ _ _ _) (add3 _ (by omega) (by omega))) ?_
      simp only [zp]
      refine sg (.int .i64 ((i + 1 : Nat) : Int)) 9 rfl rfl rfl rfl ?_
      simp only [zp]
      refine st_end ?_
      subst hQ
      refine then_go ?_
      go_roundw
      case rel => exact ⟨i + 1, _, by omega, rfl, E, k7, k8⟩
      case measure => simp [intOf]; omega
    · skip
      refine wp_seq ?_
      refine wp_seq ?_
      refine wl_in ?_
      refine wl_cap fun Q hQ => ?_
      suffices JOIN : ∀ (j12 j13 j14 j15 j16 j17 j18 j19 j20 : Value), Q .normal { tmps := #[(.agg (PL p)), (.slice ao n c), (.slice bo m e), (.pointer (some ⟨b1, 0, none⟩)), undef, undef, u6, (.pointer (some ⟨bt7, 0, none⟩)), (.pointer (some ⟨bt8, 0, none⟩)), (.int .i64 (i : Nat)), (.agg (PL p)), (.agg (PL p)), j12, j13, j14, j15, j16, j17, j18, j19, j20, (.bool false), u22, u23, u24, u25, u26, u27, u28, u29, u30, u31, u32, u33, u34, u35, u36, u37, u38, u39, u40, u41, u42, u43, u44, u45, u46, u47, u48, u49, u50, u51, u52, undef], defers := [] } wr by
        by_cases qx : i < n
        · skip
          refine sm (.int .i64 (i : Nat)) 12 rfl rfl rfl rfl ?_
          simp only [zp]
          refine sm (.slice ao n c) 13 rfl rfl rfl rfl ?_
          simp only [zp]
          refine sv (.int .i64 (n : Nat)) 14 rfl rfl (ex_len rfl rfl (len37 _ _ _ _ _)) ?_
          simp only [zp]
          refine sv (.bool true) 15 rfl rfl (ex_bin (u := (.int .i64 (i : Nat))) (r := (.int .i64 (n : Nat))) rfl rfl rfl (eg3 _ _ _ _ _ _) (lss3 _ (decide_eq_true (by omega)))) ?_
          simp only [zp]
          refine sm (.bool true) 16 rfl rfl rfl rfl ?_
          simp only [zp]
          refine sm (.int .i64 (i : Nat)) 17 rfl rfl rfl rfl ?_
          simp only [zp]
          refine sm (.slice bo m e) 18 rfl rfl rfl rfl ?_
          simp only [zp]
          refine sv (.int .i64 (m : Nat)) 19 rfl rfl (ex_len rfl rfl (len37 _ _ _ _ _)) ?_
          simp only [zp]
          refine sv (.bool false) 20 rfl rfl (ex_bin (u := (.int .i64 (i : Nat))) (r := (.int .i64 (m : Nat))) rfl rfl rfl (eg3 _ _ _ _ _ _) (lss3 _ (decide_eq_false (by omega)))) ?_
          simp only [zp]
          refine sv (.bool false) 21 rfl rfl (ex_pkT rfl rfl rfl) ?_
          simp only [zp]
          refine st_end ?_
          exact JOIN _ _ _ _ _ _ _ _ _
        · skip
          refine sm (.int .i64 (i : Nat)) 12 rfl rfl rfl rfl ?_
          simp only [zp]
          refine sm (.slice ao n c) 13 rfl rfl rfl rfl ?_
          simp only [zp]
          refine sv (.int .i64 (n : Nat)) 14 rfl rfl (ex_len rfl rfl (len37 _ _ _ _ _)) ?_
          simp only [zp]
          refine sv (.bool false) 15 rfl rfl (ex_bin (u := (.int .i64 (i : Nat))) (r := (.int .i64 (n : Nat))) rfl rfl rfl (eg3 _ _ _ _ _ _) (lss3 _ (decide_eq_false (by omega)))) ?_
          simp only [zp]
          refine sm (.bool false) 16 rfl rfl rfl rfl ?_
          simp only [zp]
          refine sn 17 rfl rfl ?_
          simp only [zp]
          refine sn 18 rfl rfl ?_
          simp only [zp]
          refine sn 19 rfl rfl ?_
          simp only [zp]
          refine sn 20 rfl rfl ?_
          simp only [zp]
          refine sv (.bool false) 21 rfl rfl (ex_pkF rfl rfl rfl) ?_
          simp only [zp]
          refine st_end ?_
          exact JOIN _ _ _ _ _ _ _ _ _
      intro j12 j13 j14 j15 j16 j17 j18 j19 j20 
      subst hQ
      refine wp_cond_false rfl ?_
      refine wp_exit ?_
      refine ex_then ?_
      refine ex_then ?_
      refine ex_blk ?_
      refine wq fun Q hQ => ?_
      refine st_call (some 53) rfl rfl (lives_any wr) (ex_call (f := 9) (vs := []) rfl (cf9 _) rfl) ?_
      rintro e W21 ⟨rfl, B⟩
      refine ⟨_, rfl, ?_⟩
      simp only [zp]
      replace E := below_next E B
      replace k7 := keep B k7
      replace k8 := keep B k8
      refine sg (.bool true) 6 rfl rfl rfl rfl ?_
      simp only [zp]
      refine st_end ?_
      subst hQ
      refine wp_ret ?_
      repeat (first | refine ret_out ?_ | refine ret_blk ?_)
      exact bodyPost_ret (results_tmp Try.results5 _ _ _) rfl ⟨rfl, E⟩
end Go.Proofs.Ytjmdcgfhblgehaa
