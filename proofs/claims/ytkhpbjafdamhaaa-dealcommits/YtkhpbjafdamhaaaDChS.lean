/- The sum of a transaction's outputs. -/
import Derived.Test.YtkhpbjafdamhaaaDChP
import Derived.Laws.MakeOwn
namespace Go.Proofs.Ytkhpbjafdamhaaa
open Go.RowKit
set_option linter.unusedVariables false
set_option linter.unusedSimpArgs false
set_option maxRecDepth 100000
def mk0 (n : Nat) : Array Value := madeCells (Value.int .i64 0).cells (n * 1)
theorem mk0_size (n : Nat) : (mk0 n).size = n := by simp [mk0, size_madeCells]
section
variable {o : Oper} {a : Act} {W : World}
theorem ex_mk82 {x y : Operand} {n : Nat} (ho : o.op = .makeSlice 82 x y) (hx : a.eval x = .int .i64 (n : Nat)) (hy : a.eval y = .int .i64 (n : Nat)) (hn : n ≤ 1000000) : (execOp a.eval o).run Try.prog W = .ok (.value (.slice (some ⟨W.heap.size, 0, none⟩) n n)) (W.alloc (.cells (mk0 n) 3)) := by
  cases hq : Try.prog.info? 3 with
  | none => have := info3; rw [hq] at this; cases this
  | some i =>
    have hi := info3; rw [hq] at hi; simp only [Option.map_some, Option.some.injEq, Prod.mk.injEq] at hi; obtain ⟨h1, h2, h3⟩ := hi; have hr := run_makeSlice (P := Try.prog) (w := W) 82 3 i (.int .i64 0) Try.underlying82 hq h1 .i64 .i64 n n (by omega) (Int.le_refl _) (by rw [h2]; simp; omega) (by rw [h3]; omega) (by omega); simp only [Int.toNat_natCast, h2] at hr
    unfold execOp
    simp only [ho, hx, hy]
    simp [hr, mk0]
end
theorem sto3g {W : World} {b i : Nat} {v : Value} {m : Int} (h : W.cell? ⟨b, i, none⟩ = some v) (hf : W.frozen? ⟨b, i, none⟩ = false) : (Instr.storeAt 3 (.pointer (some ⟨b, i, none⟩)) (.int .i64 m)).run Try.prog W = .ok () (W.setCell ⟨b, i, none⟩ (.int .i64 m)) := by go_simp

set_option maxHeartbeats 4000000 in
theorem sum61 {ao : Option Addr} {n c : Nat} {Cs : Nat → Array Value} {z : Nat → Int} (w : World) (h : Rg w ao n 2 Cs) (hn : n ≤ 1000000) (hz : ∀ i, i < n → (Cs i)[0]? = some (.int .i64 (z i))) (hone : ∀ i, i < n → (Cs i).all (·.oneCell') = true) (hw : ∀ i, i < n → z i ≤ 9223372036854775807) :
    Calls Try.prog 61 #[.slice ao n c] w fun e w' => e = .returned (.tuple #[.int .i64 (sumN z n), .int .i64 (sumE z n)]) ∧ Below w.heap.size w w' := by
  have E : Below w.heap.size w w := Below.refl _ _
  go_enter Try.func61, Try.ntmps61; refine wq fun Q hQ => ?_; refine sg (.int .i64 0) 2 rfl rfl rfl rfl ?_; simp only [zp]; refine sg (.int .i64 0) 3 rfl rfl rfl rfl ?_; simp only [zp]; refine st_end ?_; subst hQ; refine wq fun Q hQ => ?_; refine sm (.slice ao n c) 7 rfl rfl rfl rfl ?_; simp only [zp]; refine sv (.int .i64 (n : Nat)) 8 rfl rfl (ex_len rfl rfl (len32 _ _ _ _ _)) ?_; simp only [zp]; refine st_new (fun b => .slice (some ⟨b, 0, none⟩) n n) (some 9) rfl rfl (ex_mk82 rfl rfl rfl hn) ?_; intro b1 W1 k1 g1 B; simp only [zp]; have ge_b1 := Nat.le_trans E.size g1
  replace E := below_next E B; clear B; refine sg (.slice (some ⟨b1, 0, none⟩) n n) 4 rfl rfl rfl rfl ?_; simp only [zp]; refine st_end ?_; subst hQ; refine wp_seq ?_; refine wq fun Q hQ => ?_; refine sm (.slice ao n c) 10 rfl rfl rfl rfl ?_; simp only [zp]; refine sv (.int .i64 (n : Nat)) 11 rfl rfl (ex_len rfl rfl (len32 _ _ _ _ _)) ?_; simp only [zp]; refine sm (.int .i64 0) 12 rfl rfl rfl rfl ?_; simp only [zp]; refine st_end ?_; subst hQ; refine wp_block ?_
  go_loopw [12] (fun v12 wr => ∃ (i : Nat) (D : Array Value), i ≤ n ∧ v12 = .int .i64 i ∧ Below w.heap.size w wr ∧ wr.heap[b1]? = some (.cells D 3) ∧ D.size = n ∧ ∀ j, j < i → D[j]? = some (.int .i64 (z j))) (fun v12 _ => n - (intOf v12).toNat)
  case atStart => exact ⟨0, _, Nat.zero_le _, rfl, E, k1, mk0_size n, fun j hj => by omega⟩
  case round =>
    clear E k1; obtain ⟨i, D, hi, rfl, E, k1, hD, hj⟩ := hrel
    by_cases hlt : i < n
    · rcases h with h | ⟨b, p, rfl, h⟩
      · omega
      have HC := h i hlt; refine wq fun Q hQ => ?_; refine sv (.bool true) 13 rfl rfl (ex_bin (u := (.int .i64 (i : Nat))) (r := (.int .i64 (n : Nat))) rfl rfl rfl (eg3 _ _ _ _ _ _) (lss3 _ (decide_eq_true (by omega)))) ?_; simp only [zp]; refine st_end ?_; subst hQ; refine wp_seq ?_; refine wp_cond_true rfl ?_; refine wp_skip ?_; refine wp_seq ?_; refine wp_block ?_; refine wq fun Q hQ => ?_; refine sm (.int .i64 (i : Nat)) 14 rfl rfl rfl rfl ?_; simp only [zp]; refine sv (.pointer (some ⟨b, (p + i * 2), none⟩)) 15 rfl rfl (ex_ixp32 rfl rfl rfl hlt) ?_; simp only [zp]
      refine sv (.agg (Cs i)) 16 rfl rfl (ex_load rfl rfl (ld_range (range_below HC.2 E) Try.underlying46 rfl (inf46.trans (congrArg some HC.1.symm)))) ?_; simp only [zp]; refine st_new (fun b => .pointer (some ⟨b, 0, none⟩)) (some 6) rfl rfl (ex_alloc rfl zero46) ?_; intro b2 W2 k2 g2 B; simp only [zp]
      have ne_b2_b1 : b2 ≠ b1 := fun e => by have := lt_of k1; omega
      have ge_b2 := Nat.le_trans E.size g2; replace E := below_next E B; replace k1 := keep B k1; clear B; refine sg (.int .i64 (i : Nat)) 5 rfl rfl rfl rfl ?_; simp only [zp]; obtain ⟨W3, hst, kn, K⟩ := put_all (D := (Cs i)) k2 (((show (#[.int .i64 0, .slice none 0 0] : Array Value).size = 2 from rfl)).trans (HC.1).symm) (inf46.trans (congrArg some (HC.1).symm)) (hone i hlt); refine st_sk rfl rfl (ex_store rfl rfl rfl hst) ?_; replace E := below_put E ge_b2 K; replace k1 := keepK K k1 (fun e => ne_tag k1 k2 (by decide) e); replace k2 := kn; clear kn K hst; refine st_end ?_; subst hQ
      refine wl_in (wl_cap fun Q hQ => ?_); refine sm (.slice (some ⟨b1, 0, none⟩) n n) 17 rfl rfl rfl rfl ?_; simp only [zp]; refine sm (.int .i64 (i : Nat)) 18 rfl rfl rfl rfl ?_; simp only [zp]; refine sv (.pointer (some ⟨b2, 0, none⟩)) 19 rfl rfl (ex_fa (p := (.pointer (some ⟨b2, 0, none⟩))) rfl rfl (fa46_0 _ _)) ?_; simp only [zp]; refine sv (.int .i64 (z i)) 20 rfl rfl (ex_load (p := (.pointer (some ⟨b2, 0, none⟩))) rfl rfl (ld3 (at_cell k2 (hz i hlt)))) ?_; simp only [zp]; refine sv (.pointer (some ⟨b1, (0 + i), none⟩)) 21 rfl rfl (ex_ix82 rfl rfl rfl hlt) ?_; simp only [zp]
      obtain ⟨kn, K⟩ := put_cell (i := 0 + i) (.int .i64 (z i)) k1; refine st_sk rfl rfl (ex_store rfl rfl rfl (sto3g (at_cell k1 (Array.getElem?_eq_getElem (by omega))) (unfrozen k1))) ?_; obtain ⟨W4, hW2⟩ : ∃ W', W3.setCell ⟨b1, 0 + i, none⟩ (.int .i64 (z i)) = W' := ⟨_, rfl⟩; rw [hW2] at kn K ⊢; replace E := below_put E ge_b1 K; refine st_end ?_; subst hQ; refine wl_in (wl_cap fun Q hQ => ?_); refine sv (.int .i64 ((i + 1 : Nat) : Int)) 22 rfl rfl (ex_bin rfl rfl rfl (eg3 _ _ _ _ _ _) (add3 _ (by omega) (by omega))) ?_; simp only [zp]
      refine sm (.int .i64 ((i + 1 : Nat) : Int)) 12 rfl rfl rfl rfl ?_; simp only [zp]; refine st_end ?_; subst hQ; refine then_go ?_
      go_roundw
      case rel =>
        refine ⟨i + 1, _, by omega, rfl, E, kn, by simp [hD], fun j hj' => ?_⟩
        by_cases e : j = i
        · subst e
          rw [Nat.zero_add, Array.getElem?_setIfInBounds, if_pos rfl, if_pos (by omega)]
        · rw [Nat.zero_add, Array.getElem?_setIfInBounds, if_neg (by omega)]
          exact hj j (by omega)
      case measure => simp [intOf]; omega
    · skip
      have hi' : i = n := by omega
      subst hi'; refine wq fun Q hQ => ?_; refine sv (.bool false) 13 rfl rfl (ex_bin (u := (.int .i64 (i : Nat))) (r := (.int .i64 (i : Nat))) rfl rfl rfl (eg3 _ _ _ _ _ _) (lss3 _ (decide_eq_false (by omega)))) ?_; simp only [zp]; refine st_end ?_; subst hQ; refine wp_seq ?_; refine wp_cond_false rfl ?_; refine wp_exit ?_; refine ex_then ?_; refine ex_then ?_; refine ex_blk ?_; refine wq fun Q hQ => ?_; refine sm (.slice (some ⟨b1, 0, none⟩) i i) 23 rfl rfl rfl rfl ?_; simp only [zp]
      refine st_call (some 24) rfl rfl (sum_row b1 0 i i z wr (by omega) (lt_of k1) (fun k hk => by rw [Nat.zero_add]; exact at_cell k1 (hj k hk)) hw) (ex_call (f := 34) (vs := [(.slice (some ⟨b1, 0, none⟩) i i)]) rfl (cf34 _) rfl) ?_; rintro e W5 ⟨rfl, B⟩; refine ⟨_, rfl, ?_⟩; simp only [zp]; replace E := below_next E B; replace k1 := keep B k1; refine sv (.int .i64 (sumN z i)) 25 rfl rfl (ex_ext rfl rfl rfl) ?_; simp only [zp]; refine sv (.int .i64 (sumE z i)) 26 rfl rfl (ex_ext rfl rfl rfl) ?_; simp only [zp]; refine sg (.int .i64 (sumN z i)) 2 rfl rfl rfl rfl ?_; simp only [zp]
      refine sg (.int .i64 (sumE z i)) 3 rfl rfl rfl rfl ?_; simp only [zp]; refine st_end ?_; subst hQ; refine wp_ret ?_; refine bodyPost_ret (results_tmp2 Try.results61 _ _ _) rfl ⟨rfl, E⟩
theorem outs42 {m : Int} {ao : Option Addr} {n c : Nat} {Cs : Nat → Array Value} {z : Nat → Int} (w : World) (h : Rg w ao n 2 Cs) (h1 : 1 ≤ n) (h2 : n ≤ 64) (hO : ∀ i, i < n → Ook w m (Cs i)) (hz : ∀ i, i < n → (Cs i)[0]? = some (.int .i64 (z i))) (hone : ∀ i, i < n → (Cs i).all (·.oneCell') = true) (hw : ∀ i, i < n → z i ≤ 9223372036854775807) (hs : sumE z n = 0) : Calls Try.prog 42 #[.int .i64 m, .slice ao n c] w fun e w' => e = .returned (.bool true) ∧ Below w.heap.size w w' := by
  have E : Below w.heap.size w w := Below.refl _ _
  go_enter Try.func42, Try.ntmps42; refine wq fun Q hQ => ?_; refine st_new (fun b => .pointer (some ⟨b, 0, none⟩)) (some 2) rfl rfl (ex_box3 rfl rfl) ?_; intro b1 W1 k1 g1 B; simp only [zp]; have ge_b1 := Nat.le_trans E.size g1; replace E := below_next E B; clear B; refine sg (.bool false) 4 rfl rfl rfl rfl ?_; simp only [zp]; refine st_end ?_; subst hQ; refine wp_seq ?_; refine wq fun Q hQ => ?_; refine sm (.slice ao n c) 7 rfl rfl rfl rfl ?_; simp only [zp]; refine sv (.int .i64 (n : Nat)) 8 rfl rfl (ex_len rfl rfl (len32 _ _ _ _ _)) ?_; simp only [zp]
  refine sv (.bool false) 9 rfl rfl (ex_bin (u := (.int .i64 (n : Nat))) (r := (.int .i64 1)) rfl rfl rfl (eg3 _ _ _ _ _ _) (lss3 _ (decide_eq_false (by omega)))) ?_; simp only [zp]; refine sm (.bool false) 10 rfl rfl rfl rfl ?_; simp only [zp]; refine sm (.slice ao n c) 11 rfl rfl rfl rfl ?_; simp only [zp]; refine sv (.int .i64 (n : Nat)) 12 rfl rfl (ex_len rfl rfl (len32 _ _ _ _ _)) ?_; simp only [zp]; refine sv (.bool false) 13 rfl rfl (ex_bin (u := (.int .i64 (n : Nat))) (r := (.int .i64 64)) rfl rfl rfl (eg3 _ _ _ _ _ _) (gtr3 _ (decide_eq_false (by omega)))) ?_; simp only [zp]
  refine sv (.bool false) 14 rfl rfl (ex_pkF rfl rfl rfl) ?_; simp only [zp]; refine st_end ?_; subst hQ; refine wp_cond_false rfl ?_; refine wp_skip ?_; refine wp_seq ?_; refine wq fun Q hQ => ?_; refine sm (.slice ao n c) 15 rfl rfl rfl rfl ?_; simp only [zp]; refine sv (.func (.func 59) #[] #[(.pointer (some ⟨b1, 0, none⟩))]) 16 rfl rfl (ex_mkf rfl rfl) ?_; simp only [zp]
  refine st_call (some 17) rfl rfl (all58 59 #[.pointer (some ⟨b1, 0, none⟩)] ao n c Cs W1 (h.below E) (by omega) cf59' (fun i hi W' hW' => out59 W' (keep hW' k1) ((hO i hi).below (below_next E hW')))) (ex_call (f := 58) (vs := [(.slice ao n c), (.func (.func 59) #[] #[(.pointer (some ⟨b1, 0, none⟩))])]) rfl (cf58 _) rfl) ?_; rintro e W2 ⟨rfl, B⟩; refine ⟨_, rfl, ?_⟩; simp only [zp]; replace E := below_next E B; replace k1 := keep B k1; refine sv (.bool false) 18 rfl rfl (ex_not rfl rfl rfl) ?_; simp only [zp]; refine st_end ?_; subst hQ; refine wp_cond_false rfl ?_; refine wp_skip ?_
  refine wq fun Q hQ => ?_; refine sm (.slice ao n c) 20 rfl rfl rfl rfl ?_; simp only [zp]; refine st_call (some 21) rfl rfl (sum61 (c := c) W2 (h.below E) (by omega) hz hone hw) (ex_call (f := 61) (vs := [(.slice ao n c)]) rfl (cf61 _) rfl) ?_; rintro e W3 ⟨rfl, B⟩; refine ⟨_, rfl, ?_⟩; simp only [zp]; replace E := below_next E B; replace k1 := keep B k1; refine sm (.tuple #[(.int .i64 (sumN z n)), (.int .i64 (sumE z n))]) 19 rfl rfl rfl rfl ?_; simp only [zp]; refine sv (.int .i64 (sumN z n)) 22 rfl rfl (ex_ext rfl rfl rfl) ?_; simp only [zp]
  refine sv (.int .i64 (sumE z n)) 23 rfl rfl (ex_ext rfl rfl rfl) ?_; simp only [zp]; refine sg (.int .i64 (sumN z n)) 5 rfl rfl rfl rfl ?_; simp only [zp]; refine sg (.int .i64 (sumE z n)) 6 rfl rfl rfl rfl ?_; simp only [zp]; refine st_end ?_; subst hQ; refine wq fun Q hQ => ?_; refine sm (.int .i64 (sumE z n)) 24 rfl rfl rfl rfl ?_; simp only [zp]; refine sv (.bool true) 25 rfl rfl (ex_bin (u := (.int .i64 (sumE z n))) (r := (.int .i64 0)) rfl rfl rfl (eg35 _ _ _ _ _ _) (eql35 _ (decide_eq_true hs))) ?_; simp only [zp]; refine sg (.bool true) 4 rfl rfl rfl rfl ?_; simp only [zp]
  refine st_end ?_; subst hQ; refine wp_ret ?_; refine bodyPost_ret (results_tmp Try.results42 _ _ _) rfl ⟨rfl, E⟩
theorem nodes40 (w : World) : Calls Try.prog 40 #[.int .i64 8] w fun e w' => e = .returned (.bool true) ∧ Below w.heap.size w w' := by
  have E : Below w.heap.size w w := Below.refl _ _
  go_enter Try.func40, Try.ntmps40; refine wq fun Q hQ => ?_; refine sg (.bool false) 2 rfl rfl rfl rfl ?_; simp only [zp]; refine st_end ?_; subst hQ; refine wq fun Q hQ => ?_; refine sm (.int .i64 8) 3 rfl rfl rfl rfl ?_; simp only [zp]; refine sv (.bool true) 4 rfl rfl (ex_bin (u := (.int .i64 8)) (r := (.int .i64 1)) rfl rfl rfl (eg3 _ _ _ _ _ _) (geq3 _ (by decide))) ?_; simp only [zp]; refine sm (.bool true) 5 rfl rfl rfl rfl ?_; simp only [zp]; refine sm (.int .i64 8) 6 rfl rfl rfl rfl ?_; simp only [zp]
  refine sv (.bool true) 7 rfl rfl (ex_bin (u := (.int .i64 8)) (r := (.int .i64 8)) rfl rfl rfl (eg3 _ _ _ _ _ _) (leq3 _ (by decide))) ?_; simp only [zp]; refine sv (.bool true) 8 rfl rfl (ex_pkT rfl rfl rfl) ?_; simp only [zp]; refine sg (.bool true) 2 rfl rfl rfl rfl ?_; simp only [zp]; refine st_end ?_; subst hQ; refine wp_ret ?_; refine bodyPost_ret (results_tmp Try.results40 _ _ _) rfl ⟨rfl, E⟩
end Go.Proofs.Ytkhpbjafdamhaaa
