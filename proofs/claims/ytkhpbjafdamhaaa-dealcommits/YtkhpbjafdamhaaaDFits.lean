/- Whether a view sums up, and whether it may be. -/
import Derived.Test.YtkhpbjafdamhaaaDHs
namespace Go.Proofs.Ytkhpbjafdamhaaa
open Go.RowKit
set_option linter.unusedVariables false
set_option linter.unusedSimpArgs false
set_option maxRecDepth 100000

theorem info3 : (Try.prog.info? 3).map (fun i => (i.zero, i.size, i.bytes)) = some (some (.int .i64 0), 1, 8) := by kernel_rfl
/-- what each of the two has, and each Htlc -/
def zf (x y : Int) (hv : Nat → HV) : Nat → Int := fun i => if i = 0 then x else if i = 1 then y else (hv (i - 2)).am
def I64 (z : Nat → Int) (n : Nat) : List Value := (List.range n).map fun j => .int .i64 (z j)
theorem I64_succ (z : Nat → Int) (n : Nat) : I64 z n ++ [.int .i64 (z n)] = I64 z (n + 1) := by simp [I64, List.range_succ]
theorem I64_at {z : Nat → Int} {n j : Nat} (h : j < n) : (I64 z n)[j]? = some (.int .i64 (z j)) := by simp [I64, h]
theorem sumR {W : World} {base g n cap : Nat} {z : Nat → Int} (h : Rw W base 3 1 g n cap (I64 z n)) (hn : n ≤ 1000) (hz : ∀ k, k < n → z k ≤ 9223372036854775807) :
    Calls Try.prog 34 #[.slice (some ⟨g, 0, none⟩) n cap] W fun e w' => e = .returned (.tuple #[.int .i64 (sumN z n), .int .i64 (sumE z n)]) ∧ Below W.heap.size W w' :=
  sum_row g 0 n cap z W (by omega) h.lt (fun k hk => by rw [Nat.zero_add]; exact h.cell (I64_at hk)) hz
/-- does it sum up? -/
def sumsB (t : TV) (x y : Int) (n : Nat) (hv : Nat → HV) : Bool := decide (sumE (zf x y hv) (n + 2) = 0 ∧ sumN (zf x y hv) (n + 2) = t.sa + t.sb)
set_option maxHeartbeats 4000000 in
theorem sums_any {C : Array Value} {t : TV} {x y : Int} {ao : Option Addr} {n c : Nat} {Cs : Nat → Array Value} {hv : Nat → HV} (w : World) (hT : IsT C t) (hH : Hs w ao n Cs hv) (hn : n ≤ 32) (h0 : 0 ≤ t.sa ∧ 0 ≤ t.sb ∧ t.sa + t.sb ≤ 9223372036854775807) (hx : x ≤ 9223372036854775807) (hy : y ≤ 9223372036854775807) (hz : ∀ i, i < n → (hv i).am ≤ 9223372036854775807) {r : Bool} (hr : sumsB t x y n hv = r) :
    Calls Try.prog 38 #[.agg C, .agg #[.int .i64 x, .int .i64 y, .slice ao n c]] w fun e w' => e = .returned (.bool r) ∧ Below w.heap.size w w' := by
  subst hr
  unfold sumsB
  have E : Below w.heap.size w w := Below.refl _ _
  go_enter Try.func38, Try.ntmps38
  refine wp_seq ?_
  refine wl_in ?_
  refine wl_cap fun Q hQ => ?_
  refine st_new (fun b => .pointer (some ⟨b, 0, none⟩)) (some 2) rfl rfl (ex_box rfl rfl) ?_
  intro b1 W1 k1 g1 B
  simp only [Act.put, List.setIfInBounds_toArray, List.set_cons_zero, List.set_cons_succ]
  have ge_b1 := Nat.le_trans E.size g1
  replace E := below_next E B
  clear B
  refine st_new (fun b => .pointer (some ⟨b, 0, none⟩)) (some 3) rfl rfl (ex_box rfl rfl) ?_
  intro b2 W2 k2 g2 B
  simp only [Act.put, List.setIfInBounds_toArray, List.set_cons_zero, List.set_cons_succ]
  have ne_b2_b1 : b2 ≠ b1 := fun e => by have := lt_of k1; omega
  have ge_b2 := Nat.le_trans E.size g2
  replace E := below_next E B
  replace k1 := keep B k1
  clear B
  refine st_to (v := (.bool false)) (some 4) rfl rfl (ex_asg rfl rfl) ?_
  simp only [Act.put, List.setIfInBounds_toArray, List.set_cons_zero, List.set_cons_succ]
  refine st_end ?_
  subst hQ
  refine wp_seq ?_
  refine wl_in ?_
  refine wl_cap fun Q hQ => ?_
  refine st_to (v := (.pointer (some ⟨b2, 0, none⟩))) (some 10) rfl rfl (ex_fa (p := (.pointer (some ⟨b2, 0, none⟩))) rfl rfl (fa29_0 _ _)) ?_
  simp only [Act.put, List.setIfInBounds_toArray, List.set_cons_zero, List.set_cons_succ]
  refine st_to (v := (.int .i64 x)) (some 11) rfl rfl (ex_load (p := (.pointer (some ⟨b2, 0, none⟩))) rfl rfl (ld3 (at_cell k2 rfl))) ?_
  simp only [Act.put, List.setIfInBounds_toArray, List.set_cons_zero, List.set_cons_succ]
  refine st_to (v := (.pointer (some ⟨b2, 1, none⟩))) (some 12) rfl rfl (ex_fa (p := (.pointer (some ⟨b2, 0, none⟩))) rfl rfl (fa29_1 _ _)) ?_
  simp only [Act.put, List.setIfInBounds_toArray, List.set_cons_zero, List.set_cons_succ]
  refine st_to (v := (.int .i64 y)) (some 13) rfl rfl (ex_load (p := (.pointer (some ⟨b2, 1, none⟩))) rfl rfl (ld3 (at_cell k2 rfl))) ?_
  simp only [Act.put, List.setIfInBounds_toArray, List.set_cons_zero, List.set_cons_succ]
  refine st_new (fun b => .slice (some ⟨b, 0, none⟩) 2 2) (some 14) rfl rfl (ex_bsl2 (u := (.int .i64 x)) (r := (.int .i64 y)) rfl rfl rfl (bs82_2 _ _ _)) ?_
  intro b3 W3 k3 g3 B
  simp only [Act.put, List.setIfInBounds_toArray, List.set_cons_zero, List.set_cons_succ]
  have ne_b3_b1 : b3 ≠ b1 := fun e => by have := lt_of k1; omega
  have ne_b3_b2 : b3 ≠ b2 := fun e => by have := lt_of k2; omega
  have ge_b3 := Nat.le_trans E.size g3
  replace E := below_next E B
  replace k1 := keep B k1
  replace k2 := keep B k2
  clear B
  refine st_to (v := (.slice (some ⟨b3, 0, none⟩) 2 2)) (some 5) rfl rfl (ex_asg rfl rfl) ?_
  simp only [Act.put, List.setIfInBounds_toArray, List.set_cons_zero, List.set_cons_succ]
  refine st_end ?_
  subst hQ
  refine wp_seq ?_
  refine wp_seq ?_
  refine wl_in ?_
  refine wl_cap fun Q hQ => ?_
  refine st_to (v := (.pointer (some ⟨b2, 2, none⟩))) (some 15) rfl rfl (ex_fa (p := (.pointer (some ⟨b2, 0, none⟩))) rfl rfl (fa29_2 _ _)) ?_
  simp only [Act.put, List.setIfInBounds_toArray, List.set_cons_zero, List.set_cons_succ]
  refine st_to (v := (.slice ao n c)) (some 16) rfl rfl (ex_load (p := (.pointer (some ⟨b2, 2, none⟩))) rfl rfl (ld27 (at_cell k2 rfl))) ?_
  simp only [Act.put, List.setIfInBounds_toArray, List.set_cons_zero, List.set_cons_succ]
  refine st_to (v := (.int .i64 (n : Nat))) (some 17) rfl rfl (ex_len rfl rfl (len27 _ _ _ _ _)) ?_
  simp only [Act.put, List.setIfInBounds_toArray, List.set_cons_zero, List.set_cons_succ]
  refine st_to (v := (.int .i64 0)) (some 18) rfl rfl (ex_mv rfl rfl) ?_
  simp only [Act.put, List.setIfInBounds_toArray, List.set_cons_zero, List.set_cons_succ]
  refine st_end ?_
  subst hQ
  refine wp_block ?_
  have RW : Rw W3 w.heap.size 3 1 b3 (0 + 2) 2 (I64 (zf x y hv) (0 + 2)) := Rw.ofBlock k3 rfl ge_b3 (by decide)
  go_loopw [5, 18] (fun v5 v18 wr => ∃ i g cap : Nat, i ≤ n ∧ v18 = .int .i64 i ∧ v5 = .slice (some ⟨g, 0, none⟩) (i + 2) cap ∧ Below w.heap.size w wr ∧ Rw wr w.heap.size 3 1 g (i + 2) cap (I64 (zf x y hv) (i + 2)) ∧ wr.heap[b1]? = some (.cells C 26)) (fun _ v18 _ => n - (intOf v18).toNat)
  case atStart => exact ⟨0, b3, 2, Nat.zero_le _, rfl, rfl, E, RW, k1⟩
  case round =>
    clear E RW k1 k2 k3
    obtain ⟨i, g, cap, hi, rfl, rfl, E, RW, k1⟩ := hrel
    by_cases hlt : i < n
    · rcases hH with h | ⟨b, p, rfl, h⟩
      · omega
      have HC := h i hlt
      have hzi : zf x y hv (i + 2) = (hv i).am := by simp [zf]
      refine wp_seq ?_
      refine wl_in ?_
      refine wl_cap fun Q hQ => ?_
      refine st_to (v := (.bool true)) (some 19) rfl rfl (ex_bin (u := (.int .i64 (i : Nat))) (r := (.int .i64 (n : Nat))) rfl rfl rfl (eg3 _ _ _ _ _ _) (lss3 _ (decide_eq_true (by omega)))) ?_
      simp only [Act.put, List.setIfInBounds_toArray, List.set_cons_zero, List.set_cons_succ]
      refine st_end ?_
      subst hQ
      refine wp_seq ?_
      refine wp_cond_true rfl ?_
      refine wp_skip ?_
      refine wp_seq ?_
      refine wp_block ?_
      refine wp_seq ?_
      refine wl_in ?_
      refine wl_cap fun Q hQ => ?_
      refine st_to (v := (.pointer (some ⟨b, (p + i * 36), none⟩))) (some 20) rfl rfl (ex_ix27 rfl rfl rfl hlt) ?_
      simp only [Act.put, List.setIfInBounds_toArray, List.set_cons_zero, List.set_cons_succ]
      refine st_to (v := (.agg (Cs i))) (some 21) rfl rfl (ex_load rfl rfl (ld_range (range_below HC.2 E) Try.underlying49 rfl (inf49.trans (congrArg some HC.1.size.symm)))) ?_
      simp only [Act.put, List.setIfInBounds_toArray, List.set_cons_zero, List.set_cons_succ]
      refine st_new (fun b => .pointer (some ⟨b, 0, none⟩)) (some 7) rfl rfl (ex_alloc rfl zero49) ?_
      intro b4 W4 k4 g4 B
      simp only [Act.put, List.setIfInBounds_toArray, List.set_cons_zero, List.set_cons_succ]
      have ne_b4_b1 : b4 ≠ b1 := fun e => by have := lt_of k1; omega
      have ge_b4 := Nat.le_trans E.size g4
      replace E := below_next E B
      replace RW := RW.keep B
      replace k1 := keep B k1
      clear B
      obtain ⟨W5, hst, kn, K⟩ := put_all (D := (Cs i)) k4 (((show ((#[.int .i64 0, .int .i64 0, .int .i64 0] ++ Z32 ++ #[.int .i64 0]) : Array Value).size = 36 from rfl)).trans (HC.1.size).symm) (inf49.trans (congrArg some (HC.1.size).symm)) HC.1.one
      refine st_sk rfl rfl (ex_store rfl rfl rfl hst) ?_
      replace E := below_put E ge_b4 K
      replace RW := RW.keepK K (fun e => RW.ne k4 (by decide) e)
      replace k1 := keepK K k1 (fun e => ne_tag k1 k4 (by decide) e)
      replace k4 := kn
      clear kn K hst
      refine st_end ?_
      subst hQ
      refine wl_in ?_
      refine wl_cap fun Q hQ => ?_
      refine st_to (v := (.slice (some ⟨g, 0, none⟩) (i + 2) cap)) (some 22) rfl rfl (ex_mv rfl rfl) ?_
      simp only [Act.put, List.setIfInBounds_toArray, List.set_cons_zero, List.set_cons_succ]
      refine st_to (v := (.pointer (some ⟨b4, 2, none⟩))) (some 23) rfl rfl (ex_fa (p := (.pointer (some ⟨b4, 0, none⟩))) rfl rfl (fa49_2 _ _)) ?_
      simp only [Act.put, List.setIfInBounds_toArray, List.set_cons_zero, List.set_cons_succ]
      refine st_to (v := (.int .i64 (hv i).am)) (some 24) rfl rfl (ex_load (p := (.pointer (some ⟨b4, 2, none⟩))) rfl rfl (ld3 (at_cell k4 HC.1.c2))) ?_
      simp only [Act.put, List.setIfInBounds_toArray, List.set_cons_zero, List.set_cons_succ]
      refine st_new (fun b => .slice (some ⟨b, 0, none⟩) 1 1) (some 25) rfl rfl (ex_bsl1 (u := (.int .i64 (hv i).am)) rfl rfl (bs82_1 _ _)) ?_
      intro b5 W6 k5 g5 B
      simp only [Act.put, List.setIfInBounds_toArray, List.set_cons_zero, List.set_cons_succ]
      have ne_b5_b1 : b5 ≠ b1 := fun e => by have := lt_of k1; omega
      have ne_b5_b4 : b5 ≠ b4 := fun e => by have := lt_of k4; omega
      have ge_b5 := Nat.le_trans E.size g5
      replace E := below_next E B
      replace RW := RW.keep B
      replace k1 := keep B k1
      replace k4 := keep B k4
      clear B
      obtain ⟨g', cap', W7, hrun, RW', K⟩ := RW.add (t := 82) k5 rfl (by kernel_rfl) Try.underlying82 info3 rfl (by decide) (by omega) (by unfold maxLen; omega) E.size
      refine st_to (v := (.slice (some ⟨g', 0, none⟩) (i + 2 + 1) cap')) (some 26) rfl rfl (ex_app rfl rfl rfl hrun) ?_
      simp only [Act.put, List.setIfInBounds_toArray, List.set_cons_zero, List.set_cons_succ]
      replace E := below_put E RW.ge K
      replace k1 := keepK K k1 (fun e => RW.ne k1 (by decide) e.symm)
      have e5 : I64 (zf x y hv) (i + 2) ++ [.int .i64 (hv i).am] = I64 (zf x y hv) (i + 1 + 2) := by rw [← hzi, I64_succ]
      rw [show (#[.int .i64 (hv i).am] : Array Value).toList = [.int .i64 (hv i).am] from rfl, e5] at RW'
      refine st_to (v := (.slice (some ⟨g', 0, none⟩) (i + 2 + 1) cap')) (some 5) rfl rfl (ex_asg rfl rfl) ?_
      simp only [Act.put, List.setIfInBounds_toArray, List.set_cons_zero, List.set_cons_succ]
      refine st_end ?_
      subst hQ
      refine wl_in ?_
      refine wl_cap fun Q hQ => ?_
      refine st_to (v := (.int .i64 ((i + 1 : Nat) : Int))) (some 27) rfl rfl (ex_bin rfl rfl rfl (eg3 _ _ _ _ _ _) (add3 _ (by omega) (by omega))) ?_
      simp only [Act.put, List.setIfInBounds_toArray, List.set_cons_zero, List.set_cons_succ]
      refine st_to (v := (.int .i64 ((i + 1 : Nat) : Int))) (some 18) rfl rfl (ex_mv rfl rfl) ?_
      simp only [Act.put, List.setIfInBounds_toArray, List.set_cons_zero, List.set_cons_succ]
      refine st_end ?_
      subst hQ
      refine then_go ?_
      go_roundw
      case rel => exact ⟨i + 1, g', cap', by omega, rfl, rfl, E, RW', k1⟩
      case measure => simp [intOf]; omega
    · skip
      have hi' : i = n := by omega
      subst hi'
      refine wp_seq ?_
      refine wl_in ?_
      refine wl_cap fun Q hQ => ?_
      refine st_to (v := (.bool false)) (some 19) rfl rfl (ex_bin (u := (.int .i64 (i : Nat))) (r := (.int .i64 (i : Nat))) rfl rfl rfl (eg3 _ _ _ _ _ _) (lss3 _ (decide_eq_false (by omega)))) ?_
      simp only [Act.put, List.setIfInBounds_toArray, List.set_cons_zero, List.set_cons_succ]
      refine st_end ?_
      subst hQ
      refine wp_seq ?_
      refine wp_cond_false rfl ?_
      refine wp_exit ?_
      refine ex_then ?_
      refine ex_then ?_
      refine ex_blk ?_
      have hzz : ∀ k, k < i + 2 → zf x y hv k ≤ 9223372036854775807 := fun k hk => by
        unfold zf
        split
        · exact hx
        · split
          · exact hy
          · exact hz _ (by omega)
      refine wp_seq ?_
      refine wl_in ?_
      refine wl_cap fun Q hQ => ?_
      refine st_to (v := (.slice (some ⟨g, 0, none⟩) (i + 2) cap)) (some 29) rfl rfl (ex_mv rfl rfl) ?_
      simp only [Act.put, List.setIfInBounds_toArray, List.set_cons_zero, List.set_cons_succ]
      refine st_call (some 30) rfl rfl (sumR RW (by omega) hzz) (ex_call (f := 34) (vs := [(.slice (some ⟨g, 0, none⟩) (i + 2) cap)]) rfl (cf34 _) rfl) ?_
      rintro e W8 ⟨rfl, B⟩
      refine ⟨_, rfl, ?_⟩
      simp only [Act.put, List.setIfInBounds_toArray, List.set_cons_zero, List.set_cons_succ]
      replace E := below_next E B
      replace RW := RW.keep B
      replace k1 := keep B k1
      refine st_to (v := (.tuple #[(.int .i64 (sumN (zf x y hv) (i + 2))), (.int .i64 (sumE (zf x y hv) (i + 2)))])) (some 28) rfl rfl (ex_mv rfl rfl) ?_
      simp only [Act.put, List.setIfInBounds_toArray, List.set_cons_zero, List.set_cons_succ]
      refine st_to (v := (.int .i64 (sumN (zf x y hv) (i + 2)))) (some 31) rfl rfl (ex_ext rfl rfl rfl) ?_
      simp only [Act.put, List.setIfInBounds_toArray, List.set_cons_zero, List.set_cons_succ]
      refine st_to (v := (.int .i64 (sumE (zf x y hv) (i + 2)))) (some 32) rfl rfl (ex_ext rfl rfl rfl) ?_
      simp only [Act.put, List.setIfInBounds_toArray, List.set_cons_zero, List.set_cons_succ]
      refine st_to (v := (.int .i64 (sumN (zf x y hv) (i + 2)))) (some 8) rfl rfl (ex_asg rfl rfl) ?_
      simp only [Act.put, List.setIfInBounds_toArray, List.set_cons_zero, List.set_cons_succ]
      refine st_to (v := (.int .i64 (sumE (zf x y hv) (i + 2)))) (some 9) rfl rfl (ex_asg rfl rfl) ?_
      simp only [Act.put, List.setIfInBounds_toArray, List.set_cons_zero, List.set_cons_succ]
      refine st_end ?_
      subst hQ
      refine wp_seq ?_
      by_cases c1 : sumE (zf x y hv) (i + 2) = 0
      rotate_left
      · skip
        refine wl_in ?_
        refine wl_cap fun Q hQ => ?_
        refine st_to (v := (.int .i64 (sumE (zf x y hv) (i + 2)))) (some 33) rfl rfl (ex_mv rfl rfl) ?_
        simp only [Act.put, List.setIfInBounds_toArray, List.set_cons_zero, List.set_cons_succ]
        refine st_to (v := (.bool false)) (some 34) rfl rfl (ex_bin (u := (.int .i64 (sumE (zf x y hv) (i + 2)))) (r := (.int .i64 0)) rfl rfl rfl (eg35 _ _ _ _ _ _) (eql35 _ (decide_eq_false c1))) ?_
        simp only [Act.put, List.setIfInBounds_toArray, List.set_cons_zero, List.set_cons_succ]
        refine st_to (v := (.bool false)) (some 35) rfl rfl (ex_mv rfl rfl) ?_
        simp only [Act.put, List.setIfInBounds_toArray, List.set_cons_zero, List.set_cons_succ]
        refine st_no (some 36) rfl rfl ?_
        simp only [Act.put, List.setIfInBounds_toArray, List.set_cons_zero, List.set_cons_succ]
        refine st_no (some 37) rfl rfl ?_
        simp only [Act.put, List.setIfInBounds_toArray, List.set_cons_zero, List.set_cons_succ]
        refine st_no (some 38) rfl rfl ?_
        simp only [Act.put, List.setIfInBounds_toArray, List.set_cons_zero, List.set_cons_succ]
        refine st_no (some 39) rfl rfl ?_
        simp only [Act.put, List.setIfInBounds_toArray, List.set_cons_zero, List.set_cons_succ]
        refine st_no (some 40) rfl rfl ?_
        simp only [Act.put, List.setIfInBounds_toArray, List.set_cons_zero, List.set_cons_succ]
        refine st_no (some 41) rfl rfl ?_
        simp only [Act.put, List.setIfInBounds_toArray, List.set_cons_zero, List.set_cons_succ]
        refine st_no (some 42) rfl rfl ?_
        simp only [Act.put, List.setIfInBounds_toArray, List.set_cons_zero, List.set_cons_succ]
        refine st_to (v := (.bool false)) (some 43) rfl rfl (ex_pkF rfl rfl rfl) ?_
        simp only [Act.put, List.setIfInBounds_toArray, List.set_cons_zero, List.set_cons_succ]
        refine st_to (v := (.bool false)) (some 4) rfl rfl (ex_asg rfl rfl) ?_
        simp only [Act.put, List.setIfInBounds_toArray, List.set_cons_zero, List.set_cons_succ]
        refine st_end ?_
        subst hQ
        refine wp_ret ?_
        refine bodyPost_ret (results_tmp Try.results38 _ _ _) rfl ⟨?_, E⟩
        show Ending.returned (.bool false) = _
        rw [decide_eq_false (fun h => c1 h.1)]
      by_cases c2 : sumN (zf x y hv) (i + 2) = t.sa + t.sb
      rotate_left
      · skip
        refine wl_in ?_
        refine wl_cap fun Q hQ => ?_
        refine st_to (v := (.int .i64 (sumE (zf x y hv) (i + 2)))) (some 33) rfl rfl (ex_mv rfl rfl) ?_
        simp only [Act.put, List.setIfInBounds_toArray, List.set_cons_zero, List.set_cons_succ]
        refine st_to (v := (.bool true)) (some 34) rfl rfl (ex_bin (u := (.int .i64 (sumE (zf x y hv) (i + 2)))) (r := (.int .i64 0)) rfl rfl rfl (eg35 _ _ _ _ _ _) (eql35 _ (decide_eq_true c1))) ?_
        simp only [Act.put, List.setIfInBounds_toArray, List.set_cons_zero, List.set_cons_succ]
        refine st_to (v := (.bool true)) (some 35) rfl rfl (ex_mv rfl rfl) ?_
        simp only [Act.put, List.setIfInBounds_toArray, List.set_cons_zero, List.set_cons_succ]
        refine st_to (v := (.int .i64 (sumN (zf x y hv) (i + 2)))) (some 36) rfl rfl (ex_mv rfl rfl) ?_
        simp only [Act.put, List.setIfInBounds_toArray, List.set_cons_zero, List.set_cons_succ]
        refine st_to (v := (.pointer (some ⟨b1, 36, none⟩))) (some 37) rfl rfl (ex_fa (p := (.pointer (some ⟨b1, 0, none⟩))) rfl rfl (fa26_4 _ _)) ?_
        simp only [Act.put, List.setIfInBounds_toArray, List.set_cons_zero, List.set_cons_succ]
        refine st_to (v := (.int .i64 t.sa)) (some 38) rfl rfl (ex_load (p := (.pointer (some ⟨b1, 36, none⟩))) rfl rfl (ld3 (at_cell k1 hT.c36))) ?_
        simp only [Act.put, List.setIfInBounds_toArray, List.set_cons_zero, List.set_cons_succ]
        refine st_to (v := (.pointer (some ⟨b1, 37, none⟩))) (some 39) rfl rfl (ex_fa (p := (.pointer (some ⟨b1, 0, none⟩))) rfl rfl (fa26_5 _ _)) ?_
        simp only [Act.put, List.setIfInBounds_toArray, List.set_cons_zero, List.set_cons_succ]
        refine st_to (v := (.int .i64 t.sb)) (some 40) rfl rfl (ex_load (p := (.pointer (some ⟨b1, 37, none⟩))) rfl rfl (ld3 (at_cell k1 hT.c37))) ?_
        simp only [Act.put, List.setIfInBounds_toArray, List.set_cons_zero, List.set_cons_succ]
        refine st_to (v := (.int .i64 (t.sa + t.sb))) (some 41) rfl rfl (ex_bin rfl rfl rfl (eg3 _ _ _ _ _ _) (add3 _ rfl (by omega))) ?_
        simp only [Act.put, List.setIfInBounds_toArray, List.set_cons_zero, List.set_cons_succ]
        refine st_to (v := (.bool false)) (some 42) rfl rfl (ex_bin (u := (.int .i64 (sumN (zf x y hv) (i + 2)))) (r := (.int .i64 (t.sa + t.sb))) rfl rfl rfl (eg3 _ _ _ _ _ _) (eql3 _ (decide_eq_false c2))) ?_
        simp only [Act.put, List.setIfInBounds_toArray, List.set_cons_zero, List.set_cons_succ]
        refine st_to (v := (.bool false)) (some 43) rfl rfl (ex_pkT rfl rfl rfl) ?_
        simp only [Act.put, List.setIfInBounds_toArray, List.set_cons_zero, List.set_cons_succ]
        refine st_to (v := (.bool false)) (some 4) rfl rfl (ex_asg rfl rfl) ?_
        simp only [Act.put, List.setIfInBounds_toArray, List.set_cons_zero, List.set_cons_succ]
        refine st_end ?_
        subst hQ
        refine wp_ret ?_
        refine bodyPost_ret (results_tmp Try.results38 _ _ _) rfl ⟨?_, E⟩
        show Ending.returned (.bool false) = _
        rw [decide_eq_false (fun h => c2 h.2)]
      refine wl_in ?_
      refine wl_cap fun Q hQ => ?_
      refine st_to (v := (.int .i64 (sumE (zf x y hv) (i + 2)))) (some 33) rfl rfl (ex_mv rfl rfl) ?_
      simp only [Act.put, List.setIfInBounds_toArray, List.set_cons_zero, List.set_cons_succ]
      refine st_to (v := (.bool true)) (some 34) rfl rfl (ex_bin (u := (.int .i64 (sumE (zf x y hv) (i + 2)))) (r := (.int .i64 0)) rfl rfl rfl (eg35 _ _ _ _ _ _) (eql35 _ (decide_eq_true c1))) ?_
      simp only [Act.put, List.setIfInBounds_toArray, List.set_cons_zero, List.set_cons_succ]
      refine st_to (v := (.bool true)) (some 35) rfl rfl (ex_mv rfl rfl) ?_
      simp only [Act.put, List.setIfInBounds_toArray, List.set_cons_zero, List.set_cons_succ]
      refine st_to (v := (.int .i64 (sumN (zf x y hv) (i + 2)))) (some 36) rfl rfl (ex_mv rfl rfl) ?_
      simp only [Act.put, List.setIfInBounds_toArray, List.set_cons_zero, List.set_cons_succ]
      refine st_to (v := (.pointer (some ⟨b1, 36, none⟩))) (some 37) rfl rfl (ex_fa (p := (.pointer (some ⟨b1, 0, none⟩))) rfl rfl (fa26_4 _ _)) ?_
      simp only [Act.put, List.setIfInBounds_toArray, List.set_cons_zero, List.set_cons_succ]
      refine st_to (v := (.int .i64 t.sa)) (some 38) rfl rfl (ex_load (p := (.pointer (some ⟨b1, 36, none⟩))) rfl rfl (ld3 (at_cell k1 hT.c36))) ?_
      simp only [Act.put, List.setIfInBounds_toArray, List.set_cons_zero, List.set_cons_succ]
      refine st_to (v := (.pointer (some ⟨b1, 37, none⟩))) (some 39) rfl rfl (ex_fa (p := (.pointer (some ⟨b1, 0, none⟩))) rfl rfl (fa26_5 _ _)) ?_
      simp only [Act.put, List.setIfInBounds_toArray, List.set_cons_zero, List.set_cons_succ]
      refine st_to (v := (.int .i64 t.sb)) (some 40) rfl rfl (ex_load (p := (.pointer (some ⟨b1, 37, none⟩))) rfl rfl (ld3 (at_cell k1 hT.c37))) ?_
      simp only [Act.put, List.setIfInBounds_toArray, List.set_cons_zero, List.set_cons_succ]
      refine st_to (v := (.int .i64 (t.sa + t.sb))) (some 41) rfl rfl (ex_bin rfl rfl rfl (eg3 _ _ _ _ _ _) (add3 _ rfl (by omega))) ?_
      simp only [Act.put, List.setIfInBounds_toArray, List.set_cons_zero, List.set_cons_succ]
      refine st_to (v := (.bool true)) (some 42) rfl rfl (ex_bin (u := (.int .i64 (sumN (zf x y hv) (i + 2)))) (r := (.int .i64 (t.sa + t.sb))) rfl rfl rfl (eg3 _ _ _ _ _ _) (eql3 _ (decide_eq_true c2))) ?_
      simp only [Act.put, List.setIfInBounds_toArray, List.set_cons_zero, List.set_cons_succ]
      refine st_to (v := (.bool true)) (some 43) rfl rfl (ex_pkT rfl rfl rfl) ?_
      simp only [Act.put, List.setIfInBounds_toArray, List.set_cons_zero, List.set_cons_succ]
      refine st_to (v := (.bool true)) (some 4) rfl rfl (ex_asg rfl rfl) ?_
      simp only [Act.put, List.setIfInBounds_toArray, List.set_cons_zero, List.set_cons_succ]
      refine st_end ?_
      subst hQ
      refine wp_ret ?_
      refine bodyPost_ret (results_tmp Try.results38 _ _ _) rfl ⟨?_, E⟩
      show Ending.returned (.bool true) = _
      rw [decide_eq_true ⟨c1, c2⟩]

/-- may it be a view of terms that may be? -/
def fitsB (t : TV) (x y : Int) (n : Nat) (hv : Nat → HV) : Bool := mayT t && decide (n ≤ 32) && mayHs t n hv && sumsB t x y n hv
theorem mayT_sum {t : TV} (h : mayT t = true) : 0 ≤ t.sa ∧ 0 ≤ t.sb ∧ t.sa + t.sb ≤ 9223372036854775807 := (of_decide_eq_true h).1
set_option maxHeartbeats 4000000 in
theorem fits_any {C : Array Value} {t : TV} {x y : Int} {ao : Option Addr} {n c : Nat} {Cs : Nat → Array Value} {hv : Nat → HV} (w : World) (hT : IsT C t) (hb : TB t) (hH : Hs w ao n Cs hv) (hn : n ≤ 140737488355328) (hx : x ≤ 9223372036854775807) (hy : y ≤ 9223372036854775807) (hz : ∀ i, i < n → (hv i).am ≤ 9223372036854775807) {r : Bool} (hr : fitsB t x y n hv = r) :
    Calls Try.prog 14 #[.agg C, .agg #[.int .i64 x, .int .i64 y, .slice ao n c]] w fun e w' => e = .returned (.bool r) ∧ Below w.heap.size w w' := by
  subst hr
  unfold fitsB
  cases c1 : mayT t with
  | false =>
    have E : Below w.heap.size w w := Below.refl _ _
    go_enter Try.func14, Try.ntmps14
    refine wp_seq ?_
    refine wl_in ?_
    refine wl_cap fun Q hQ => ?_
    refine st_new (fun b => .pointer (some ⟨b, 0, none⟩)) (some 2) rfl rfl (ex_box rfl rfl) ?_
    intro b1 W1 k1 g1 B
    simp only [Act.put, List.setIfInBounds_toArray, List.set_cons_zero, List.set_cons_succ]
    have ge_b1 := Nat.le_trans E.size g1
    replace E := below_next E B
    replace hH := hH.below B
    clear B
    refine st_new (fun b => .pointer (some ⟨b, 0, none⟩)) (some 3) rfl rfl (ex_box rfl rfl) ?_
    intro b2 W2 k2 g2 B
    simp only [Act.put, List.setIfInBounds_toArray, List.set_cons_zero, List.set_cons_succ]
    have ne_b2_b1 : b2 ≠ b1 := fun e => by have := lt_of k1; omega
    have ge_b2 := Nat.le_trans E.size g2
    replace E := below_next E B
    replace hH := hH.below B
    replace k1 := keep B k1
    clear B
    refine st_to (v := (.bool false)) (some 4) rfl rfl (ex_asg rfl rfl) ?_
    simp only [Act.put, List.setIfInBounds_toArray, List.set_cons_zero, List.set_cons_succ]
    refine st_end ?_
    subst hQ
    refine wp_seq ?_
    refine wl_in ?_
    refine wl_cap fun Q hQ => ?_
    refine st_to (v := (.agg C)) (some 5) rfl rfl (ex_load (p := (.pointer (some ⟨b1, 0, none⟩))) rfl rfl (ld_all k1 Try.underlying26 rfl (inf26.trans (congrArg some (hT.size).symm)))) ?_
    simp only [Act.put, List.setIfInBounds_toArray, List.set_cons_zero, List.set_cons_succ]
    refine st_call (some 6) rfl rfl (may_any W2 hT hb c1) (ex_call (f := 12) (vs := [(.agg C)]) rfl (cf12 _) rfl) ?_
    rintro e W3 ⟨rfl, B⟩
    refine ⟨_, rfl, ?_⟩
    simp only [Act.put, List.setIfInBounds_toArray, List.set_cons_zero, List.set_cons_succ]
    replace E := below_next E B
    replace hH := hH.below B
    replace k1 := keep B k1
    replace k2 := keep B k2
    refine st_to (v := (.bool false)) (some 7) rfl rfl (ex_mv rfl rfl) ?_
    simp only [Act.put, List.setIfInBounds_toArray, List.set_cons_zero, List.set_cons_succ]
    refine st_no (some 8) rfl rfl ?_
    simp only [Act.put, List.setIfInBounds_toArray, List.set_cons_zero, List.set_cons_succ]
    refine st_no (some 9) rfl rfl ?_
    simp only [Act.put, List.setIfInBounds_toArray, List.set_cons_zero, List.set_cons_succ]
    refine st_no (some 10) rfl rfl ?_
    simp only [Act.put, List.setIfInBounds_toArray, List.set_cons_zero, List.set_cons_succ]
    refine st_no (some 11) rfl rfl ?_
    simp only [Act.put, List.setIfInBounds_toArray, List.set_cons_zero, List.set_cons_succ]
    refine st_to (v := (.bool false)) (some 12) rfl rfl (ex_pkF rfl rfl rfl) ?_
    simp only [Act.put, List.setIfInBounds_toArray, List.set_cons_zero, List.set_cons_succ]
    refine st_to (v := (.bool false)) (some 13) rfl rfl (ex_mv rfl rfl) ?_
    simp only [Act.put, List.setIfInBounds_toArray, List.set_cons_zero, List.set_cons_succ]
    refine st_no (some 14) rfl rfl ?_
    simp only [Act.put, List.setIfInBounds_toArray, List.set_cons_zero, List.set_cons_succ]
    refine st_no (some 15) rfl rfl ?_
    simp only [Act.put, List.setIfInBounds_toArray, List.set_cons_zero, List.set_cons_succ]
    refine st_no (some 16) rfl rfl ?_
    simp only [Act.put, List.setIfInBounds_toArray, List.set_cons_zero, List.set_cons_succ]
    refine st_no (some 17) rfl rfl ?_
    simp only [Act.put, List.setIfInBounds_toArray, List.set_cons_zero, List.set_cons_succ]
    refine st_to (v := (.bool false)) (some 18) rfl rfl (ex_pkF rfl rfl rfl) ?_
    simp only [Act.put, List.setIfInBounds_toArray, List.set_cons_zero, List.set_cons_succ]
    refine st_to (v := (.bool false)) (some 19) rfl rfl (ex_mv rfl rfl) ?_
    simp only [Act.put, List.setIfInBounds_toArray, List.set_cons_zero, List.set_cons_succ]
    refine st_no (some 20) rfl rfl ?_
    simp only [Act.put, List.setIfInBounds_toArray, List.set_cons_zero, List.set_cons_succ]
    refine st_no (some 21) rfl rfl ?_
    simp only [Act.put, List.setIfInBounds_toArray, List.set_cons_zero, List.set_cons_succ]
    refine st_no (some 22) rfl rfl ?_
    simp only [Act.put, List.setIfInBounds_toArray, List.set_cons_zero, List.set_cons_succ]
    refine st_to (v := (.bool false)) (some 23) rfl rfl (ex_pkF rfl rfl rfl) ?_
    simp only [Act.put, List.setIfInBounds_toArray, List.set_cons_zero, List.set_cons_succ]
    refine st_to (v := (.bool false)) (some 4) rfl rfl (ex_asg rfl rfl) ?_
    simp only [Act.put, List.setIfInBounds_toArray, List.set_cons_zero, List.set_cons_succ]
    refine st_end ?_
    subst hQ
    refine wp_ret ?_
    refine bodyPost_ret (results_tmp Try.results14 _ _ _) rfl ⟨?_, E⟩
    show Ending.returned (.bool false) = _
    first | rfl | (rw [decide_eq_false c2]; rfl) | (rw [decide_eq_true c2]; rfl)
  | true =>
    by_cases c2 : n ≤ 32
    rotate_left
    · skip
      have E : Below w.heap.size w w := Below.refl _ _
      go_enter Try.func14, Try.ntmps14
      refine wp_seq ?_
      refine wl_in ?_
      refine wl_cap fun Q hQ => ?_
      refine st_new (fun b => .pointer (some ⟨b, 0, none⟩)) (some 2) rfl rfl (ex_box rfl rfl) ?_
      intro b1 W1 k1 g1 B
      simp only [Act.put, List.setIfInBounds_toArray, List.set_cons_zero, List.set_cons_succ]
      have ge_b1 := Nat.le_trans E.size g1
      replace E := below_next E B
      replace hH := hH.below B
      clear B
      refine st_new (fun b => .pointer (some ⟨b, 0, none⟩)) (some 3) rfl rfl (ex_box rfl rfl) ?_
      intro b2 W2 k2 g2 B
      simp only [Act.put, List.setIfInBounds_toArray, List.set_cons_zero, List.set_cons_succ]
      have ne_b2_b1 : b2 ≠ b1 := fun e => by have := lt_of k1; omega
      have ge_b2 := Nat.le_trans E.size g2
      replace E := below_next E B
      replace hH := hH.below B
      replace k1 := keep B k1
      clear B
      refine st_to (v := (.bool false)) (some 4) rfl rfl (ex_asg rfl rfl) ?_
      simp only [Act.put, List.setIfInBounds_toArray, List.set_cons_zero, List.set_cons_succ]
      refine st_end ?_
      subst hQ
      refine wp_seq ?_
      refine wl_in ?_
      refine wl_cap fun Q hQ => ?_
      refine st_to (v := (.agg C)) (some 5) rfl rfl (ex_load (p := (.pointer (some ⟨b1, 0, none⟩))) rfl rfl (ld_all k1 Try.underlying26 rfl (inf26.trans (congrArg some (hT.size).symm)))) ?_
      simp only [Act.put, List.setIfInBounds_toArray, List.set_cons_zero, List.set_cons_succ]
      refine st_call (some 6) rfl rfl (may_any W2 hT hb c1) (ex_call (f := 12) (vs := [(.agg C)]) rfl (cf12 _) rfl) ?_
      rintro e W3 ⟨rfl, B⟩
      refine ⟨_, rfl, ?_⟩
      simp only [Act.put, List.setIfInBounds_toArray, List.set_cons_zero, List.set_cons_succ]
      replace E := below_next E B
      replace hH := hH.below B
      replace k1 := keep B k1
      replace k2 := keep B k2
      refine st_to (v := (.bool true)) (some 7) rfl rfl (ex_mv rfl rfl) ?_
      simp only [Act.put, List.setIfInBounds_toArray, List.set_cons_zero, List.set_cons_succ]
      refine st_to (v := (.pointer (some ⟨b2, 2, none⟩))) (some 8) rfl rfl (ex_fa (p := (.pointer (some ⟨b2, 0, none⟩))) rfl rfl (fa29_2 _ _)) ?_
      simp only [Act.put, List.setIfInBounds_toArray, List.set_cons_zero, List.set_cons_succ]
      refine st_to (v := (.slice ao n c)) (some 9) rfl rfl (ex_load (p := (.pointer (some ⟨b2, 2, none⟩))) rfl rfl (ld27 (at_cell k2 rfl))) ?_
      simp only [Act.put, List.setIfInBounds_toArray, List.set_cons_zero, List.set_cons_succ]
      refine st_to (v := (.int .i64 (n : Nat))) (some 10) rfl rfl (ex_len rfl rfl (len27 _ _ _ _ _)) ?_
      simp only [Act.put, List.setIfInBounds_toArray, List.set_cons_zero, List.set_cons_succ]
      refine st_to (v := (.bool false)) (some 11) rfl rfl (ex_bin (u := (.int .i64 (n : Nat))) (r := (.int .i64 32)) rfl rfl rfl (eg3 _ _ _ _ _ _) (leq3 _ (decide_eq_false (by omega)))) ?_
      simp only [Act.put, List.setIfInBounds_toArray, List.set_cons_zero, List.set_cons_succ]
      refine st_to (v := (.bool false)) (some 12) rfl rfl (ex_pkT rfl rfl rfl) ?_
      simp only [Act.put, List.setIfInBounds_toArray, List.set_cons_zero, List.set_cons_succ]
      refine st_to (v := (.bool false)) (some 13) rfl rfl (ex_mv rfl rfl) ?_
      simp only [Act.put, List.setIfInBounds_toArray, List.set_cons_zero, List.set_cons_succ]
      refine st_no (some 14) rfl rfl ?_
      simp only [Act.put, List.setIfInBounds_toArray, List.set_cons_zero, List.set_cons_succ]
      refine st_no (some 15) rfl rfl ?_
      simp only [Act.put, List.setIfInBounds_toArray, List.set_cons_zero, List.set_cons_succ]
      refine st_no (some 16) rfl rfl ?_
      simp only [Act.put, List.setIfInBounds_toArray, List.set_cons_zero, List.set_cons_succ]
      refine st_no (some 17) rfl rfl ?_
      simp only [Act.put, List.setIfInBounds_toArray, List.set_cons_zero, List.set_cons_succ]
      refine st_to (v := (.bool false)) (some 18) rfl rfl (ex_pkF rfl rfl rfl) ?_
      simp only [Act.put, List.setIfInBounds_toArray, List.set_cons_zero, List.set_cons_succ]
      refine st_to (v := (.bool false)) (some 19) rfl rfl (ex_mv rfl rfl) ?_
      simp only [Act.put, List.setIfInBounds_toArray, List.set_cons_zero, List.set_cons_succ]
      refine st_no (some 20) rfl rfl ?_
      simp only [Act.put, List.setIfInBounds_toArray, List.set_cons_zero, List.set_cons_succ]
      refine st_no (some 21) rfl rfl ?_
      simp only [Act.put, List.setIfInBounds_toArray, List.set_cons_zero, List.set_cons_succ]
      refine st_no (some 22) rfl rfl ?_
      simp only [Act.put, List.setIfInBounds_toArray, List.set_cons_zero, List.set_cons_succ]
      refine st_to (v := (.bool false)) (some 23) rfl rfl (ex_pkF rfl rfl rfl) ?_
      simp only [Act.put, List.setIfInBounds_toArray, List.set_cons_zero, List.set_cons_succ]
      refine st_to (v := (.bool false)) (some 4) rfl rfl (ex_asg rfl rfl) ?_
      simp only [Act.put, List.setIfInBounds_toArray, List.set_cons_zero, List.set_cons_succ]
      refine st_end ?_
      subst hQ
      refine wp_ret ?_
      refine bodyPost_ret (results_tmp Try.results14 _ _ _) rfl ⟨?_, E⟩
      show Ending.returned (.bool false) = _
      first | rfl | (rw [decide_eq_false c2]; rfl) | (rw [decide_eq_true c2]; rfl)
    cases c3 : mayHs t n hv with
    | false =>
      have E : Below w.heap.size w w := Below.refl _ _
      go_enter Try.func14, Try.ntmps14
      refine wp_seq ?_
      refine wl_in ?_
      refine wl_cap fun Q hQ => ?_
      refine st_new (fun b => .pointer (some ⟨b, 0, none⟩)) (some 2) rfl rfl (ex_box rfl rfl) ?_
      intro b1 W1 k1 g1 B
      simp only [Act.put, List.setIfInBounds_toArray, List.set_cons_zero, List.set_cons_succ]
      have ge_b1 := Nat.le_trans E.size g1
      replace E := below_next E B
      replace hH := hH.below B
      clear B
      refine st_new (fun b => .pointer (some ⟨b, 0, none⟩)) (some 3) rfl rfl (ex_box rfl rfl) ?_
      intro b2 W2 k2 g2 B
      simp only [Act.put, List.setIfInBounds_toArray, List.set_cons_zero, List.set_cons_succ]
      have ne_b2_b1 : b2 ≠ b1 := fun e => by have := lt_of k1; omega
      have ge_b2 := Nat.le_trans E.size g2
      replace E := below_next E B
      replace hH := hH.below B
      replace k1 := keep B k1
      clear B
      refine st_to (v := (.bool false)) (some 4) rfl rfl (ex_asg rfl rfl) ?_
      simp only [Act.put, List.setIfInBounds_toArray, List.set_cons_zero, List.set_cons_succ]
      refine st_end ?_
      subst hQ
      refine wp_seq ?_
      refine wl_in ?_
      refine wl_cap fun Q hQ => ?_
      refine st_to (v := (.agg C)) (some 5) rfl rfl (ex_load (p := (.pointer (some ⟨b1, 0, none⟩))) rfl rfl (ld_all k1 Try.underlying26 rfl (inf26.trans (congrArg some (hT.size).symm)))) ?_
      simp only [Act.put, List.setIfInBounds_toArray, List.set_cons_zero, List.set_cons_succ]
      refine st_call (some 6) rfl rfl (may_any W2 hT hb c1) (ex_call (f := 12) (vs := [(.agg C)]) rfl (cf12 _) rfl) ?_
      rintro e W3 ⟨rfl, B⟩
      refine ⟨_, rfl, ?_⟩
      simp only [Act.put, List.setIfInBounds_toArray, List.set_cons_zero, List.set_cons_succ]
      replace E := below_next E B
      replace hH := hH.below B
      replace k1 := keep B k1
      replace k2 := keep B k2
      refine st_to (v := (.bool true)) (some 7) rfl rfl (ex_mv rfl rfl) ?_
      simp only [Act.put, List.setIfInBounds_toArray, List.set_cons_zero, List.set_cons_succ]
      refine st_to (v := (.pointer (some ⟨b2, 2, none⟩))) (some 8) rfl rfl (ex_fa (p := (.pointer (some ⟨b2, 0, none⟩))) rfl rfl (fa29_2 _ _)) ?_
      simp only [Act.put, List.setIfInBounds_toArray, List.set_cons_zero, List.set_cons_succ]
      refine st_to (v := (.slice ao n c)) (some 9) rfl rfl (ex_load (p := (.pointer (some ⟨b2, 2, none⟩))) rfl rfl (ld27 (at_cell k2 rfl))) ?_
      simp only [Act.put, List.setIfInBounds_toArray, List.set_cons_zero, List.set_cons_succ]
      refine st_to (v := (.int .i64 (n : Nat))) (some 10) rfl rfl (ex_len rfl rfl (len27 _ _ _ _ _)) ?_
      simp only [Act.put, List.setIfInBounds_toArray, List.set_cons_zero, List.set_cons_succ]
      refine st_to (v := (.bool true)) (some 11) rfl rfl (ex_bin (u := (.int .i64 (n : Nat))) (r := (.int .i64 32)) rfl rfl rfl (eg3 _ _ _ _ _ _) (leq3 _ (decide_eq_true (by omega)))) ?_
      simp only [Act.put, List.setIfInBounds_toArray, List.set_cons_zero, List.set_cons_succ]
      refine st_to (v := (.bool true)) (some 12) rfl rfl (ex_pkT rfl rfl rfl) ?_
      simp only [Act.put, List.setIfInBounds_toArray, List.set_cons_zero, List.set_cons_succ]
      refine st_to (v := (.bool true)) (some 13) rfl rfl (ex_mv rfl rfl) ?_
      simp only [Act.put, List.setIfInBounds_toArray, List.set_cons_zero, List.set_cons_succ]
      refine st_to (v := (.agg C)) (some 14) rfl rfl (ex_load (p := (.pointer (some ⟨b1, 0, none⟩))) rfl rfl (ld_all k1 Try.underlying26 rfl (inf26.trans (congrArg some (hT.size).symm)))) ?_
      simp only [Act.put, List.setIfInBounds_toArray, List.set_cons_zero, List.set_cons_succ]
      refine st_to (v := (.pointer (some ⟨b2, 2, none⟩))) (some 15) rfl rfl (ex_fa (p := (.pointer (some ⟨b2, 0, none⟩))) rfl rfl (fa29_2 _ _)) ?_
      simp only [Act.put, List.setIfInBounds_toArray, List.set_cons_zero, List.set_cons_succ]
      refine st_to (v := (.slice ao n c)) (some 16) rfl rfl (ex_load (p := (.pointer (some ⟨b2, 2, none⟩))) rfl rfl (ld27 (at_cell k2 rfl))) ?_
      simp only [Act.put, List.setIfInBounds_toArray, List.set_cons_zero, List.set_cons_succ]
      refine st_call (some 17) rfl rfl (mayHs_any W3 hT hH hn c3) (ex_call (f := 37) (vs := [(.agg C), (.slice ao n c)]) rfl (cf37 _) rfl) ?_
      rintro e W4 ⟨rfl, B⟩
      refine ⟨_, rfl, ?_⟩
      simp only [Act.put, List.setIfInBounds_toArray, List.set_cons_zero, List.set_cons_succ]
      replace E := below_next E B
      replace hH := hH.below B
      replace k1 := keep B k1
      replace k2 := keep B k2
      refine st_to (v := (.bool false)) (some 18) rfl rfl (ex_pkT rfl rfl rfl) ?_
      simp only [Act.put, List.setIfInBounds_toArray, List.set_cons_zero, List.set_cons_succ]
      refine st_to (v := (.bool false)) (some 19) rfl rfl (ex_mv rfl rfl) ?_
      simp only [Act.put, List.setIfInBounds_toArray, List.set_cons_zero, List.set_cons_succ]
      refine st_no (some 20) rfl rfl ?_
      simp only [Act.put, List.setIfInBounds_toArray, List.set_cons_zero, List.set_cons_succ]
      refine st_no (some 21) rfl rfl ?_
      simp only [Act.put, List.setIfInBounds_toArray, List.set_cons_zero, List.set_cons_succ]
      refine st_no (some 22) rfl rfl ?_
      simp only [Act.put, List.setIfInBounds_toArray, List.set_cons_zero, List.set_cons_succ]
      refine st_to (v := (.bool false)) (some 23) rfl rfl (ex_pkF rfl rfl rfl) ?_
      simp only [Act.put, List.setIfInBounds_toArray, List.set_cons_zero, List.set_cons_succ]
      refine st_to (v := (.bool false)) (some 4) rfl rfl (ex_asg rfl rfl) ?_
      simp only [Act.put, List.setIfInBounds_toArray, List.set_cons_zero, List.set_cons_succ]
      refine st_end ?_
      subst hQ
      refine wp_ret ?_
      refine bodyPost_ret (results_tmp Try.results14 _ _ _) rfl ⟨?_, E⟩
      show Ending.returned (.bool false) = _
      first | rfl | (rw [decide_eq_false c2]; rfl) | (rw [decide_eq_true c2]; rfl)
    | true =>
      cases c4 : sumsB t x y n hv with
      | false =>
        have E : Below w.heap.size w w := Below.refl _ _
        go_enter Try.func14, Try.ntmps14
        refine wp_seq ?_
        refine wl_in ?_
        refine wl_cap fun Q hQ => ?_
        refine st_new (fun b => .pointer (some ⟨b, 0, none⟩)) (some 2) rfl rfl (ex_box rfl rfl) ?_
        intro b1 W1 k1 g1 B
        simp only [Act.put, List.setIfInBounds_toArray, List.set_cons_zero, List.set_cons_succ]
        have ge_b1 := Nat.le_trans E.size g1
        replace E := below_next E B
        replace hH := hH.below B
        clear B
        refine st_new (fun b => .pointer (some ⟨b, 0, none⟩)) (some 3) rfl rfl (ex_box rfl rfl) ?_
        intro b2 W2 k2 g2 B
        simp only [Act.put, List.setIfInBounds_toArray, List.set_cons_zero, List.set_cons_succ]
        have ne_b2_b1 : b2 ≠ b1 := fun e => by have := lt_of k1; omega
        have ge_b2 := Nat.le_trans E.size g2
        replace E := below_next E B
        replace hH := hH.below B
        replace k1 := keep B k1
        clear B
        refine st_to (v := (.bool false)) (some 4) rfl rfl (ex_asg rfl rfl) ?_
        simp only [Act.put, List.setIfInBounds_toArray, List.set_cons_zero, List.set_cons_succ]
        refine st_end ?_
        subst hQ
        refine wp_seq ?_
        refine wl_in ?_
        refine wl_cap fun Q hQ => ?_
        refine st_to (v := (.agg C)) (some 5) rfl rfl (ex_load (p := (.pointer (some ⟨b1, 0, none⟩))) rfl rfl (ld_all k1 Try.underlying26 rfl (inf26.trans (congrArg some (hT.size).symm)))) ?_
        simp only [Act.put, List.setIfInBounds_toArray, List.set_cons_zero, List.set_cons_succ]
        refine st_call (some 6) rfl rfl (may_any W2 hT hb c1) (ex_call (f := 12) (vs := [(.agg C)]) rfl (cf12 _) rfl) ?_
        rintro e W3 ⟨rfl, B⟩
        refine ⟨_, rfl, ?_⟩
        simp only [Act.put, List.setIfInBounds_toArray, List.set_cons_zero, List.set_cons_succ]
        replace E := below_next E B
        replace hH := hH.below B
        replace k1 := keep B k1
        replace k2 := keep B k2
        refine st_to (v := (.bool true)) (some 7) rfl rfl (ex_mv rfl rfl) ?_
        simp only [Act.put, List.setIfInBounds_toArray, List.set_cons_zero, List.set_cons_succ]
        refine st_to (v := (.pointer (some ⟨b2, 2, none⟩))) (some 8) rfl rfl (ex_fa (p := (.pointer (some ⟨b2, 0, none⟩))) rfl rfl (fa29_2 _ _)) ?_
        simp only [Act.put, List.setIfInBounds_toArray, List.set_cons_zero, List.set_cons_succ]
        refine st_to (v := (.slice ao n c)) (some 9) rfl rfl (ex_load (p := (.pointer (some ⟨b2, 2, none⟩))) rfl rfl (ld27 (at_cell k2 rfl))) ?_
        simp only [Act.put, List.setIfInBounds_toArray, List.set_cons_zero, List.set_cons_succ]
        refine st_to (v := (.int .i64 (n : Nat))) (some 10) rfl rfl (ex_len rfl rfl (len27 _ _ _ _ _)) ?_
        simp only [Act.put, List.setIfInBounds_toArray, List.set_cons_zero, List.set_cons_succ]
        refine st_to (v := (.bool true)) (some 11) rfl rfl (ex_bin (u := (.int .i64 (n : Nat))) (r := (.int .i64 32)) rfl rfl rfl (eg3 _ _ _ _ _ _) (leq3 _ (decide_eq_true (by omega)))) ?_
        simp only [Act.put, List.setIfInBounds_toArray, List.set_cons_zero, List.set_cons_succ]
        refine st_to (v := (.bool true)) (some 12) rfl rfl (ex_pkT rfl rfl rfl) ?_
        simp only [Act.put, List.setIfInBounds_toArray, List.set_cons_zero, List.set_cons_succ]
        refine st_to (v := (.bool true)) (some 13) rfl rfl (ex_mv rfl rfl) ?_
        simp only [Act.put, List.setIfInBounds_toArray, List.set_cons_zero, List.set_cons_succ]
        refine st_to (v := (.agg C)) (some 14) rfl rfl (ex_load (p := (.pointer (some ⟨b1, 0, none⟩))) rfl rfl (ld_all k1 Try.underlying26 rfl (inf26.trans (congrArg some (hT.size).symm)))) ?_
        simp only [Act.put, List.setIfInBounds_toArray, List.set_cons_zero, List.set_cons_succ]
        refine st_to (v := (.pointer (some ⟨b2, 2, none⟩))) (some 15) rfl rfl (ex_fa (p := (.pointer (some ⟨b2, 0, none⟩))) rfl rfl (fa29_2 _ _)) ?_
        simp only [Act.put, List.setIfInBounds_toArray, List.set_cons_zero, List.set_cons_succ]
        refine st_to (v := (.slice ao n c)) (some 16) rfl rfl (ex_load (p := (.pointer (some ⟨b2, 2, none⟩))) rfl rfl (ld27 (at_cell k2 rfl))) ?_
        simp only [Act.put, List.setIfInBounds_toArray, List.set_cons_zero, List.set_cons_succ]
        refine st_call (some 17) rfl rfl (mayHs_any W3 hT hH hn c3) (ex_call (f := 37) (vs := [(.agg C), (.slice ao n c)]) rfl (cf37 _) rfl) ?_
        rintro e W4 ⟨rfl, B⟩
        refine ⟨_, rfl, ?_⟩
        simp only [Act.put, List.setIfInBounds_toArray, List.set_cons_zero, List.set_cons_succ]
        replace E := below_next E B
        replace hH := hH.below B
        replace k1 := keep B k1
        replace k2 := keep B k2
        refine st_to (v := (.bool true)) (some 18) rfl rfl (ex_pkT rfl rfl rfl) ?_
        simp only [Act.put, List.setIfInBounds_toArray, List.set_cons_zero, List.set_cons_succ]
        refine st_to (v := (.bool true)) (some 19) rfl rfl (ex_mv rfl rfl) ?_
        simp only [Act.put, List.setIfInBounds_toArray, List.set_cons_zero, List.set_cons_succ]
        refine st_to (v := (.agg C)) (some 20) rfl rfl (ex_load (p := (.pointer (some ⟨b1, 0, none⟩))) rfl rfl (ld_all k1 Try.underlying26 rfl (inf26.trans (congrArg some (hT.size).symm)))) ?_
        simp only [Act.put, List.setIfInBounds_toArray, List.set_cons_zero, List.set_cons_succ]
        refine st_to (v := (.agg #[.int .i64 x, .int .i64 y, .slice ao n c])) (some 21) rfl rfl (ex_load (p := (.pointer (some ⟨b2, 0, none⟩))) rfl rfl (ld_all k2 Try.underlying29 rfl inf29)) ?_
        simp only [Act.put, List.setIfInBounds_toArray, List.set_cons_zero, List.set_cons_succ]
        refine st_call (some 22) rfl rfl (sums_any W4 hT hH c2 (mayT_sum c1) hx hy hz c4) (ex_call (f := 38) (vs := [(.agg C), (.agg #[.int .i64 x, .int .i64 y, .slice ao n c])]) rfl (cf38 _) rfl) ?_
        rintro e W5 ⟨rfl, B⟩
        refine ⟨_, rfl, ?_⟩
        simp only [Act.put, List.setIfInBounds_toArray, List.set_cons_zero, List.set_cons_succ]
        replace E := below_next E B
        replace hH := hH.below B
        replace k1 := keep B k1
        replace k2 := keep B k2
        refine st_to (v := (.bool false)) (some 23) rfl rfl (ex_pkT rfl rfl rfl) ?_
        simp only [Act.put, List.setIfInBounds_toArray, List.set_cons_zero, List.set_cons_succ]
        refine st_to (v := (.bool false)) (some 4) rfl rfl (ex_asg rfl rfl) ?_
        simp only [Act.put, List.setIfInBounds_toArray, List.set_cons_zero, List.set_cons_succ]
        refine st_end ?_
        subst hQ
        refine wp_ret ?_
        refine bodyPost_ret (results_tmp Try.results14 _ _ _) rfl ⟨?_, E⟩
        show Ending.returned (.bool false) = _
        first | rfl | (rw [decide_eq_false c2]; rfl) | (rw [decide_eq_true c2]; rfl)
      | true =>
        have E : Below w.heap.size w w := Below.refl _ _
        go_enter Try.func14, Try.ntmps14
        refine wp_seq ?_
        refine wl_in ?_
        refine wl_cap fun Q hQ => ?_
        refine st_new (fun b => .pointer (some ⟨b, 0, none⟩)) (some 2) rfl rfl (ex_box rfl rfl) ?_
        intro b1 W1 k1 g1 B
        simp only [Act.put, List.setIfInBounds_toArray, List.set_cons_zero, List.set_cons_succ]
        have ge_b1 := Nat.le_trans E.size g1
        replace E := below_next E B
        replace hH := hH.below B
        clear B
        refine st_new (fun b => .pointer (some ⟨b, 0, none⟩)) (some 3) rfl rfl (ex_box rfl rfl) ?_
        intro b2 W2 k2 g2 B
        simp only [Act.put, List.setIfInBounds_toArray, List.set_cons_zero, List.set_cons_succ]
        have ne_b2_b1 : b2 ≠ b1 := fun e => by have := lt_of k1; omega
        have ge_b2 := Nat.le_trans E.size g2
        replace E := below_next E B
        replace hH := hH.below B
        replace k1 := keep B k1
        clear B
        refine st_to (v := (.bool false)) (some 4) rfl rfl (ex_asg rfl rfl) ?_
        simp only [Act.put, List.setIfInBounds_toArray, List.set_cons_zero, List.set_cons_succ]
        refine st_end ?_
        subst hQ
        refine wp_seq ?_
        refine wl_in ?_
        refine wl_cap fun Q hQ => ?_
        refine st_to (v := (.agg C)) (some 5) rfl rfl (ex_load (p := (.pointer (some ⟨b1, 0, none⟩))) rfl rfl (ld_all k1 Try.underlying26 rfl (inf26.trans (congrArg some (hT.size).symm)))) ?_
        simp only [Act.put, List.setIfInBounds_toArray, List.set_cons_zero, List.set_cons_succ]
        refine st_call (some 6) rfl rfl (may_any W2 hT hb c1) (ex_call (f := 12) (vs := [(.agg C)]) rfl (cf12 _) rfl) ?_
        rintro e W3 ⟨rfl, B⟩
        refine ⟨_, rfl, ?_⟩
        simp only [Act.put, List.setIfInBounds_toArray, List.set_cons_zero, List.set_cons_succ]
        replace E := below_next E B
        replace hH := hH.below B
        replace k1 := keep B k1
        replace k2 := keep B k2
        refine st_to (v := (.bool true)) (some 7) rfl rfl (ex_mv rfl rfl) ?_
        simp only [Act.put, List.setIfInBounds_toArray, List.set_cons_zero, List.set_cons_succ]
        refine st_to (v := (.pointer (some ⟨b2, 2, none⟩))) (some 8) rfl rfl (ex_fa (p := (.pointer (some ⟨b2, 0, none⟩))) rfl rfl (fa29_2 _ _)) ?_
        simp only [Act.put, List.setIfInBounds_toArray, List.set_cons_zero, List.set_cons_succ]
        refine st_to (v := (.slice ao n c)) (some 9) rfl rfl (ex_load (p := (.pointer (some ⟨b2, 2, none⟩))) rfl rfl (ld27 (at_cell k2 rfl))) ?_
        simp only [Act.put, List.setIfInBounds_toArray, List.set_cons_zero, List.set_cons_succ]
        refine st_to (v := (.int .i64 (n : Nat))) (some 10) rfl rfl (ex_len rfl rfl (len27 _ _ _ _ _)) ?_
        simp only [Act.put, List.setIfInBounds_toArray, List.set_cons_zero, List.set_cons_succ]
        refine st_to (v := (.bool true)) (some 11) rfl rfl (ex_bin (u := (.int .i64 (n : Nat))) (r := (.int .i64 32)) rfl rfl rfl (eg3 _ _ _ _ _ _) (leq3 _ (decide_eq_true (by omega)))) ?_
        simp only [Act.put, List.setIfInBounds_toArray, List.set_cons_zero, List.set_cons_succ]
        refine st_to (v := (.bool true)) (some 12) rfl rfl (ex_pkT rfl rfl rfl) ?_
        simp only [Act.put, List.setIfInBounds_toArray, List.set_cons_zero, List.set_cons_succ]
        refine st_to (v := (.bool true)) (some 13) rfl rfl (ex_mv rfl rfl) ?_
        simp only [Act.put, List.setIfInBounds_toArray, List.set_cons_zero, List.set_cons_succ]
        refine st_to (v := (.agg C)) (some 14) rfl rfl (ex_load (p := (.pointer (some ⟨b1, 0, none⟩))) rfl rfl (ld_all k1 Try.underlying26 rfl (inf26.trans (congrArg some (hT.size).symm)))) ?_
        simp only [Act.put, List.setIfInBounds_toArray, List.set_cons_zero, List.set_cons_succ]
        refine st_to (v := (.pointer (some ⟨b2, 2, none⟩))) (some 15) rfl rfl (ex_fa (p := (.pointer (some ⟨b2, 0, none⟩))) rfl rfl (fa29_2 _ _)) ?_
        simp only [Act.put, List.setIfInBounds_toArray, List.set_cons_zero, List.set_cons_succ]
        refine st_to (v := (.slice ao n c)) (some 16) rfl rfl (ex_load (p := (.pointer (some ⟨b2, 2, none⟩))) rfl rfl (ld27 (at_cell k2 rfl))) ?_
        simp only [Act.put, List.setIfInBounds_toArray, List.set_cons_zero, List.set_cons_succ]
        refine st_call (some 17) rfl rfl (mayHs_any W3 hT hH hn c3) (ex_call (f := 37) (vs := [(.agg C), (.slice ao n c)]) rfl (cf37 _) rfl) ?_
        rintro e W4 ⟨rfl, B⟩
        refine ⟨_, rfl, ?_⟩
        simp only [Act.put, List.setIfInBounds_toArray, List.set_cons_zero, List.set_cons_succ]
        replace E := below_next E B
        replace hH := hH.below B
        replace k1 := keep B k1
        replace k2 := keep B k2
        refine st_to (v := (.bool true)) (some 18) rfl rfl (ex_pkT rfl rfl rfl) ?_
        simp only [Act.put, List.setIfInBounds_toArray, List.set_cons_zero, List.set_cons_succ]
        refine st_to (v := (.bool true)) (some 19) rfl rfl (ex_mv rfl rfl) ?_
        simp only [Act.put, List.setIfInBounds_toArray, List.set_cons_zero, List.set_cons_succ]
        refine st_to (v := (.agg C)) (some 20) rfl rfl (ex_load (p := (.pointer (some ⟨b1, 0, none⟩))) rfl rfl (ld_all k1 Try.underlying26 rfl (inf26.trans (congrArg some (hT.size).symm)))) ?_
        simp only [Act.put, List.setIfInBounds_toArray, List.set_cons_zero, List.set_cons_succ]
        refine st_to (v := (.agg #[.int .i64 x, .int .i64 y, .slice ao n c])) (some 21) rfl rfl (ex_load (p := (.pointer (some ⟨b2, 0, none⟩))) rfl rfl (ld_all k2 Try.underlying29 rfl inf29)) ?_
        simp only [Act.put, List.setIfInBounds_toArray, List.set_cons_zero, List.set_cons_succ]
        refine st_call (some 22) rfl rfl (sums_any W4 hT hH c2 (mayT_sum c1) hx hy hz c4) (ex_call (f := 38) (vs := [(.agg C), (.agg #[.int .i64 x, .int .i64 y, .slice ao n c])]) rfl (cf38 _) rfl) ?_
        rintro e W5 ⟨rfl, B⟩
        refine ⟨_, rfl, ?_⟩
        simp only [Act.put, List.setIfInBounds_toArray, List.set_cons_zero, List.set_cons_succ]
        replace E := below_next E B
        replace hH := hH.below B
        replace k1 := keep B k1
        replace k2 := keep B k2
        refine st_to (v := (.bool true)) (some 23) rfl rfl (ex_pkT rfl rfl rfl) ?_
        simp only [Act.put, List.setIfInBounds_toArray, List.set_cons_zero, List.set_cons_succ]
        refine st_to (v := (.bool true)) (some 4) rfl rfl (ex_asg rfl rfl) ?_
        simp only [Act.put, List.setIfInBounds_toArray, List.set_cons_zero, List.set_cons_succ]
        refine st_end ?_
        subst hQ
        refine wp_ret ?_
        refine bodyPost_ret (results_tmp Try.results14 _ _ _) rfl ⟨?_, E⟩
        show Ending.returned (.bool true) = _
        first | rfl | (rw [decide_eq_false c2]; rfl) | (rw [decide_eq_true c2]; rfl)

end Go.Proofs.Ytkhpbjafdamhaaa
