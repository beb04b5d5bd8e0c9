/- Claims, and places of Htlcs: the statement's walk. -/
import Derived.Test.YtkhpbjafdamhaaaDClaim
namespace Go.Proofs.Ytkhpbjafdamhaaa
open Go.RowKit
set_option linter.unusedVariables false
set_option linter.unusedSimpArgs false
set_option maxRecDepth 100000

theorem neqB (b : Bool) (W : World) : (binOp .neq 4 (.bool b) (.bool b)).run Try.prog W = .ok (.bool false) W := by cases b <;> go_simp
theorem eqlB (b : Bool) (W : World) : (binOp .eql 4 (.bool b) (.bool b)).run Try.prog W = .ok (.bool true) W := by cases b <;> go_simp
theorem eg4 (bop : BinOp) (x y : Operand) (u v : Bool) (W : World) : (eqGuard bop 4 x y (.bool u) (.bool v)).run Try.prog W = .ok () W := by cases bop <;> rfl
theorem self1 (nd : Int) : SelfPs (pth nd 0 false 0 0 Z32) 1 := ⟨by rw [pth_size Z32_size], fun k hk => by
  have : k = 0 := by omega
  subst this
  have h := refl66 nd 0 0 0 false (l := ZL) rfl
  rw [← Z32_u8] at h
  rw [show 0 * 37 = 0 from rfl, show 0 + 37 = (pth nd 0 false 0 0 Z32).size from (pth_size Z32_size).symm, Array.extract_size]
  exact h⟩

set_option maxHeartbeats 8000000 in
theorem claims_any {C : Array Value} {t : TV} {nd s x y : Int} {ao va : Option Addr} {n c m vc : Nat} {Is Cs : Nat → Array Value} {hv : Nat → HV} (w : World) (hT : IsT C t) (hb : TB t) (hI : InsS w ao n c Is) (hIs : ∀ i, i < n → IsI (Is i)) (hN : n * 144 ≤ 140737488355328) (hs : s ≤ 9223372036854775807) (hH : Hs w va m Cs hv) (hm : m ≤ 140737488355328) :
    Calls Try.prog 4 #[.agg C, .int .i64 nd, .slice ao n c, .int .i64 s, .agg #[.int .i64 x, .int .i64 y, .slice va m vc]] w fun e w' => e = .returned (.bool true) ∧ Below w.heap.size w w' := by
  by_cases hok : mayT t = true ∧ (nd = t.a ∨ nd = t.b) ∧ 1 ≤ n ∧ n ≤ 64 ∧ 0 ≤ s
  · skip
    have E : Below w.heap.size w w := Below.refl _ _
    go_enter Try.func4, Try.ntmps4
    refine wp_seq ?_
    refine wl_in ?_
    refine wl_cap fun Q hQ => ?_
    refine st_new (fun b => .pointer (some ⟨b, 0, none⟩)) (some 5) rfl rfl (ex_box rfl rfl) ?_
    intro b1 W1 k1 g1 B
    simp only [Act.put, List.setIfInBounds_toArray, List.set_cons_zero, List.set_cons_succ]
    have ge_b1 := Nat.le_trans E.size g1
    replace E := below_next E B
    clear B
    refine st_new (fun b => .pointer (some ⟨b, 0, none⟩)) (some 9) rfl rfl (ex_box rfl rfl) ?_
    intro b2 W2 k2 g2 B
    simp only [Act.put, List.setIfInBounds_toArray, List.set_cons_zero, List.set_cons_succ]
    have ne_b2_b1 : b2 ≠ b1 := fun e => by have := lt_of k1; omega
    have ge_b2 := Nat.le_trans E.size g2
    replace E := below_next E B
    replace k1 := keep B k1
    clear B
    refine st_to (v := (.bool false)) (some 10) rfl rfl (ex_asg rfl rfl) ?_
    simp only [Act.put, List.setIfInBounds_toArray, List.set_cons_zero, List.set_cons_succ]
    refine st_end ?_
    subst hQ
    refine wp_seq ?_
    refine wl_in ?_
    refine wl_cap fun Q hQ => ?_
    refine st_new (fun b => .slice (some ⟨b, 0, none⟩) 0 0) (some 25) rfl rfl (ex_bsl0  rfl (bs31_0 _)) ?_
    intro b3 W3 k3 g3 B
    simp only [Act.put, List.setIfInBounds_toArray, List.set_cons_zero, List.set_cons_succ]
    have ne_b3_b1 : b3 ≠ b1 := fun e => by have := lt_of k1; omega
    have ne_b3_b2 : b3 ≠ b2 := fun e => by have := lt_of k2; omega
    have ge_b3 := Nat.le_trans E.size g3
    replace E := below_next E B
    replace k1 := keep B k1
    replace k2 := keep B k2
    clear B
    refine st_to (v := (.slice ao n c)) (some 26) rfl rfl (ex_mv rfl rfl) ?_
    simp only [Act.put, List.setIfInBounds_toArray, List.set_cons_zero, List.set_cons_succ]
    obtain ⟨g27, cap27, W4, hrun, R27, K⟩ := app_list k3 ge_b3 (hI.below E) hIs hN E.size
    refine st_to (v := (.slice (some ⟨g27, 0, none⟩) n cap27)) (some 27) rfl rfl (ex_app rfl rfl rfl hrun) ?_
    simp only [Act.put, List.setIfInBounds_toArray, List.set_cons_zero, List.set_cons_succ]
    replace E := below_put E ge_b3 K
    replace k1 := keepK K k1 (fun e => ne_tag k1 k3 (by decide) e)
    replace k2 := keepK K k2 (fun e => ne_tag k2 k3 (by decide) e)
    clear k3 K hrun
    refine st_to (v := (.slice (some ⟨g27, 0, none⟩) n cap27)) (some 11) rfl rfl (ex_asg rfl rfl) ?_
    simp only [Act.put, List.setIfInBounds_toArray, List.set_cons_zero, List.set_cons_succ]
    refine st_end ?_
    subst hQ
    refine wp_seq ?_
    refine wl_in ?_
    refine wl_cap fun Q hQ => ?_
    refine st_to (v := (.agg C)) (some 29) rfl rfl (ex_load (p := (.pointer (some ⟨b1, 0, none⟩))) rfl rfl (ld_all k1 Try.underlying26 rfl (inf26.trans (congrArg some (hT.size).symm)))) ?_
    simp only [Act.put, List.setIfInBounds_toArray, List.set_cons_zero, List.set_cons_succ]
    refine st_to (v := (.int .i64 nd)) (some 30) rfl rfl (ex_mv rfl rfl) ?_
    simp only [Act.put, List.setIfInBounds_toArray, List.set_cons_zero, List.set_cons_succ]
    refine st_to (v := (.slice (some ⟨g27, 0, none⟩) n cap27)) (some 31) rfl rfl (ex_mv rfl rfl) ?_
    simp only [Act.put, List.setIfInBounds_toArray, List.set_cons_zero, List.set_cons_succ]
    refine st_to (v := (.int .i64 s)) (some 32) rfl rfl (ex_mv rfl rfl) ?_
    simp only [Act.put, List.setIfInBounds_toArray, List.set_cons_zero, List.set_cons_succ]
    refine st_call (some 33) rfl rfl (claim_ok W4 hT hb R27.insS hIs hN hs hok) (ex_call (f := 22) (vs := [(.agg C), (.int .i64 nd), (.slice (some ⟨g27, 0, none⟩) n cap27), (.int .i64 s)]) rfl (cf22 _) rfl) ?_
    rintro e W5 ⟨giA, ciA, goA, rfl, RXA, OXA, B⟩
    refine ⟨_, rfl, ?_⟩
    simp only [Act.put, List.setIfInBounds_toArray, List.set_cons_zero, List.set_cons_succ]
    replace E := below_next E B
    replace k1 := keep B k1
    replace k2 := keep B k2
    replace R27 := R27.keep B
    refine st_to (v := (.tuple #[(.agg #[.slice (some ⟨giA, 0, none⟩) n ciA, .slice (some ⟨goA, 0, none⟩) 1 1]), (.int .i64 0)])) (some 28) rfl rfl (ex_mv rfl rfl) ?_
    simp only [Act.put, List.setIfInBounds_toArray, List.set_cons_zero, List.set_cons_succ]
    refine st_to (v := (.agg #[.slice (some ⟨giA, 0, none⟩) n ciA, .slice (some ⟨goA, 0, none⟩) 1 1])) (some 34) rfl rfl (ex_ext rfl rfl rfl) ?_
    simp only [Act.put, List.setIfInBounds_toArray, List.set_cons_zero, List.set_cons_succ]
    refine st_to (v := (.int .i64 0)) (some 35) rfl rfl (ex_ext rfl rfl rfl) ?_
    simp only [Act.put, List.setIfInBounds_toArray, List.set_cons_zero, List.set_cons_succ]
    refine st_new (fun b => .pointer (some ⟨b, 0, none⟩)) (some 12) rfl rfl (ex_alloc rfl zero34) ?_
    intro b4 W6 k4 g4 B
    simp only [Act.put, List.setIfInBounds_toArray, List.set_cons_zero, List.set_cons_succ]
    have ne_b4_b1 : b4 ≠ b1 := fun e => by have := lt_of k1; omega
    have ne_b4_b2 : b4 ≠ b2 := fun e => by have := lt_of k2; omega
    have ge_b4 := Nat.le_trans E.size g4
    replace E := below_next E B
    replace k1 := keep B k1
    replace k2 := keep B k2
    replace R27 := R27.keep B
    replace RXA := RXA.keep B
    replace OXA := OXA.keep B
    clear B
    obtain ⟨W7, hst, kn, K⟩ := put_all (D := #[.slice (some ⟨giA, 0, none⟩) n ciA, .slice (some ⟨goA, 0, none⟩) 1 1]) k4 rfl inf34 (by kernel_rfl)
    refine st_sk rfl rfl (ex_store rfl rfl rfl hst) ?_
    replace E := below_put E ge_b4 K
    replace k1 := keepK K k1 (fun e => ne_tag k1 k4 (by decide) e)
    replace k2 := keepK K k2 (fun e => ne_tag k2 k4 (by decide) e)
    replace R27 := R27.keepK K (fun e => R27.ne k4 (by decide) e)
    replace RXA := RXA.keepK K (fun e => RXA.ne k4 (by decide) e)
    replace OXA := OXA.keepK K k4 (by decide) (by decide)
    replace k4 := kn
    clear kn K hst
    refine st_to (v := (.int .i64 0)) (some 13) rfl rfl (ex_asg rfl rfl) ?_
    simp only [Act.put, List.setIfInBounds_toArray, List.set_cons_zero, List.set_cons_succ]
    refine st_end ?_
    subst hQ
    refine wp_seq ?_
    refine wl_in ?_
    refine wl_cap fun Q hQ => ?_
    refine st_to (v := (.agg C)) (some 37) rfl rfl (ex_load (p := (.pointer (some ⟨b1, 0, none⟩))) rfl rfl (ld_all k1 Try.underlying26 rfl (inf26.trans (congrArg some (hT.size).symm)))) ?_
    simp only [Act.put, List.setIfInBounds_toArray, List.set_cons_zero, List.set_cons_succ]
    refine st_to (v := (.int .i64 nd)) (some 38) rfl rfl (ex_mv rfl rfl) ?_
    simp only [Act.put, List.setIfInBounds_toArray, List.set_cons_zero, List.set_cons_succ]
    refine st_to (v := (.slice ao n c)) (some 39) rfl rfl (ex_mv rfl rfl) ?_
    simp only [Act.put, List.setIfInBounds_toArray, List.set_cons_zero, List.set_cons_succ]
    refine st_to (v := (.int .i64 s)) (some 40) rfl rfl (ex_mv rfl rfl) ?_
    simp only [Act.put, List.setIfInBounds_toArray, List.set_cons_zero, List.set_cons_succ]
    refine st_call (some 41) rfl rfl (rclaim_ok W7 hT hb (hI.below E) hIs hN hs hok) (ex_call (f := 23) (vs := [(.agg C), (.int .i64 nd), (.slice ao n c), (.int .i64 s)]) rfl (cf23 _) rfl) ?_
    rintro e W8 ⟨giB, ciB, goB, rfl, RXB, OXB, B⟩
    refine ⟨_, rfl, ?_⟩
    simp only [Act.put, List.setIfInBounds_toArray, List.set_cons_zero, List.set_cons_succ]
    replace E := below_next E B
    replace k1 := keep B k1
    replace k2 := keep B k2
    replace R27 := R27.keep B
    replace RXA := RXA.keep B
    replace OXA := OXA.keep B
    replace k4 := keep B k4
    refine st_to (v := (.tuple #[(.agg #[.slice (some ⟨giB, 0, none⟩) n ciB, .slice (some ⟨goB, 0, none⟩) 1 1]), (.int .i64 0)])) (some 36) rfl rfl (ex_mv rfl rfl) ?_
    simp only [Act.put, List.setIfInBounds_toArray, List.set_cons_zero, List.set_cons_succ]
    refine st_to (v := (.agg #[.slice (some ⟨giB, 0, none⟩) n ciB, .slice (some ⟨goB, 0, none⟩) 1 1])) (some 42) rfl rfl (ex_ext rfl rfl rfl) ?_
    simp only [Act.put, List.setIfInBounds_toArray, List.set_cons_zero, List.set_cons_succ]
    refine st_to (v := (.int .i64 0)) (some 43) rfl rfl (ex_ext rfl rfl rfl) ?_
    simp only [Act.put, List.setIfInBounds_toArray, List.set_cons_zero, List.set_cons_succ]
    refine st_new (fun b => .pointer (some ⟨b, 0, none⟩)) (some 14) rfl rfl (ex_alloc rfl zero34) ?_
    intro b5 W9 k5 g5 B
    simp only [Act.put, List.setIfInBounds_toArray, List.set_cons_zero, List.set_cons_succ]
    have ne_b5_b1 : b5 ≠ b1 := fun e => by have := lt_of k1; omega
    have ne_b5_b2 : b5 ≠ b2 := fun e => by have := lt_of k2; omega
    have ne_b5_b4 : b5 ≠ b4 := fun e => by have := lt_of k4; omega
    have ge_b5 := Nat.le_trans E.size g5
    replace E := below_next E B
    replace k1 := keep B k1
    replace k2 := keep B k2
    replace R27 := R27.keep B
    replace RXA := RXA.keep B
    replace OXA := OXA.keep B
    replace k4 := keep B k4
    replace RXB := RXB.keep B
    replace OXB := OXB.keep B
    clear B
    obtain ⟨W10, hst, kn, K⟩ := put_all (D := #[.slice (some ⟨giB, 0, none⟩) n ciB, .slice (some ⟨goB, 0, none⟩) 1 1]) k5 rfl inf34 (by kernel_rfl)
    refine st_sk rfl rfl (ex_store rfl rfl rfl hst) ?_
    replace E := below_put E ge_b5 K
    replace k1 := keepK K k1 (fun e => ne_tag k1 k5 (by decide) e)
    replace k2 := keepK K k2 (fun e => ne_tag k2 k5 (by decide) e)
    replace R27 := R27.keepK K (fun e => R27.ne k5 (by decide) e)
    replace RXA := RXA.keepK K (fun e => RXA.ne k5 (by decide) e)
    replace OXA := OXA.keepK K k5 (by decide) (by decide)
    replace k4 := keepK K k4 (fun e => by first | exact ne_b4_b5 e | exact ne_b5_b4 e.symm)
    replace RXB := RXB.keepK K (fun e => RXB.ne k5 (by decide) e)
    replace OXB := OXB.keepK K k5 (by decide) (by decide)
    replace k5 := kn
    clear kn K hst
    refine st_to (v := (.int .i64 0)) (some 15) rfl rfl (ex_asg rfl rfl) ?_
    simp only [Act.put, List.setIfInBounds_toArray, List.set_cons_zero, List.set_cons_succ]
    refine st_end ?_
    subst hQ
    refine wp_seq ?_
    refine wp_seq ?_
    refine wl_in ?_
    refine wl_cap fun Q hQ => ?_
    refine st_call (some 44) rfl rfl (lives_any W10) (ex_call (f := 10) (vs := []) rfl (cf10 _) rfl) ?_
    rintro e W11 ⟨rfl, B⟩
    refine ⟨_, rfl, ?_⟩
    simp only [Act.put, List.setIfInBounds_toArray, List.set_cons_zero, List.set_cons_succ]
    replace E := below_next E B
    replace k1 := keep B k1
    replace k2 := keep B k2
    replace R27 := R27.keep B
    replace RXA := RXA.keep B
    replace OXA := OXA.keep B
    replace k4 := keep B k4
    replace RXB := RXB.keep B
    replace OXB := OXB.keep B
    replace k5 := keep B k5
    refine st_to (v := (.bool false)) (some 45) rfl rfl (ex_not rfl rfl rfl) ?_
    simp only [Act.put, List.setIfInBounds_toArray, List.set_cons_zero, List.set_cons_succ]
    refine st_to (v := (.bool false)) (some 46) rfl rfl (ex_mv rfl rfl) ?_
    simp only [Act.put, List.setIfInBounds_toArray, List.set_cons_zero, List.set_cons_succ]
    refine st_to (v := (.agg #[.slice (some ⟨giA, 0, none⟩) n ciA, .slice (some ⟨goA, 0, none⟩) 1 1])) (some 47) rfl rfl (ex_load (p := (.pointer (some ⟨b4, 0, none⟩))) rfl rfl (ld_all k4 Try.underlying34 rfl inf34)) ?_
    simp only [Act.put, List.setIfInBounds_toArray, List.set_cons_zero, List.set_cons_succ]
    refine st_to (v := (.agg #[.slice (some ⟨giB, 0, none⟩) n ciB, .slice (some ⟨goB, 0, none⟩) 1 1])) (some 48) rfl rfl (ex_load (p := (.pointer (some ⟨b5, 0, none⟩))) rfl rfl (ld_all k5 Try.underlying34 rfl inf34)) ?_
    simp only [Act.put, List.setIfInBounds_toArray, List.set_cons_zero, List.set_cons_succ]
    refine st_call (some 49) rfl rfl (same_ok W11 (by omega) (by decide) ⟨.inr ⟨giA, giB, Is, rfl, rfl, RXA.insR hIs, RXB.insR hIs, hIs⟩, .inr ⟨goA, goB, _, _, 1, 1, _, _, _, rfl, rfl, OXA, OXB, fun j hj => ⟨self1 nd, by decide⟩⟩⟩) (ex_call (f := 11) (vs := [(.agg #[.slice (some ⟨giA, 0, none⟩) n ciA, .slice (some ⟨goA, 0, none⟩) 1 1]), (.agg #[.slice (some ⟨giB, 0, none⟩) n ciB, .slice (some ⟨goB, 0, none⟩) 1 1])]) rfl (cf11 _) rfl) ?_
    rintro e W12 ⟨rfl, B⟩
    refine ⟨_, rfl, ?_⟩
    simp only [Act.put, List.setIfInBounds_toArray, List.set_cons_zero, List.set_cons_succ]
    replace E := below_next E B
    replace k1 := keep B k1
    replace k2 := keep B k2
    replace R27 := R27.keep B
    replace RXA := RXA.keep B
    replace OXA := OXA.keep B
    replace k4 := keep B k4
    replace RXB := RXB.keep B
    replace OXB := OXB.keep B
    replace k5 := keep B k5
    refine st_to (v := (.bool false)) (some 50) rfl rfl (ex_not rfl rfl rfl) ?_
    simp only [Act.put, List.setIfInBounds_toArray, List.set_cons_zero, List.set_cons_succ]
    refine st_to (v := (.bool false)) (some 51) rfl rfl (ex_pkF rfl rfl rfl) ?_
    simp only [Act.put, List.setIfInBounds_toArray, List.set_cons_zero, List.set_cons_succ]
    refine st_to (v := (.bool false)) (some 52) rfl rfl (ex_mv rfl rfl) ?_
    simp only [Act.put, List.setIfInBounds_toArray, List.set_cons_zero, List.set_cons_succ]
    refine st_to (v := (.int .i64 0)) (some 53) rfl rfl (ex_mv rfl rfl) ?_
    simp only [Act.put, List.setIfInBounds_toArray, List.set_cons_zero, List.set_cons_succ]
    refine st_to (v := (.int .i64 0)) (some 54) rfl rfl (ex_mv rfl rfl) ?_
    simp only [Act.put, List.setIfInBounds_toArray, List.set_cons_zero, List.set_cons_succ]
    refine st_to (v := (.bool false)) (some 55) rfl rfl (ex_bin (u := (.int .i64 0)) (r := (.int .i64 0)) rfl rfl rfl (eg35 _ _ _ _ _ _) (neq35 _ (by decide))) ?_
    simp only [Act.put, List.setIfInBounds_toArray, List.set_cons_zero, List.set_cons_succ]
    refine st_to (v := (.bool false)) (some 56) rfl rfl (ex_pkF rfl rfl rfl) ?_
    simp only [Act.put, List.setIfInBounds_toArray, List.set_cons_zero, List.set_cons_succ]
    refine st_end ?_
    subst hQ
    refine wp_cond_false rfl ?_
    refine wp_skip ?_
    refine wp_seq ?_
    refine wp_seq ?_
    refine wl_in ?_
    refine wl_cap fun Q hQ => ?_
    refine st_to (v := (.int .i64 0)) (some 16) rfl rfl (ex_asg rfl rfl) ?_
    simp only [Act.put, List.setIfInBounds_toArray, List.set_cons_zero, List.set_cons_succ]
    refine st_end ?_
    subst hQ
    refine wp_block ?_
    go_loopw [16] (fun v16 wr => ∃ i : Nat, i ≤ m ∧ v16 = .int .i64 i ∧ Below w.heap.size w wr ∧ wr.heap[b2]? = some (.cells #[.int .i64 x, .int .i64 y, .slice va m vc] 29)) (fun v16 _ => m - (intOf v16).toNat)
    case atStart => exact ⟨0, Nat.zero_le _, rfl, E, k2⟩
    case round =>
      clear E k2
      obtain ⟨i, hi, rfl, E, k2⟩ := hrel
      by_cases hlt : i < m
      · have hH1 := hH
        rcases hH with hh | ⟨b, p, rfl, hh⟩
        · omega
        have HC := hh i hlt
        have HR := range_below HC.2 E
        have q0 := range_at0 HR HC.1.c0
        have q1 := range_at HR HC.1.c1
        clear HR
        refine wp_seq ?_
        refine wp_seq ?_
        refine wl_in ?_
        refine wl_cap fun Q hQ => ?_
        refine st_to (v := (.int .i64 (i : Nat))) (some 57) rfl rfl (ex_mv rfl rfl) ?_
        simp only [Act.put, List.setIfInBounds_toArray, List.set_cons_zero, List.set_cons_succ]
        refine st_to (v := (.pointer (some ⟨b2, 2, none⟩))) (some 58) rfl rfl (ex_fa (p := (.pointer (some ⟨b2, 0, none⟩))) rfl rfl (fa29_2 _ _)) ?_
        simp only [Act.put, List.setIfInBounds_toArray, List.set_cons_zero, List.set_cons_succ]
        refine st_to (v := (.slice (some ⟨b, p, none⟩) m vc)) (some 59) rfl rfl (ex_load (p := (.pointer (some ⟨b2, 2, none⟩))) rfl rfl (ld27 (at_cell k2 rfl))) ?_
        simp only [Act.put, List.setIfInBounds_toArray, List.set_cons_zero, List.set_cons_succ]
        refine st_to (v := (.int .i64 (m : Nat))) (some 60) rfl rfl (ex_len rfl rfl (len27 _ _ _ _ _)) ?_
        simp only [Act.put, List.setIfInBounds_toArray, List.set_cons_zero, List.set_cons_succ]
        refine st_to (v := (.bool true)) (some 61) rfl rfl (ex_bin (u := (.int .i64 (i : Nat))) (r := (.int .i64 (m : Nat))) rfl rfl rfl (eg3 _ _ _ _ _ _) (lss3 _ (decide_eq_true (by omega)))) ?_
        simp only [Act.put, List.setIfInBounds_toArray, List.set_cons_zero, List.set_cons_succ]
        refine st_end ?_
        subst hQ
        refine wp_cond_true rfl ?_
        refine wp_skip ?_
        refine wp_seq ?_
        refine wp_block ?_
        refine wp_seq ?_
        obtain ⟨W13, hwd⟩ : ∃ wd, wr.drew = wd := ⟨_, rfl⟩
        refine wp_region_held (S := fun W => Kept Nil W13 W) (by kernel_rfl) ?_
        show wpAnyH _ _ _ _ _ _ _ _ wr.drew
        rw [hwd]
        refine capQ fun Q hQ => ?_
        have hQP : ∀ c (a : Act) (d : Nat) v w, Q (.panic c) (a.put (some d) v) w → Q (.panic c) a w := by
          subst hQ
          exact fun _ _ _ _ _ h => h
        have BD : Below wr.heap.size wr W13 := by rw [← hwd]; exact below_drew (Below.refl _ _)
        clear hwd
        replace E := below_next E BD
        replace k2 := keep BD k2
        replace q0 := (BD.cell (block_lt_of_cell q0)).trans q0
        replace q1 := (BD.cell (block_lt_of_cell q1)).trans q1
        clear BD
        have S : Kept Nil W13 W13 := Kept.refl _ _
        have d_k2 := k2
        have d_q0 := q0
        have d_q1 := q1
        refine ah_take (v := (.agg #[.int .i64 x, .int .i64 y, .slice (some ⟨b, p, none⟩) m vc])) (i := 0) (some 65) rfl rfl (by kernel_rfl) (by kernel_rfl) (by kernel_rfl) rfl (fun W hK => ex_load (p := (.pointer (some ⟨b2, 0, none⟩))) rfl rfl (ld_all (keepK hK d_k2 (nilN _)) Try.underlying29 rfl inf29)) S (fun c a w h => hQP c a _ _ w h) ?_
        simp only [Act.put, List.setIfInBounds_toArray, List.set_cons_zero, List.set_cons_succ]
        refine ah_take (v := (.pointer (some ⟨b2, 2, none⟩))) (i := 1) (some 66) rfl rfl (by kernel_rfl) (by kernel_rfl) (by kernel_rfl) rfl (fun W hK => ex_fa (p := (.pointer (some ⟨b2, 0, none⟩))) rfl rfl (fa29_2 _ _)) S (fun c a w h => hQP c a _ _ w h) ?_
        simp only [Act.put, List.setIfInBounds_toArray, List.set_cons_zero, List.set_cons_succ]
        refine ah_take (v := (.slice (some ⟨b, p, none⟩) m vc)) (i := 2) (some 67) rfl rfl (by kernel_rfl) (by kernel_rfl) (by kernel_rfl) rfl (fun W hK => ex_load (p := (.pointer (some ⟨b2, 2, none⟩))) rfl rfl (ld27 (at_cell (keepK hK d_k2 (nilN _)) rfl))) S (fun c a w h => hQP c a _ _ w h) ?_
        simp only [Act.put, List.setIfInBounds_toArray, List.set_cons_zero, List.set_cons_succ]
        refine ah_take (v := (.int .i64 (i : Nat))) (i := 3) (some 68) rfl rfl (by kernel_rfl) (by kernel_rfl) (by kernel_rfl) rfl (fun W hK => ex_mv rfl rfl) S (fun c a w h => hQP c a _ _ w h) ?_
        simp only [Act.put, List.setIfInBounds_toArray, List.set_cons_zero, List.set_cons_succ]
        refine ah_take (v := (.pointer (some ⟨b, (p + i * 36), none⟩))) (i := 4) (some 69) rfl rfl (by kernel_rfl) (by kernel_rfl) (by kernel_rfl) rfl (fun W hK => ex_ix27 rfl rfl rfl hlt) S (fun c a w h => hQP c a _ _ w h) ?_
        simp only [Act.put, List.setIfInBounds_toArray, List.set_cons_zero, List.set_cons_succ]
        refine ah_take (v := (.pointer (some ⟨b, (p + i * 36), none⟩))) (i := 5) (some 70) rfl rfl (by kernel_rfl) (by kernel_rfl) (by kernel_rfl) rfl (fun W hK => ex_fa rfl rfl (faH0 _ _ _)) S (fun c a w h => hQP c a _ _ w h) ?_
        simp only [Act.put, List.setIfInBounds_toArray, List.set_cons_zero, List.set_cons_succ]
        refine ah_take (v := (.int .i64 (hv i).by_)) (i := 6) (some 71) rfl rfl (by kernel_rfl) (by kernel_rfl) (by kernel_rfl) rfl (fun W hK => ex_load rfl rfl (ld3 (cell_kept hK d_q0))) S (fun c a w h => hQP c a _ _ w h) ?_
        simp only [Act.put, List.setIfInBounds_toArray, List.set_cons_zero, List.set_cons_succ]
        refine ah_take (v := (.pointer (some ⟨b2, 2, none⟩))) (i := 7) (some 72) rfl rfl (by kernel_rfl) (by kernel_rfl) (by kernel_rfl) rfl (fun W hK => ex_fa (p := (.pointer (some ⟨b2, 0, none⟩))) rfl rfl (fa29_2 _ _)) S (fun c a w h => hQP c a _ _ w h) ?_
        simp only [Act.put, List.setIfInBounds_toArray, List.set_cons_zero, List.set_cons_succ]
        refine ah_take (v := (.slice (some ⟨b, p, none⟩) m vc)) (i := 8) (some 73) rfl rfl (by kernel_rfl) (by kernel_rfl) (by kernel_rfl) rfl (fun W hK => ex_load (p := (.pointer (some ⟨b2, 2, none⟩))) rfl rfl (ld27 (at_cell (keepK hK d_k2 (nilN _)) rfl))) S (fun c a w h => hQP c a _ _ w h) ?_
        simp only [Act.put, List.setIfInBounds_toArray, List.set_cons_zero, List.set_cons_succ]
        refine ah_take (v := (.int .i64 (i : Nat))) (i := 9) (some 74) rfl rfl (by kernel_rfl) (by kernel_rfl) (by kernel_rfl) rfl (fun W hK => ex_mv rfl rfl) S (fun c a w h => hQP c a _ _ w h) ?_
        simp only [Act.put, List.setIfInBounds_toArray, List.set_cons_zero, List.set_cons_succ]
        refine ah_take (v := (.pointer (some ⟨b, (p + i * 36), none⟩))) (i := 10) (some 75) rfl rfl (by kernel_rfl) (by kernel_rfl) (by kernel_rfl) rfl (fun W hK => ex_ix27 rfl rfl rfl hlt) S (fun c a w h => hQP c a _ _ w h) ?_
        simp only [Act.put, List.setIfInBounds_toArray, List.set_cons_zero, List.set_cons_succ]
        refine ah_take (v := (.pointer (some ⟨b, (p + i * 36 + 1), none⟩))) (i := 11) (some 76) rfl rfl (by kernel_rfl) (by kernel_rfl) (by kernel_rfl) rfl (fun W hK => ex_fa rfl rfl (faH1 _ _ _)) S (fun c a w h => hQP c a _ _ w h) ?_
        simp only [Act.put, List.setIfInBounds_toArray, List.set_cons_zero, List.set_cons_succ]
        refine ah_take (v := (.int .i64 (hv i).id)) (i := 12) (some 77) rfl rfl (by kernel_rfl) (by kernel_rfl) (by kernel_rfl) rfl (fun W hK => ex_load rfl rfl (ld3 (cell_kept hK d_q1))) S (fun c a w h => hQP c a _ _ w h) ?_
        simp only [Act.put, List.setIfInBounds_toArray, List.set_cons_zero, List.set_cons_succ]
        refine ah_or1 (i := 13) (by kernel_rfl) ?_
        refine nx_call (some 78) rfl rfl rfl (place_any (x := x) (y := y) (by_ := (hv i).by_) (id := (hv i).id) (c := vc) W13 (hH1.below E) hm) (ex_call (f := 24) (vs := [(.agg #[.int .i64 x, .int .i64 y, .slice (some ⟨b, p, none⟩) m vc]), (.int .i64 (hv i).by_), (.int .i64 (hv i).id)]) rfl (cf24 _) rfl) ?_
        rintro e W14 ⟨rfl, B⟩
        refine ⟨_, rfl, S.next B, ?_⟩
        simp only [Act.put, List.setIfInBounds_toArray, List.set_cons_zero, List.set_cons_succ]
        replace E := below_next E B
        replace k2 := keep B k2
        replace q0 := (B.cell (block_lt_of_cell q0)).trans q0
        replace q1 := (B.cell (block_lt_of_cell q1)).trans q1
        replace S := S.next B
        refine ah_take (v := (.tuple #[(.int .i64 (plN (hv i).by_ (hv i).id m hv)), (.bool (plB (hv i).by_ (hv i).id m hv))])) (i := 14) (some 64) rfl rfl (by kernel_rfl) (by kernel_rfl) (by kernel_rfl) rfl (fun W hK => ex_mv rfl rfl) S (fun c a w h => hQP c a _ _ w h) ?_
        simp only [Act.put, List.setIfInBounds_toArray, List.set_cons_zero, List.set_cons_succ]
        refine ah_take (v := (.int .i64 (plN (hv i).by_ (hv i).id m hv))) (i := 15) (some 79) rfl rfl (by kernel_rfl) (by kernel_rfl) (by kernel_rfl) rfl (fun W hK => ex_ext rfl rfl rfl) S (fun c a w h => hQP c a _ _ w h) ?_
        simp only [Act.put, List.setIfInBounds_toArray, List.set_cons_zero, List.set_cons_succ]
        refine ah_take (v := (.bool (plB (hv i).by_ (hv i).id m hv))) (i := 16) (some 80) rfl rfl (by kernel_rfl) (by kernel_rfl) (by kernel_rfl) rfl (fun W hK => ex_ext rfl rfl rfl) S (fun c a w h => hQP c a _ _ w h) ?_
        simp only [Act.put, List.setIfInBounds_toArray, List.set_cons_zero, List.set_cons_succ]
        refine ah_take (v := (.int .i64 (plN (hv i).by_ (hv i).id m hv))) (i := 17) (some 17) rfl rfl (by kernel_rfl) (by kernel_rfl) (by kernel_rfl) rfl (fun W hK => ex_asg rfl rfl) S (fun c a w h => hQP c a _ _ w h) ?_
        simp only [Act.put, List.setIfInBounds_toArray, List.set_cons_zero, List.set_cons_succ]
        refine ah_take (v := (.bool (plB (hv i).by_ (hv i).id m hv))) (i := 18) (some 18) rfl rfl (by kernel_rfl) (by kernel_rfl) (by kernel_rfl) rfl (fun W hK => ex_asg rfl rfl) S (fun c a w h => hQP c a _ _ w h) ?_
        simp only [Act.put, List.setIfInBounds_toArray, List.set_cons_zero, List.set_cons_succ]
        refine ah_done (by kernel_rfl) ?_
        clear hQP
        subst hQ
        clear S d_k2 d_q0 d_q1
        refine wp_seq ?_
        obtain ⟨W15, hwd⟩ : ∃ wd, W14.drew = wd := ⟨_, rfl⟩
        refine wp_region_held (S := fun W => Kept Nil W15 W) (by kernel_rfl) ?_
        show wpAnyH _ _ _ _ _ _ _ _ W14.drew
        rw [hwd]
        refine capQ fun Q hQ => ?_
        have hQP : ∀ c (a : Act) (d : Nat) v w, Q (.panic c) (a.put (some d) v) w → Q (.panic c) a w := by
          subst hQ
          exact fun _ _ _ _ _ h => h
        have BD : Below W14.heap.size W14 W15 := by rw [← hwd]; exact below_drew (Below.refl _ _)
        clear hwd
        replace E := below_next E BD
        replace k2 := keep BD k2
        replace q0 := (BD.cell (block_lt_of_cell q0)).trans q0
        replace q1 := (BD.cell (block_lt_of_cell q1)).trans q1
        clear BD
        have S : Kept Nil W15 W15 := Kept.refl _ _
        have d_k2 := k2
        have d_q0 := q0
        have d_q1 := q1
        refine ah_take (v := (.agg #[.int .i64 x, .int .i64 y, .slice (some ⟨b, p, none⟩) m vc])) (i := 0) (some 82) rfl rfl (by kernel_rfl) (by kernel_rfl) (by kernel_rfl) rfl (fun W hK => ex_load (p := (.pointer (some ⟨b2, 0, none⟩))) rfl rfl (ld_all (keepK hK d_k2 (nilN _)) Try.underlying29 rfl inf29)) S (fun c a w h => hQP c a _ _ w h) ?_
        simp only [Act.put, List.setIfInBounds_toArray, List.set_cons_zero, List.set_cons_succ]
        refine ah_take (v := (.pointer (some ⟨b2, 2, none⟩))) (i := 1) (some 83) rfl rfl (by kernel_rfl) (by kernel_rfl) (by kernel_rfl) rfl (fun W hK => ex_fa (p := (.pointer (some ⟨b2, 0, none⟩))) rfl rfl (fa29_2 _ _)) S (fun c a w h => hQP c a _ _ w h) ?_
        simp only [Act.put, List.setIfInBounds_toArray, List.set_cons_zero, List.set_cons_succ]
        refine ah_take (v := (.slice (some ⟨b, p, none⟩) m vc)) (i := 2) (some 84) rfl rfl (by kernel_rfl) (by kernel_rfl) (by kernel_rfl) rfl (fun W hK => ex_load (p := (.pointer (some ⟨b2, 2, none⟩))) rfl rfl (ld27 (at_cell (keepK hK d_k2 (nilN _)) rfl))) S (fun c a w h => hQP c a _ _ w h) ?_
        simp only [Act.put, List.setIfInBounds_toArray, List.set_cons_zero, List.set_cons_succ]
        refine ah_take (v := (.int .i64 (i : Nat))) (i := 3) (some 85) rfl rfl (by kernel_rfl) (by kernel_rfl) (by kernel_rfl) rfl (fun W hK => ex_mv rfl rfl) S (fun c a w h => hQP c a _ _ w h) ?_
        simp only [Act.put, List.setIfInBounds_toArray, List.set_cons_zero, List.set_cons_succ]
        refine ah_take (v := (.pointer (some ⟨b, (p + i * 36), none⟩))) (i := 4) (some 86) rfl rfl (by kernel_rfl) (by kernel_rfl) (by kernel_rfl) rfl (fun W hK => ex_ix27 rfl rfl rfl hlt) S (fun c a w h => hQP c a _ _ w h) ?_
        simp only [Act.put, List.setIfInBounds_toArray, List.set_cons_zero, List.set_cons_succ]
        refine ah_take (v := (.pointer (some ⟨b, (p + i * 36), none⟩))) (i := 5) (some 87) rfl rfl (by kernel_rfl) (by kernel_rfl) (by kernel_rfl) rfl (fun W hK => ex_fa rfl rfl (faH0 _ _ _)) S (fun c a w h => hQP c a _ _ w h) ?_
        simp only [Act.put, List.setIfInBounds_toArray, List.set_cons_zero, List.set_cons_succ]
        refine ah_take (v := (.int .i64 (hv i).by_)) (i := 6) (some 88) rfl rfl (by kernel_rfl) (by kernel_rfl) (by kernel_rfl) rfl (fun W hK => ex_load rfl rfl (ld3 (cell_kept hK d_q0))) S (fun c a w h => hQP c a _ _ w h) ?_
        simp only [Act.put, List.setIfInBounds_toArray, List.set_cons_zero, List.set_cons_succ]
        refine ah_take (v := (.pointer (some ⟨b2, 2, none⟩))) (i := 7) (some 89) rfl rfl (by kernel_rfl) (by kernel_rfl) (by kernel_rfl) rfl (fun W hK => ex_fa (p := (.pointer (some ⟨b2, 0, none⟩))) rfl rfl (fa29_2 _ _)) S (fun c a w h => hQP c a _ _ w h) ?_
        simp only [Act.put, List.setIfInBounds_toArray, List.set_cons_zero, List.set_cons_succ]
        refine ah_take (v := (.slice (some ⟨b, p, none⟩) m vc)) (i := 8) (some 90) rfl rfl (by kernel_rfl) (by kernel_rfl) (by kernel_rfl) rfl (fun W hK => ex_load (p := (.pointer (some ⟨b2, 2, none⟩))) rfl rfl (ld27 (at_cell (keepK hK d_k2 (nilN _)) rfl))) S (fun c a w h => hQP c a _ _ w h) ?_
        simp only [Act.put, List.setIfInBounds_toArray, List.set_cons_zero, List.set_cons_succ]
        refine ah_take (v := (.int .i64 (i : Nat))) (i := 9) (some 91) rfl rfl (by kernel_rfl) (by kernel_rfl) (by kernel_rfl) rfl (fun W hK => ex_mv rfl rfl) S (fun c a w h => hQP c a _ _ w h) ?_
        simp only [Act.put, List.setIfInBounds_toArray, List.set_cons_zero, List.set_cons_succ]
        refine ah_take (v := (.pointer (some ⟨b, (p + i * 36), none⟩))) (i := 10) (some 92) rfl rfl (by kernel_rfl) (by kernel_rfl) (by kernel_rfl) rfl (fun W hK => ex_ix27 rfl rfl rfl hlt) S (fun c a w h => hQP c a _ _ w h) ?_
        simp only [Act.put, List.setIfInBounds_toArray, List.set_cons_zero, List.set_cons_succ]
        refine ah_take (v := (.pointer (some ⟨b, (p + i * 36 + 1), none⟩))) (i := 11) (some 93) rfl rfl (by kernel_rfl) (by kernel_rfl) (by kernel_rfl) rfl (fun W hK => ex_fa rfl rfl (faH1 _ _ _)) S (fun c a w h => hQP c a _ _ w h) ?_
        simp only [Act.put, List.setIfInBounds_toArray, List.set_cons_zero, List.set_cons_succ]
        refine ah_take (v := (.int .i64 (hv i).id)) (i := 12) (some 94) rfl rfl (by kernel_rfl) (by kernel_rfl) (by kernel_rfl) rfl (fun W hK => ex_load rfl rfl (ld3 (cell_kept hK d_q1))) S (fun c a w h => hQP c a _ _ w h) ?_
        simp only [Act.put, List.setIfInBounds_toArray, List.set_cons_zero, List.set_cons_succ]
        refine ah_or1 (i := 13) (by kernel_rfl) ?_
        refine nx_call (some 95) rfl rfl rfl (rplace_any (x := x) (y := y) (by_ := (hv i).by_) (id := (hv i).id) (c := vc) W15 (hH1.below E) hm) (ex_call (f := 25) (vs := [(.agg #[.int .i64 x, .int .i64 y, .slice (some ⟨b, p, none⟩) m vc]), (.int .i64 (hv i).by_), (.int .i64 (hv i).id)]) rfl (cf25 _) rfl) ?_
        rintro e W16 ⟨rfl, B⟩
        refine ⟨_, rfl, S.next B, ?_⟩
        simp only [Act.put, List.setIfInBounds_toArray, List.set_cons_zero, List.set_cons_succ]
        replace E := below_next E B
        replace k2 := keep B k2
        replace q0 := (B.cell (block_lt_of_cell q0)).trans q0
        replace q1 := (B.cell (block_lt_of_cell q1)).trans q1
        replace S := S.next B
        refine ah_take (v := (.tuple #[(.int .i64 (plN (hv i).by_ (hv i).id m hv)), (.bool (plB (hv i).by_ (hv i).id m hv))])) (i := 14) (some 81) rfl rfl (by kernel_rfl) (by kernel_rfl) (by kernel_rfl) rfl (fun W hK => ex_mv rfl rfl) S (fun c a w h => hQP c a _ _ w h) ?_
        simp only [Act.put, List.setIfInBounds_toArray, List.set_cons_zero, List.set_cons_succ]
        refine ah_take (v := (.int .i64 (plN (hv i).by_ (hv i).id m hv))) (i := 15) (some 96) rfl rfl (by kernel_rfl) (by kernel_rfl) (by kernel_rfl) rfl (fun W hK => ex_ext rfl rfl rfl) S (fun c a w h => hQP c a _ _ w h) ?_
        simp only [Act.put, List.setIfInBounds_toArray, List.set_cons_zero, List.set_cons_succ]
        refine ah_take (v := (.bool (plB (hv i).by_ (hv i).id m hv))) (i := 16) (some 97) rfl rfl (by kernel_rfl) (by kernel_rfl) (by kernel_rfl) rfl (fun W hK => ex_ext rfl rfl rfl) S (fun c a w h => hQP c a _ _ w h) ?_
        simp only [Act.put, List.setIfInBounds_toArray, List.set_cons_zero, List.set_cons_succ]
        refine ah_take (v := (.int .i64 (plN (hv i).by_ (hv i).id m hv))) (i := 17) (some 19) rfl rfl (by kernel_rfl) (by kernel_rfl) (by kernel_rfl) rfl (fun W hK => ex_asg rfl rfl) S (fun c a w h => hQP c a _ _ w h) ?_
        simp only [Act.put, List.setIfInBounds_toArray, List.set_cons_zero, List.set_cons_succ]
        refine ah_take (v := (.bool (plB (hv i).by_ (hv i).id m hv))) (i := 18) (some 20) rfl rfl (by kernel_rfl) (by kernel_rfl) (by kernel_rfl) rfl (fun W hK => ex_asg rfl rfl) S (fun c a w h => hQP c a _ _ w h) ?_
        simp only [Act.put, List.setIfInBounds_toArray, List.set_cons_zero, List.set_cons_succ]
        refine ah_done (by kernel_rfl) ?_
        clear hQP
        subst hQ
        clear S d_k2 d_q0 d_q1
        refine wp_seq ?_
        refine wl_in ?_
        refine wl_cap fun Q hQ => ?_
        refine st_to (v := (.int .i64 (plN (hv i).by_ (hv i).id m hv))) (some 98) rfl rfl (ex_mv rfl rfl) ?_
        simp only [Act.put, List.setIfInBounds_toArray, List.set_cons_zero, List.set_cons_succ]
        refine st_to (v := (.int .i64 (plN (hv i).by_ (hv i).id m hv))) (some 99) rfl rfl (ex_mv rfl rfl) ?_
        simp only [Act.put, List.setIfInBounds_toArray, List.set_cons_zero, List.set_cons_succ]
        refine st_to (v := (.bool false)) (some 100) rfl rfl (ex_bin (u := (.int .i64 (plN (hv i).by_ (hv i).id m hv))) (r := (.int .i64 (plN (hv i).by_ (hv i).id m hv))) rfl rfl rfl (eg3 _ _ _ _ _ _) (neq3 _ (decide_eq_false (fun e => e rfl)))) ?_
        simp only [Act.put, List.setIfInBounds_toArray, List.set_cons_zero, List.set_cons_succ]
        refine st_to (v := (.bool false)) (some 101) rfl rfl (ex_mv rfl rfl) ?_
        simp only [Act.put, List.setIfInBounds_toArray, List.set_cons_zero, List.set_cons_succ]
        refine st_to (v := (.bool (plB (hv i).by_ (hv i).id m hv))) (some 102) rfl rfl (ex_mv rfl rfl) ?_
        simp only [Act.put, List.setIfInBounds_toArray, List.set_cons_zero, List.set_cons_succ]
        refine st_to (v := (.bool (plB (hv i).by_ (hv i).id m hv))) (some 103) rfl rfl (ex_mv rfl rfl) ?_
        simp only [Act.put, List.setIfInBounds_toArray, List.set_cons_zero, List.set_cons_succ]
        refine st_to (v := (.bool false)) (some 104) rfl rfl (ex_bin (u := .bool (plB (hv i).by_ (hv i).id m hv)) (r := .bool (plB (hv i).by_ (hv i).id m hv)) rfl rfl rfl (eg4 _ _ _ _ _ _) (neqB _ _)) ?_
        simp only [Act.put, List.setIfInBounds_toArray, List.set_cons_zero, List.set_cons_succ]
        refine st_to (v := (.bool false)) (some 105) rfl rfl (ex_pkF rfl rfl rfl) ?_
        simp only [Act.put, List.setIfInBounds_toArray, List.set_cons_zero, List.set_cons_succ]
        refine st_end ?_
        subst hQ
        refine wp_cond_false rfl ?_
        refine wp_skip ?_
        refine wl_in ?_
        refine wl_cap fun Q hQ => ?_
        refine st_to (v := (.int .i64 (i : Nat))) (some 62) rfl rfl (ex_mv rfl rfl) ?_
        simp only [Act.put, List.setIfInBounds_toArray, List.set_cons_zero, List.set_cons_succ]
        refine st_to (v := (.int .i64 ((i + 1 : Nat) : Int))) (some 63) rfl rfl (ex_bin rfl rfl rfl (eg3 _ _ _ _ _ _) (add3 _ (by omega) (by omega))) ?_
        simp only [Act.put, List.setIfInBounds_toArray, List.set_cons_zero, List.set_cons_succ]
        refine st_to (v := (.int .i64 ((i + 1 : Nat) : Int))) (some 16) rfl rfl (ex_asg rfl rfl) ?_
        simp only [Act.put, List.setIfInBounds_toArray, List.set_cons_zero, List.set_cons_succ]
        refine st_end ?_
        subst hQ
        refine then_go ?_
        go_roundw
        case rel => exact ⟨i + 1, by omega, rfl, E, k2⟩
        case measure => simp [intOf]; omega
      · skip
        refine wp_seq ?_
        refine wp_seq ?_
        refine wl_in ?_
        refine wl_cap fun Q hQ => ?_
        refine st_to (v := (.int .i64 (i : Nat))) (some 57) rfl rfl (ex_mv rfl rfl) ?_
        simp only [Act.put, List.setIfInBounds_toArray, List.set_cons_zero, List.set_cons_succ]
        refine st_to (v := (.pointer (some ⟨b2, 2, none⟩))) (some 58) rfl rfl (ex_fa (p := (.pointer (some ⟨b2, 0, none⟩))) rfl rfl (fa29_2 _ _)) ?_
        simp only [Act.put, List.setIfInBounds_toArray, List.set_cons_zero, List.set_cons_succ]
        refine st_to (v := (.slice va m vc)) (some 59) rfl rfl (ex_load (p := (.pointer (some ⟨b2, 2, none⟩))) rfl rfl (ld27 (at_cell k2 rfl))) ?_
        simp only [Act.put, List.setIfInBounds_toArray, List.set_cons_zero, List.set_cons_succ]
        refine st_to (v := (.int .i64 (m : Nat))) (some 60) rfl rfl (ex_len rfl rfl (len27 _ _ _ _ _)) ?_
        simp only [Act.put, List.setIfInBounds_toArray, List.set_cons_zero, List.set_cons_succ]
        refine st_to (v := (.bool false)) (some 61) rfl rfl (ex_bin (u := (.int .i64 (i : Nat))) (r := (.int .i64 (m : Nat))) rfl rfl rfl (eg3 _ _ _ _ _ _) (lss3 _ (decide_eq_false (by omega)))) ?_
        simp only [Act.put, List.setIfInBounds_toArray, List.set_cons_zero, List.set_cons_succ]
        refine st_end ?_
        subst hQ
        refine wp_cond_false rfl ?_
        refine wp_exit ?_
        refine ex_then ?_
        refine ex_then ?_
        refine ex_blk ?_
        refine wp_seq ?_
        refine wl_in ?_
        refine wl_cap fun Q hQ => ?_
        refine st_to (v := (.agg #[.int .i64 x, .int .i64 y, .slice va m vc])) (some 107) rfl rfl (ex_load (p := (.pointer (some ⟨b2, 0, none⟩))) rfl rfl (ld_all k2 Try.underlying29 rfl inf29)) ?_
        simp only [Act.put, List.setIfInBounds_toArray, List.set_cons_zero, List.set_cons_succ]
        refine st_to (v := (.int .i64 s)) (some 108) rfl rfl (ex_mv rfl rfl) ?_
        simp only [Act.put, List.setIfInBounds_toArray, List.set_cons_zero, List.set_cons_succ]
        refine st_call (some 109) rfl rfl (place_any (x := x) (y := y) (by_ := 9) (id := s) (c := vc) wr (hH.below E) hm) (ex_call (f := 24) (vs := [(.agg #[.int .i64 x, .int .i64 y, .slice va m vc]), (.int .i64 9), (.int .i64 s)]) rfl (cf24 _) rfl) ?_
        rintro e W17 ⟨rfl, B⟩
        refine ⟨_, rfl, ?_⟩
        simp only [Act.put, List.setIfInBounds_toArray, List.set_cons_zero, List.set_cons_succ]
        replace E := below_next E B
        replace k2 := keep B k2
        refine st_to (v := (.tuple #[(.int .i64 (plN 9 s m hv)), (.bool (plB 9 s m hv))])) (some 106) rfl rfl (ex_mv rfl rfl) ?_
        simp only [Act.put, List.setIfInBounds_toArray, List.set_cons_zero, List.set_cons_succ]
        refine st_to (v := (.int .i64 (plN 9 s m hv))) (some 110) rfl rfl (ex_ext rfl rfl rfl) ?_
        simp only [Act.put, List.setIfInBounds_toArray, List.set_cons_zero, List.set_cons_succ]
        refine st_to (v := (.bool (plB 9 s m hv))) (some 111) rfl rfl (ex_ext rfl rfl rfl) ?_
        simp only [Act.put, List.setIfInBounds_toArray, List.set_cons_zero, List.set_cons_succ]
        refine st_to (v := (.int .i64 (plN 9 s m hv))) (some 21) rfl rfl (ex_asg rfl rfl) ?_
        simp only [Act.put, List.setIfInBounds_toArray, List.set_cons_zero, List.set_cons_succ]
        refine st_to (v := (.bool (plB 9 s m hv))) (some 22) rfl rfl (ex_asg rfl rfl) ?_
        simp only [Act.put, List.setIfInBounds_toArray, List.set_cons_zero, List.set_cons_succ]
        refine st_end ?_
        subst hQ
        refine wp_seq ?_
        refine wl_in ?_
        refine wl_cap fun Q hQ => ?_
        refine st_to (v := (.agg #[.int .i64 x, .int .i64 y, .slice va m vc])) (some 113) rfl rfl (ex_load (p := (.pointer (some ⟨b2, 0, none⟩))) rfl rfl (ld_all k2 Try.underlying29 rfl inf29)) ?_
        simp only [Act.put, List.setIfInBounds_toArray, List.set_cons_zero, List.set_cons_succ]
        refine st_to (v := (.int .i64 s)) (some 114) rfl rfl (ex_mv rfl rfl) ?_
        simp only [Act.put, List.setIfInBounds_toArray, List.set_cons_zero, List.set_cons_succ]
        refine st_call (some 115) rfl rfl (rplace_any (x := x) (y := y) (by_ := 9) (id := s) (c := vc) W17 (hH.below E) hm) (ex_call (f := 25) (vs := [(.agg #[.int .i64 x, .int .i64 y, .slice va m vc]), (.int .i64 9), (.int .i64 s)]) rfl (cf25 _) rfl) ?_
        rintro e W18 ⟨rfl, B⟩
        refine ⟨_, rfl, ?_⟩
        simp only [Act.put, List.setIfInBounds_toArray, List.set_cons_zero, List.set_cons_succ]
        replace E := below_next E B
        replace k2 := keep B k2
        refine st_to (v := (.tuple #[(.int .i64 (plN 9 s m hv)), (.bool (plB 9 s m hv))])) (some 112) rfl rfl (ex_mv rfl rfl) ?_
        simp only [Act.put, List.setIfInBounds_toArray, List.set_cons_zero, List.set_cons_succ]
        refine st_to (v := (.int .i64 (plN 9 s m hv))) (some 116) rfl rfl (ex_ext rfl rfl rfl) ?_
        simp only [Act.put, List.setIfInBounds_toArray, List.set_cons_zero, List.set_cons_succ]
        refine st_to (v := (.bool (plB 9 s m hv))) (some 117) rfl rfl (ex_ext rfl rfl rfl) ?_
        simp only [Act.put, List.setIfInBounds_toArray, List.set_cons_zero, List.set_cons_succ]
        refine st_to (v := (.int .i64 (plN 9 s m hv))) (some 23) rfl rfl (ex_asg rfl rfl) ?_
        simp only [Act.put, List.setIfInBounds_toArray, List.set_cons_zero, List.set_cons_succ]
        refine st_to (v := (.bool (plB 9 s m hv))) (some 24) rfl rfl (ex_asg rfl rfl) ?_
        simp only [Act.put, List.setIfInBounds_toArray, List.set_cons_zero, List.set_cons_succ]
        refine st_end ?_
        subst hQ
        refine wp_seq ?_
        refine wl_in ?_
        refine wl_cap fun Q hQ => ?_
        refine st_to (v := (.int .i64 (plN 9 s m hv))) (some 118) rfl rfl (ex_mv rfl rfl) ?_
        simp only [Act.put, List.setIfInBounds_toArray, List.set_cons_zero, List.set_cons_succ]
        refine st_to (v := (.int .i64 (plN 9 s m hv))) (some 119) rfl rfl (ex_mv rfl rfl) ?_
        simp only [Act.put, List.setIfInBounds_toArray, List.set_cons_zero, List.set_cons_succ]
        refine st_to (v := (.bool true)) (some 120) rfl rfl (ex_bin (u := (.int .i64 (plN 9 s m hv))) (r := (.int .i64 (plN 9 s m hv))) rfl rfl rfl (eg3 _ _ _ _ _ _) (eql3 _ (decide_eq_true rfl))) ?_
        simp only [Act.put, List.setIfInBounds_toArray, List.set_cons_zero, List.set_cons_succ]
        refine st_to (v := (.bool true)) (some 121) rfl rfl (ex_mv rfl rfl) ?_
        simp only [Act.put, List.setIfInBounds_toArray, List.set_cons_zero, List.set_cons_succ]
        refine st_to (v := (.bool (plB 9 s m hv))) (some 122) rfl rfl (ex_mv rfl rfl) ?_
        simp only [Act.put, List.setIfInBounds_toArray, List.set_cons_zero, List.set_cons_succ]
        refine st_to (v := (.bool (plB 9 s m hv))) (some 123) rfl rfl (ex_mv rfl rfl) ?_
        simp only [Act.put, List.setIfInBounds_toArray, List.set_cons_zero, List.set_cons_succ]
        refine st_to (v := (.bool true)) (some 124) rfl rfl (ex_bin (u := .bool (plB 9 s m hv)) (r := .bool (plB 9 s m hv)) rfl rfl rfl (eg4 _ _ _ _ _ _) (eqlB _ _)) ?_
        simp only [Act.put, List.setIfInBounds_toArray, List.set_cons_zero, List.set_cons_succ]
        refine st_to (v := (.bool true)) (some 125) rfl rfl (ex_pkT rfl rfl rfl) ?_
        simp only [Act.put, List.setIfInBounds_toArray, List.set_cons_zero, List.set_cons_succ]
        refine st_to (v := (.bool true)) (some 10) rfl rfl (ex_asg rfl rfl) ?_
        simp only [Act.put, List.setIfInBounds_toArray, List.set_cons_zero, List.set_cons_succ]
        refine st_end ?_
        subst hQ
        refine wp_ret ?_
        refine bodyPost_ret (results_tmp Try.results4 _ _ _) rfl ⟨rfl, E⟩
  · skip
    have E : Below w.heap.size w w := Below.refl _ _
    go_enter Try.func4, Try.ntmps4
    refine wp_seq ?_
    refine wl_in ?_
    refine wl_cap fun Q hQ => ?_
    refine st_new (fun b => .pointer (some ⟨b, 0, none⟩)) (some 5) rfl rfl (ex_box rfl rfl) ?_
    intro b1 W1 k1 g1 B
    simp only [Act.put, List.setIfInBounds_toArray, List.set_cons_zero, List.set_cons_succ]
    have ge_b1 := Nat.le_trans E.size g1
    replace E := below_next E B
    clear B
    refine st_new (fun b => .pointer (some ⟨b, 0, none⟩)) (some 9) rfl rfl (ex_box rfl rfl) ?_
    intro b2 W2 k2 g2 B
    simp only [Act.put, List.setIfInBounds_toArray, List.set_cons_zero, List.set_cons_succ]
    have ne_b2_b1 : b2 ≠ b1 := fun e => by have := lt_of k1; omega
    have ge_b2 := Nat.le_trans E.size g2
    replace E := below_next E B
    replace k1 := keep B k1
    clear B
    refine st_to (v := (.bool false)) (some 10) rfl rfl (ex_asg rfl rfl) ?_
    simp only [Act.put, List.setIfInBounds_toArray, List.set_cons_zero, List.set_cons_succ]
    refine st_end ?_
    subst hQ
    refine wp_seq ?_
    refine wl_in ?_
    refine wl_cap fun Q hQ => ?_
    refine st_new (fun b => .slice (some ⟨b, 0, none⟩) 0 0) (some 25) rfl rfl (ex_bsl0  rfl (bs31_0 _)) ?_
    intro b3 W3 k3 g3 B
    simp only [Act.put, List.setIfInBounds_toArray, List.set_cons_zero, List.set_cons_succ]
    have ne_b3_b1 : b3 ≠ b1 := fun e => by have := lt_of k1; omega
    have ne_b3_b2 : b3 ≠ b2 := fun e => by have := lt_of k2; omega
    have ge_b3 := Nat.le_trans E.size g3
    replace E := below_next E B
    replace k1 := keep B k1
    replace k2 := keep B k2
    clear B
    refine st_to (v := (.slice ao n c)) (some 26) rfl rfl (ex_mv rfl rfl) ?_
    simp only [Act.put, List.setIfInBounds_toArray, List.set_cons_zero, List.set_cons_succ]
    obtain ⟨g27, cap27, W4, hrun, R27, K⟩ := app_list k3 ge_b3 (hI.below E) hIs hN E.size
    refine st_to (v := (.slice (some ⟨g27, 0, none⟩) n cap27)) (some 27) rfl rfl (ex_app rfl rfl rfl hrun) ?_
    simp only [Act.put, List.setIfInBounds_toArray, List.set_cons_zero, List.set_cons_succ]
    replace E := below_put E ge_b3 K
    replace k1 := keepK K k1 (fun e => ne_tag k1 k3 (by decide) e)
    replace k2 := keepK K k2 (fun e => ne_tag k2 k3 (by decide) e)
    clear k3 K hrun
    refine st_to (v := (.slice (some ⟨g27, 0, none⟩) n cap27)) (some 11) rfl rfl (ex_asg rfl rfl) ?_
    simp only [Act.put, List.setIfInBounds_toArray, List.set_cons_zero, List.set_cons_succ]
    refine st_end ?_
    subst hQ
    refine wp_seq ?_
    refine wl_in ?_
    refine wl_cap fun Q hQ => ?_
    refine st_to (v := (.agg C)) (some 29) rfl rfl (ex_load (p := (.pointer (some ⟨b1, 0, none⟩))) rfl rfl (ld_all k1 Try.underlying26 rfl (inf26.trans (congrArg some (hT.size).symm)))) ?_
    simp only [Act.put, List.setIfInBounds_toArray, List.set_cons_zero, List.set_cons_succ]
    refine st_to (v := (.int .i64 nd)) (some 30) rfl rfl (ex_mv rfl rfl) ?_
    simp only [Act.put, List.setIfInBounds_toArray, List.set_cons_zero, List.set_cons_succ]
    refine st_to (v := (.slice (some ⟨g27, 0, none⟩) n cap27)) (some 31) rfl rfl (ex_mv rfl rfl) ?_
    simp only [Act.put, List.setIfInBounds_toArray, List.set_cons_zero, List.set_cons_succ]
    refine st_to (v := (.int .i64 s)) (some 32) rfl rfl (ex_mv rfl rfl) ?_
    simp only [Act.put, List.setIfInBounds_toArray, List.set_cons_zero, List.set_cons_succ]
    refine st_call (some 33) rfl rfl (claim_no W4 hT hb R27.insS hIs hN hs hok) (ex_call (f := 22) (vs := [(.agg C), (.int .i64 nd), (.slice (some ⟨g27, 0, none⟩) n cap27), (.int .i64 s)]) rfl (cf22 _) rfl) ?_
    rintro e W5 ⟨rfl, B⟩
    refine ⟨_, rfl, ?_⟩
    simp only [Act.put, List.setIfInBounds_toArray, List.set_cons_zero, List.set_cons_succ]
    replace E := below_next E B
    replace k1 := keep B k1
    replace k2 := keep B k2
    replace R27 := R27.keep B
    refine st_to (v := (.tuple #[(.agg #[.slice none 0 0, .slice none 0 0]), (.int .i64 1)])) (some 28) rfl rfl (ex_mv rfl rfl) ?_
    simp only [Act.put, List.setIfInBounds_toArray, List.set_cons_zero, List.set_cons_succ]
    refine st_to (v := (.agg #[.slice none 0 0, .slice none 0 0])) (some 34) rfl rfl (ex_ext rfl rfl rfl) ?_
    simp only [Act.put, List.setIfInBounds_toArray, List.set_cons_zero, List.set_cons_succ]
    refine st_to (v := (.int .i64 1)) (some 35) rfl rfl (ex_ext rfl rfl rfl) ?_
    simp only [Act.put, List.setIfInBounds_toArray, List.set_cons_zero, List.set_cons_succ]
    refine st_new (fun b => .pointer (some ⟨b, 0, none⟩)) (some 12) rfl rfl (ex_alloc rfl zero34) ?_
    intro b4 W6 k4 g4 B
    simp only [Act.put, List.setIfInBounds_toArray, List.set_cons_zero, List.set_cons_succ]
    have ne_b4_b1 : b4 ≠ b1 := fun e => by have := lt_of k1; omega
    have ne_b4_b2 : b4 ≠ b2 := fun e => by have := lt_of k2; omega
    have ge_b4 := Nat.le_trans E.size g4
    replace E := below_next E B
    replace k1 := keep B k1
    replace k2 := keep B k2
    replace R27 := R27.keep B
    clear B
    obtain ⟨W7, hst, kn, K⟩ := put_all (D := #[.slice none 0 0, .slice none 0 0]) k4 rfl inf34 (by kernel_rfl)
    refine st_sk rfl rfl (ex_store rfl rfl rfl hst) ?_
    replace E := below_put E ge_b4 K
    replace k1 := keepK K k1 (fun e => ne_tag k1 k4 (by decide) e)
    replace k2 := keepK K k2 (fun e => ne_tag k2 k4 (by decide) e)
    replace R27 := R27.keepK K (fun e => R27.ne k4 (by decide) e)
    replace k4 := kn
    clear kn K hst
    refine st_to (v := (.int .i64 1)) (some 13) rfl rfl (ex_asg rfl rfl) ?_
    simp only [Act.put, List.setIfInBounds_toArray, List.set_cons_zero, List.set_cons_succ]
    refine st_end ?_
    subst hQ
    refine wp_seq ?_
    refine wl_in ?_
    refine wl_cap fun Q hQ => ?_
    refine st_to (v := (.agg C)) (some 37) rfl rfl (ex_load (p := (.pointer (some ⟨b1, 0, none⟩))) rfl rfl (ld_all k1 Try.underlying26 rfl (inf26.trans (congrArg some (hT.size).symm)))) ?_
    simp only [Act.put, List.setIfInBounds_toArray, List.set_cons_zero, List.set_cons_succ]
    refine st_to (v := (.int .i64 nd)) (some 38) rfl rfl (ex_mv rfl rfl) ?_
    simp only [Act.put, List.setIfInBounds_toArray, List.set_cons_zero, List.set_cons_succ]
    refine st_to (v := (.slice ao n c)) (some 39) rfl rfl (ex_mv rfl rfl) ?_
    simp only [Act.put, List.setIfInBounds_toArray, List.set_cons_zero, List.set_cons_succ]
    refine st_to (v := (.int .i64 s)) (some 40) rfl rfl (ex_mv rfl rfl) ?_
    simp only [Act.put, List.setIfInBounds_toArray, List.set_cons_zero, List.set_cons_succ]
    refine st_call (some 41) rfl rfl (rclaim_no W7 hT hb (hI.below E) hIs hN hs hok) (ex_call (f := 23) (vs := [(.agg C), (.int .i64 nd), (.slice ao n c), (.int .i64 s)]) rfl (cf23 _) rfl) ?_
    rintro e W8 ⟨rfl, B⟩
    refine ⟨_, rfl, ?_⟩
    simp only [Act.put, List.setIfInBounds_toArray, List.set_cons_zero, List.set_cons_succ]
    replace E := below_next E B
    replace k1 := keep B k1
    replace k2 := keep B k2
    replace R27 := R27.keep B
    replace k4 := keep B k4
    refine st_to (v := (.tuple #[(.agg #[.slice none 0 0, .slice none 0 0]), (.int .i64 1)])) (some 36) rfl rfl (ex_mv rfl rfl) ?_
    simp only [Act.put, List.setIfInBounds_toArray, List.set_cons_zero, List.set_cons_succ]
    refine st_to (v := (.agg #[.slice none 0 0, .slice none 0 0])) (some 42) rfl rfl (ex_ext rfl rfl rfl) ?_
    simp only [Act.put, List.setIfInBounds_toArray, List.set_cons_zero, List.set_cons_succ]
    refine st_to (v := (.int .i64 1)) (some 43) rfl rfl (ex_ext rfl rfl rfl) ?_
    simp only [Act.put, List.setIfInBounds_toArray, List.set_cons_zero, List.set_cons_succ]
    refine st_new (fun b => .pointer (some ⟨b, 0, none⟩)) (some 14) rfl rfl (ex_alloc rfl zero34) ?_
    intro b5 W9 k5 g5 B
    simp only [Act.put, List.setIfInBounds_toArray, List.set_cons_zero, List.set_cons_succ]
    have ne_b5_b1 : b5 ≠ b1 := fun e => by have := lt_of k1; omega
    have ne_b5_b2 : b5 ≠ b2 := fun e => by have := lt_of k2; omega
    have ne_b5_b4 : b5 ≠ b4 := fun e => by have := lt_of k4; omega
    have ge_b5 := Nat.le_trans E.size g5
    replace E := below_next E B
    replace k1 := keep B k1
    replace k2 := keep B k2
    replace R27 := R27.keep B
    replace k4 := keep B k4
    clear B
    obtain ⟨W10, hst, kn, K⟩ := put_all (D := #[.slice none 0 0, .slice none 0 0]) k5 rfl inf34 (by kernel_rfl)
    refine st_sk rfl rfl (ex_store rfl rfl rfl hst) ?_
    replace E := below_put E ge_b5 K
    replace k1 := keepK K k1 (fun e => ne_tag k1 k5 (by decide) e)
    replace k2 := keepK K k2 (fun e => ne_tag k2 k5 (by decide) e)
    replace R27 := R27.keepK K (fun e => R27.ne k5 (by decide) e)
    replace k4 := keepK K k4 (fun e => by first | exact ne_b4_b5 e | exact ne_b5_b4 e.symm)
    replace k5 := kn
    clear kn K hst
    refine st_to (v := (.int .i64 1)) (some 15) rfl rfl (ex_asg rfl rfl) ?_
    simp only [Act.put, List.setIfInBounds_toArray, List.set_cons_zero, List.set_cons_succ]
    refine st_end ?_
    subst hQ
    refine wp_seq ?_
    refine wp_seq ?_
    refine wl_in ?_
    refine wl_cap fun Q hQ => ?_
    refine st_call (some 44) rfl rfl (lives_any W10) (ex_call (f := 10) (vs := []) rfl (cf10 _) rfl) ?_
    rintro e W11 ⟨rfl, B⟩
    refine ⟨_, rfl, ?_⟩
    simp only [Act.put, List.setIfInBounds_toArray, List.set_cons_zero, List.set_cons_succ]
    replace E := below_next E B
    replace k1 := keep B k1
    replace k2 := keep B k2
    replace R27 := R27.keep B
    replace k4 := keep B k4
    replace k5 := keep B k5
    refine st_to (v := (.bool false)) (some 45) rfl rfl (ex_not rfl rfl rfl) ?_
    simp only [Act.put, List.setIfInBounds_toArray, List.set_cons_zero, List.set_cons_succ]
    refine st_to (v := (.bool false)) (some 46) rfl rfl (ex_mv rfl rfl) ?_
    simp only [Act.put, List.setIfInBounds_toArray, List.set_cons_zero, List.set_cons_succ]
    refine st_to (v := (.agg #[.slice none 0 0, .slice none 0 0])) (some 47) rfl rfl (ex_load (p := (.pointer (some ⟨b4, 0, none⟩))) rfl rfl (ld_all k4 Try.underlying34 rfl inf34)) ?_
    simp only [Act.put, List.setIfInBounds_toArray, List.set_cons_zero, List.set_cons_succ]
    refine st_to (v := (.agg #[.slice none 0 0, .slice none 0 0])) (some 48) rfl rfl (ex_load (p := (.pointer (some ⟨b5, 0, none⟩))) rfl rfl (ld_all k5 Try.underlying34 rfl inf34)) ?_
    simp only [Act.put, List.setIfInBounds_toArray, List.set_cons_zero, List.set_cons_succ]
    refine st_call (some 49) rfl rfl (same_ok W11 (by decide) (by decide) ⟨.inl rfl, .inl rfl⟩) (ex_call (f := 11) (vs := [(.agg #[.slice none 0 0, .slice none 0 0]), (.agg #[.slice none 0 0, .slice none 0 0])]) rfl (cf11 _) rfl) ?_
    rintro e W12 ⟨rfl, B⟩
    refine ⟨_, rfl, ?_⟩
    simp only [Act.put, List.setIfInBounds_toArray, List.set_cons_zero, List.set_cons_succ]
    replace E := below_next E B
    replace k1 := keep B k1
    replace k2 := keep B k2
    replace R27 := R27.keep B
    replace k4 := keep B k4
    replace k5 := keep B k5
    refine st_to (v := (.bool false)) (some 50) rfl rfl (ex_not rfl rfl rfl) ?_
    simp only [Act.put, List.setIfInBounds_toArray, List.set_cons_zero, List.set_cons_succ]
    refine st_to (v := (.bool false)) (some 51) rfl rfl (ex_pkF rfl rfl rfl) ?_
    simp only [Act.put, List.setIfInBounds_toArray, List.set_cons_zero, List.set_cons_succ]
    refine st_to (v := (.bool false)) (some 52) rfl rfl (ex_mv rfl rfl) ?_
    simp only [Act.put, List.setIfInBounds_toArray, List.set_cons_zero, List.set_cons_succ]
    refine st_to (v := (.int .i64 1)) (some 53) rfl rfl (ex_mv rfl rfl) ?_
    simp only [Act.put, List.setIfInBounds_toArray, List.set_cons_zero, List.set_cons_succ]
    refine st_to (v := (.int .i64 1)) (some 54) rfl rfl (ex_mv rfl rfl) ?_
    simp only [Act.put, List.setIfInBounds_toArray, List.set_cons_zero, List.set_cons_succ]
    refine st_to (v := (.bool false)) (some 55) rfl rfl (ex_bin (u := (.int .i64 1)) (r := (.int .i64 1)) rfl rfl rfl (eg35 _ _ _ _ _ _) (neq35 _ (by decide))) ?_
    simp only [Act.put, List.setIfInBounds_toArray, List.set_cons_zero, List.set_cons_succ]
    refine st_to (v := (.bool false)) (some 56) rfl rfl (ex_pkF rfl rfl rfl) ?_
    simp only [Act.put, List.setIfInBounds_toArray, List.set_cons_zero, List.set_cons_succ]
    refine st_end ?_
    subst hQ
    refine wp_cond_false rfl ?_
    refine wp_skip ?_
    refine wp_seq ?_
    refine wp_seq ?_
    refine wl_in ?_
    refine wl_cap fun Q hQ => ?_
    refine st_to (v := (.int .i64 0)) (some 16) rfl rfl (ex_asg rfl rfl) ?_
    simp only [Act.put, List.setIfInBounds_toArray, List.set_cons_zero, List.set_cons_succ]
    refine st_end ?_
    subst hQ
    refine wp_block ?_
    go_loopw [16] (fun v16 wr => ∃ i : Nat, i ≤ m ∧ v16 = .int .i64 i ∧ Below w.heap.size w wr ∧ wr.heap[b2]? = some (.cells #[.int .i64 x, .int .i64 y, .slice va m vc] 29)) (fun v16 _ => m - (intOf v16).toNat)
    case atStart => exact ⟨0, Nat.zero_le _, rfl, E, k2⟩
    case round =>
      clear E k2
      obtain ⟨i, hi, rfl, E, k2⟩ := hrel
      by_cases hlt : i < m
      · have hH1 := hH
        rcases hH with hh | ⟨b, p, rfl, hh⟩
        · omega
        have HC := hh i hlt
        have HR := range_below HC.2 E
        have q0 := range_at0 HR HC.1.c0
        have q1 := range_at HR HC.1.c1
        clear HR
        refine wp_seq ?_
        refine wp_seq ?_
        refine wl_in ?_
        refine wl_cap fun Q hQ => ?_
        refine st_to (v := (.int .i64 (i : Nat))) (some 57) rfl rfl (ex_mv rfl rfl) ?_
        simp only [Act.put, List.setIfInBounds_toArray, List.set_cons_zero, List.set_cons_succ]
        refine st_to (v := (.pointer (some ⟨b2, 2, none⟩))) (some 58) rfl rfl (ex_fa (p := (.pointer (some ⟨b2, 0, none⟩))) rfl rfl (fa29_2 _ _)) ?_
        simp only [Act.put, List.setIfInBounds_toArray, List.set_cons_zero, List.set_cons_succ]
        refine st_to (v := (.slice (some ⟨b, p, none⟩) m vc)) (some 59) rfl rfl (ex_load (p := (.pointer (some ⟨b2, 2, none⟩))) rfl rfl (ld27 (at_cell k2 rfl))) ?_
        simp only [Act.put, List.setIfInBounds_toArray, List.set_cons_zero, List.set_cons_succ]
        refine st_to (v := (.int .i64 (m : Nat))) (some 60) rfl rfl (ex_len rfl rfl (len27 _ _ _ _ _)) ?_
        simp only [Act.put, List.setIfInBounds_toArray, List.set_cons_zero, List.set_cons_succ]
        refine st_to (v := (.bool true)) (some 61) rfl rfl (ex_bin (u := (.int .i64 (i : Nat))) (r := (.int .i64 (m : Nat))) rfl rfl rfl (eg3 _ _ _ _ _ _) (lss3 _ (decide_eq_true (by omega)))) ?_
        simp only [Act.put, List.setIfInBounds_toArray, List.set_cons_zero, List.set_cons_succ]
        refine st_end ?_
        subst hQ
        refine wp_cond_true rfl ?_
        refine wp_skip ?_
        refine wp_seq ?_
        refine wp_block ?_
        refine wp_seq ?_
        obtain ⟨W13, hwd⟩ : ∃ wd, wr.drew = wd := ⟨_, rfl⟩
        refine wp_region_held (S := fun W => Kept Nil W13 W) (by kernel_rfl) ?_
        show wpAnyH _ _ _ _ _ _ _ _ wr.drew
        rw [hwd]
        refine capQ fun Q hQ => ?_
        have hQP : ∀ c (a : Act) (d : Nat) v w, Q (.panic c) (a.put (some d) v) w → Q (.panic c) a w := by
          subst hQ
          exact fun _ _ _ _ _ h => h
        have BD : Below wr.heap.size wr W13 := by rw [← hwd]; exact below_drew (Below.refl _ _)
        clear hwd
        replace E := below_next E BD
        replace k2 := keep BD k2
        replace q0 := (BD.cell (block_lt_of_cell q0)).trans q0
        replace q1 := (BD.cell (block_lt_of_cell q1)).trans q1
        clear BD
        have S : Kept Nil W13 W13 := Kept.refl _ _
        have d_k2 := k2
        have d_q0 := q0
        have d_q1 := q1
        refine ah_take (v := (.agg #[.int .i64 x, .int .i64 y, .slice (some ⟨b, p, none⟩) m vc])) (i := 0) (some 65) rfl rfl (by kernel_rfl) (by kernel_rfl) (by kernel_rfl) rfl (fun W hK => ex_load (p := (.pointer (some ⟨b2, 0, none⟩))) rfl rfl (ld_all (keepK hK d_k2 (nilN _)) Try.underlying29 rfl inf29)) S (fun c a w h => hQP c a _ _ w h) ?_
        simp only [Act.put, List.setIfInBounds_toArray, List.set_cons_zero, List.set_cons_succ]
        refine ah_take (v := (.pointer (some ⟨b2, 2, none⟩))) (i := 1) (some 66) rfl rfl (by kernel_rfl) (by kernel_rfl) (by kernel_rfl) rfl (fun W hK => ex_fa (p := (.pointer (some ⟨b2, 0, none⟩))) rfl rfl (fa29_2 _ _)) S (fun c a w h => hQP c a _ _ w h) ?_
        simp only [Act.put, List.setIfInBounds_toArray, List.set_cons_zero, List.set_cons_succ]
        refine ah_take (v := (.slice (some ⟨b, p, none⟩) m vc)) (i := 2) (some 67) rfl rfl (by kernel_rfl) (by kernel_rfl) (by kernel_rfl) rfl (fun W hK => ex_load (p := (.pointer (some ⟨b2, 2, none⟩))) rfl rfl (ld27 (at_cell (keepK hK d_k2 (nilN _)) rfl))) S (fun c a w h => hQP c a _ _ w h) ?_
        simp only [Act.put, List.setIfInBounds_toArray, List.set_cons_zero, List.set_cons_succ]
        refine ah_take (v := (.int .i64 (i : Nat))) (i := 3) (some 68) rfl rfl (by kernel_rfl) (by kernel_rfl) (by kernel_rfl) rfl (fun W hK => ex_mv rfl rfl) S (fun c a w h => hQP c a _ _ w h) ?_
        simp only [Act.put, List.setIfInBounds_toArray, List.set_cons_zero, List.set_cons_succ]
        refine ah_take (v := (.pointer (some ⟨b, (p + i * 36), none⟩))) (i := 4) (some 69) rfl rfl (by kernel_rfl) (by kernel_rfl) (by kernel_rfl) rfl (fun W hK => ex_ix27 rfl rfl rfl hlt) S (fun c a w h => hQP c a _ _ w h) ?_
        simp only [Act.put, List.setIfInBounds_toArray, List.set_cons_zero, List.set_cons_succ]
        refine ah_take (v := (.pointer (some ⟨b, (p + i * 36), none⟩))) (i := 5) (some 70) rfl rfl (by kernel_rfl) (by kernel_rfl) (by kernel_rfl) rfl (fun W hK => ex_fa rfl rfl (faH0 _ _ _)) S (fun c a w h => hQP c a _ _ w h) ?_
        simp only [Act.put, List.setIfInBounds_toArray, List.set_cons_zero, List.set_cons_succ]
        refine ah_take (v := (.int .i64 (hv i).by_)) (i := 6) (some 71) rfl rfl (by kernel_rfl) (by kernel_rfl) (by kernel_rfl) rfl (fun W hK => ex_load rfl rfl (ld3 (cell_kept hK d_q0))) S (fun c a w h => hQP c a _ _ w h) ?_
        simp only [Act.put, List.setIfInBounds_toArray, List.set_cons_zero, List.set_cons_succ]
        refine ah_take (v := (.pointer (some ⟨b2, 2, none⟩))) (i := 7) (some 72) rfl rfl (by kernel_rfl) (by kernel_rfl) (by kernel_rfl) rfl (fun W hK => ex_fa (p := (.pointer (some ⟨b2, 0, none⟩))) rfl rfl (fa29_2 _ _)) S (fun c a w h => hQP c a _ _ w h) ?_
        simp only [Act.put, List.setIfInBounds_toArray, List.set_cons_zero, List.set_cons_succ]
        refine ah_take (v := (.slice (some ⟨b, p, none⟩) m vc)) (i := 8) (some 73) rfl rfl (by kernel_rfl) (by kernel_rfl) (by kernel_rfl) rfl (fun W hK => ex_load (p := (.pointer (some ⟨b2, 2, none⟩))) rfl rfl (ld27 (at_cell (keepK hK d_k2 (nilN _)) rfl))) S (fun c a w h => hQP c a _ _ w h) ?_
        simp only [Act.put, List.setIfInBounds_toArray, List.set_cons_zero, List.set_cons_succ]
        refine ah_take (v := (.int .i64 (i : Nat))) (i := 9) (some 74) rfl rfl (by kernel_rfl) (by kernel_rfl) (by kernel_rfl) rfl (fun W hK => ex_mv rfl rfl) S (fun c a w h => hQP c a _ _ w h) ?_
        simp only [Act.put, List.setIfInBounds_toArray, List.set_cons_zero, List.set_cons_succ]
        refine ah_take (v := (.pointer (some ⟨b, (p + i * 36), none⟩))) (i := 10) (some 75) rfl rfl (by kernel_rfl) (by kernel_rfl) (by kernel_rfl) rfl (fun W hK => ex_ix27 rfl rfl rfl hlt) S (fun c a w h => hQP c a _ _ w h) ?_
        simp only [Act.put, List.setIfInBounds_toArray, List.set_cons_zero, List.set_cons_succ]
        refine ah_take (v := (.pointer (some ⟨b, (p + i * 36 + 1), none⟩))) (i := 11) (some 76) rfl rfl (by kernel_rfl) (by kernel_rfl) (by kernel_rfl) rfl (fun W hK => ex_fa rfl rfl (faH1 _ _ _)) S (fun c a w h => hQP c a _ _ w h) ?_
        simp only [Act.put, List.setIfInBounds_toArray, List.set_cons_zero, List.set_cons_succ]
        refine ah_take (v := (.int .i64 (hv i).id)) (i := 12) (some 77) rfl rfl (by kernel_rfl) (by kernel_rfl) (by kernel_rfl) rfl (fun W hK => ex_load rfl rfl (ld3 (cell_kept hK d_q1))) S (fun c a w h => hQP c a _ _ w h) ?_
        simp only [Act.put, List.setIfInBounds_toArray, List.set_cons_zero, List.set_cons_succ]
        refine ah_or1 (i := 13) (by kernel_rfl) ?_
        refine nx_call (some 78) rfl rfl rfl (place_any (x := x) (y := y) (by_ := (hv i).by_) (id := (hv i).id) (c := vc) W13 (hH1.below E) hm) (ex_call (f := 24) (vs := [(.agg #[.int .i64 x, .int .i64 y, .slice (some ⟨b, p, none⟩) m vc]), (.int .i64 (hv i).by_), (.int .i64 (hv i).id)]) rfl (cf24 _) rfl) ?_
        rintro e W14 ⟨rfl, B⟩
        refine ⟨_, rfl, S.next B, ?_⟩
        simp only [Act.put, List.setIfInBounds_toArray, List.set_cons_zero, List.set_cons_succ]
        replace E := below_next E B
        replace k2 := keep B k2
        replace q0 := (B.cell (block_lt_of_cell q0)).trans q0
        replace q1 := (B.cell (block_lt_of_cell q1)).trans q1
        replace S := S.next B
        refine ah_take (v := (.tuple #[(.int .i64 (plN (hv i).by_ (hv i).id m hv)), (.bool (plB (hv i).by_ (hv i).id m hv))])) (i := 14) (some 64) rfl rfl (by kernel_rfl) (by kernel_rfl) (by kernel_rfl) rfl (fun W hK => ex_mv rfl rfl) S (fun c a w h => hQP c a _ _ w h) ?_
        simp only [Act.put, List.setIfInBounds_toArray, List.set_cons_zero, List.set_cons_succ]
        refine ah_take (v := (.int .i64 (plN (hv i).by_ (hv i).id m hv))) (i := 15) (some 79) rfl rfl (by kernel_rfl) (by kernel_rfl) (by kernel_rfl) rfl (fun W hK => ex_ext rfl rfl rfl) S (fun c a w h => hQP c a _ _ w h) ?_
        simp only [Act.put, List.setIfInBounds_toArray, List.set_cons_zero, List.set_cons_succ]
        refine ah_take (v := (.bool (plB (hv i).by_ (hv i).id m hv))) (i := 16) (some 80) rfl rfl (by kernel_rfl) (by kernel_rfl) (by kernel_rfl) rfl (fun W hK => ex_ext rfl rfl rfl) S (fun c a w h => hQP c a _ _ w h) ?_
        simp only [Act.put, List.setIfInBounds_toArray, List.set_cons_zero, List.set_cons_succ]
        refine ah_take (v := (.int .i64 (plN (hv i).by_ (hv i).id m hv))) (i := 17) (some 17) rfl rfl (by kernel_rfl) (by kernel_rfl) (by kernel_rfl) rfl (fun W hK => ex_asg rfl rfl) S (fun c a w h => hQP c a _ _ w h) ?_
        simp only [Act.put, List.setIfInBounds_toArray, List.set_cons_zero, List.set_cons_succ]
        refine ah_take (v := (.bool (plB (hv i).by_ (hv i).id m hv))) (i := 18) (some 18) rfl rfl (by kernel_rfl) (by kernel_rfl) (by kernel_rfl) rfl (fun W hK => ex_asg rfl rfl) S (fun c a w h => hQP c a _ _ w h) ?_
        simp only [Act.put, List.setIfInBounds_toArray, List.set_cons_zero, List.set_cons_succ]
        refine ah_done (by kernel_rfl) ?_
        clear hQP
        subst hQ
        clear S d_k2 d_q0 d_q1
        refine wp_seq ?_
        obtain ⟨W15, hwd⟩ : ∃ wd, W14.drew = wd := ⟨_, rfl⟩
        refine wp_region_held (S := fun W => Kept Nil W15 W) (by kernel_rfl) ?_
        show wpAnyH _ _ _ _ _ _ _ _ W14.drew
        rw [hwd]
        refine capQ fun Q hQ => ?_
        have hQP : ∀ c (a : Act) (d : Nat) v w, Q (.panic c) (a.put (some d) v) w → Q (.panic c) a w := by
          subst hQ
          exact fun _ _ _ _ _ h => h
        have BD : Below W14.heap.size W14 W15 := by rw [← hwd]; exact below_drew (Below.refl _ _)
        clear hwd
        replace E := below_next E BD
        replace k2 := keep BD k2
        replace q0 := (BD.cell (block_lt_of_cell q0)).trans q0
        replace q1 := (BD.cell (block_lt_of_cell q1)).trans q1
        clear BD
        have S : Kept Nil W15 W15 := Kept.refl _ _
        have d_k2 := k2
        have d_q0 := q0
        have d_q1 := q1
        refine ah_take (v := (.agg #[.int .i64 x, .int .i64 y, .slice (some ⟨b, p, none⟩) m vc])) (i := 0) (some 82) rfl rfl (by kernel_rfl) (by kernel_rfl) (by kernel_rfl) rfl (fun W hK => ex_load (p := (.pointer (some ⟨b2, 0, none⟩))) rfl rfl (ld_all (keepK hK d_k2 (nilN _)) Try.underlying29 rfl inf29)) S (fun c a w h => hQP c a _ _ w h) ?_
        simp only [Act.put, List.setIfInBounds_toArray, List.set_cons_zero, List.set_cons_succ]
        refine ah_take (v := (.pointer (some ⟨b2, 2, none⟩))) (i := 1) (some 83) rfl rfl (by kernel_rfl) (by kernel_rfl) (by kernel_rfl) rfl (fun W hK => ex_fa (p := (.pointer (some ⟨b2, 0, none⟩))) rfl rfl (fa29_2 _ _)) S (fun c a w h => hQP c a _ _ w h) ?_
        simp only [Act.put, List.setIfInBounds_toArray, List.set_cons_zero, List.set_cons_succ]
        refine ah_take (v := (.slice (some ⟨b, p, none⟩) m vc)) (i := 2) (some 84) rfl rfl (by kernel_rfl) (by kernel_rfl) (by kernel_rfl) rfl (fun W hK => ex_load (p := (.pointer (some ⟨b2, 2, none⟩))) rfl rfl (ld27 (at_cell (keepK hK d_k2 (nilN _)) rfl))) S (fun c a w h => hQP c a _ _ w h) ?_
        simp only [Act.put, List.setIfInBounds_toArray, List.set_cons_zero, List.set_cons_succ]
        refine ah_take (v := (.int .i64 (i : Nat))) (i := 3) (some 85) rfl rfl (by kernel_rfl) (by kernel_rfl) (by kernel_rfl) rfl (fun W hK => ex_mv rfl rfl) S (fun c a w h => hQP c a _ _ w h) ?_
        simp only [Act.put, List.setIfInBounds_toArray, List.set_cons_zero, List.set_cons_succ]
        refine ah_take (v := (.pointer (some ⟨b, (p + i * 36), none⟩))) (i := 4) (some 86) rfl rfl (by kernel_rfl) (by kernel_rfl) (by kernel_rfl) rfl (fun W hK => ex_ix27 rfl rfl rfl hlt) S (fun c a w h => hQP c a _ _ w h) ?_
        simp only [Act.put, List.setIfInBounds_toArray, List.set_cons_zero, List.set_cons_succ]
        refine ah_take (v := (.pointer (some ⟨b, (p + i * 36), none⟩))) (i := 5) (some 87) rfl rfl (by kernel_rfl) (by kernel_rfl) (by kernel_rfl) rfl (fun W hK => ex_fa rfl rfl (faH0 _ _ _)) S (fun c a w h => hQP c a _ _ w h) ?_
        simp only [Act.put, List.setIfInBounds_toArray, List.set_cons_zero, List.set_cons_succ]
        refine ah_take (v := (.int .i64 (hv i).by_)) (i := 6) (some 88) rfl rfl (by kernel_rfl) (by kernel_rfl) (by kernel_rfl) rfl (fun W hK => ex_load rfl rfl (ld3 (cell_kept hK d_q0))) S (fun c a w h => hQP c a _ _ w h) ?_
        simp only [Act.put, List.setIfInBounds_toArray, List.set_cons_zero, List.set_cons_succ]
        refine ah_take (v := (.pointer (some ⟨b2, 2, none⟩))) (i := 7) (some 89) rfl rfl (by kernel_rfl) (by kernel_rfl) (by kernel_rfl) rfl (fun W hK => ex_fa (p := (.pointer (some ⟨b2, 0, none⟩))) rfl rfl (fa29_2 _ _)) S (fun c a w h => hQP c a _ _ w h) ?_
        simp only [Act.put, List.setIfInBounds_toArray, List.set_cons_zero, List.set_cons_succ]
        refine ah_take (v := (.slice (some ⟨b, p, none⟩) m vc)) (i := 8) (some 90) rfl rfl (by kernel_rfl) (by kernel_rfl) (by kernel_rfl) rfl (fun W hK => ex_load (p := (.pointer (some ⟨b2, 2, none⟩))) rfl rfl (ld27 (at_cell (keepK hK d_k2 (nilN _)) rfl))) S (fun c a w h => hQP c a _ _ w h) ?_
        simp only [Act.put, List.setIfInBounds_toArray, List.set_cons_zero, List.set_cons_succ]
        refine ah_take (v := (.int .i64 (i : Nat))) (i := 9) (some 91) rfl rfl (by kernel_rfl) (by kernel_rfl) (by kernel_rfl) rfl (fun W hK => ex_mv rfl rfl) S (fun c a w h => hQP c a _ _ w h) ?_
        simp only [Act.put, List.setIfInBounds_toArray, List.set_cons_zero, List.set_cons_succ]
        refine ah_take (v := (.pointer (some ⟨b, (p + i * 36), none⟩))) (i := 10) (some 92) rfl rfl (by kernel_rfl) (by kernel_rfl) (by kernel_rfl) rfl (fun W hK => ex_ix27 rfl rfl rfl hlt) S (fun c a w h => hQP c a _ _ w h) ?_
        simp only [Act.put, List.setIfInBounds_toArray, List.set_cons_zero, List.set_cons_succ]
        refine ah_take (v := (.pointer (some ⟨b, (p + i * 36 + 1), none⟩))) (i := 11) (some 93) rfl rfl (by kernel_rfl) (by kernel_rfl) (by kernel_rfl) rfl (fun W hK => ex_fa rfl rfl (faH1 _ _ _)) S (fun c a w h => hQP c a _ _ w h) ?_
        simp only [Act.put, List.setIfInBounds_toArray, List.set_cons_zero, List.set_cons_succ]
        refine ah_take (v := (.int .i64 (hv i).id)) (i := 12) (some 94) rfl rfl (by kernel_rfl) (by kernel_rfl) (by kernel_rfl) rfl (fun W hK => ex_load rfl rfl (ld3 (cell_kept hK d_q1))) S (fun c a w h => hQP c a _ _ w h) ?_
        simp only [Act.put, List.setIfInBounds_toArray, List.set_cons_zero, List.set_cons_succ]
        refine ah_or1 (i := 13) (by kernel_rfl) ?_
        refine nx_call (some 95) rfl rfl rfl (rplace_any (x := x) (y := y) (by_ := (hv i).by_) (id := (hv i).id) (c := vc) W15 (hH1.below E) hm) (ex_call (f := 25) (vs := [(.agg #[.int .i64 x, .int .i64 y, .slice (some ⟨b, p, none⟩) m vc]), (.int .i64 (hv i).by_), (.int .i64 (hv i).id)]) rfl (cf25 _) rfl) ?_
        rintro e W16 ⟨rfl, B⟩
        refine ⟨_, rfl, S.next B, ?_⟩
        simp only [Act.put, List.setIfInBounds_toArray, List.set_cons_zero, List.set_cons_succ]
        replace E := below_next E B
        replace k2 := keep B k2
        replace q0 := (B.cell (block_lt_of_cell q0)).trans q0
        replace q1 := (B.cell (block_lt_of_cell q1)).trans q1
        replace S := S.next B
        refine ah_take (v := (.tuple #[(.int .i64 (plN (hv i).by_ (hv i).id m hv)), (.bool (plB (hv i).by_ (hv i).id m hv))])) (i := 14) (some 81) rfl rfl (by kernel_rfl) (by kernel_rfl) (by kernel_rfl) rfl (fun W hK => ex_mv rfl rfl) S (fun c a w h => hQP c a _ _ w h) ?_
        simp only [Act.put, List.setIfInBounds_toArray, List.set_cons_zero, List.set_cons_succ]
        refine ah_take (v := (.int .i64 (plN (hv i).by_ (hv i).id m hv))) (i := 15) (some 96) rfl rfl (by kernel_rfl) (by kernel_rfl) (by kernel_rfl) rfl (fun W hK => ex_ext rfl rfl rfl) S (fun c a w h => hQP c a _ _ w h) ?_
        simp only [Act.put, List.setIfInBounds_toArray, List.set_cons_zero, List.set_cons_succ]
        refine ah_take (v := (.bool (plB (hv i).by_ (hv i).id m hv))) (i := 16) (some 97) rfl rfl (by kernel_rfl) (by kernel_rfl) (by kernel_rfl) rfl (fun W hK => ex_ext rfl rfl rfl) S (fun c a w h => hQP c a _ _ w h) ?_
        simp only [Act.put, List.setIfInBounds_toArray, List.set_cons_zero, List.set_cons_succ]
        refine ah_take (v := (.int .i64 (plN (hv i).by_ (hv i).id m hv))) (i := 17) (some 19) rfl rfl (by kernel_rfl) (by kernel_rfl) (by kernel_rfl) rfl (fun W hK => ex_asg rfl rfl) S (fun c a w h => hQP c a _ _ w h) ?_
        simp only [Act.put, List.setIfInBounds_toArray, List.set_cons_zero, List.set_cons_succ]
        refine ah_take (v := (.bool (plB (hv i).by_ (hv i).id m hv))) (i := 18) (some 20) rfl rfl (by kernel_rfl) (by kernel_rfl) (by kernel_rfl) rfl (fun W hK => ex_asg rfl rfl) S (fun c a w h => hQP c a _ _ w h) ?_
        simp only [Act.put, List.setIfInBounds_toArray, List.set_cons_zero, List.set_cons_succ]
        refine ah_done (by kernel_rfl) ?_
        clear hQP
        subst hQ
        clear S d_k2 d_q0 d_q1
        refine wp_seq ?_
        refine wl_in ?_
        refine wl_cap fun Q hQ => ?_
        refine st_to (v := (.int .i64 (plN (hv i).by_ (hv i).id m hv))) (some 98) rfl rfl (ex_mv rfl rfl) ?_
        simp only [Act.put, List.setIfInBounds_toArray, List.set_cons_zero, List.set_cons_succ]
        refine st_to (v := (.int .i64 (plN (hv i).by_ (hv i).id m hv))) (some 99) rfl rfl (ex_mv rfl rfl) ?_
        simp only [Act.put, List.setIfInBounds_toArray, List.set_cons_zero, List.set_cons_succ]
        refine st_to (v := (.bool false)) (some 100) rfl rfl (ex_bin (u := (.int .i64 (plN (hv i).by_ (hv i).id m hv))) (r := (.int .i64 (plN (hv i).by_ (hv i).id m hv))) rfl rfl rfl (eg3 _ _ _ _ _ _) (neq3 _ (decide_eq_false (fun e => e rfl)))) ?_
        simp only [Act.put, List.setIfInBounds_toArray, List.set_cons_zero, List.set_cons_succ]
        refine st_to (v := (.bool false)) (some 101) rfl rfl (ex_mv rfl rfl) ?_
        simp only [Act.put, List.setIfInBounds_toArray, List.set_cons_zero, List.set_cons_succ]
        refine st_to (v := (.bool (plB (hv i).by_ (hv i).id m hv))) (some 102) rfl rfl (ex_mv rfl rfl) ?_
        simp only [Act.put, List.setIfInBounds_toArray, List.set_cons_zero, List.set_cons_succ]
        refine st_to (v := (.bool (plB (hv i).by_ (hv i).id m hv))) (some 103) rfl rfl (ex_mv rfl rfl) ?_
        simp only [Act.put, List.setIfInBounds_toArray, List.set_cons_zero, List.set_cons_succ]
        refine st_to (v := (.bool false)) (some 104) rfl rfl (ex_bin (u := .bool (plB (hv i).by_ (hv i).id m hv)) (r := .bool (plB (hv i).by_ (hv i).id m hv)) rfl rfl rfl (eg4 _ _ _ _ _ _) (neqB _ _)) ?_
        simp only [Act.put, List.setIfInBounds_toArray, List.set_cons_zero, List.set_cons_succ]
        refine st_to (v := (.bool false)) (some 105) rfl rfl (ex_pkF rfl rfl rfl) ?_
        simp only [Act.put, List.setIfInBounds_toArray, List.set_cons_zero, List.set_cons_succ]
        refine st_end ?_
        subst hQ
        refine wp_cond_false rfl ?_
        refine wp_skip ?_
        refine wl_in ?_
        refine wl_cap fun Q hQ => ?_
        refine st_to (v := (.int .i64 (i : Nat))) (some 62) rfl rfl (ex_mv rfl rfl) ?_
        simp only [Act.put, List.setIfInBounds_toArray, List.set_cons_zero, List.set_cons_succ]
        refine st_to (v := (.int .i64 ((i + 1 : Nat) : Int))) (some 63) rfl rfl (ex_bin rfl rfl rfl (eg3 _ _ _ _ _ _) (add3 _ (by omega) (by omega))) ?_
        simp only [Act.put, List.setIfInBounds_toArray, List.set_cons_zero, List.set_cons_succ]
        refine st_to (v := (.int .i64 ((i + 1 : Nat) : Int))) (some 16) rfl rfl (ex_asg rfl rfl) ?_
        simp only [Act.put, List.setIfInBounds_toArray, List.set_cons_zero, List.set_cons_succ]
        refine st_end ?_
        subst hQ
        refine then_go ?_
        go_roundw
        case rel => exact ⟨i + 1, by omega, rfl, E, k2⟩
        case measure => simp [intOf]; omega
      · skip
        refine wp_seq ?_
        refine wp_seq ?_
        refine wl_in ?_
        refine wl_cap fun Q hQ => ?_
        refine st_to (v := (.int .i64 (i : Nat))) (some 57) rfl rfl (ex_mv rfl rfl) ?_
        simp only [Act.put, List.setIfInBounds_toArray, List.set_cons_zero, List.set_cons_succ]
        refine st_to (v := (.pointer (some ⟨b2, 2, none⟩))) (some 58) rfl rfl (ex_fa (p := (.pointer (some ⟨b2, 0, none⟩))) rfl rfl (fa29_2 _ _)) ?_
        simp only [Act.put, List.setIfInBounds_toArray, List.set_cons_zero, List.set_cons_succ]
        refine st_to (v := (.slice va m vc)) (some 59) rfl rfl (ex_load (p := (.pointer (some ⟨b2, 2, none⟩))) rfl rfl (ld27 (at_cell k2 rfl))) ?_
        simp only [Act.put, List.setIfInBounds_toArray, List.set_cons_zero, List.set_cons_succ]
        refine st_to (v := (.int .i64 (m : Nat))) (some 60) rfl rfl (ex_len rfl rfl (len27 _ _ _ _ _)) ?_
        simp only [Act.put, List.setIfInBounds_toArray, List.set_cons_zero, List.set_cons_succ]
        refine st_to (v := (.bool false)) (some 61) rfl rfl (ex_bin (u := (.int .i64 (i : Nat))) (r := (.int .i64 (m : Nat))) rfl rfl rfl (eg3 _ _ _ _ _ _) (lss3 _ (decide_eq_false (by omega)))) ?_
        simp only [Act.put, List.setIfInBounds_toArray, List.set_cons_zero, List.set_cons_succ]
        refine st_end ?_
        subst hQ
        refine wp_cond_false rfl ?_
        refine wp_exit ?_
        refine ex_then ?_
        refine ex_then ?_
        refine ex_blk ?_
        refine wp_seq ?_
        refine wl_in ?_
        refine wl_cap fun Q hQ => ?_
        refine st_to (v := (.agg #[.int .i64 x, .int .i64 y, .slice va m vc])) (some 107) rfl rfl (ex_load (p := (.pointer (some ⟨b2, 0, none⟩))) rfl rfl (ld_all k2 Try.underlying29 rfl inf29)) ?_
        simp only [Act.put, List.setIfInBounds_toArray, List.set_cons_zero, List.set_cons_succ]
        refine st_to (v := (.int .i64 s)) (some 108) rfl rfl (ex_mv rfl rfl) ?_
        simp only [Act.put, List.setIfInBounds_toArray, List.set_cons_zero, List.set_cons_succ]
        refine st_call (some 109) rfl rfl (place_any (x := x) (y := y) (by_ := 9) (id := s) (c := vc) wr (hH.below E) hm) (ex_call (f := 24) (vs := [(.agg #[.int .i64 x, .int .i64 y, .slice va m vc]), (.int .i64 9), (.int .i64 s)]) rfl (cf24 _) rfl) ?_
        rintro e W17 ⟨rfl, B⟩
        refine ⟨_, rfl, ?_⟩
        simp only [Act.put, List.setIfInBounds_toArray, List.set_cons_zero, List.set_cons_succ]
        replace E := below_next E B
        replace k2 := keep B k2
        refine st_to (v := (.tuple #[(.int .i64 (plN 9 s m hv)), (.bool (plB 9 s m hv))])) (some 106) rfl rfl (ex_mv rfl rfl) ?_
        simp only [Act.put, List.setIfInBounds_toArray, List.set_cons_zero, List.set_cons_succ]
        refine st_to (v := (.int .i64 (plN 9 s m hv))) (some 110) rfl rfl (ex_ext rfl rfl rfl) ?_
        simp only [Act.put, List.setIfInBounds_toArray, List.set_cons_zero, List.set_cons_succ]
        refine st_to (v := (.bool (plB 9 s m hv))) (some 111) rfl rfl (ex_ext rfl rfl rfl) ?_
        simp only [Act.put, List.setIfInBounds_toArray, List.set_cons_zero, List.set_cons_succ]
        refine st_to (v := (.int .i64 (plN 9 s m hv))) (some 21) rfl rfl (ex_asg rfl rfl) ?_
        simp only [Act.put, List.setIfInBounds_toArray, List.set_cons_zero, List.set_cons_succ]
        refine st_to (v := (.bool (plB 9 s m hv))) (some 22) rfl rfl (ex_asg rfl rfl) ?_
        simp only [Act.put, List.setIfInBounds_toArray, List.set_cons_zero, List.set_cons_succ]
        refine st_end ?_
        subst hQ
        refine wp_seq ?_
        refine wl_in ?_
        refine wl_cap fun Q hQ => ?_
        refine st_to (v := (.agg #[.int .i64 x, .int .i64 y, .slice va m vc])) (some 113) rfl rfl (ex_load (p := (.pointer (some ⟨b2, 0, none⟩))) rfl rfl (ld_all k2 Try.underlying29 rfl inf29)) ?_
        simp only [Act.put, List.setIfInBounds_toArray, List.set_cons_zero, List.set_cons_succ]
        refine st_to (v := (.int .i64 s)) (some 114) rfl rfl (ex_mv rfl rfl) ?_
        simp only [Act.put, List.setIfInBounds_toArray, List.set_cons_zero, List.set_cons_succ]
        refine st_call (some 115) rfl rfl (rplace_any (x := x) (y := y) (by_ := 9) (id := s) (c := vc) W17 (hH.below E) hm) (ex_call (f := 25) (vs := [(.agg #[.int .i64 x, .int .i64 y, .slice va m vc]), (.int .i64 9), (.int .i64 s)]) rfl (cf25 _) rfl) ?_
        rintro e W18 ⟨rfl, B⟩
        refine ⟨_, rfl, ?_⟩
        simp only [Act.put, List.setIfInBounds_toArray, List.set_cons_zero, List.set_cons_succ]
        replace E := below_next E B
        replace k2 := keep B k2
        refine st_to (v := (.tuple #[(.int .i64 (plN 9 s m hv)), (.bool (plB 9 s m hv))])) (some 112) rfl rfl (ex_mv rfl rfl) ?_
        simp only [Act.put, List.setIfInBounds_toArray, List.set_cons_zero, List.set_cons_succ]
        refine st_to (v := (.int .i64 (plN 9 s m hv))) (some 116) rfl rfl (ex_ext rfl rfl rfl) ?_
        simp only [Act.put, List.setIfInBounds_toArray, List.set_cons_zero, List.set_cons_succ]
        refine st_to (v := (.bool (plB 9 s m hv))) (some 117) rfl rfl (ex_ext rfl rfl rfl) ?_
        simp only [Act.put, List.setIfInBounds_toArray, List.set_cons_zero, List.set_cons_succ]
        refine st_to (v := (.int .i64 (plN 9 s m hv))) (some 23) rfl rfl (ex_asg rfl rfl) ?_
        simp only [Act.put, List.setIfInBounds_toArray, List.set_cons_zero, List.set_cons_succ]
        refine st_to (v := (.bool (plB 9 s m hv))) (some 24) rfl rfl (ex_asg rfl rfl) ?_
        simp only [Act.put, List.setIfInBounds_toArray, List.set_cons_zero, List.set_cons_succ]
        refine st_end ?_
        subst hQ
        refine wp_seq ?_
        refine wl_in ?_
        refine wl_cap fun Q hQ => ?_
        refine st_to (v := (.int .i64 (plN 9 s m hv))) (some 118) rfl rfl (ex_mv rfl rfl) ?_
        simp only [Act.put, List.setIfInBounds_toArray, List.set_cons_zero, List.set_cons_succ]
        refine st_to (v := (.int .i64 (plN 9 s m hv))) (some 119) rfl rfl (ex_mv rfl rfl) ?_
        simp only [Act.put, List.setIfInBounds_toArray, List.set_cons_zero, List.set_cons_succ]
        refine st_to (v := (.bool true)) (some 120) rfl rfl (ex_bin (u := (.int .i64 (plN 9 s m hv))) (r := (.int .i64 (plN 9 s m hv))) rfl rfl rfl (eg3 _ _ _ _ _ _) (eql3 _ (decide_eq_true rfl))) ?_
        simp only [Act.put, List.setIfInBounds_toArray, List.set_cons_zero, List.set_cons_succ]
        refine st_to (v := (.bool true)) (some 121) rfl rfl (ex_mv rfl rfl) ?_
        simp only [Act.put, List.setIfInBounds_toArray, List.set_cons_zero, List.set_cons_succ]
        refine st_to (v := (.bool (plB 9 s m hv))) (some 122) rfl rfl (ex_mv rfl rfl) ?_
        simp only [Act.put, List.setIfInBounds_toArray, List.set_cons_zero, List.set_cons_succ]
        refine st_to (v := (.bool (plB 9 s m hv))) (some 123) rfl rfl (ex_mv rfl rfl) ?_
        simp only [Act.put, List.setIfInBounds_toArray, List.set_cons_zero, List.set_cons_succ]
        refine st_to (v := (.bool true)) (some 124) rfl rfl (ex_bin (u := .bool (plB 9 s m hv)) (r := .bool (plB 9 s m hv)) rfl rfl rfl (eg4 _ _ _ _ _ _) (eqlB _ _)) ?_
        simp only [Act.put, List.setIfInBounds_toArray, List.set_cons_zero, List.set_cons_succ]
        refine st_to (v := (.bool true)) (some 125) rfl rfl (ex_pkT rfl rfl rfl) ?_
        simp only [Act.put, List.setIfInBounds_toArray, List.set_cons_zero, List.set_cons_succ]
        refine st_to (v := (.bool true)) (some 10) rfl rfl (ex_asg rfl rfl) ?_
        simp only [Act.put, List.setIfInBounds_toArray, List.set_cons_zero, List.set_cons_succ]
        refine st_end ?_
        subst hQ
        refine wp_ret ?_
        refine bodyPost_ret (results_tmp Try.results4 _ _ _) rfl ⟨rfl, E⟩
end Go.Proofs.Ytkhpbjafdamhaaa
