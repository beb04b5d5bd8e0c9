/- Claims: the program's and the document's. -/
import Derived.Test.YtkhpbjafdamhaaaDSame
namespace Go.Proofs.Ytkhpbjafdamhaaa
open Go.RowKit
set_option linter.unusedVariables false
set_option linter.unusedSimpArgs false
set_option maxRecDepth 100000

theorem info61 : (Try.prog.info? 61).map (fun i => (i.zero, i.size, i.bytes)) = some (some (.agg Z130), 130, 144) := by kernel_rfl
theorem bs31_0 (W : World) : (Instr.buildSlice 31 0 #[]).run Try.prog W = .ok (.slice (some ⟨W.heap.size, 0, none⟩) 0 0) (W.alloc (.cells #[] 61)) := by go_simp
def flatI (Is : Nat → Array Value) (n : Nat) : List Value := (List.range n).flatMap fun i => (Is i).toList
theorem flatI_succ (Is : Nat → Array Value) (n : Nat) : flatI Is (n + 1) = flatI Is n ++ (Is n).toList := by simp [flatI, List.range_succ]
theorem flatI_len {Is : Nat → Array Value} : ∀ {n : Nat}, (∀ i, i < n → IsI (Is i)) → (flatI Is n).length = n * 130
  | 0, _ => rfl
  | n + 1, h => by
    rw [flatI_succ, List.length_append, flatI_len (fun i hi => h i (by omega)), Array.length_toList, (h n (by omega)).size]
    omega
theorem flatI_at {Is : Nat → Array Value} : ∀ {n : Nat}, (∀ i, i < n → IsI (Is i)) → ∀ {i j : Nat} {u : Value}, i < n → (Is i).toList[j]? = some u → (flatI Is n)[i * 130 + j]? = some u
  | 0, _, i, j, u, hi, _ => by omega
  | n + 1, h, i, j, u, hi, hu => by
    have hl := flatI_len (Is := Is) (n := n) (fun i hi => h i (by omega))
    have hj : j < 130 := by
      have := (List.getElem?_eq_some_iff.1 hu).1
      rw [Array.length_toList, (h i hi).size] at this
      exact this
    rw [flatI_succ]
    by_cases e : i = n
    · subst e
      rw [List.getElem?_append_right (by omega), hl, show i * 130 + j - i * 130 = j by omega]
      exact hu
    · rw [List.getElem?_append_left (by omega)]
      exact flatI_at (fun i hi => h i (by omega)) (by omega) hu
theorem flatI_one {Is : Nat → Array Value} : ∀ {n : Nat}, (∀ i, i < n → IsI (Is i)) → ∀ u ∈ flatI Is n, u.oneCell' = true
  | 0, _, u, hu => by simp [flatI] at hu
  | n + 1, h, u, hu => by
    rw [flatI_succ, List.mem_append] at hu
    rcases hu with hu | hu
    · exact flatI_one (fun i hi => h i (by omega)) u hu
    · obtain ⟨i, hi, rfl⟩ := List.getElem_of_mem hu
      have := Array.all_eq_true.1 (h n (by omega)).one i (by simpa using hi)
      simpa using this
/-- a list of inputs -/
def InsS (W : World) (ao : Option Addr) (n c : Nat) (Is : Nat → Array Value) : Prop :=
  (ao = none ∧ n = 0 ∧ c = 0) ∨ ∃ x : Addr, ao = some x ∧ ∀ j u, (flatI Is n)[j]? = some u → W.cell? (x.add j) = some u
theorem InsS.below {w W : World} {ao : Option Addr} {n c : Nat} {Is : Nat → Array Value} (h : InsS w ao n c Is) (B : Below w.heap.size w W) : InsS W ao n c Is := by
  rcases h with h | ⟨x, e, h⟩
  · exact .inl h
  · exact .inr ⟨x, e, fun j u hu => (B.cell (block_lt_of_cell (h j u hu))).trans (h j u hu)⟩
theorem Rw.insS {W : World} {base g n cap : Nat} {Is : Nat → Array Value} (h : Rw W base 61 130 g n cap (flatI Is n)) : InsS W (some ⟨g, 0, none⟩) n cap Is :=
  .inr ⟨_, rfl, fun j u hu => by rw [Addr.add_mid, Nat.zero_add]; exact h.cell hu⟩
theorem Rw.insR {W : World} {base g n cap : Nat} {Is : Nat → Array Value} (h : Rw W base 61 130 g n cap (flatI Is n)) (hI : ∀ i, i < n → IsI (Is i)) : InsR W g n Is := fun i hi j v hv => h.cell (flatI_at hI hi hv)
theorem app_list {W : World} {base b n c : Nat} {ao : Option Addr} {Is : Nat → Array Value} (k : W.heap[b]? = some (.cells #[] 61)) (hb : base ≤ b) (hI : InsS W ao n c Is) (hIs : ∀ i, i < n → IsI (Is i)) (hn : n * 144 ≤ 140737488355328) (hbase : base ≤ W.heap.size) :
    ∃ g cap W', (Builtin.append_ #[31, 31] 31 #[.slice (some ⟨b, 0, none⟩) 0 0, .slice ao n c]).run Try.prog W = .ok (.slice (some ⟨g, 0, none⟩) n cap) W' ∧ Rw W' base 61 130 g n cap (flatI Is n) ∧ Kept (· = b) W W' := by
  have h0 : Rw W base 61 130 b 0 0 [] := Rw.ofBlock k rfl hb (by decide)
  cases hq : Try.prog.info? 61 with
  | none => have := info61; rw [hq] at this; cases this
  | some ie =>
    have hi := info61
    rw [hq] at hi
    simp only [Option.map_some, Option.some.injEq, Prod.mk.injEq] at hi
    obtain ⟨hz0, hz1, hz2⟩ := hi
    rcases hI with ⟨rfl, rfl, rfl⟩ | ⟨x, rfl, hc⟩
    · exact ⟨b, 0, W, run_append_owned_none (P := Try.prog) (w := W) base 31 31 61 ie 130 Try.underlying31 hq _ 0 [] h0, h0, Kept.refl _ _⟩
    · obtain ⟨v', w', hrun, hown, hg, hnil, hloc⟩ := run_append_own_at (P := Try.prog) W base 31 31 61 ie (.agg Z130) 130 144 Try.underlying31 hq hz0 hz1 hz2 rfl (by decide) (.slice (some ⟨b, 0, none⟩) 0 0) 0 [] h0 x n c (flatI Is n) (by rw [flatI_len hIs]) hc (flatI_one hIs) (by unfold maxLen; omega) (by omega) hbase
      rw [Nat.zero_add, List.nil_append] at hown
      have hK : Kept (· = b) W w' := ⟨hg.os, hg.tape, hg.output, hg.size, fun k hk hn => hg.block k hk (fun e => hn ?_)⟩
      rcases hown.2 with ⟨e, e0⟩ | ⟨g', cap', cur, rfl, hb', hh, r⟩
      · exact absurd (hnil.1 e).1 (by simp)
      · exact ⟨g', cap', w', hrun, hown, hK⟩
      · have e : some k = some b := e
        exact Option.some.inj e
theorem eqnil (g n c : Nat) (W : World) : (binOp .eql 31 (.slice (some ⟨g, 0, none⟩) n c) (.slice none 0 0)).run Try.prog W = .ok (.bool false) W := by
  have h : ∀ d, (Op.equalIn (d + 1) 31 (.slice (some ⟨g, 0, none⟩) n c) (.slice none 0 0)).run Try.prog W = .ok false W := fun d => by simp [Op.equalIn, run_underlying Try.underlying31]
  simp only [binOp]
  simp [Op.equal, Op.maxDepth, h 9999]
theorem egnil (x y : Operand) (g n c : Nat) (W : World) : (eqGuard .eql 31 x y (.slice (some ⟨g, 0, none⟩) n c) (.slice none 0 0)).run Try.prog W = .ok () W := by
  first
    | rfl
    | simp [eqGuard, run_program]
    | go_simp

set_option maxHeartbeats 2000000 in
theorem clone_ok {g n c : Nat} {Is : Nat → Array Value} (w : World) (hI : InsS w (some ⟨g, 0, none⟩) n c Is) (hIs : ∀ i, i < n → IsI (Is i)) (hN : n * 144 ≤ 140737488355328) :
    Calls Try.prog 43 #[.slice (some ⟨g, 0, none⟩) n c] w fun e w' => ∃ g' c', e = .returned (.slice (some ⟨g', 0, none⟩) n c') ∧ Rw w' w.heap.size 61 130 g' n c' (flatI Is n) ∧ Below w.heap.size w w' := by
  have E : Below w.heap.size w w := Below.refl _ _
  go_enter Try.func43, Try.ntmps43
  refine wp_seq ?_
  refine wl_in ?_
  refine wl_cap fun Q hQ => ?_
  refine st_to (v := (.slice none 0 0)) (some 2) rfl rfl (ex_asg rfl rfl) ?_
  simp only [Act.put, List.setIfInBounds_toArray, List.set_cons_zero, List.set_cons_succ]
  refine st_end ?_
  subst hQ
  refine wp_seq ?_
  refine wp_seq ?_
  refine wl_in ?_
  refine wl_cap fun Q hQ => ?_
  refine st_to (v := (.slice (some ⟨g, 0, none⟩) n c)) (some 3) rfl rfl (ex_mv rfl rfl) ?_
  simp only [Act.put, List.setIfInBounds_toArray, List.set_cons_zero, List.set_cons_succ]
  refine st_to (v := (.bool false)) (some 4) rfl rfl (ex_bin (u := .slice (some ⟨g, 0, none⟩) n c) (r := .slice none 0 0) rfl rfl rfl (egnil _ _ _ _ _ _) (eqnil _ _ _ _)) ?_
  simp only [Act.put, List.setIfInBounds_toArray, List.set_cons_zero, List.set_cons_succ]
  refine st_end ?_
  subst hQ
  refine wp_cond_false rfl ?_
  refine wp_skip ?_
  refine wp_seq ?_
  refine wl_in ?_
  refine wl_cap fun Q hQ => ?_
  refine st_new (fun b => .slice (some ⟨b, 0, none⟩) 0 0) (some 5) rfl rfl (ex_bsl0  rfl (bs31_0 _)) ?_
  intro b1 W1 k1 g1 B
  simp only [Act.put, List.setIfInBounds_toArray, List.set_cons_zero, List.set_cons_succ]
  have ge_b1 := Nat.le_trans E.size g1
  replace E := below_next E B
  clear B
  refine st_to (v := (.slice (some ⟨g, 0, none⟩) n c)) (some 6) rfl rfl (ex_mv rfl rfl) ?_
  simp only [Act.put, List.setIfInBounds_toArray, List.set_cons_zero, List.set_cons_succ]
  obtain ⟨g7, cap7, W2, hrun, R7, K⟩ := app_list k1 ge_b1 (hI.below E) hIs hN E.size
  refine st_to (v := (.slice (some ⟨g7, 0, none⟩) n cap7)) (some 7) rfl rfl (ex_app rfl rfl rfl hrun) ?_
  simp only [Act.put, List.setIfInBounds_toArray, List.set_cons_zero, List.set_cons_succ]
  replace E := below_put E ge_b1 K
  clear k1 K hrun
  refine st_to (v := (.slice (some ⟨g7, 0, none⟩) n cap7)) (some 2) rfl rfl (ex_asg rfl rfl) ?_
  simp only [Act.put, List.setIfInBounds_toArray, List.set_cons_zero, List.set_cons_succ]
  refine st_end ?_
  subst hQ
  refine wp_ret ?_
  refine bodyPost_ret (results_tmp Try.results43 _ _ _) rfl ⟨g7, cap7, rfl, R7, E⟩

set_option maxHeartbeats 4000000 in
theorem claim_no {C : Array Value} {t : TV} {nd s : Int} {ao : Option Addr} {n c : Nat} {Is : Nat → Array Value} (w : World) (hT : IsT C t) (hb : TB t) (hI : InsS w ao n c Is) (hIs : ∀ i, i < n → IsI (Is i)) (hN : n * 144 ≤ 140737488355328) (hs : s ≤ 9223372036854775807) (hno : ¬ (mayT t = true ∧ (nd = t.a ∨ nd = t.b) ∧ 1 ≤ n ∧ n ≤ 64 ∧ 0 ≤ s)) :
    Calls Try.prog 22 #[.agg C, .int .i64 nd, .slice ao n c, .int .i64 s] w fun e w' => e = .returned (.tuple #[.agg #[.slice none 0 0, .slice none 0 0], .int .i64 1]) ∧ Below w.heap.size w w' := by
  cases c0 : mayT t with
  | false =>
    have E : Below w.heap.size w w := Below.refl _ _
    go_enter Try.func22, Try.ntmps22
    refine wp_seq ?_
    refine wl_in ?_
    refine wl_cap fun Q hQ => ?_
    refine st_new (fun b => .pointer (some ⟨b, 0, none⟩)) (some 4) rfl rfl (ex_box rfl rfl) ?_
    intro b1 W1 k1 g1 B
    simp only [Act.put, List.setIfInBounds_toArray, List.set_cons_zero, List.set_cons_succ]
    have ge_b1 := Nat.le_trans E.size g1
    replace E := below_next E B
    clear B
    refine st_new (fun b => .pointer (some ⟨b, 0, none⟩)) (some 8) rfl rfl (ex_alloc rfl zero34) ?_
    intro b2 W2 k2 g2 B
    simp only [Act.put, List.setIfInBounds_toArray, List.set_cons_zero, List.set_cons_succ]
    have ne_b2_b1 : b2 ≠ b1 := fun e => by have := lt_of k1; omega
    have ge_b2 := Nat.le_trans E.size g2
    replace E := below_next E B
    replace k1 := keep B k1
    clear B
    refine st_to (v := (.int .i64 0)) (some 9) rfl rfl (ex_asg rfl rfl) ?_
    simp only [Act.put, List.setIfInBounds_toArray, List.set_cons_zero, List.set_cons_succ]
    refine st_end ?_
    subst hQ
    refine wp_seq ?_
    refine wp_seq ?_
    refine wl_in ?_
    refine wl_cap fun Q hQ => ?_
    refine st_to (v := (.agg C)) (some 10) rfl rfl (ex_load (p := (.pointer (some ⟨b1, 0, none⟩))) rfl rfl (ld_all k1 Try.underlying26 rfl (inf26.trans (congrArg some (hT.size).symm)))) ?_
    simp only [Act.put, List.setIfInBounds_toArray, List.set_cons_zero, List.set_cons_succ]
    refine st_call (some 11) rfl rfl (may_any W2 hT hb c0) (ex_call (f := 12) (vs := [(.agg C)]) rfl (cf12 _) rfl) ?_
    rintro e W3 ⟨rfl, B⟩
    refine ⟨_, rfl, ?_⟩
    simp only [Act.put, List.setIfInBounds_toArray, List.set_cons_zero, List.set_cons_succ]
    replace E := below_next E B
    replace k1 := keep B k1
    replace k2 := keep B k2
    refine st_to (v := (.bool true)) (some 12) rfl rfl (ex_not rfl rfl rfl) ?_
    simp only [Act.put, List.setIfInBounds_toArray, List.set_cons_zero, List.set_cons_succ]
    refine st_to (v := (.bool true)) (some 13) rfl rfl (ex_mv rfl rfl) ?_
    simp only [Act.put, List.setIfInBounds_toArray, List.set_cons_zero, List.set_cons_succ]
    refine st_no (some 14) rfl rfl ?_
    simp only [Act.put, List.setIfInBounds_toArray, List.set_cons_zero, List.set_cons_succ]
    refine st_no (some 15) rfl rfl ?_
    simp only [Act.put, List.setIfInBounds_toArray, List.set_cons_zero, List.set_cons_succ]
    refine st_no (some 16) rfl rfl ?_
    simp only [Act.put, List.setIfInBounds_toArray, List.set_cons_zero, List.set_cons_succ]
    refine st_no (some 17) rfl rfl ?_
    simp only [Act.put, List.setIfInBounds_toArray, List.set_cons_zero, List.set_cons_succ]
    refine st_to (v := (.bool true)) (some 18) rfl rfl (ex_pkT rfl rfl rfl) ?_
    simp only [Act.put, List.setIfInBounds_toArray, List.set_cons_zero, List.set_cons_succ]
    refine st_to (v := (.bool true)) (some 19) rfl rfl (ex_mv rfl rfl) ?_
    simp only [Act.put, List.setIfInBounds_toArray, List.set_cons_zero, List.set_cons_succ]
    refine st_no (some 20) rfl rfl ?_
    simp only [Act.put, List.setIfInBounds_toArray, List.set_cons_zero, List.set_cons_succ]
    refine st_no (some 21) rfl rfl ?_
    simp only [Act.put, List.setIfInBounds_toArray, List.set_cons_zero, List.set_cons_succ]
    refine st_no (some 22) rfl rfl ?_
    simp only [Act.put, List.setIfInBounds_toArray, List.set_cons_zero, List.set_cons_succ]
    refine st_to (v := (.bool true)) (some 23) rfl rfl (ex_pkT rfl rfl rfl) ?_
    simp only [Act.put, List.setIfInBounds_toArray, List.set_cons_zero, List.set_cons_succ]
    refine st_to (v := (.bool true)) (some 24) rfl rfl (ex_mv rfl rfl) ?_
    simp only [Act.put, List.setIfInBounds_toArray, List.set_cons_zero, List.set_cons_succ]
    refine st_no (some 25) rfl rfl ?_
    simp only [Act.put, List.setIfInBounds_toArray, List.set_cons_zero, List.set_cons_succ]
    refine st_no (some 26) rfl rfl ?_
    simp only [Act.put, List.setIfInBounds_toArray, List.set_cons_zero, List.set_cons_succ]
    refine st_no (some 27) rfl rfl ?_
    simp only [Act.put, List.setIfInBounds_toArray, List.set_cons_zero, List.set_cons_succ]
    refine st_to (v := (.bool true)) (some 28) rfl rfl (ex_pkT rfl rfl rfl) ?_
    simp only [Act.put, List.setIfInBounds_toArray, List.set_cons_zero, List.set_cons_succ]
    refine st_to (v := (.bool true)) (some 29) rfl rfl (ex_mv rfl rfl) ?_
    simp only [Act.put, List.setIfInBounds_toArray, List.set_cons_zero, List.set_cons_succ]
    refine st_no (some 30) rfl rfl ?_
    simp only [Act.put, List.setIfInBounds_toArray, List.set_cons_zero, List.set_cons_succ]
    refine st_no (some 31) rfl rfl ?_
    simp only [Act.put, List.setIfInBounds_toArray, List.set_cons_zero, List.set_cons_succ]
    refine st_to (v := (.bool true)) (some 32) rfl rfl (ex_pkT rfl rfl rfl) ?_
    simp only [Act.put, List.setIfInBounds_toArray, List.set_cons_zero, List.set_cons_succ]
    refine st_end ?_
    subst hQ
    refine wp_cond_true rfl ?_
    refine wp_seq ?_
    refine wl_in ?_
    refine wl_cap fun Q hQ => ?_
    refine st_to (v := (.agg #[.slice none 0 0, .slice none 0 0])) (some 33) rfl rfl (ex_build0  rfl (b34 _)) ?_
    simp only [Act.put, List.setIfInBounds_toArray, List.set_cons_zero, List.set_cons_succ]
    obtain ⟨W4, hst, kn, K⟩ := put_all (D := #[.slice none 0 0, .slice none 0 0]) k2 rfl inf34 (by kernel_rfl)
    refine st_sk rfl rfl (ex_store rfl rfl rfl hst) ?_
    replace E := below_put E ge_b2 K
    replace k1 := keepK K k1 (fun e => ne_tag k1 k2 (by decide) e)
    replace k2 := kn
    clear kn K hst
    refine st_to (v := (.int .i64 1)) (some 9) rfl rfl (ex_asg rfl rfl) ?_
    simp only [Act.put, List.setIfInBounds_toArray, List.set_cons_zero, List.set_cons_succ]
    refine st_end ?_
    subst hQ
    refine wp_ret ?_
    refine ret_out ?_
    refine bodyPost_ret (ret_ct Try.results22 _ _ b2 _ _ _ _ rfl rfl k2 Try.underlying34 rfl inf34) rfl ⟨rfl, E⟩
  | true =>
    by_cases c1 : nd = t.a ∨ nd = t.b
    rotate_left
    · skip
      have E : Below w.heap.size w w := Below.refl _ _
      go_enter Try.func22, Try.ntmps22
      refine wp_seq ?_
      refine wl_in ?_
      refine wl_cap fun Q hQ => ?_
      refine st_new (fun b => .pointer (some ⟨b, 0, none⟩)) (some 4) rfl rfl (ex_box rfl rfl) ?_
      intro b1 W1 k1 g1 B
      simp only [Act.put, List.setIfInBounds_toArray, List.set_cons_zero, List.set_cons_succ]
      have ge_b1 := Nat.le_trans E.size g1
      replace E := below_next E B
      clear B
      refine st_new (fun b => .pointer (some ⟨b, 0, none⟩)) (some 8) rfl rfl (ex_alloc rfl zero34) ?_
      intro b2 W2 k2 g2 B
      simp only [Act.put, List.setIfInBounds_toArray, List.set_cons_zero, List.set_cons_succ]
      have ne_b2_b1 : b2 ≠ b1 := fun e => by have := lt_of k1; omega
      have ge_b2 := Nat.le_trans E.size g2
      replace E := below_next E B
      replace k1 := keep B k1
      clear B
      refine st_to (v := (.int .i64 0)) (some 9) rfl rfl (ex_asg rfl rfl) ?_
      simp only [Act.put, List.setIfInBounds_toArray, List.set_cons_zero, List.set_cons_succ]
      refine st_end ?_
      subst hQ
      refine wp_seq ?_
      refine wp_seq ?_
      refine wl_in ?_
      refine wl_cap fun Q hQ => ?_
      refine st_to (v := (.agg C)) (some 10) rfl rfl (ex_load (p := (.pointer (some ⟨b1, 0, none⟩))) rfl rfl (ld_all k1 Try.underlying26 rfl (inf26.trans (congrArg some (hT.size).symm)))) ?_
      simp only [Act.put, List.setIfInBounds_toArray, List.set_cons_zero, List.set_cons_succ]
      refine st_call (some 11) rfl rfl (may_any W2 hT hb c0) (ex_call (f := 12) (vs := [(.agg C)]) rfl (cf12 _) rfl) ?_
      rintro e W3 ⟨rfl, B⟩
      refine ⟨_, rfl, ?_⟩
      simp only [Act.put, List.setIfInBounds_toArray, List.set_cons_zero, List.set_cons_succ]
      replace E := below_next E B
      replace k1 := keep B k1
      replace k2 := keep B k2
      refine st_to (v := (.bool false)) (some 12) rfl rfl (ex_not rfl rfl rfl) ?_
      simp only [Act.put, List.setIfInBounds_toArray, List.set_cons_zero, List.set_cons_succ]
      refine st_to (v := (.bool false)) (some 13) rfl rfl (ex_mv rfl rfl) ?_
      simp only [Act.put, List.setIfInBounds_toArray, List.set_cons_zero, List.set_cons_succ]
      refine st_to (v := (.agg C)) (some 14) rfl rfl (ex_load (p := (.pointer (some ⟨b1, 0, none⟩))) rfl rfl (ld_all k1 Try.underlying26 rfl (inf26.trans (congrArg some (hT.size).symm)))) ?_
      simp only [Act.put, List.setIfInBounds_toArray, List.set_cons_zero, List.set_cons_succ]
      refine st_to (v := (.int .i64 nd)) (some 15) rfl rfl (ex_mv rfl rfl) ?_
      simp only [Act.put, List.setIfInBounds_toArray, List.set_cons_zero, List.set_cons_succ]
      refine st_call (some 16) rfl rfl (isOf_any nd W3 hT (decide_eq_false c1)) (ex_call (f := 27) (vs := [(.agg C), (.int .i64 nd)]) rfl (cf27 _) rfl) ?_
      rintro e W4 ⟨rfl, B⟩
      refine ⟨_, rfl, ?_⟩
      simp only [Act.put, List.setIfInBounds_toArray, List.set_cons_zero, List.set_cons_succ]
      replace E := below_next E B
      replace k1 := keep B k1
      replace k2 := keep B k2
      refine st_to (v := (.bool true)) (some 17) rfl rfl (ex_not rfl rfl rfl) ?_
      simp only [Act.put, List.setIfInBounds_toArray, List.set_cons_zero, List.set_cons_succ]
      refine st_to (v := (.bool true)) (some 18) rfl rfl (ex_pkF rfl rfl rfl) ?_
      simp only [Act.put, List.setIfInBounds_toArray, List.set_cons_zero, List.set_cons_succ]
      refine st_to (v := (.bool true)) (some 19) rfl rfl (ex_mv rfl rfl) ?_
      simp only [Act.put, List.setIfInBounds_toArray, List.set_cons_zero, List.set_cons_succ]
      refine st_no (some 20) rfl rfl ?_
      simp only [Act.put, List.setIfInBounds_toArray, List.set_cons_zero, List.set_cons_succ]
      refine st_no (some 21) rfl rfl ?_
      simp only [Act.put, List.setIfInBounds_toArray, List.set_cons_zero, List.set_cons_succ]
      refine st_no (some 22) rfl rfl ?_
      simp only [Act.put, List.setIfInBounds_toArray, List.set_cons_zero, List.set_cons_succ]
      refine st_to (v := (.bool true)) (some 23) rfl rfl (ex_pkT rfl rfl rfl) ?_
      simp only [Act.put, List.setIfInBounds_toArray, List.set_cons_zero, List.set_cons_succ]
      refine st_to (v := (.bool true)) (some 24) rfl rfl (ex_mv rfl rfl) ?_
      simp only [Act.put, List.setIfInBounds_toArray, List.set_cons_zero, List.set_cons_succ]
      refine st_no (some 25) rfl rfl ?_
      simp only [Act.put, List.setIfInBounds_toArray, List.set_cons_zero, List.set_cons_succ]
      refine st_no (some 26) rfl rfl ?_
      simp only [Act.put, List.setIfInBounds_toArray, List.set_cons_zero, List.set_cons_succ]
      refine st_no (some 27) rfl rfl ?_
      simp only [Act.put, List.setIfInBounds_toArray, List.set_cons_zero, List.set_cons_succ]
      refine st_to (v := (.bool true)) (some 28) rfl rfl (ex_pkT rfl rfl rfl) ?_
      simp only [Act.put, List.setIfInBounds_toArray, List.set_cons_zero, List.set_cons_succ]
      refine st_to (v := (.bool true)) (some 29) rfl rfl (ex_mv rfl rfl) ?_
      simp only [Act.put, List.setIfInBounds_toArray, List.set_cons_zero, List.set_cons_succ]
      refine st_no (some 30) rfl rfl ?_
      simp only [Act.put, List.setIfInBounds_toArray, List.set_cons_zero, List.set_cons_succ]
      refine st_no (some 31) rfl rfl ?_
      simp only [Act.put, List.setIfInBounds_toArray, List.set_cons_zero, List.set_cons_succ]
      refine st_to (v := (.bool true)) (some 32) rfl rfl (ex_pkT rfl rfl rfl) ?_
      simp only [Act.put, List.setIfInBounds_toArray, List.set_cons_zero, List.set_cons_succ]
      refine st_end ?_
      subst hQ
      refine wp_cond_true rfl ?_
      refine wp_seq ?_
      refine wl_in ?_
      refine wl_cap fun Q hQ => ?_
      refine st_to (v := (.agg #[.slice none 0 0, .slice none 0 0])) (some 33) rfl rfl (ex_build0  rfl (b34 _)) ?_
      simp only [Act.put, List.setIfInBounds_toArray, List.set_cons_zero, List.set_cons_succ]
      obtain ⟨W5, hst, kn, K⟩ := put_all (D := #[.slice none 0 0, .slice none 0 0]) k2 rfl inf34 (by kernel_rfl)
      refine st_sk rfl rfl (ex_store rfl rfl rfl hst) ?_
      replace E := below_put E ge_b2 K
      replace k1 := keepK K k1 (fun e => ne_tag k1 k2 (by decide) e)
      replace k2 := kn
      clear kn K hst
      refine st_to (v := (.int .i64 1)) (some 9) rfl rfl (ex_asg rfl rfl) ?_
      simp only [Act.put, List.setIfInBounds_toArray, List.set_cons_zero, List.set_cons_succ]
      refine st_end ?_
      subst hQ
      refine wp_ret ?_
      refine ret_out ?_
      refine bodyPost_ret (ret_ct Try.results22 _ _ b2 _ _ _ _ rfl rfl k2 Try.underlying34 rfl inf34) rfl ⟨rfl, E⟩
    by_cases c2 : n < 1
    · skip
      have E : Below w.heap.size w w := Below.refl _ _
      go_enter Try.func22, Try.ntmps22
      refine wp_seq ?_
      refine wl_in ?_
      refine wl_cap fun Q hQ => ?_
      refine st_new (fun b => .pointer (some ⟨b, 0, none⟩)) (some 4) rfl rfl (ex_box rfl rfl) ?_
      intro b1 W1 k1 g1 B
      simp only [Act.put, List.setIfInBounds_toArray, List.set_cons_zero, List.set_cons_succ]
      have ge_b1 := Nat.le_trans E.size g1
      replace E := below_next E B
      clear B
      refine st_new (fun b => .pointer (some ⟨b, 0, none⟩)) (some 8) rfl rfl (ex_alloc rfl zero34) ?_
      intro b2 W2 k2 g2 B
      simp only [Act.put, List.setIfInBounds_toArray, List.set_cons_zero, List.set_cons_succ]
      have ne_b2_b1 : b2 ≠ b1 := fun e => by have := lt_of k1; omega
      have ge_b2 := Nat.le_trans E.size g2
      replace E := below_next E B
      replace k1 := keep B k1
      clear B
      refine st_to (v := (.int .i64 0)) (some 9) rfl rfl (ex_asg rfl rfl) ?_
      simp only [Act.put, List.setIfInBounds_toArray, List.set_cons_zero, List.set_cons_succ]
      refine st_end ?_
      subst hQ
      refine wp_seq ?_
      refine wp_seq ?_
      refine wl_in ?_
      refine wl_cap fun Q hQ => ?_
      refine st_to (v := (.agg C)) (some 10) rfl rfl (ex_load (p := (.pointer (some ⟨b1, 0, none⟩))) rfl rfl (ld_all k1 Try.underlying26 rfl (inf26.trans (congrArg some (hT.size).symm)))) ?_
      simp only [Act.put, List.setIfInBounds_toArray, List.set_cons_zero, List.set_cons_succ]
      refine st_call (some 11) rfl rfl (may_any W2 hT hb c0) (ex_call (f := 12) (vs := [(.agg C)]) rfl (cf12 _) rfl) ?_
      rintro e W3 ⟨rfl, B⟩
      refine ⟨_, rfl, ?_⟩
      simp only [Act.put, List.setIfInBounds_toArray, List.set_cons_zero, List.set_cons_succ]
      replace E := below_next E B
      replace k1 := keep B k1
      replace k2 := keep B k2
      refine st_to (v := (.bool false)) (some 12) rfl rfl (ex_not rfl rfl rfl) ?_
      simp only [Act.put, List.setIfInBounds_toArray, List.set_cons_zero, List.set_cons_succ]
      refine st_to (v := (.bool false)) (some 13) rfl rfl (ex_mv rfl rfl) ?_
      simp only [Act.put, List.setIfInBounds_toArray, List.set_cons_zero, List.set_cons_succ]
      refine st_to (v := (.agg C)) (some 14) rfl rfl (ex_load (p := (.pointer (some ⟨b1, 0, none⟩))) rfl rfl (ld_all k1 Try.underlying26 rfl (inf26.trans (congrArg some (hT.size).symm)))) ?_
      simp only [Act.put, List.setIfInBounds_toArray, List.set_cons_zero, List.set_cons_succ]
      refine st_to (v := (.int .i64 nd)) (some 15) rfl rfl (ex_mv rfl rfl) ?_
      simp only [Act.put, List.setIfInBounds_toArray, List.set_cons_zero, List.set_cons_succ]
      refine st_call (some 16) rfl rfl (isOf_any nd W3 hT (decide_eq_true c1)) (ex_call (f := 27) (vs := [(.agg C), (.int .i64 nd)]) rfl (cf27 _) rfl) ?_
      rintro e W4 ⟨rfl, B⟩
      refine ⟨_, rfl, ?_⟩
      simp only [Act.put, List.setIfInBounds_toArray, List.set_cons_zero, List.set_cons_succ]
      replace E := below_next E B
      replace k1 := keep B k1
      replace k2 := keep B k2
      refine st_to (v := (.bool false)) (some 17) rfl rfl (ex_not rfl rfl rfl) ?_
      simp only [Act.put, List.setIfInBounds_toArray, List.set_cons_zero, List.set_cons_succ]
      refine st_to (v := (.bool false)) (some 18) rfl rfl (ex_pkF rfl rfl rfl) ?_
      simp only [Act.put, List.setIfInBounds_toArray, List.set_cons_zero, List.set_cons_succ]
      refine st_to (v := (.bool false)) (some 19) rfl rfl (ex_mv rfl rfl) ?_
      simp only [Act.put, List.setIfInBounds_toArray, List.set_cons_zero, List.set_cons_succ]
      refine st_to (v := (.slice ao n c)) (some 20) rfl rfl (ex_mv rfl rfl) ?_
      simp only [Act.put, List.setIfInBounds_toArray, List.set_cons_zero, List.set_cons_succ]
      refine st_to (v := (.int .i64 (n : Nat))) (some 21) rfl rfl (ex_len rfl rfl (len31 _ _ _ _ _)) ?_
      simp only [Act.put, List.setIfInBounds_toArray, List.set_cons_zero, List.set_cons_succ]
      refine st_to (v := (.bool true)) (some 22) rfl rfl (ex_bin (u := (.int .i64 (n : Nat))) (r := (.int .i64 1)) rfl rfl rfl (eg3 _ _ _ _ _ _) (lss3 _ (decide_eq_true (by omega)))) ?_
      simp only [Act.put, List.setIfInBounds_toArray, List.set_cons_zero, List.set_cons_succ]
      refine st_to (v := (.bool true)) (some 23) rfl rfl (ex_pkF rfl rfl rfl) ?_
      simp only [Act.put, List.setIfInBounds_toArray, List.set_cons_zero, List.set_cons_succ]
      refine st_to (v := (.bool true)) (some 24) rfl rfl (ex_mv rfl rfl) ?_
      simp only [Act.put, List.setIfInBounds_toArray, List.set_cons_zero, List.set_cons_succ]
      refine st_no (some 25) rfl rfl ?_
      simp only [Act.put, List.setIfInBounds_toArray, List.set_cons_zero, List.set_cons_succ]
      refine st_no (some 26) rfl rfl ?_
      simp only [Act.put, List.setIfInBounds_toArray, List.set_cons_zero, List.set_cons_succ]
      refine st_no (some 27) rfl rfl ?_
      simp only [Act.put, List.setIfInBounds_toArray, List.set_cons_zero, List.set_cons_succ]
      refine st_to (v := (.bool true)) (some 28) rfl rfl (ex_pkT rfl rfl rfl) ?_
      simp only [Act.put, List.setIfInBounds_toArray, List.set_cons_zero, List.set_cons_succ]
      refine st_to (v := (.bool true)) (some 29) rfl rfl (ex_mv rfl rfl) ?_
      simp only [Act.put, List.setIfInBounds_toArray, List.set_cons_zero, List.set_cons_succ]
      refine st_no (some 30) rfl rfl ?_
      simp only [Act.put, List.setIfInBounds_toArray, List.set_cons_zero, List.set_cons_succ]
      refine st_no (some 31) rfl rfl ?_
      simp only [Act.put, List.setIfInBounds_toArray, List.set_cons_zero, List.set_cons_succ]
      refine st_to (v := (.bool true)) (some 32) rfl rfl (ex_pkT rfl rfl rfl) ?_
      simp only [Act.put, List.setIfInBounds_toArray, List.set_cons_zero, List.set_cons_succ]
      refine st_end ?_
      subst hQ
      refine wp_cond_true rfl ?_
      refine wp_seq ?_
      refine wl_in ?_
      refine wl_cap fun Q hQ => ?_
      refine st_to (v := (.agg #[.slice none 0 0, .slice none 0 0])) (some 33) rfl rfl (ex_build0  rfl (b34 _)) ?_
      simp only [Act.put, List.setIfInBounds_toArray, List.set_cons_zero, List.set_cons_succ]
      obtain ⟨W5, hst, kn, K⟩ := put_all (D := #[.slice none 0 0, .slice none 0 0]) k2 rfl inf34 (by kernel_rfl)
      refine st_sk rfl rfl (ex_store rfl rfl rfl hst) ?_
      replace E := below_put E ge_b2 K
      replace k1 := keepK K k1 (fun e => ne_tag k1 k2 (by decide) e)
      replace k2 := kn
      clear kn K hst
      refine st_to (v := (.int .i64 1)) (some 9) rfl rfl (ex_asg rfl rfl) ?_
      simp only [Act.put, List.setIfInBounds_toArray, List.set_cons_zero, List.set_cons_succ]
      refine st_end ?_
      subst hQ
      refine wp_ret ?_
      refine ret_out ?_
      refine bodyPost_ret (ret_ct Try.results22 _ _ b2 _ _ _ _ rfl rfl k2 Try.underlying34 rfl inf34) rfl ⟨rfl, E⟩
    by_cases c3 : 64 < n
    · skip
      have E : Below w.heap.size w w := Below.refl _ _
      go_enter Try.func22, Try.ntmps22
      refine wp_seq ?_
      refine wl_in ?_
      refine wl_cap fun Q hQ => ?_
      refine st_new (fun b => .pointer (some ⟨b, 0, none⟩)) (some 4) rfl rfl (ex_box rfl rfl) ?_
      intro b1 W1 k1 g1 B
      simp only [Act.put, List.setIfInBounds_toArray, List.set_cons_zero, List.set_cons_succ]
      have ge_b1 := Nat.le_trans E.size g1
      replace E := below_next E B
      clear B
      refine st_new (fun b => .pointer (some ⟨b, 0, none⟩)) (some 8) rfl rfl (ex_alloc rfl zero34) ?_
      intro b2 W2 k2 g2 B
      simp only [Act.put, List.setIfInBounds_toArray, List.set_cons_zero, List.set_cons_succ]
      have ne_b2_b1 : b2 ≠ b1 := fun e => by have := lt_of k1; omega
      have ge_b2 := Nat.le_trans E.size g2
      replace E := below_next E B
      replace k1 := keep B k1
      clear B
      refine st_to (v := (.int .i64 0)) (some 9) rfl rfl (ex_asg rfl rfl) ?_
      simp only [Act.put, List.setIfInBounds_toArray, List.set_cons_zero, List.set_cons_succ]
      refine st_end ?_
      subst hQ
      refine wp_seq ?_
      refine wp_seq ?_
      refine wl_in ?_
      refine wl_cap fun Q hQ => ?_
      refine st_to (v := (.agg C)) (some 10) rfl rfl (ex_load (p := (.pointer (some ⟨b1, 0, none⟩))) rfl rfl (ld_all k1 Try.underlying26 rfl (inf26.trans (congrArg some (hT.size).symm)))) ?_
      simp only [Act.put, List.setIfInBounds_toArray, List.set_cons_zero, List.set_cons_succ]
      refine st_call (some 11) rfl rfl (may_any W2 hT hb c0) (ex_call (f := 12) (vs := [(.agg C)]) rfl (cf12 _) rfl) ?_
      rintro e W3 ⟨rfl, B⟩
      refine ⟨_, rfl, ?_⟩
      simp only [Act.put, List.setIfInBounds_toArray, List.set_cons_zero, List.set_cons_succ]
      replace E := below_next E B
      replace k1 := keep B k1
      replace k2 := keep B k2
      refine st_to (v := (.bool false)) (some 12) rfl rfl (ex_not rfl rfl rfl) ?_
      simp only [Act.put, List.setIfInBounds_toArray, List.set_cons_zero, List.set_cons_succ]
      refine st_to (v := (.bool false)) (some 13) rfl rfl (ex_mv rfl rfl) ?_
      simp only [Act.put, List.setIfInBounds_toArray, List.set_cons_zero, List.set_cons_succ]
      refine st_to (v := (.agg C)) (some 14) rfl rfl (ex_load (p := (.pointer (some ⟨b1, 0, none⟩))) rfl rfl (ld_all k1 Try.underlying26 rfl (inf26.trans (congrArg some (hT.size).symm)))) ?_
      simp only [Act.put, List.setIfInBounds_toArray, List.set_cons_zero, List.set_cons_succ]
      refine st_to (v := (.int .i64 nd)) (some 15) rfl rfl (ex_mv rfl rfl) ?_
      simp only [Act.put, List.setIfInBounds_toArray, List.set_cons_zero, List.set_cons_succ]
      refine st_call (some 16) rfl rfl (isOf_any nd W3 hT (decide_eq_true c1)) (ex_call (f := 27) (vs := [(.agg C), (.int .i64 nd)]) rfl (cf27 _) rfl) ?_
      rintro e W4 ⟨rfl, B⟩
      refine ⟨_, rfl, ?_⟩
      simp only [Act.put, List.setIfInBounds_toArray, List.set_cons_zero, List.set_cons_succ]
      replace E := below_next E B
      replace k1 := keep B k1
      replace k2 := keep B k2
      refine st_to (v := (.bool false)) (some 17) rfl rfl (ex_not rfl rfl rfl) ?_
      simp only [Act.put, List.setIfInBounds_toArray, List.set_cons_zero, List.set_cons_succ]
      refine st_to (v := (.bool false)) (some 18) rfl rfl (ex_pkF rfl rfl rfl) ?_
      simp only [Act.put, List.setIfInBounds_toArray, List.set_cons_zero, List.set_cons_succ]
      refine st_to (v := (.bool false)) (some 19) rfl rfl (ex_mv rfl rfl) ?_
      simp only [Act.put, List.setIfInBounds_toArray, List.set_cons_zero, List.set_cons_succ]
      refine st_to (v := (.slice ao n c)) (some 20) rfl rfl (ex_mv rfl rfl) ?_
      simp only [Act.put, List.setIfInBounds_toArray, List.set_cons_zero, List.set_cons_succ]
      refine st_to (v := (.int .i64 (n : Nat))) (some 21) rfl rfl (ex_len rfl rfl (len31 _ _ _ _ _)) ?_
      simp only [Act.put, List.setIfInBounds_toArray, List.set_cons_zero, List.set_cons_succ]
      refine st_to (v := (.bool false)) (some 22) rfl rfl (ex_bin (u := (.int .i64 (n : Nat))) (r := (.int .i64 1)) rfl rfl rfl (eg3 _ _ _ _ _ _) (lss3 _ (decide_eq_false (by omega)))) ?_
      simp only [Act.put, List.setIfInBounds_toArray, List.set_cons_zero, List.set_cons_succ]
      refine st_to (v := (.bool false)) (some 23) rfl rfl (ex_pkF rfl rfl rfl) ?_
      simp only [Act.put, List.setIfInBounds_toArray, List.set_cons_zero, List.set_cons_succ]
      refine st_to (v := (.bool false)) (some 24) rfl rfl (ex_mv rfl rfl) ?_
      simp only [Act.put, List.setIfInBounds_toArray, List.set_cons_zero, List.set_cons_succ]
      refine st_to (v := (.slice ao n c)) (some 25) rfl rfl (ex_mv rfl rfl) ?_
      simp only [Act.put, List.setIfInBounds_toArray, List.set_cons_zero, List.set_cons_succ]
      refine st_to (v := (.int .i64 (n : Nat))) (some 26) rfl rfl (ex_len rfl rfl (len31 _ _ _ _ _)) ?_
      simp only [Act.put, List.setIfInBounds_toArray, List.set_cons_zero, List.set_cons_succ]
      refine st_to (v := (.bool true)) (some 27) rfl rfl (ex_bin (u := (.int .i64 (n : Nat))) (r := (.int .i64 64)) rfl rfl rfl (eg3 _ _ _ _ _ _) (gtr3 _ (decide_eq_true (by omega)))) ?_
      simp only [Act.put, List.setIfInBounds_toArray, List.set_cons_zero, List.set_cons_succ]
      refine st_to (v := (.bool true)) (some 28) rfl rfl (ex_pkF rfl rfl rfl) ?_
      simp only [Act.put, List.setIfInBounds_toArray, List.set_cons_zero, List.set_cons_succ]
      refine st_to (v := (.bool true)) (some 29) rfl rfl (ex_mv rfl rfl) ?_
      simp only [Act.put, List.setIfInBounds_toArray, List.set_cons_zero, List.set_cons_succ]
      refine st_no (some 30) rfl rfl ?_
      simp only [Act.put, List.setIfInBounds_toArray, List.set_cons_zero, List.set_cons_succ]
      refine st_no (some 31) rfl rfl ?_
      simp only [Act.put, List.setIfInBounds_toArray, List.set_cons_zero, List.set_cons_succ]
      refine st_to (v := (.bool true)) (some 32) rfl rfl (ex_pkT rfl rfl rfl) ?_
      simp only [Act.put, List.setIfInBounds_toArray, List.set_cons_zero, List.set_cons_succ]
      refine st_end ?_
      subst hQ
      refine wp_cond_true rfl ?_
      refine wp_seq ?_
      refine wl_in ?_
      refine wl_cap fun Q hQ => ?_
      refine st_to (v := (.agg #[.slice none 0 0, .slice none 0 0])) (some 33) rfl rfl (ex_build0  rfl (b34 _)) ?_
      simp only [Act.put, List.setIfInBounds_toArray, List.set_cons_zero, List.set_cons_succ]
      obtain ⟨W5, hst, kn, K⟩ := put_all (D := #[.slice none 0 0, .slice none 0 0]) k2 rfl inf34 (by kernel_rfl)
      refine st_sk rfl rfl (ex_store rfl rfl rfl hst) ?_
      replace E := below_put E ge_b2 K
      replace k1 := keepK K k1 (fun e => ne_tag k1 k2 (by decide) e)
      replace k2 := kn
      clear kn K hst
      refine st_to (v := (.int .i64 1)) (some 9) rfl rfl (ex_asg rfl rfl) ?_
      simp only [Act.put, List.setIfInBounds_toArray, List.set_cons_zero, List.set_cons_succ]
      refine st_end ?_
      subst hQ
      refine wp_ret ?_
      refine ret_out ?_
      refine bodyPost_ret (ret_ct Try.results22 _ _ b2 _ _ _ _ rfl rfl k2 Try.underlying34 rfl inf34) rfl ⟨rfl, E⟩
    have c4 : s < 0 := Int.not_le.1 fun e => hno ⟨c0, c1, by omega, by omega, e⟩
    have E : Below w.heap.size w w := Below.refl _ _
    go_enter Try.func22, Try.ntmps22
    refine wp_seq ?_
    refine wl_in ?_
    refine wl_cap fun Q hQ => ?_
    refine st_new (fun b => .pointer (some ⟨b, 0, none⟩)) (some 4) rfl rfl (ex_box rfl rfl) ?_
    intro b1 W1 k1 g1 B
    simp only [Act.put, List.setIfInBounds_toArray, List.set_cons_zero, List.set_cons_succ]
    have ge_b1 := Nat.le_trans E.size g1
    replace E := below_next E B
    clear B
    refine st_new (fun b => .pointer (some ⟨b, 0, none⟩)) (some 8) rfl rfl (ex_alloc rfl zero34) ?_
    intro b2 W2 k2 g2 B
    simp only [Act.put, List.setIfInBounds_toArray, List.set_cons_zero, List.set_cons_succ]
    have ne_b2_b1 : b2 ≠ b1 := fun e => by have := lt_of k1; omega
    have ge_b2 := Nat.le_trans E.size g2
    replace E := below_next E B
    replace k1 := keep B k1
    clear B
    refine st_to (v := (.int .i64 0)) (some 9) rfl rfl (ex_asg rfl rfl) ?_
    simp only [Act.put, List.setIfInBounds_toArray, List.set_cons_zero, List.set_cons_succ]
    refine st_end ?_
    subst hQ
    refine wp_seq ?_
    refine wp_seq ?_
    refine wl_in ?_
    refine wl_cap fun Q hQ => ?_
    refine st_to (v := (.agg C)) (some 10) rfl rfl (ex_load (p := (.pointer (some ⟨b1, 0, none⟩))) rfl rfl (ld_all k1 Try.underlying26 rfl (inf26.trans (congrArg some (hT.size).symm)))) ?_
    simp only [Act.put, List.setIfInBounds_toArray, List.set_cons_zero, List.set_cons_succ]
    refine st_call (some 11) rfl rfl (may_any W2 hT hb c0) (ex_call (f := 12) (vs := [(.agg C)]) rfl (cf12 _) rfl) ?_
    rintro e W3 ⟨rfl, B⟩
    refine ⟨_, rfl, ?_⟩
    simp only [Act.put, List.setIfInBounds_toArray, List.set_cons_zero, List.set_cons_succ]
    replace E := below_next E B
    replace k1 := keep B k1
    replace k2 := keep B k2
    refine st_to (v := (.bool false)) (some 12) rfl rfl (ex_not rfl rfl rfl) ?_
    simp only [Act.put, List.setIfInBounds_toArray, List.set_cons_zero, List.set_cons_succ]
    refine st_to (v := (.bool false)) (some 13) rfl rfl (ex_mv rfl rfl) ?_
    simp only [Act.put, List.setIfInBounds_toArray, List.set_cons_zero, List.set_cons_succ]
    refine st_to (v := (.agg C)) (some 14) rfl rfl (ex_load (p := (.pointer (some ⟨b1, 0, none⟩))) rfl rfl (ld_all k1 Try.underlying26 rfl (inf26.trans (congrArg some (hT.size).symm)))) ?_
    simp only [Act.put, List.setIfInBounds_toArray, List.set_cons_zero, List.set_cons_succ]
    refine st_to (v := (.int .i64 nd)) (some 15) rfl rfl (ex_mv rfl rfl) ?_
    simp only [Act.put, List.setIfInBounds_toArray, List.set_cons_zero, List.set_cons_succ]
    refine st_call (some 16) rfl rfl (isOf_any nd W3 hT (decide_eq_true c1)) (ex_call (f := 27) (vs := [(.agg C), (.int .i64 nd)]) rfl (cf27 _) rfl) ?_
    rintro e W4 ⟨rfl, B⟩
    refine ⟨_, rfl, ?_⟩
    simp only [Act.put, List.setIfInBounds_toArray, List.set_cons_zero, List.set_cons_succ]
    replace E := below_next E B
    replace k1 := keep B k1
    replace k2 := keep B k2
    refine st_to (v := (.bool false)) (some 17) rfl rfl (ex_not rfl rfl rfl) ?_
    simp only [Act.put, List.setIfInBounds_toArray, List.set_cons_zero, List.set_cons_succ]
    refine st_to (v := (.bool false)) (some 18) rfl rfl (ex_pkF rfl rfl rfl) ?_
    simp only [Act.put, List.setIfInBounds_toArray, List.set_cons_zero, List.set_cons_succ]
    refine st_to (v := (.bool false)) (some 19) rfl rfl (ex_mv rfl rfl) ?_
    simp only [Act.put, List.setIfInBounds_toArray, List.set_cons_zero, List.set_cons_succ]
    refine st_to (v := (.slice ao n c)) (some 20) rfl rfl (ex_mv rfl rfl) ?_
    simp only [Act.put, List.setIfInBounds_toArray, List.set_cons_zero, List.set_cons_succ]
    refine st_to (v := (.int .i64 (n : Nat))) (some 21) rfl rfl (ex_len rfl rfl (len31 _ _ _ _ _)) ?_
    simp only [Act.put, List.setIfInBounds_toArray, List.set_cons_zero, List.set_cons_succ]
    refine st_to (v := (.bool false)) (some 22) rfl rfl (ex_bin (u := (.int .i64 (n : Nat))) (r := (.int .i64 1)) rfl rfl rfl (eg3 _ _ _ _ _ _) (lss3 _ (decide_eq_false (by omega)))) ?_
    simp only [Act.put, List.setIfInBounds_toArray, List.set_cons_zero, List.set_cons_succ]
    refine st_to (v := (.bool false)) (some 23) rfl rfl (ex_pkF rfl rfl rfl) ?_
    simp only [Act.put, List.setIfInBounds_toArray, List.set_cons_zero, List.set_cons_succ]
    refine st_to (v := (.bool false)) (some 24) rfl rfl (ex_mv rfl rfl) ?_
    simp only [Act.put, List.setIfInBounds_toArray, List.set_cons_zero, List.set_cons_succ]
    refine st_to (v := (.slice ao n c)) (some 25) rfl rfl (ex_mv rfl rfl) ?_
    simp only [Act.put, List.setIfInBounds_toArray, List.set_cons_zero, List.set_cons_succ]
    refine st_to (v := (.int .i64 (n : Nat))) (some 26) rfl rfl (ex_len rfl rfl (len31 _ _ _ _ _)) ?_
    simp only [Act.put, List.setIfInBounds_toArray, List.set_cons_zero, List.set_cons_succ]
    refine st_to (v := (.bool false)) (some 27) rfl rfl (ex_bin (u := (.int .i64 (n : Nat))) (r := (.int .i64 64)) rfl rfl rfl (eg3 _ _ _ _ _ _) (gtr3 _ (decide_eq_false (by omega)))) ?_
    simp only [Act.put, List.setIfInBounds_toArray, List.set_cons_zero, List.set_cons_succ]
    refine st_to (v := (.bool false)) (some 28) rfl rfl (ex_pkF rfl rfl rfl) ?_
    simp only [Act.put, List.setIfInBounds_toArray, List.set_cons_zero, List.set_cons_succ]
    refine st_to (v := (.bool false)) (some 29) rfl rfl (ex_mv rfl rfl) ?_
    simp only [Act.put, List.setIfInBounds_toArray, List.set_cons_zero, List.set_cons_succ]
    refine st_to (v := (.int .i64 s)) (some 30) rfl rfl (ex_mv rfl rfl) ?_
    simp only [Act.put, List.setIfInBounds_toArray, List.set_cons_zero, List.set_cons_succ]
    refine st_to (v := (.bool true)) (some 31) rfl rfl (ex_bin (u := (.int .i64 s)) (r := (.int .i64 0)) rfl rfl rfl (eg3 _ _ _ _ _ _) (lss3 _ (decide_eq_true (by omega)))) ?_
    simp only [Act.put, List.setIfInBounds_toArray, List.set_cons_zero, List.set_cons_succ]
    refine st_to (v := (.bool true)) (some 32) rfl rfl (ex_pkF rfl rfl rfl) ?_
    simp only [Act.put, List.setIfInBounds_toArray, List.set_cons_zero, List.set_cons_succ]
    refine st_end ?_
    subst hQ
    refine wp_cond_true rfl ?_
    refine wp_seq ?_
    refine wl_in ?_
    refine wl_cap fun Q hQ => ?_
    refine st_to (v := (.agg #[.slice none 0 0, .slice none 0 0])) (some 33) rfl rfl (ex_build0  rfl (b34 _)) ?_
    simp only [Act.put, List.setIfInBounds_toArray, List.set_cons_zero, List.set_cons_succ]
    obtain ⟨W5, hst, kn, K⟩ := put_all (D := #[.slice none 0 0, .slice none 0 0]) k2 rfl inf34 (by kernel_rfl)
    refine st_sk rfl rfl (ex_store rfl rfl rfl hst) ?_
    replace E := below_put E ge_b2 K
    replace k1 := keepK K k1 (fun e => ne_tag k1 k2 (by decide) e)
    replace k2 := kn
    clear kn K hst
    refine st_to (v := (.int .i64 1)) (some 9) rfl rfl (ex_asg rfl rfl) ?_
    simp only [Act.put, List.setIfInBounds_toArray, List.set_cons_zero, List.set_cons_succ]
    refine st_end ?_
    subst hQ
    refine wp_ret ?_
    refine ret_out ?_
    refine bodyPost_ret (ret_ct Try.results22 _ _ b2 _ _ _ _ rfl rfl k2 Try.underlying34 rfl inf34) rfl ⟨rfl, E⟩
set_option maxHeartbeats 4000000 in
theorem rclaim_no {C : Array Value} {t : TV} {nd s : Int} {ao : Option Addr} {n c : Nat} {Is : Nat → Array Value} (w : World) (hT : IsT C t) (hb : TB t) (hI : InsS w ao n c Is) (hIs : ∀ i, i < n → IsI (Is i)) (hN : n * 144 ≤ 140737488355328) (hs : s ≤ 9223372036854775807) (hno : ¬ (mayT t = true ∧ (nd = t.a ∨ nd = t.b) ∧ 1 ≤ n ∧ n ≤ 64 ∧ 0 ≤ s)) :
    Calls Try.prog 23 #[.agg C, .int .i64 nd, .slice ao n c, .int .i64 s] w fun e w' => e = .returned (.tuple #[.agg #[.slice none 0 0, .slice none 0 0], .int .i64 1]) ∧ Below w.heap.size w w' := by
  cases c0 : mayT t with
  | false =>
    have E : Below w.heap.size w w := Below.refl _ _
    go_enter Try.func23, Try.ntmps23
    refine wp_seq ?_
    refine wl_in ?_
    refine wl_cap fun Q hQ => ?_
    refine st_new (fun b => .pointer (some ⟨b, 0, none⟩)) (some 4) rfl rfl (ex_box rfl rfl) ?_
    intro b1 W1 k1 g1 B
    simp only [Act.put, List.setIfInBounds_toArray, List.set_cons_zero, List.set_cons_succ]
    have ge_b1 := Nat.le_trans E.size g1
    replace E := below_next E B
    clear B
    refine st_new (fun b => .pointer (some ⟨b, 0, none⟩)) (some 8) rfl rfl (ex_alloc rfl zero34) ?_
    intro b2 W2 k2 g2 B
    simp only [Act.put, List.setIfInBounds_toArray, List.set_cons_zero, List.set_cons_succ]
    have ne_b2_b1 : b2 ≠ b1 := fun e => by have := lt_of k1; omega
    have ge_b2 := Nat.le_trans E.size g2
    replace E := below_next E B
    replace k1 := keep B k1
    clear B
    refine st_to (v := (.int .i64 0)) (some 9) rfl rfl (ex_asg rfl rfl) ?_
    simp only [Act.put, List.setIfInBounds_toArray, List.set_cons_zero, List.set_cons_succ]
    refine st_end ?_
    subst hQ
    refine wp_seq ?_
    refine wp_seq ?_
    refine wl_in ?_
    refine wl_cap fun Q hQ => ?_
    refine st_to (v := (.agg C)) (some 10) rfl rfl (ex_load (p := (.pointer (some ⟨b1, 0, none⟩))) rfl rfl (ld_all k1 Try.underlying26 rfl (inf26.trans (congrArg some (hT.size).symm)))) ?_
    simp only [Act.put, List.setIfInBounds_toArray, List.set_cons_zero, List.set_cons_succ]
    refine st_call (some 11) rfl rfl (rmay_any W2 hT hb c0) (ex_call (f := 13) (vs := [(.agg C)]) rfl (cf13 _) rfl) ?_
    rintro e W3 ⟨rfl, B⟩
    refine ⟨_, rfl, ?_⟩
    simp only [Act.put, List.setIfInBounds_toArray, List.set_cons_zero, List.set_cons_succ]
    replace E := below_next E B
    replace k1 := keep B k1
    replace k2 := keep B k2
    refine st_to (v := (.bool true)) (some 12) rfl rfl (ex_not rfl rfl rfl) ?_
    simp only [Act.put, List.setIfInBounds_toArray, List.set_cons_zero, List.set_cons_succ]
    refine st_to (v := (.bool true)) (some 13) rfl rfl (ex_mv rfl rfl) ?_
    simp only [Act.put, List.setIfInBounds_toArray, List.set_cons_zero, List.set_cons_succ]
    refine st_no (some 14) rfl rfl ?_
    simp only [Act.put, List.setIfInBounds_toArray, List.set_cons_zero, List.set_cons_succ]
    refine st_no (some 15) rfl rfl ?_
    simp only [Act.put, List.setIfInBounds_toArray, List.set_cons_zero, List.set_cons_succ]
    refine st_no (some 16) rfl rfl ?_
    simp only [Act.put, List.setIfInBounds_toArray, List.set_cons_zero, List.set_cons_succ]
    refine st_no (some 17) rfl rfl ?_
    simp only [Act.put, List.setIfInBounds_toArray, List.set_cons_zero, List.set_cons_succ]
    refine st_no (some 18) rfl rfl ?_
    simp only [Act.put, List.setIfInBounds_toArray, List.set_cons_zero, List.set_cons_succ]
    refine st_no (some 19) rfl rfl ?_
    simp only [Act.put, List.setIfInBounds_toArray, List.set_cons_zero, List.set_cons_succ]
    refine st_no (some 20) rfl rfl ?_
    simp only [Act.put, List.setIfInBounds_toArray, List.set_cons_zero, List.set_cons_succ]
    refine st_no (some 21) rfl rfl ?_
    simp only [Act.put, List.setIfInBounds_toArray, List.set_cons_zero, List.set_cons_succ]
    refine st_no (some 22) rfl rfl ?_
    simp only [Act.put, List.setIfInBounds_toArray, List.set_cons_zero, List.set_cons_succ]
    refine st_no (some 23) rfl rfl ?_
    simp only [Act.put, List.setIfInBounds_toArray, List.set_cons_zero, List.set_cons_succ]
    refine st_to (v := (.bool true)) (some 24) rfl rfl (ex_pkT rfl rfl rfl) ?_
    simp only [Act.put, List.setIfInBounds_toArray, List.set_cons_zero, List.set_cons_succ]
    refine st_to (v := (.bool true)) (some 25) rfl rfl (ex_mv rfl rfl) ?_
    simp only [Act.put, List.setIfInBounds_toArray, List.set_cons_zero, List.set_cons_succ]
    refine st_no (some 26) rfl rfl ?_
    simp only [Act.put, List.setIfInBounds_toArray, List.set_cons_zero, List.set_cons_succ]
    refine st_no (some 27) rfl rfl ?_
    simp only [Act.put, List.setIfInBounds_toArray, List.set_cons_zero, List.set_cons_succ]
    refine st_no (some 28) rfl rfl ?_
    simp only [Act.put, List.setIfInBounds_toArray, List.set_cons_zero, List.set_cons_succ]
    refine st_to (v := (.bool true)) (some 29) rfl rfl (ex_pkT rfl rfl rfl) ?_
    simp only [Act.put, List.setIfInBounds_toArray, List.set_cons_zero, List.set_cons_succ]
    refine st_to (v := (.bool true)) (some 30) rfl rfl (ex_mv rfl rfl) ?_
    simp only [Act.put, List.setIfInBounds_toArray, List.set_cons_zero, List.set_cons_succ]
    refine st_no (some 31) rfl rfl ?_
    simp only [Act.put, List.setIfInBounds_toArray, List.set_cons_zero, List.set_cons_succ]
    refine st_no (some 32) rfl rfl ?_
    simp only [Act.put, List.setIfInBounds_toArray, List.set_cons_zero, List.set_cons_succ]
    refine st_no (some 33) rfl rfl ?_
    simp only [Act.put, List.setIfInBounds_toArray, List.set_cons_zero, List.set_cons_succ]
    refine st_to (v := (.bool true)) (some 34) rfl rfl (ex_pkT rfl rfl rfl) ?_
    simp only [Act.put, List.setIfInBounds_toArray, List.set_cons_zero, List.set_cons_succ]
    refine st_to (v := (.bool true)) (some 35) rfl rfl (ex_mv rfl rfl) ?_
    simp only [Act.put, List.setIfInBounds_toArray, List.set_cons_zero, List.set_cons_succ]
    refine st_no (some 36) rfl rfl ?_
    simp only [Act.put, List.setIfInBounds_toArray, List.set_cons_zero, List.set_cons_succ]
    refine st_no (some 37) rfl rfl ?_
    simp only [Act.put, List.setIfInBounds_toArray, List.set_cons_zero, List.set_cons_succ]
    refine st_to (v := (.bool true)) (some 38) rfl rfl (ex_pkT rfl rfl rfl) ?_
    simp only [Act.put, List.setIfInBounds_toArray, List.set_cons_zero, List.set_cons_succ]
    refine st_end ?_
    subst hQ
    refine wp_cond_true rfl ?_
    refine wp_seq ?_
    refine wl_in ?_
    refine wl_cap fun Q hQ => ?_
    refine st_to (v := (.agg #[.slice none 0 0, .slice none 0 0])) (some 39) rfl rfl (ex_build0  rfl (b34 _)) ?_
    simp only [Act.put, List.setIfInBounds_toArray, List.set_cons_zero, List.set_cons_succ]
    obtain ⟨W4, hst, kn, K⟩ := put_all (D := #[.slice none 0 0, .slice none 0 0]) k2 rfl inf34 (by kernel_rfl)
    refine st_sk rfl rfl (ex_store rfl rfl rfl hst) ?_
    replace E := below_put E ge_b2 K
    replace k1 := keepK K k1 (fun e => ne_tag k1 k2 (by decide) e)
    replace k2 := kn
    clear kn K hst
    refine st_to (v := (.int .i64 1)) (some 9) rfl rfl (ex_asg rfl rfl) ?_
    simp only [Act.put, List.setIfInBounds_toArray, List.set_cons_zero, List.set_cons_succ]
    refine st_end ?_
    subst hQ
    refine wp_ret ?_
    refine ret_out ?_
    refine bodyPost_ret (ret_ct Try.results23 _ _ b2 _ _ _ _ rfl rfl k2 Try.underlying34 rfl inf34) rfl ⟨rfl, E⟩
  | true =>
    by_cases cA : nd = t.a
    · have c1 : nd = t.a ∨ nd = t.b := .inl cA
      by_cases c2 : n < 1
      · skip
        have E : Below w.heap.size w w := Below.refl _ _
        go_enter Try.func23, Try.ntmps23
        refine wp_seq ?_
        refine wl_in ?_
        refine wl_cap fun Q hQ => ?_
        refine st_new (fun b => .pointer (some ⟨b, 0, none⟩)) (some 4) rfl rfl (ex_box rfl rfl) ?_
        intro b1 W1 k1 g1 B
        simp only [Act.put, List.setIfInBounds_toArray, List.set_cons_zero, List.set_cons_succ]
        have ge_b1 := Nat.le_trans E.size g1
        replace E := below_next E B
        clear B
        refine st_new (fun b => .pointer (some ⟨b, 0, none⟩)) (some 8) rfl rfl (ex_alloc rfl zero34) ?_
        intro b2 W2 k2 g2 B
        simp only [Act.put, List.setIfInBounds_toArray, List.set_cons_zero, List.set_cons_succ]
        have ne_b2_b1 : b2 ≠ b1 := fun e => by have := lt_of k1; omega
        have ge_b2 := Nat.le_trans E.size g2
        replace E := below_next E B
        replace k1 := keep B k1
        clear B
        refine st_to (v := (.int .i64 0)) (some 9) rfl rfl (ex_asg rfl rfl) ?_
        simp only [Act.put, List.setIfInBounds_toArray, List.set_cons_zero, List.set_cons_succ]
        refine st_end ?_
        subst hQ
        refine wp_seq ?_
        refine wp_seq ?_
        refine wl_in ?_
        refine wl_cap fun Q hQ => ?_
        refine st_to (v := (.agg C)) (some 10) rfl rfl (ex_load (p := (.pointer (some ⟨b1, 0, none⟩))) rfl rfl (ld_all k1 Try.underlying26 rfl (inf26.trans (congrArg some (hT.size).symm)))) ?_
        simp only [Act.put, List.setIfInBounds_toArray, List.set_cons_zero, List.set_cons_succ]
        refine st_call (some 11) rfl rfl (rmay_any W2 hT hb c0) (ex_call (f := 13) (vs := [(.agg C)]) rfl (cf13 _) rfl) ?_
        rintro e W3 ⟨rfl, B⟩
        refine ⟨_, rfl, ?_⟩
        simp only [Act.put, List.setIfInBounds_toArray, List.set_cons_zero, List.set_cons_succ]
        replace E := below_next E B
        replace k1 := keep B k1
        replace k2 := keep B k2
        refine st_to (v := (.bool false)) (some 12) rfl rfl (ex_not rfl rfl rfl) ?_
        simp only [Act.put, List.setIfInBounds_toArray, List.set_cons_zero, List.set_cons_succ]
        refine st_to (v := (.bool false)) (some 13) rfl rfl (ex_mv rfl rfl) ?_
        simp only [Act.put, List.setIfInBounds_toArray, List.set_cons_zero, List.set_cons_succ]
        refine st_to (v := (.int .i64 nd)) (some 14) rfl rfl (ex_mv rfl rfl) ?_
        simp only [Act.put, List.setIfInBounds_toArray, List.set_cons_zero, List.set_cons_succ]
        refine st_to (v := (.pointer (some ⟨b1, 1, none⟩))) (some 15) rfl rfl (ex_fa (p := (.pointer (some ⟨b1, 0, none⟩))) rfl rfl (fa26_1 _ _)) ?_
        simp only [Act.put, List.setIfInBounds_toArray, List.set_cons_zero, List.set_cons_succ]
        refine st_to (v := (.int .i64 t.a)) (some 16) rfl rfl (ex_load (p := (.pointer (some ⟨b1, 1, none⟩))) rfl rfl (ld3 (at_cell k1 hT.c1))) ?_
        simp only [Act.put, List.setIfInBounds_toArray, List.set_cons_zero, List.set_cons_succ]
        refine st_to (v := (.bool false)) (some 17) rfl rfl (ex_bin (u := (.int .i64 nd)) (r := (.int .i64 t.a)) rfl rfl rfl (eg3 _ _ _ _ _ _) (neq3 _ (decide_eq_false (fun e => e cA)))) ?_
        simp only [Act.put, List.setIfInBounds_toArray, List.set_cons_zero, List.set_cons_succ]
        refine st_to (v := (.bool false)) (some 18) rfl rfl (ex_mv rfl rfl) ?_
        simp only [Act.put, List.setIfInBounds_toArray, List.set_cons_zero, List.set_cons_succ]
        refine st_no (some 19) rfl rfl ?_
        simp only [Act.put, List.setIfInBounds_toArray, List.set_cons_zero, List.set_cons_succ]
        refine st_no (some 20) rfl rfl ?_
        simp only [Act.put, List.setIfInBounds_toArray, List.set_cons_zero, List.set_cons_succ]
        refine st_no (some 21) rfl rfl ?_
        simp only [Act.put, List.setIfInBounds_toArray, List.set_cons_zero, List.set_cons_succ]
        refine st_no (some 22) rfl rfl ?_
        simp only [Act.put, List.setIfInBounds_toArray, List.set_cons_zero, List.set_cons_succ]
        refine st_to (v := (.bool false)) (some 23) rfl rfl (ex_pkF rfl rfl rfl) ?_
        simp only [Act.put, List.setIfInBounds_toArray, List.set_cons_zero, List.set_cons_succ]
        refine st_to (v := (.bool false)) (some 24) rfl rfl (ex_pkF rfl rfl rfl) ?_
        simp only [Act.put, List.setIfInBounds_toArray, List.set_cons_zero, List.set_cons_succ]
        refine st_to (v := (.bool false)) (some 25) rfl rfl (ex_mv rfl rfl) ?_
        simp only [Act.put, List.setIfInBounds_toArray, List.set_cons_zero, List.set_cons_succ]
        refine st_to (v := (.slice ao n c)) (some 26) rfl rfl (ex_mv rfl rfl) ?_
        simp only [Act.put, List.setIfInBounds_toArray, List.set_cons_zero, List.set_cons_succ]
        refine st_to (v := (.int .i64 (n : Nat))) (some 27) rfl rfl (ex_len rfl rfl (len31 _ _ _ _ _)) ?_
        simp only [Act.put, List.setIfInBounds_toArray, List.set_cons_zero, List.set_cons_succ]
        refine st_to (v := (.bool true)) (some 28) rfl rfl (ex_bin (u := (.int .i64 (n : Nat))) (r := (.int .i64 1)) rfl rfl rfl (eg3 _ _ _ _ _ _) (lss3 _ (decide_eq_true (by omega)))) ?_
        simp only [Act.put, List.setIfInBounds_toArray, List.set_cons_zero, List.set_cons_succ]
        refine st_to (v := (.bool true)) (some 29) rfl rfl (ex_pkF rfl rfl rfl) ?_
        simp only [Act.put, List.setIfInBounds_toArray, List.set_cons_zero, List.set_cons_succ]
        refine st_to (v := (.bool true)) (some 30) rfl rfl (ex_mv rfl rfl) ?_
        simp only [Act.put, List.setIfInBounds_toArray, List.set_cons_zero, List.set_cons_succ]
        refine st_no (some 31) rfl rfl ?_
        simp only [Act.put, List.setIfInBounds_toArray, List.set_cons_zero, List.set_cons_succ]
        refine st_no (some 32) rfl rfl ?_
        simp only [Act.put, List.setIfInBounds_toArray, List.set_cons_zero, List.set_cons_succ]
        refine st_no (some 33) rfl rfl ?_
        simp only [Act.put, List.setIfInBounds_toArray, List.set_cons_zero, List.set_cons_succ]
        refine st_to (v := (.bool true)) (some 34) rfl rfl (ex_pkT rfl rfl rfl) ?_
        simp only [Act.put, List.setIfInBounds_toArray, List.set_cons_zero, List.set_cons_succ]
        refine st_to (v := (.bool true)) (some 35) rfl rfl (ex_mv rfl rfl) ?_
        simp only [Act.put, List.setIfInBounds_toArray, List.set_cons_zero, List.set_cons_succ]
        refine st_no (some 36) rfl rfl ?_
        simp only [Act.put, List.setIfInBounds_toArray, List.set_cons_zero, List.set_cons_succ]
        refine st_no (some 37) rfl rfl ?_
        simp only [Act.put, List.setIfInBounds_toArray, List.set_cons_zero, List.set_cons_succ]
        refine st_to (v := (.bool true)) (some 38) rfl rfl (ex_pkT rfl rfl rfl) ?_
        simp only [Act.put, List.setIfInBounds_toArray, List.set_cons_zero, List.set_cons_succ]
        refine st_end ?_
        subst hQ
        refine wp_cond_true rfl ?_
        refine wp_seq ?_
        refine wl_in ?_
        refine wl_cap fun Q hQ => ?_
        refine st_to (v := (.agg #[.slice none 0 0, .slice none 0 0])) (some 39) rfl rfl (ex_build0  rfl (b34 _)) ?_
        simp only [Act.put, List.setIfInBounds_toArray, List.set_cons_zero, List.set_cons_succ]
        obtain ⟨W4, hst, kn, K⟩ := put_all (D := #[.slice none 0 0, .slice none 0 0]) k2 rfl inf34 (by kernel_rfl)
        refine st_sk rfl rfl (ex_store rfl rfl rfl hst) ?_
        replace E := below_put E ge_b2 K
        replace k1 := keepK K k1 (fun e => ne_tag k1 k2 (by decide) e)
        replace k2 := kn
        clear kn K hst
        refine st_to (v := (.int .i64 1)) (some 9) rfl rfl (ex_asg rfl rfl) ?_
        simp only [Act.put, List.setIfInBounds_toArray, List.set_cons_zero, List.set_cons_succ]
        refine st_end ?_
        subst hQ
        refine wp_ret ?_
        refine ret_out ?_
        refine bodyPost_ret (ret_ct Try.results23 _ _ b2 _ _ _ _ rfl rfl k2 Try.underlying34 rfl inf34) rfl ⟨rfl, E⟩
      by_cases c3 : 64 < n
      · skip
        have E : Below w.heap.size w w := Below.refl _ _
        go_enter Try.func23, Try.ntmps23
        refine wp_seq ?_
        refine wl_in ?_
        refine wl_cap fun Q hQ => ?_
        refine st_new (fun b => .pointer (some ⟨b, 0, none⟩)) (some 4) rfl rfl (ex_box rfl rfl) ?_
        intro b1 W1 k1 g1 B
        simp only [Act.put, List.setIfInBounds_toArray, List.set_cons_zero, List.set_cons_succ]
        have ge_b1 := Nat.le_trans E.size g1
        replace E := below_next E B
        clear B
        refine st_new (fun b => .pointer (some ⟨b, 0, none⟩)) (some 8) rfl rfl (ex_alloc rfl zero34) ?_
        intro b2 W2 k2 g2 B
        simp only [Act.put, List.setIfInBounds_toArray, List.set_cons_zero, List.set_cons_succ]
        have ne_b2_b1 : b2 ≠ b1 := fun e => by have := lt_of k1; omega
        have ge_b2 := Nat.le_trans E.size g2
        replace E := below_next E B
        replace k1 := keep B k1
        clear B
        refine st_to (v := (.int .i64 0)) (some 9) rfl rfl (ex_asg rfl rfl) ?_
        simp only [Act.put, List.setIfInBounds_toArray, List.set_cons_zero, List.set_cons_succ]
        refine st_end ?_
        subst hQ
        refine wp_seq ?_
        refine wp_seq ?_
        refine wl_in ?_
        refine wl_cap fun Q hQ => ?_
        refine st_to (v := (.agg C)) (some 10) rfl rfl (ex_load (p := (.pointer (some ⟨b1, 0, none⟩))) rfl rfl (ld_all k1 Try.underlying26 rfl (inf26.trans (congrArg some (hT.size).symm)))) ?_
        simp only [Act.put, List.setIfInBounds_toArray, List.set_cons_zero, List.set_cons_succ]
        refine st_call (some 11) rfl rfl (rmay_any W2 hT hb c0) (ex_call (f := 13) (vs := [(.agg C)]) rfl (cf13 _) rfl) ?_
        rintro e W3 ⟨rfl, B⟩
        refine ⟨_, rfl, ?_⟩
        simp only [Act.put, List.setIfInBounds_toArray, List.set_cons_zero, List.set_cons_succ]
        replace E := below_next E B
        replace k1 := keep B k1
        replace k2 := keep B k2
        refine st_to (v := (.bool false)) (some 12) rfl rfl (ex_not rfl rfl rfl) ?_
        simp only [Act.put, List.setIfInBounds_toArray, List.set_cons_zero, List.set_cons_succ]
        refine st_to (v := (.bool false)) (some 13) rfl rfl (ex_mv rfl rfl) ?_
        simp only [Act.put, List.setIfInBounds_toArray, List.set_cons_zero, List.set_cons_succ]
        refine st_to (v := (.int .i64 nd)) (some 14) rfl rfl (ex_mv rfl rfl) ?_
        simp only [Act.put, List.setIfInBounds_toArray, List.set_cons_zero, List.set_cons_succ]
        refine st_to (v := (.pointer (some ⟨b1, 1, none⟩))) (some 15) rfl rfl (ex_fa (p := (.pointer (some ⟨b1, 0, none⟩))) rfl rfl (fa26_1 _ _)) ?_
        simp only [Act.put, List.setIfInBounds_toArray, List.set_cons_zero, List.set_cons_succ]
        refine st_to (v := (.int .i64 t.a)) (some 16) rfl rfl (ex_load (p := (.pointer (some ⟨b1, 1, none⟩))) rfl rfl (ld3 (at_cell k1 hT.c1))) ?_
        simp only [Act.put, List.setIfInBounds_toArray, List.set_cons_zero, List.set_cons_succ]
        refine st_to (v := (.bool false)) (some 17) rfl rfl (ex_bin (u := (.int .i64 nd)) (r := (.int .i64 t.a)) rfl rfl rfl (eg3 _ _ _ _ _ _) (neq3 _ (decide_eq_false (fun e => e cA)))) ?_
        simp only [Act.put, List.setIfInBounds_toArray, List.set_cons_zero, List.set_cons_succ]
        refine st_to (v := (.bool false)) (some 18) rfl rfl (ex_mv rfl rfl) ?_
        simp only [Act.put, List.setIfInBounds_toArray, List.set_cons_zero, List.set_cons_succ]
        refine st_no (some 19) rfl rfl ?_
        simp only [Act.put, List.setIfInBounds_toArray, List.set_cons_zero, List.set_cons_succ]
        refine st_no (some 20) rfl rfl ?_
        simp only [Act.put, List.setIfInBounds_toArray, List.set_cons_zero, List.set_cons_succ]
        refine st_no (some 21) rfl rfl ?_
        simp only [Act.put, List.setIfInBounds_toArray, List.set_cons_zero, List.set_cons_succ]
        refine st_no (some 22) rfl rfl ?_
        simp only [Act.put, List.setIfInBounds_toArray, List.set_cons_zero, List.set_cons_succ]
        refine st_to (v := (.bool false)) (some 23) rfl rfl (ex_pkF rfl rfl rfl) ?_
        simp only [Act.put, List.setIfInBounds_toArray, List.set_cons_zero, List.set_cons_succ]
        refine st_to (v := (.bool false)) (some 24) rfl rfl (ex_pkF rfl rfl rfl) ?_
        simp only [Act.put, List.setIfInBounds_toArray, List.set_cons_zero, List.set_cons_succ]
        refine st_to (v := (.bool false)) (some 25) rfl rfl (ex_mv rfl rfl) ?_
        simp only [Act.put, List.setIfInBounds_toArray, List.set_cons_zero, List.set_cons_succ]
        refine st_to (v := (.slice ao n c)) (some 26) rfl rfl (ex_mv rfl rfl) ?_
        simp only [Act.put, List.setIfInBounds_toArray, List.set_cons_zero, List.set_cons_succ]
        refine st_to (v := (.int .i64 (n : Nat))) (some 27) rfl rfl (ex_len rfl rfl (len31 _ _ _ _ _)) ?_
        simp only [Act.put, List.setIfInBounds_toArray, List.set_cons_zero, List.set_cons_succ]
        refine st_to (v := (.bool false)) (some 28) rfl rfl (ex_bin (u := (.int .i64 (n : Nat))) (r := (.int .i64 1)) rfl rfl rfl (eg3 _ _ _ _ _ _) (lss3 _ (decide_eq_false (by omega)))) ?_
        simp only [Act.put, List.setIfInBounds_toArray, List.set_cons_zero, List.set_cons_succ]
        refine st_to (v := (.bool false)) (some 29) rfl rfl (ex_pkF rfl rfl rfl) ?_
        simp only [Act.put, List.setIfInBounds_toArray, List.set_cons_zero, List.set_cons_succ]
        refine st_to (v := (.bool false)) (some 30) rfl rfl (ex_mv rfl rfl) ?_
        simp only [Act.put, List.setIfInBounds_toArray, List.set_cons_zero, List.set_cons_succ]
        refine st_to (v := (.slice ao n c)) (some 31) rfl rfl (ex_mv rfl rfl) ?_
        simp only [Act.put, List.setIfInBounds_toArray, List.set_cons_zero, List.set_cons_succ]
        refine st_to (v := (.int .i64 (n : Nat))) (some 32) rfl rfl (ex_len rfl rfl (len31 _ _ _ _ _)) ?_
        simp only [Act.put, List.setIfInBounds_toArray, List.set_cons_zero, List.set_cons_succ]
        refine st_to (v := (.bool true)) (some 33) rfl rfl (ex_bin (u := (.int .i64 (n : Nat))) (r := (.int .i64 64)) rfl rfl rfl (eg3 _ _ _ _ _ _) (gtr3 _ (decide_eq_true (by omega)))) ?_
        simp only [Act.put, List.setIfInBounds_toArray, List.set_cons_zero, List.set_cons_succ]
        refine st_to (v := (.bool true)) (some 34) rfl rfl (ex_pkF rfl rfl rfl) ?_
        simp only [Act.put, List.setIfInBounds_toArray, List.set_cons_zero, List.set_cons_succ]
        refine st_to (v := (.bool true)) (some 35) rfl rfl (ex_mv rfl rfl) ?_
        simp only [Act.put, List.setIfInBounds_toArray, List.set_cons_zero, List.set_cons_succ]
        refine st_no (some 36) rfl rfl ?_
        simp only [Act.put, List.setIfInBounds_toArray, List.set_cons_zero, List.set_cons_succ]
        refine st_no (some 37) rfl rfl ?_
        simp only [Act.put, List.setIfInBounds_toArray, List.set_cons_zero, List.set_cons_succ]
        refine st_to (v := (.bool true)) (some 38) rfl rfl (ex_pkT rfl rfl rfl) ?_
        simp only [Act.put, List.setIfInBounds_toArray, List.set_cons_zero, List.set_cons_succ]
        refine st_end ?_
        subst hQ
        refine wp_cond_true rfl ?_
        refine wp_seq ?_
        refine wl_in ?_
        refine wl_cap fun Q hQ => ?_
        refine st_to (v := (.agg #[.slice none 0 0, .slice none 0 0])) (some 39) rfl rfl (ex_build0  rfl (b34 _)) ?_
        simp only [Act.put, List.setIfInBounds_toArray, List.set_cons_zero, List.set_cons_succ]
        obtain ⟨W4, hst, kn, K⟩ := put_all (D := #[.slice none 0 0, .slice none 0 0]) k2 rfl inf34 (by kernel_rfl)
        refine st_sk rfl rfl (ex_store rfl rfl rfl hst) ?_
        replace E := below_put E ge_b2 K
        replace k1 := keepK K k1 (fun e => ne_tag k1 k2 (by decide) e)
        replace k2 := kn
        clear kn K hst
        refine st_to (v := (.int .i64 1)) (some 9) rfl rfl (ex_asg rfl rfl) ?_
        simp only [Act.put, List.setIfInBounds_toArray, List.set_cons_zero, List.set_cons_succ]
        refine st_end ?_
        subst hQ
        refine wp_ret ?_
        refine ret_out ?_
        refine bodyPost_ret (ret_ct Try.results23 _ _ b2 _ _ _ _ rfl rfl k2 Try.underlying34 rfl inf34) rfl ⟨rfl, E⟩
      have c4 : s < 0 := Int.not_le.1 fun e => hno ⟨c0, c1, by omega, by omega, e⟩
      have E : Below w.heap.size w w := Below.refl _ _
      go_enter Try.func23, Try.ntmps23
      refine wp_seq ?_
      refine wl_in ?_
      refine wl_cap fun Q hQ => ?_
      refine st_new (fun b => .pointer (some ⟨b, 0, none⟩)) (some 4) rfl rfl (ex_box rfl rfl) ?_
      intro b1 W1 k1 g1 B
      simp only [Act.put, List.setIfInBounds_toArray, List.set_cons_zero, List.set_cons_succ]
      have ge_b1 := Nat.le_trans E.size g1
      replace E := below_next E B
      clear B
      refine st_new (fun b => .pointer (some ⟨b, 0, none⟩)) (some 8) rfl rfl (ex_alloc rfl zero34) ?_
      intro b2 W2 k2 g2 B
      simp only [Act.put, List.setIfInBounds_toArray, List.set_cons_zero, List.set_cons_succ]
      have ne_b2_b1 : b2 ≠ b1 := fun e => by have := lt_of k1; omega
      have ge_b2 := Nat.le_trans E.size g2
      replace E := below_next E B
      replace k1 := keep B k1
      clear B
      refine st_to (v := (.int .i64 0)) (some 9) rfl rfl (ex_asg rfl rfl) ?_
      simp only [Act.put, List.setIfInBounds_toArray, List.set_cons_zero, List.set_cons_succ]
      refine st_end ?_
      subst hQ
      refine wp_seq ?_
      refine wp_seq ?_
      refine wl_in ?_
      refine wl_cap fun Q hQ => ?_
      refine st_to (v := (.agg C)) (some 10) rfl rfl (ex_load (p := (.pointer (some ⟨b1, 0, none⟩))) rfl rfl (ld_all k1 Try.underlying26 rfl (inf26.trans (congrArg some (hT.size).symm)))) ?_
      simp only [Act.put, List.setIfInBounds_toArray, List.set_cons_zero, List.set_cons_succ]
      refine st_call (some 11) rfl rfl (rmay_any W2 hT hb c0) (ex_call (f := 13) (vs := [(.agg C)]) rfl (cf13 _) rfl) ?_
      rintro e W3 ⟨rfl, B⟩
      refine ⟨_, rfl, ?_⟩
      simp only [Act.put, List.setIfInBounds_toArray, List.set_cons_zero, List.set_cons_succ]
      replace E := below_next E B
      replace k1 := keep B k1
      replace k2 := keep B k2
      refine st_to (v := (.bool false)) (some 12) rfl rfl (ex_not rfl rfl rfl) ?_
      simp only [Act.put, List.setIfInBounds_toArray, List.set_cons_zero, List.set_cons_succ]
      refine st_to (v := (.bool false)) (some 13) rfl rfl (ex_mv rfl rfl) ?_
      simp only [Act.put, List.setIfInBounds_toArray, List.set_cons_zero, List.set_cons_succ]
      refine st_to (v := (.int .i64 nd)) (some 14) rfl rfl (ex_mv rfl rfl) ?_
      simp only [Act.put, List.setIfInBounds_toArray, List.set_cons_zero, List.set_cons_succ]
      refine st_to (v := (.pointer (some ⟨b1, 1, none⟩))) (some 15) rfl rfl (ex_fa (p := (.pointer (some ⟨b1, 0, none⟩))) rfl rfl (fa26_1 _ _)) ?_
      simp only [Act.put, List.setIfInBounds_toArray, List.set_cons_zero, List.set_cons_succ]
      refine st_to (v := (.int .i64 t.a)) (some 16) rfl rfl (ex_load (p := (.pointer (some ⟨b1, 1, none⟩))) rfl rfl (ld3 (at_cell k1 hT.c1))) ?_
      simp only [Act.put, List.setIfInBounds_toArray, List.set_cons_zero, List.set_cons_succ]
      refine st_to (v := (.bool false)) (some 17) rfl rfl (ex_bin (u := (.int .i64 nd)) (r := (.int .i64 t.a)) rfl rfl rfl (eg3 _ _ _ _ _ _) (neq3 _ (decide_eq_false (fun e => e cA)))) ?_
      simp only [Act.put, List.setIfInBounds_toArray, List.set_cons_zero, List.set_cons_succ]
      refine st_to (v := (.bool false)) (some 18) rfl rfl (ex_mv rfl rfl) ?_
      simp only [Act.put, List.setIfInBounds_toArray, List.set_cons_zero, List.set_cons_succ]
      refine st_no (some 19) rfl rfl ?_
      simp only [Act.put, List.setIfInBounds_toArray, List.set_cons_zero, List.set_cons_succ]
      refine st_no (some 20) rfl rfl ?_
      simp only [Act.put, List.setIfInBounds_toArray, List.set_cons_zero, List.set_cons_succ]
      refine st_no (some 21) rfl rfl ?_
      simp only [Act.put, List.setIfInBounds_toArray, List.set_cons_zero, List.set_cons_succ]
      refine st_no (some 22) rfl rfl ?_
      simp only [Act.put, List.setIfInBounds_toArray, List.set_cons_zero, List.set_cons_succ]
      refine st_to (v := (.bool false)) (some 23) rfl rfl (ex_pkF rfl rfl rfl) ?_
      simp only [Act.put, List.setIfInBounds_toArray, List.set_cons_zero, List.set_cons_succ]
      refine st_to (v := (.bool false)) (some 24) rfl rfl (ex_pkF rfl rfl rfl) ?_
      simp only [Act.put, List.setIfInBounds_toArray, List.set_cons_zero, List.set_cons_succ]
      refine st_to (v := (.bool false)) (some 25) rfl rfl (ex_mv rfl rfl) ?_
      simp only [Act.put, List.setIfInBounds_toArray, List.set_cons_zero, List.set_cons_succ]
      refine st_to (v := (.slice ao n c)) (some 26) rfl rfl (ex_mv rfl rfl) ?_
      simp only [Act.put, List.setIfInBounds_toArray, List.set_cons_zero, List.set_cons_succ]
      refine st_to (v := (.int .i64 (n : Nat))) (some 27) rfl rfl (ex_len rfl rfl (len31 _ _ _ _ _)) ?_
      simp only [Act.put, List.setIfInBounds_toArray, List.set_cons_zero, List.set_cons_succ]
      refine st_to (v := (.bool false)) (some 28) rfl rfl (ex_bin (u := (.int .i64 (n : Nat))) (r := (.int .i64 1)) rfl rfl rfl (eg3 _ _ _ _ _ _) (lss3 _ (decide_eq_false (by omega)))) ?_
      simp only [Act.put, List.setIfInBounds_toArray, List.set_cons_zero, List.set_cons_succ]
      refine st_to (v := (.bool false)) (some 29) rfl rfl (ex_pkF rfl rfl rfl) ?_
      simp only [Act.put, List.setIfInBounds_toArray, List.set_cons_zero, List.set_cons_succ]
      refine st_to (v := (.bool false)) (some 30) rfl rfl (ex_mv rfl rfl) ?_
      simp only [Act.put, List.setIfInBounds_toArray, List.set_cons_zero, List.set_cons_succ]
      refine st_to (v := (.slice ao n c)) (some 31) rfl rfl (ex_mv rfl rfl) ?_
      simp only [Act.put, List.setIfInBounds_toArray, List.set_cons_zero, List.set_cons_succ]
      refine st_to (v := (.int .i64 (n : Nat))) (some 32) rfl rfl (ex_len rfl rfl (len31 _ _ _ _ _)) ?_
      simp only [Act.put, List.setIfInBounds_toArray, List.set_cons_zero, List.set_cons_succ]
      refine st_to (v := (.bool false)) (some 33) rfl rfl (ex_bin (u := (.int .i64 (n : Nat))) (r := (.int .i64 64)) rfl rfl rfl (eg3 _ _ _ _ _ _) (gtr3 _ (decide_eq_false (by omega)))) ?_
      simp only [Act.put, List.setIfInBounds_toArray, List.set_cons_zero, List.set_cons_succ]
      refine st_to (v := (.bool false)) (some 34) rfl rfl (ex_pkF rfl rfl rfl) ?_
      simp only [Act.put, List.setIfInBounds_toArray, List.set_cons_zero, List.set_cons_succ]
      refine st_to (v := (.bool false)) (some 35) rfl rfl (ex_mv rfl rfl) ?_
      simp only [Act.put, List.setIfInBounds_toArray, List.set_cons_zero, List.set_cons_succ]
      refine st_to (v := (.int .i64 s)) (some 36) rfl rfl (ex_mv rfl rfl) ?_
      simp only [Act.put, List.setIfInBounds_toArray, List.set_cons_zero, List.set_cons_succ]
      refine st_to (v := (.bool true)) (some 37) rfl rfl (ex_bin (u := (.int .i64 s)) (r := (.int .i64 0)) rfl rfl rfl (eg3 _ _ _ _ _ _) (lss3 _ (decide_eq_true (by omega)))) ?_
      simp only [Act.put, List.setIfInBounds_toArray, List.set_cons_zero, List.set_cons_succ]
      refine st_to (v := (.bool true)) (some 38) rfl rfl (ex_pkF rfl rfl rfl) ?_
      simp only [Act.put, List.setIfInBounds_toArray, List.set_cons_zero, List.set_cons_succ]
      refine st_end ?_
      subst hQ
      refine wp_cond_true rfl ?_
      refine wp_seq ?_
      refine wl_in ?_
      refine wl_cap fun Q hQ => ?_
      refine st_to (v := (.agg #[.slice none 0 0, .slice none 0 0])) (some 39) rfl rfl (ex_build0  rfl (b34 _)) ?_
      simp only [Act.put, List.setIfInBounds_toArray, List.set_cons_zero, List.set_cons_succ]
      obtain ⟨W4, hst, kn, K⟩ := put_all (D := #[.slice none 0 0, .slice none 0 0]) k2 rfl inf34 (by kernel_rfl)
      refine st_sk rfl rfl (ex_store rfl rfl rfl hst) ?_
      replace E := below_put E ge_b2 K
      replace k1 := keepK K k1 (fun e => ne_tag k1 k2 (by decide) e)
      replace k2 := kn
      clear kn K hst
      refine st_to (v := (.int .i64 1)) (some 9) rfl rfl (ex_asg rfl rfl) ?_
      simp only [Act.put, List.setIfInBounds_toArray, List.set_cons_zero, List.set_cons_succ]
      refine st_end ?_
      subst hQ
      refine wp_ret ?_
      refine ret_out ?_
      refine bodyPost_ret (ret_ct Try.results23 _ _ b2 _ _ _ _ rfl rfl k2 Try.underlying34 rfl inf34) rfl ⟨rfl, E⟩
    · by_cases cB : nd = t.b
      rotate_left
      · skip
        have E : Below w.heap.size w w := Below.refl _ _
        go_enter Try.func23, Try.ntmps23
        refine wp_seq ?_
        refine wl_in ?_
        refine wl_cap fun Q hQ => ?_
        refine st_new (fun b => .pointer (some ⟨b, 0, none⟩)) (some 4) rfl rfl (ex_box rfl rfl) ?_
        intro b1 W1 k1 g1 B
        simp only [Act.put, List.setIfInBounds_toArray, List.set_cons_zero, List.set_cons_succ]
        have ge_b1 := Nat.le_trans E.size g1
        replace E := below_next E B
        clear B
        refine st_new (fun b => .pointer (some ⟨b, 0, none⟩)) (some 8) rfl rfl (ex_alloc rfl zero34) ?_
        intro b2 W2 k2 g2 B
        simp only [Act.put, List.setIfInBounds_toArray, List.set_cons_zero, List.set_cons_succ]
        have ne_b2_b1 : b2 ≠ b1 := fun e => by have := lt_of k1; omega
        have ge_b2 := Nat.le_trans E.size g2
        replace E := below_next E B
        replace k1 := keep B k1
        clear B
        refine st_to (v := (.int .i64 0)) (some 9) rfl rfl (ex_asg rfl rfl) ?_
        simp only [Act.put, List.setIfInBounds_toArray, List.set_cons_zero, List.set_cons_succ]
        refine st_end ?_
        subst hQ
        refine wp_seq ?_
        refine wp_seq ?_
        refine wl_in ?_
        refine wl_cap fun Q hQ => ?_
        refine st_to (v := (.agg C)) (some 10) rfl rfl (ex_load (p := (.pointer (some ⟨b1, 0, none⟩))) rfl rfl (ld_all k1 Try.underlying26 rfl (inf26.trans (congrArg some (hT.size).symm)))) ?_
        simp only [Act.put, List.setIfInBounds_toArray, List.set_cons_zero, List.set_cons_succ]
        refine st_call (some 11) rfl rfl (rmay_any W2 hT hb c0) (ex_call (f := 13) (vs := [(.agg C)]) rfl (cf13 _) rfl) ?_
        rintro e W3 ⟨rfl, B⟩
        refine ⟨_, rfl, ?_⟩
        simp only [Act.put, List.setIfInBounds_toArray, List.set_cons_zero, List.set_cons_succ]
        replace E := below_next E B
        replace k1 := keep B k1
        replace k2 := keep B k2
        refine st_to (v := (.bool false)) (some 12) rfl rfl (ex_not rfl rfl rfl) ?_
        simp only [Act.put, List.setIfInBounds_toArray, List.set_cons_zero, List.set_cons_succ]
        refine st_to (v := (.bool false)) (some 13) rfl rfl (ex_mv rfl rfl) ?_
        simp only [Act.put, List.setIfInBounds_toArray, List.set_cons_zero, List.set_cons_succ]
        refine st_to (v := (.int .i64 nd)) (some 14) rfl rfl (ex_mv rfl rfl) ?_
        simp only [Act.put, List.setIfInBounds_toArray, List.set_cons_zero, List.set_cons_succ]
        refine st_to (v := (.pointer (some ⟨b1, 1, none⟩))) (some 15) rfl rfl (ex_fa (p := (.pointer (some ⟨b1, 0, none⟩))) rfl rfl (fa26_1 _ _)) ?_
        simp only [Act.put, List.setIfInBounds_toArray, List.set_cons_zero, List.set_cons_succ]
        refine st_to (v := (.int .i64 t.a)) (some 16) rfl rfl (ex_load (p := (.pointer (some ⟨b1, 1, none⟩))) rfl rfl (ld3 (at_cell k1 hT.c1))) ?_
        simp only [Act.put, List.setIfInBounds_toArray, List.set_cons_zero, List.set_cons_succ]
        refine st_to (v := (.bool true)) (some 17) rfl rfl (ex_bin (u := (.int .i64 nd)) (r := (.int .i64 t.a)) rfl rfl rfl (eg3 _ _ _ _ _ _) (neq3 _ (decide_eq_true cA))) ?_
        simp only [Act.put, List.setIfInBounds_toArray, List.set_cons_zero, List.set_cons_succ]
        refine st_to (v := (.bool true)) (some 18) rfl rfl (ex_mv rfl rfl) ?_
        simp only [Act.put, List.setIfInBounds_toArray, List.set_cons_zero, List.set_cons_succ]
        refine st_to (v := (.int .i64 nd)) (some 19) rfl rfl (ex_mv rfl rfl) ?_
        simp only [Act.put, List.setIfInBounds_toArray, List.set_cons_zero, List.set_cons_succ]
        refine st_to (v := (.pointer (some ⟨b1, 2, none⟩))) (some 20) rfl rfl (ex_fa (p := (.pointer (some ⟨b1, 0, none⟩))) rfl rfl (fa26_2 _ _)) ?_
        simp only [Act.put, List.setIfInBounds_toArray, List.set_cons_zero, List.set_cons_succ]
        refine st_to (v := (.int .i64 t.b)) (some 21) rfl rfl (ex_load (p := (.pointer (some ⟨b1, 2, none⟩))) rfl rfl (ld3 (at_cell k1 hT.c2))) ?_
        simp only [Act.put, List.setIfInBounds_toArray, List.set_cons_zero, List.set_cons_succ]
        refine st_to (v := (.bool true)) (some 22) rfl rfl (ex_bin (u := (.int .i64 nd)) (r := (.int .i64 t.b)) rfl rfl rfl (eg3 _ _ _ _ _ _) (neq3 _ (decide_eq_true cB))) ?_
        simp only [Act.put, List.setIfInBounds_toArray, List.set_cons_zero, List.set_cons_succ]
        refine st_to (v := (.bool true)) (some 23) rfl rfl (ex_pkT rfl rfl rfl) ?_
        simp only [Act.put, List.setIfInBounds_toArray, List.set_cons_zero, List.set_cons_succ]
        refine st_to (v := (.bool true)) (some 24) rfl rfl (ex_pkF rfl rfl rfl) ?_
        simp only [Act.put, List.setIfInBounds_toArray, List.set_cons_zero, List.set_cons_succ]
        refine st_to (v := (.bool true)) (some 25) rfl rfl (ex_mv rfl rfl) ?_
        simp only [Act.put, List.setIfInBounds_toArray, List.set_cons_zero, List.set_cons_succ]
        refine st_no (some 26) rfl rfl ?_
        simp only [Act.put, List.setIfInBounds_toArray, List.set_cons_zero, List.set_cons_succ]
        refine st_no (some 27) rfl rfl ?_
        simp only [Act.put, List.setIfInBounds_toArray, List.set_cons_zero, List.set_cons_succ]
        refine st_no (some 28) rfl rfl ?_
        simp only [Act.put, List.setIfInBounds_toArray, List.set_cons_zero, List.set_cons_succ]
        refine st_to (v := (.bool true)) (some 29) rfl rfl (ex_pkT rfl rfl rfl) ?_
        simp only [Act.put, List.setIfInBounds_toArray, List.set_cons_zero, List.set_cons_succ]
        refine st_to (v := (.bool true)) (some 30) rfl rfl (ex_mv rfl rfl) ?_
        simp only [Act.put, List.setIfInBounds_toArray, List.set_cons_zero, List.set_cons_succ]
        refine st_no (some 31) rfl rfl ?_
        simp only [Act.put, List.setIfInBounds_toArray, List.set_cons_zero, List.set_cons_succ]
        refine st_no (some 32) rfl rfl ?_
        simp only [Act.put, List.setIfInBounds_toArray, List.set_cons_zero, List.set_cons_succ]
        refine st_no (some 33) rfl rfl ?_
        simp only [Act.put, List.setIfInBounds_toArray, List.set_cons_zero, List.set_cons_succ]
        refine st_to (v := (.bool true)) (some 34) rfl rfl (ex_pkT rfl rfl rfl) ?_
        simp only [Act.put, List.setIfInBounds_toArray, List.set_cons_zero, List.set_cons_succ]
        refine st_to (v := (.bool true)) (some 35) rfl rfl (ex_mv rfl rfl) ?_
        simp only [Act.put, List.setIfInBounds_toArray, List.set_cons_zero, List.set_cons_succ]
        refine st_no (some 36) rfl rfl ?_
        simp only [Act.put, List.setIfInBounds_toArray, List.set_cons_zero, List.set_cons_succ]
        refine st_no (some 37) rfl rfl ?_
        simp only [Act.put, List.setIfInBounds_toArray, List.set_cons_zero, List.set_cons_succ]
        refine st_to (v := (.bool true)) (some 38) rfl rfl (ex_pkT rfl rfl rfl) ?_
        simp only [Act.put, List.setIfInBounds_toArray, List.set_cons_zero, List.set_cons_succ]
        refine st_end ?_
        subst hQ
        refine wp_cond_true rfl ?_
        refine wp_seq ?_
        refine wl_in ?_
        refine wl_cap fun Q hQ => ?_
        refine st_to (v := (.agg #[.slice none 0 0, .slice none 0 0])) (some 39) rfl rfl (ex_build0  rfl (b34 _)) ?_
        simp only [Act.put, List.setIfInBounds_toArray, List.set_cons_zero, List.set_cons_succ]
        obtain ⟨W4, hst, kn, K⟩ := put_all (D := #[.slice none 0 0, .slice none 0 0]) k2 rfl inf34 (by kernel_rfl)
        refine st_sk rfl rfl (ex_store rfl rfl rfl hst) ?_
        replace E := below_put E ge_b2 K
        replace k1 := keepK K k1 (fun e => ne_tag k1 k2 (by decide) e)
        replace k2 := kn
        clear kn K hst
        refine st_to (v := (.int .i64 1)) (some 9) rfl rfl (ex_asg rfl rfl) ?_
        simp only [Act.put, List.setIfInBounds_toArray, List.set_cons_zero, List.set_cons_succ]
        refine st_end ?_
        subst hQ
        refine wp_ret ?_
        refine ret_out ?_
        refine bodyPost_ret (ret_ct Try.results23 _ _ b2 _ _ _ _ rfl rfl k2 Try.underlying34 rfl inf34) rfl ⟨rfl, E⟩
      have c1 : nd = t.a ∨ nd = t.b := .inr cB
      by_cases c2 : n < 1
      · skip
        have E : Below w.heap.size w w := Below.refl _ _
        go_enter Try.func23, Try.ntmps23
        refine wp_seq ?_
        refine wl_in ?_
        refine wl_cap fun Q hQ => ?_
        refine st_new (fun b => .pointer (some ⟨b, 0, none⟩)) (some 4) rfl rfl (ex_box rfl rfl) ?_
        intro b1 W1 k1 g1 B
        simp only [Act.put, List.setIfInBounds_toArray, List.set_cons_zero, List.set_cons_succ]
        have ge_b1 := Nat.le_trans E.size g1
        replace E := below_next E B
        clear B
        refine st_new (fun b => .pointer (some ⟨b, 0, none⟩)) (some 8) rfl rfl (ex_alloc rfl zero34) ?_
        intro b2 W2 k2 g2 B
        simp only [Act.put, List.setIfInBounds_toArray, List.set_cons_zero, List.set_cons_succ]
        have ne_b2_b1 : b2 ≠ b1 := fun e => by have := lt_of k1; omega
        have ge_b2 := Nat.le_trans E.size g2
        replace E := below_next E B
        replace k1 := keep B k1
        clear B
        refine st_to (v := (.int .i64 0)) (some 9) rfl rfl (ex_asg rfl rfl) ?_
        simp only [Act.put, List.setIfInBounds_toArray, List.set_cons_zero, List.set_cons_succ]
        refine st_end ?_
        subst hQ
        refine wp_seq ?_
        refine wp_seq ?_
        refine wl_in ?_
        refine wl_cap fun Q hQ => ?_
        refine st_to (v := (.agg C)) (some 10) rfl rfl (ex_load (p := (.pointer (some ⟨b1, 0, none⟩))) rfl rfl (ld_all k1 Try.underlying26 rfl (inf26.trans (congrArg some (hT.size).symm)))) ?_
        simp only [Act.put, List.setIfInBounds_toArray, List.set_cons_zero, List.set_cons_succ]
        refine st_call (some 11) rfl rfl (rmay_any W2 hT hb c0) (ex_call (f := 13) (vs := [(.agg C)]) rfl (cf13 _) rfl) ?_
        rintro e W3 ⟨rfl, B⟩
        refine ⟨_, rfl, ?_⟩
        simp only [Act.put, List.setIfInBounds_toArray, List.set_cons_zero, List.set_cons_succ]
        replace E := below_next E B
        replace k1 := keep B k1
        replace k2 := keep B k2
        refine st_to (v := (.bool false)) (some 12) rfl rfl (ex_not rfl rfl rfl) ?_
        simp only [Act.put, List.setIfInBounds_toArray, List.set_cons_zero, List.set_cons_succ]
        refine st_to (v := (.bool false)) (some 13) rfl rfl (ex_mv rfl rfl) ?_
        simp only [Act.put, List.setIfInBounds_toArray, List.set_cons_zero, List.set_cons_succ]
        refine st_to (v := (.int .i64 nd)) (some 14) rfl rfl (ex_mv rfl rfl) ?_
        simp only [Act.put, List.setIfInBounds_toArray, List.set_cons_zero, List.set_cons_succ]
        refine st_to (v := (.pointer (some ⟨b1, 1, none⟩))) (some 15) rfl rfl (ex_fa (p := (.pointer (some ⟨b1, 0, none⟩))) rfl rfl (fa26_1 _ _)) ?_
        simp only [Act.put, List.setIfInBounds_toArray, List.set_cons_zero, List.set_cons_succ]
        refine st_to (v := (.int .i64 t.a)) (some 16) rfl rfl (ex_load (p := (.pointer (some ⟨b1, 1, none⟩))) rfl rfl (ld3 (at_cell k1 hT.c1))) ?_
        simp only [Act.put, List.setIfInBounds_toArray, List.set_cons_zero, List.set_cons_succ]
        refine st_to (v := (.bool true)) (some 17) rfl rfl (ex_bin (u := (.int .i64 nd)) (r := (.int .i64 t.a)) rfl rfl rfl (eg3 _ _ _ _ _ _) (neq3 _ (decide_eq_true cA))) ?_
        simp only [Act.put, List.setIfInBounds_toArray, List.set_cons_zero, List.set_cons_succ]
        refine st_to (v := (.bool true)) (some 18) rfl rfl (ex_mv rfl rfl) ?_
        simp only [Act.put, List.setIfInBounds_toArray, List.set_cons_zero, List.set_cons_succ]
        refine st_to (v := (.int .i64 nd)) (some 19) rfl rfl (ex_mv rfl rfl) ?_
        simp only [Act.put, List.setIfInBounds_toArray, List.set_cons_zero, List.set_cons_succ]
        refine st_to (v := (.pointer (some ⟨b1, 2, none⟩))) (some 20) rfl rfl (ex_fa (p := (.pointer (some ⟨b1, 0, none⟩))) rfl rfl (fa26_2 _ _)) ?_
        simp only [Act.put, List.setIfInBounds_toArray, List.set_cons_zero, List.set_cons_succ]
        refine st_to (v := (.int .i64 t.b)) (some 21) rfl rfl (ex_load (p := (.pointer (some ⟨b1, 2, none⟩))) rfl rfl (ld3 (at_cell k1 hT.c2))) ?_
        simp only [Act.put, List.setIfInBounds_toArray, List.set_cons_zero, List.set_cons_succ]
        refine st_to (v := (.bool false)) (some 22) rfl rfl (ex_bin (u := (.int .i64 nd)) (r := (.int .i64 t.b)) rfl rfl rfl (eg3 _ _ _ _ _ _) (neq3 _ (decide_eq_false (fun e => e cB)))) ?_
        simp only [Act.put, List.setIfInBounds_toArray, List.set_cons_zero, List.set_cons_succ]
        refine st_to (v := (.bool false)) (some 23) rfl rfl (ex_pkT rfl rfl rfl) ?_
        simp only [Act.put, List.setIfInBounds_toArray, List.set_cons_zero, List.set_cons_succ]
        refine st_to (v := (.bool false)) (some 24) rfl rfl (ex_pkF rfl rfl rfl) ?_
        simp only [Act.put, List.setIfInBounds_toArray, List.set_cons_zero, List.set_cons_succ]
        refine st_to (v := (.bool false)) (some 25) rfl rfl (ex_mv rfl rfl) ?_
        simp only [Act.put, List.setIfInBounds_toArray, List.set_cons_zero, List.set_cons_succ]
        refine st_to (v := (.slice ao n c)) (some 26) rfl rfl (ex_mv rfl rfl) ?_
        simp only [Act.put, List.setIfInBounds_toArray, List.set_cons_zero, List.set_cons_succ]
        refine st_to (v := (.int .i64 (n : Nat))) (some 27) rfl rfl (ex_len rfl rfl (len31 _ _ _ _ _)) ?_
        simp only [Act.put, List.setIfInBounds_toArray, List.set_cons_zero, List.set_cons_succ]
        refine st_to (v := (.bool true)) (some 28) rfl rfl (ex_bin (u := (.int .i64 (n : Nat))) (r := (.int .i64 1)) rfl rfl rfl (eg3 _ _ _ _ _ _) (lss3 _ (decide_eq_true (by omega)))) ?_
        simp only [Act.put, List.setIfInBounds_toArray, List.set_cons_zero, List.set_cons_succ]
        refine st_to (v := (.bool true)) (some 29) rfl rfl (ex_pkF rfl rfl rfl) ?_
        simp only [Act.put, List.setIfInBounds_toArray, List.set_cons_zero, List.set_cons_succ]
        refine st_to (v := (.bool true)) (some 30) rfl rfl (ex_mv rfl rfl) ?_
        simp only [Act.put, List.setIfInBounds_toArray, List.set_cons_zero, List.set_cons_succ]
        refine st_no (some 31) rfl rfl ?_
        simp only [Act.put, List.setIfInBounds_toArray, List.set_cons_zero, List.set_cons_succ]
        refine st_no (some 32) rfl rfl ?_
        simp only [Act.put, List.setIfInBounds_toArray, List.set_cons_zero, List.set_cons_succ]
        refine st_no (some 33) rfl rfl ?_
        simp only [Act.put, List.setIfInBounds_toArray, List.set_cons_zero, List.set_cons_succ]
        refine st_to (v := (.bool true)) (some 34) rfl rfl (ex_pkT rfl rfl rfl) ?_
        simp only [Act.put, List.setIfInBounds_toArray, List.set_cons_zero, List.set_cons_succ]
        refine st_to (v := (.bool true)) (some 35) rfl rfl (ex_mv rfl rfl) ?_
        simp only [Act.put, List.setIfInBounds_toArray, List.set_cons_zero, List.set_cons_succ]
        refine st_no (some 36) rfl rfl ?_
        simp only [Act.put, List.setIfInBounds_toArray, List.set_cons_zero, List.set_cons_succ]
        refine st_no (some 37) rfl rfl ?_
        simp only [Act.put, List.setIfInBounds_toArray, List.set_cons_zero, List.set_cons_succ]
        refine st_to (v := (.bool true)) (some 38) rfl rfl (ex_pkT rfl rfl rfl) ?_
        simp only [Act.put, List.setIfInBounds_toArray, List.set_cons_zero, List.set_cons_succ]
        refine st_end ?_
        subst hQ
        refine wp_cond_true rfl ?_
        refine wp_seq ?_
        refine wl_in ?_
        refine wl_cap fun Q hQ => ?_
        refine st_to (v := (.agg #[.slice none 0 0, .slice none 0 0])) (some 39) rfl rfl (ex_build0  rfl (b34 _)) ?_
        simp only [Act.put, List.setIfInBounds_toArray, List.set_cons_zero, List.set_cons_succ]
        obtain ⟨W4, hst, kn, K⟩ := put_all (D := #[.slice none 0 0, .slice none 0 0]) k2 rfl inf34 (by kernel_rfl)
        refine st_sk rfl rfl (ex_store rfl rfl rfl hst) ?_
        replace E := below_put E ge_b2 K
        replace k1 := keepK K k1 (fun e => ne_tag k1 k2 (by decide) e)
        replace k2 := kn
        clear kn K hst
        refine st_to (v := (.int .i64 1)) (some 9) rfl rfl (ex_asg rfl rfl) ?_
        simp only [Act.put, List.setIfInBounds_toArray, List.set_cons_zero, List.set_cons_succ]
        refine st_end ?_
        subst hQ
        refine wp_ret ?_
        refine ret_out ?_
        refine bodyPost_ret (ret_ct Try.results23 _ _ b2 _ _ _ _ rfl rfl k2 Try.underlying34 rfl inf34) rfl ⟨rfl, E⟩
      by_cases c3 : 64 < n
      · skip
        have E : Below w.heap.size w w := Below.refl _ _
        go_enter Try.func23, Try.ntmps23
        refine wp_seq ?_
        refine wl_in ?_
        refine wl_cap fun Q hQ => ?_
        refine st_new (fun b => .pointer (some ⟨b, 0, none⟩)) (some 4) rfl rfl (ex_box rfl rfl) ?_
        intro b1 W1 k1 g1 B
        simp only [Act.put, List.setIfInBounds_toArray, List.set_cons_zero, List.set_cons_succ]
        have ge_b1 := Nat.le_trans E.size g1
        replace E := below_next E B
        clear B
        refine st_new (fun b => .pointer (some ⟨b, 0, none⟩)) (some 8) rfl rfl (ex_alloc rfl zero34) ?_
        intro b2 W2 k2 g2 B
        simp only [Act.put, List.setIfInBounds_toArray, List.set_cons_zero, List.set_cons_succ]
        have ne_b2_b1 : b2 ≠ b1 := fun e => by have := lt_of k1; omega
        have ge_b2 := Nat.le_trans E.size g2
        replace E := below_next E B
        replace k1 := keep B k1
        clear B
        refine st_to (v := (.int .i64 0)) (some 9) rfl rfl (ex_asg rfl rfl) ?_
        simp only [Act.put, List.setIfInBounds_toArray, List.set_cons_zero, List.set_cons_succ]
        refine st_end ?_
        subst hQ
        refine wp_seq ?_
        refine wp_seq ?_
        refine wl_in ?_
        refine wl_cap fun Q hQ => ?_
        refine st_to (v := (.agg C)) (some 10) rfl rfl (ex_load (p := (.pointer (some ⟨b1, 0, none⟩))) rfl rfl (ld_all k1 Try.underlying26 rfl (inf26.trans (congrArg some (hT.size).symm)))) ?_
        simp only [Act.put, List.setIfInBounds_toArray, List.set_cons_zero, List.set_cons_succ]
        refine st_call (some 11) rfl rfl (rmay_any W2 hT hb c0) (ex_call (f := 13) (vs := [(.agg C)]) rfl (cf13 _) rfl) ?_
        rintro e W3 ⟨rfl, B⟩
        refine ⟨_, rfl, ?_⟩
        simp only [Act.put, List.setIfInBounds_toArray, List.set_cons_zero, List.set_cons_succ]
        replace E := below_next E B
        replace k1 := keep B k1
        replace k2 := keep B k2
        refine st_to (v := (.bool false)) (some 12) rfl rfl (ex_not rfl rfl rfl) ?_
        simp only [Act.put, List.setIfInBounds_toArray, List.set_cons_zero, List.set_cons_succ]
        refine st_to (v := (.bool false)) (some 13) rfl rfl (ex_mv rfl rfl) ?_
        simp only [Act.put, List.setIfInBounds_toArray, List.set_cons_zero, List.set_cons_succ]
        refine st_to (v := (.int .i64 nd)) (some 14) rfl rfl (ex_mv rfl rfl) ?_
        simp only [Act.put, List.setIfInBounds_toArray, List.set_cons_zero, List.set_cons_succ]
        refine st_to (v := (.pointer (some ⟨b1, 1, none⟩))) (some 15) rfl rfl (ex_fa (p := (.pointer (some ⟨b1, 0, none⟩))) rfl rfl (fa26_1 _ _)) ?_
        simp only [Act.put, List.setIfInBounds_toArray, List.set_cons_zero, List.set_cons_succ]
        refine st_to (v := (.int .i64 t.a)) (some 16) rfl rfl (ex_load (p := (.pointer (some ⟨b1, 1, none⟩))) rfl rfl (ld3 (at_cell k1 hT.c1))) ?_
        simp only [Act.put, List.setIfInBounds_toArray, List.set_cons_zero, List.set_cons_succ]
        refine st_to (v := (.bool true)) (some 17) rfl rfl (ex_bin (u := (.int .i64 nd)) (r := (.int .i64 t.a)) rfl rfl rfl (eg3 _ _ _ _ _ _) (neq3 _ (decide_eq_true cA))) ?_
        simp only [Act.put, List.setIfInBounds_toArray, List.set_cons_zero, List.set_cons_succ]
        refine st_to (v := (.bool true)) (some 18) rfl rfl (ex_mv rfl rfl) ?_
        simp only [Act.put, List.setIfInBounds_toArray, List.set_cons_zero, List.set_cons_succ]
        refine st_to (v := (.int .i64 nd)) (some 19) rfl rfl (ex_mv rfl rfl) ?_
        simp only [Act.put, List.setIfInBounds_toArray, List.set_cons_zero, List.set_cons_succ]
        refine st_to (v := (.pointer (some ⟨b1, 2, none⟩))) (some 20) rfl rfl (ex_fa (p := (.pointer (some ⟨b1, 0, none⟩))) rfl rfl (fa26_2 _ _)) ?_
        simp only [Act.put, List.setIfInBounds_toArray, List.set_cons_zero, List.set_cons_succ]
        refine st_to (v := (.int .i64 t.b)) (some 21) rfl rfl (ex_load (p := (.pointer (some ⟨b1, 2, none⟩))) rfl rfl (ld3 (at_cell k1 hT.c2))) ?_
        simp only [Act.put, List.setIfInBounds_toArray, List.set_cons_zero, List.set_cons_succ]
        refine st_to (v := (.bool false)) (some 22) rfl rfl (ex_bin (u := (.int .i64 nd)) (r := (.int .i64 t.b)) rfl rfl rfl (eg3 _ _ _ _ _ _) (neq3 _ (decide_eq_false (fun e => e cB)))) ?_
        simp only [Act.put, List.setIfInBounds_toArray, List.set_cons_zero, List.set_cons_succ]
        refine st_to (v := (.bool false)) (some 23) rfl rfl (ex_pkT rfl rfl rfl) ?_
        simp only [Act.put, List.setIfInBounds_toArray, List.set_cons_zero, List.set_cons_succ]
        refine st_to (v := (.bool false)) (some 24) rfl rfl (ex_pkF rfl rfl rfl) ?_
        simp only [Act.put, List.setIfInBounds_toArray, List.set_cons_zero, List.set_cons_succ]
        refine st_to (v := (.bool false)) (some 25) rfl rfl (ex_mv rfl rfl) ?_
        simp only [Act.put, List.setIfInBounds_toArray, List.set_cons_zero, List.set_cons_succ]
        refine st_to (v := (.slice ao n c)) (some 26) rfl rfl (ex_mv rfl rfl) ?_
        simp only [Act.put, List.setIfInBounds_toArray, List.set_cons_zero, List.set_cons_succ]
        refine st_to (v := (.int .i64 (n : Nat))) (some 27) rfl rfl (ex_len rfl rfl (len31 _ _ _ _ _)) ?_
        simp only [Act.put, List.setIfInBounds_toArray, List.set_cons_zero, List.set_cons_succ]
        refine st_to (v := (.bool false)) (some 28) rfl rfl (ex_bin (u := (.int .i64 (n : Nat))) (r := (.int .i64 1)) rfl rfl rfl (eg3 _ _ _ _ _ _) (lss3 _ (decide_eq_false (by omega)))) ?_
        simp only [Act.put, List.setIfInBounds_toArray, List.set_cons_zero, List.set_cons_succ]
        refine st_to (v := (.bool false)) (some 29) rfl rfl (ex_pkF rfl rfl rfl) ?_
        simp only [Act.put, List.setIfInBounds_toArray, List.set_cons_zero, List.set_cons_succ]
        refine st_to (v := (.bool false)) (some 30) rfl rfl (ex_mv rfl rfl) ?_
        simp only [Act.put, List.setIfInBounds_toArray, List.set_cons_zero, List.set_cons_succ]
        refine st_to (v := (.slice ao n c)) (some 31) rfl rfl (ex_mv rfl rfl) ?_
        simp only [Act.put, List.setIfInBounds_toArray, List.set_cons_zero, List.set_cons_succ]
        refine st_to (v := (.int .i64 (n : Nat))) (some 32) rfl rfl (ex_len rfl rfl (len31 _ _ _ _ _)) ?_
        simp only [Act.put, List.setIfInBounds_toArray, List.set_cons_zero, List.set_cons_succ]
        refine st_to (v := (.bool true)) (some 33) rfl rfl (ex_bin (u := (.int .i64 (n : Nat))) (r := (.int .i64 64)) rfl rfl rfl (eg3 _ _ _ _ _ _) (gtr3 _ (decide_eq_true (by omega)))) ?_
        simp only [Act.put, List.setIfInBounds_toArray, List.set_cons_zero, List.set_cons_succ]
        refine st_to (v := (.bool true)) (some 34) rfl rfl (ex_pkF rfl rfl rfl) ?_
        simp only [Act.put, List.setIfInBounds_toArray, List.set_cons_zero, List.set_cons_succ]
        refine st_to (v := (.bool true)) (some 35) rfl rfl (ex_mv rfl rfl) ?_
        simp only [Act.put, List.setIfInBounds_toArray, List.set_cons_zero, List.set_cons_succ]
        refine st_no (some 36) rfl rfl ?_
        simp only [Act.put, List.setIfInBounds_toArray, List.set_cons_zero, List.set_cons_succ]
        refine st_no (some 37) rfl rfl ?_
        simp only [Act.put, List.setIfInBounds_toArray, List.set_cons_zero, List.set_cons_succ]
        refine st_to (v := (.bool true)) (some 38) rfl rfl (ex_pkT rfl rfl rfl) ?_
        simp only [Act.put, List.setIfInBounds_toArray, List.set_cons_zero, List.set_cons_succ]
        refine st_end ?_
        subst hQ
        refine wp_cond_true rfl ?_
        refine wp_seq ?_
        refine wl_in ?_
        refine wl_cap fun Q hQ => ?_
        refine st_to (v := (.agg #[.slice none 0 0, .slice none 0 0])) (some 39) rfl rfl (ex_build0  rfl (b34 _)) ?_
        simp only [Act.put, List.setIfInBounds_toArray, List.set_cons_zero, List.set_cons_succ]
        obtain ⟨W4, hst, kn, K⟩ := put_all (D := #[.slice none 0 0, .slice none 0 0]) k2 rfl inf34 (by kernel_rfl)
        refine st_sk rfl rfl (ex_store rfl rfl rfl hst) ?_
        replace E := below_put E ge_b2 K
        replace k1 := keepK K k1 (fun e => ne_tag k1 k2 (by decide) e)
        replace k2 := kn
        clear kn K hst
        refine st_to (v := (.int .i64 1)) (some 9) rfl rfl (ex_asg rfl rfl) ?_
        simp only [Act.put, List.setIfInBounds_toArray, List.set_cons_zero, List.set_cons_succ]
        refine st_end ?_
        subst hQ
        refine wp_ret ?_
        refine ret_out ?_
        refine bodyPost_ret (ret_ct Try.results23 _ _ b2 _ _ _ _ rfl rfl k2 Try.underlying34 rfl inf34) rfl ⟨rfl, E⟩
      have c4 : s < 0 := Int.not_le.1 fun e => hno ⟨c0, c1, by omega, by omega, e⟩
      have E : Below w.heap.size w w := Below.refl _ _
      go_enter Try.func23, Try.ntmps23
      refine wp_seq ?_
      refine wl_in ?_
      refine wl_cap fun Q hQ => ?_
      refine st_new (fun b => .pointer (some ⟨b, 0, none⟩)) (some 4) rfl rfl (ex_box rfl rfl) ?_
      intro b1 W1 k1 g1 B
      simp only [Act.put, List.setIfInBounds_toArray, List.set_cons_zero, List.set_cons_succ]
      have ge_b1 := Nat.le_trans E.size g1
      replace E := below_next E B
      clear B
      refine st_new (fun b => .pointer (some ⟨b, 0, none⟩)) (some 8) rfl rfl (ex_alloc rfl zero34) ?_
      intro b2 W2 k2 g2 B
      simp only [Act.put, List.setIfInBounds_toArray, List.set_cons_zero, List.set_cons_succ]
      have ne_b2_b1 : b2 ≠ b1 := fun e => by have := lt_of k1; omega
      have ge_b2 := Nat.le_trans E.size g2
      replace E := below_next E B
      replace k1 := keep B k1
      clear B
      refine st_to (v := (.int .i64 0)) (some 9) rfl rfl (ex_asg rfl rfl) ?_
      simp only [Act.put, List.setIfInBounds_toArray, List.set_cons_zero, List.set_cons_succ]
      refine st_end ?_
      subst hQ
      refine wp_seq ?_
      refine wp_seq ?_
      refine wl_in ?_
      refine wl_cap fun Q hQ => ?_
      refine st_to (v := (.agg C)) (some 10) rfl rfl (ex_load (p := (.pointer (some ⟨b1, 0, none⟩))) rfl rfl (ld_all k1 Try.underlying26 rfl (inf26.trans (congrArg some (hT.size).symm)))) ?_
      simp only [Act.put, List.setIfInBounds_toArray, List.set_cons_zero, List.set_cons_succ]
      refine st_call (some 11) rfl rfl (rmay_any W2 hT hb c0) (ex_call (f := 13) (vs := [(.agg C)]) rfl (cf13 _) rfl) ?_
      rintro e W3 ⟨rfl, B⟩
      refine ⟨_, rfl, ?_⟩
      simp only [Act.put, List.setIfInBounds_toArray, List.set_cons_zero, List.set_cons_succ]
      replace E := below_next E B
      replace k1 := keep B k1
      replace k2 := keep B k2
      refine st_to (v := (.bool false)) (some 12) rfl rfl (ex_not rfl rfl rfl) ?_
      simp only [Act.put, List.setIfInBounds_toArray, List.set_cons_zero, List.set_cons_succ]
      refine st_to (v := (.bool false)) (some 13) rfl rfl (ex_mv rfl rfl) ?_
      simp only [Act.put, List.setIfInBounds_toArray, List.set_cons_zero, List.set_cons_succ]
      refine st_to (v := (.int .i64 nd)) (some 14) rfl rfl (ex_mv rfl rfl) ?_
      simp only [Act.put, List.setIfInBounds_toArray, List.set_cons_zero, List.set_cons_succ]
      refine st_to (v := (.pointer (some ⟨b1, 1, none⟩))) (some 15) rfl rfl (ex_fa (p := (.pointer (some ⟨b1, 0, none⟩))) rfl rfl (fa26_1 _ _)) ?_
      simp only [Act.put, List.setIfInBounds_toArray, List.set_cons_zero, List.set_cons_succ]
      refine st_to (v := (.int .i64 t.a)) (some 16) rfl rfl (ex_load (p := (.pointer (some ⟨b1, 1, none⟩))) rfl rfl (ld3 (at_cell k1 hT.c1))) ?_
      simp only [Act.put, List.setIfInBounds_toArray, List.set_cons_zero, List.set_cons_succ]
      refine st_to (v := (.bool true)) (some 17) rfl rfl (ex_bin (u := (.int .i64 nd)) (r := (.int .i64 t.a)) rfl rfl rfl (eg3 _ _ _ _ _ _) (neq3 _ (decide_eq_true cA))) ?_
      simp only [Act.put, List.setIfInBounds_toArray, List.set_cons_zero, List.set_cons_succ]
      refine st_to (v := (.bool true)) (some 18) rfl rfl (ex_mv rfl rfl) ?_
      simp only [Act.put, List.setIfInBounds_toArray, List.set_cons_zero, List.set_cons_succ]
      refine st_to (v := (.int .i64 nd)) (some 19) rfl rfl (ex_mv rfl rfl) ?_
      simp only [Act.put, List.setIfInBounds_toArray, List.set_cons_zero, List.set_cons_succ]
      refine st_to (v := (.pointer (some ⟨b1, 2, none⟩))) (some 20) rfl rfl (ex_fa (p := (.pointer (some ⟨b1, 0, none⟩))) rfl rfl (fa26_2 _ _)) ?_
      simp only [Act.put, List.setIfInBounds_toArray, List.set_cons_zero, List.set_cons_succ]
      refine st_to (v := (.int .i64 t.b)) (some 21) rfl rfl (ex_load (p := (.pointer (some ⟨b1, 2, none⟩))) rfl rfl (ld3 (at_cell k1 hT.c2))) ?_
      simp only [Act.put, List.setIfInBounds_toArray, List.set_cons_zero, List.set_cons_succ]
      refine st_to (v := (.bool false)) (some 22) rfl rfl (ex_bin (u := (.int .i64 nd)) (r := (.int .i64 t.b)) rfl rfl rfl (eg3 _ _ _ _ _ _) (neq3 _ (decide_eq_false (fun e => e cB)))) ?_
      simp only [Act.put, List.setIfInBounds_toArray, List.set_cons_zero, List.set_cons_succ]
      refine st_to (v := (.bool false)) (some 23) rfl rfl (ex_pkT rfl rfl rfl) ?_
      simp only [Act.put, List.setIfInBounds_toArray, List.set_cons_zero, List.set_cons_succ]
      refine st_to (v := (.bool false)) (some 24) rfl rfl (ex_pkF rfl rfl rfl) ?_
      simp only [Act.put, List.setIfInBounds_toArray, List.set_cons_zero, List.set_cons_succ]
      refine st_to (v := (.bool false)) (some 25) rfl rfl (ex_mv rfl rfl) ?_
      simp only [Act.put, List.setIfInBounds_toArray, List.set_cons_zero, List.set_cons_succ]
      refine st_to (v := (.slice ao n c)) (some 26) rfl rfl (ex_mv rfl rfl) ?_
      simp only [Act.put, List.setIfInBounds_toArray, List.set_cons_zero, List.set_cons_succ]
      refine st_to (v := (.int .i64 (n : Nat))) (some 27) rfl rfl (ex_len rfl rfl (len31 _ _ _ _ _)) ?_
      simp only [Act.put, List.setIfInBounds_toArray, List.set_cons_zero, List.set_cons_succ]
      refine st_to (v := (.bool false)) (some 28) rfl rfl (ex_bin (u := (.int .i64 (n : Nat))) (r := (.int .i64 1)) rfl rfl rfl (eg3 _ _ _ _ _ _) (lss3 _ (decide_eq_false (by omega)))) ?_
      simp only [Act.put, List.setIfInBounds_toArray, List.set_cons_zero, List.set_cons_succ]
      refine st_to (v := (.bool false)) (some 29) rfl rfl (ex_pkF rfl rfl rfl) ?_
      simp only [Act.put, List.setIfInBounds_toArray, List.set_cons_zero, List.set_cons_succ]
      refine st_to (v := (.bool false)) (some 30) rfl rfl (ex_mv rfl rfl) ?_
      simp only [Act.put, List.setIfInBounds_toArray, List.set_cons_zero, List.set_cons_succ]
      refine st_to (v := (.slice ao n c)) (some 31) rfl rfl (ex_mv rfl rfl) ?_
      simp only [Act.put, List.setIfInBounds_toArray, List.set_cons_zero, List.set_cons_succ]
      refine st_to (v := (.int .i64 (n : Nat))) (some 32) rfl rfl (ex_len rfl rfl (len31 _ _ _ _ _)) ?_
      simp only [Act.put, List.setIfInBounds_toArray, List.set_cons_zero, List.set_cons_succ]
      refine st_to (v := (.bool false)) (some 33) rfl rfl (ex_bin (u := (.int .i64 (n : Nat))) (r := (.int .i64 64)) rfl rfl rfl (eg3 _ _ _ _ _ _) (gtr3 _ (decide_eq_false (by omega)))) ?_
      simp only [Act.put, List.setIfInBounds_toArray, List.set_cons_zero, List.set_cons_succ]
      refine st_to (v := (.bool false)) (some 34) rfl rfl (ex_pkF rfl rfl rfl) ?_
      simp only [Act.put, List.setIfInBounds_toArray, List.set_cons_zero, List.set_cons_succ]
      refine st_to (v := (.bool false)) (some 35) rfl rfl (ex_mv rfl rfl) ?_
      simp only [Act.put, List.setIfInBounds_toArray, List.set_cons_zero, List.set_cons_succ]
      refine st_to (v := (.int .i64 s)) (some 36) rfl rfl (ex_mv rfl rfl) ?_
      simp only [Act.put, List.setIfInBounds_toArray, List.set_cons_zero, List.set_cons_succ]
      refine st_to (v := (.bool true)) (some 37) rfl rfl (ex_bin (u := (.int .i64 s)) (r := (.int .i64 0)) rfl rfl rfl (eg3 _ _ _ _ _ _) (lss3 _ (decide_eq_true (by omega)))) ?_
      simp only [Act.put, List.setIfInBounds_toArray, List.set_cons_zero, List.set_cons_succ]
      refine st_to (v := (.bool true)) (some 38) rfl rfl (ex_pkF rfl rfl rfl) ?_
      simp only [Act.put, List.setIfInBounds_toArray, List.set_cons_zero, List.set_cons_succ]
      refine st_end ?_
      subst hQ
      refine wp_cond_true rfl ?_
      refine wp_seq ?_
      refine wl_in ?_
      refine wl_cap fun Q hQ => ?_
      refine st_to (v := (.agg #[.slice none 0 0, .slice none 0 0])) (some 39) rfl rfl (ex_build0  rfl (b34 _)) ?_
      simp only [Act.put, List.setIfInBounds_toArray, List.set_cons_zero, List.set_cons_succ]
      obtain ⟨W4, hst, kn, K⟩ := put_all (D := #[.slice none 0 0, .slice none 0 0]) k2 rfl inf34 (by kernel_rfl)
      refine st_sk rfl rfl (ex_store rfl rfl rfl hst) ?_
      replace E := below_put E ge_b2 K
      replace k1 := keepK K k1 (fun e => ne_tag k1 k2 (by decide) e)
      replace k2 := kn
      clear kn K hst
      refine st_to (v := (.int .i64 1)) (some 9) rfl rfl (ex_asg rfl rfl) ?_
      simp only [Act.put, List.setIfInBounds_toArray, List.set_cons_zero, List.set_cons_succ]
      refine st_end ?_
      subst hQ
      refine wp_ret ?_
      refine ret_out ?_
      refine bodyPost_ret (ret_ct Try.results23 _ _ b2 _ _ _ _ rfl rfl k2 Try.underlying34 rfl inf34) rfl ⟨rfl, E⟩
theorem Rw.base {W : World} {base base' T sz g n cap : Nat} {xs : List Value} (h : Rw W base T sz g n cap xs) (hb : base' ≤ base) : Rw W base' T sz g n cap xs := by
  refine ⟨h.1, ?_⟩
  rcases h.2 with e | ⟨g', cap', cur, e, h1, r⟩
  · exact .inl e
  · exact .inr ⟨g', cap', cur, e, Nat.le_trans hb h1, r⟩
set_option maxHeartbeats 8000000 in
theorem claim_ok {C : Array Value} {t : TV} {nd s : Int} {gs : Nat} {n c : Nat} {Is : Nat → Array Value} (w : World) (hT : IsT C t) (hb : TB t) (hI : InsS w (some ⟨gs, 0, none⟩) n c Is) (hIs : ∀ i, i < n → IsI (Is i)) (hN : n * 144 ≤ 140737488355328) (hs : s ≤ 9223372036854775807) (hok : mayT t = true ∧ (nd = t.a ∨ nd = t.b) ∧ 1 ≤ n ∧ n ≤ 64 ∧ 0 ≤ s) :
    Calls Try.prog 22 #[.agg C, .int .i64 nd, .slice (some ⟨gs, 0, none⟩) n c, .int .i64 s] w fun e w' => ∃ gi ci g, e = .returned (.tuple #[.agg #[.slice (some ⟨gi, 0, none⟩) n ci, .slice (some ⟨g, 0, none⟩) 1 1], .int .i64 0]) ∧ Rw w' w.heap.size 61 130 gi n ci (flatI Is n) ∧ Outs w' w.heap.size g 1 1 (fun _ => subN s t.fee) (fun _ => 1) (fun _ => pth nd 0 false 0 0 Z32) ∧ Below w.heap.size w w' := by
  obtain ⟨c0, c1, c2, c3, hs0⟩ := hok
  have hfe : 0 ≤ t.fee := (of_decide_eq_true c0).2.1.1
  have E : Below w.heap.size w w := Below.refl _ _
  go_enter Try.func22, Try.ntmps22
  refine wp_seq ?_
  refine wl_in ?_
  refine wl_cap fun Q hQ => ?_
  refine st_new (fun b => .pointer (some ⟨b, 0, none⟩)) (some 4) rfl rfl (ex_box rfl rfl) ?_
  intro b1 W1 k1 g1 B
  simp only [Act.put, List.setIfInBounds_toArray, List.set_cons_zero, List.set_cons_succ]
  have ge_b1 := Nat.le_trans E.size g1
  replace E := below_next E B
  clear B
  refine st_new (fun b => .pointer (some ⟨b, 0, none⟩)) (some 8) rfl rfl (ex_alloc rfl zero34) ?_
  intro b2 W2 k2 g2 B
  simp only [Act.put, List.setIfInBounds_toArray, List.set_cons_zero, List.set_cons_succ]
  have ne_b2_b1 : b2 ≠ b1 := fun e => by have := lt_of k1; omega
  have ge_b2 := Nat.le_trans E.size g2
  replace E := below_next E B
  replace k1 := keep B k1
  clear B
  refine st_to (v := (.int .i64 0)) (some 9) rfl rfl (ex_asg rfl rfl) ?_
  simp only [Act.put, List.setIfInBounds_toArray, List.set_cons_zero, List.set_cons_succ]
  refine st_end ?_
  subst hQ
  refine wp_seq ?_
  refine wp_seq ?_
  refine wl_in ?_
  refine wl_cap fun Q hQ => ?_
  refine st_to (v := (.agg C)) (some 10) rfl rfl (ex_load (p := (.pointer (some ⟨b1, 0, none⟩))) rfl rfl (ld_all k1 Try.underlying26 rfl (inf26.trans (congrArg some (hT.size).symm)))) ?_
  simp only [Act.put, List.setIfInBounds_toArray, List.set_cons_zero, List.set_cons_succ]
  refine st_call (some 11) rfl rfl (may_any W2 hT hb c0) (ex_call (f := 12) (vs := [(.agg C)]) rfl (cf12 _) rfl) ?_
  rintro e W3 ⟨rfl, B⟩
  refine ⟨_, rfl, ?_⟩
  simp only [Act.put, List.setIfInBounds_toArray, List.set_cons_zero, List.set_cons_succ]
  replace E := below_next E B
  replace k1 := keep B k1
  replace k2 := keep B k2
  refine st_to (v := (.bool false)) (some 12) rfl rfl (ex_not rfl rfl rfl) ?_
  simp only [Act.put, List.setIfInBounds_toArray, List.set_cons_zero, List.set_cons_succ]
  refine st_to (v := (.bool false)) (some 13) rfl rfl (ex_mv rfl rfl) ?_
  simp only [Act.put, List.setIfInBounds_toArray, List.set_cons_zero, List.set_cons_succ]
  refine st_to (v := (.agg C)) (some 14) rfl rfl (ex_load (p := (.pointer (some ⟨b1, 0, none⟩))) rfl rfl (ld_all k1 Try.underlying26 rfl (inf26.trans (congrArg some (hT.size).symm)))) ?_
  simp only [Act.put, List.setIfInBounds_toArray, List.set_cons_zero, List.set_cons_succ]
  refine st_to (v := (.int .i64 nd)) (some 15) rfl rfl (ex_mv rfl rfl) ?_
  simp only [Act.put, List.setIfInBounds_toArray, List.set_cons_zero, List.set_cons_succ]
  refine st_call (some 16) rfl rfl (isOf_any nd W3 hT (decide_eq_true c1)) (ex_call (f := 27) (vs := [(.agg C), (.int .i64 nd)]) rfl (cf27 _) rfl) ?_
  rintro e W4 ⟨rfl, B⟩
  refine ⟨_, rfl, ?_⟩
  simp only [Act.put, List.setIfInBounds_toArray, List.set_cons_zero, List.set_cons_succ]
  replace E := below_next E B
  replace k1 := keep B k1
  replace k2 := keep B k2
  refine st_to (v := (.bool false)) (some 17) rfl rfl (ex_not rfl rfl rfl) ?_
  simp only [Act.put, List.setIfInBounds_toArray, List.set_cons_zero, List.set_cons_succ]
  refine st_to (v := (.bool false)) (some 18) rfl rfl (ex_pkF rfl rfl rfl) ?_
  simp only [Act.put, List.setIfInBounds_toArray, List.set_cons_zero, List.set_cons_succ]
  refine st_to (v := (.bool false)) (some 19) rfl rfl (ex_mv rfl rfl) ?_
  simp only [Act.put, List.setIfInBounds_toArray, List.set_cons_zero, List.set_cons_succ]
  refine st_to (v := (.slice (some ⟨gs, 0, none⟩) n c)) (some 20) rfl rfl (ex_mv rfl rfl) ?_
  simp only [Act.put, List.setIfInBounds_toArray, List.set_cons_zero, List.set_cons_succ]
  refine st_to (v := (.int .i64 (n : Nat))) (some 21) rfl rfl (ex_len rfl rfl (len31 _ _ _ _ _)) ?_
  simp only [Act.put, List.setIfInBounds_toArray, List.set_cons_zero, List.set_cons_succ]
  refine st_to (v := (.bool false)) (some 22) rfl rfl (ex_bin (u := (.int .i64 (n : Nat))) (r := (.int .i64 1)) rfl rfl rfl (eg3 _ _ _ _ _ _) (lss3 _ (decide_eq_false (by omega)))) ?_
  simp only [Act.put, List.setIfInBounds_toArray, List.set_cons_zero, List.set_cons_succ]
  refine st_to (v := (.bool false)) (some 23) rfl rfl (ex_pkF rfl rfl rfl) ?_
  simp only [Act.put, List.setIfInBounds_toArray, List.set_cons_zero, List.set_cons_succ]
  refine st_to (v := (.bool false)) (some 24) rfl rfl (ex_mv rfl rfl) ?_
  simp only [Act.put, List.setIfInBounds_toArray, List.set_cons_zero, List.set_cons_succ]
  refine st_to (v := (.slice (some ⟨gs, 0, none⟩) n c)) (some 25) rfl rfl (ex_mv rfl rfl) ?_
  simp only [Act.put, List.setIfInBounds_toArray, List.set_cons_zero, List.set_cons_succ]
  refine st_to (v := (.int .i64 (n : Nat))) (some 26) rfl rfl (ex_len rfl rfl (len31 _ _ _ _ _)) ?_
  simp only [Act.put, List.setIfInBounds_toArray, List.set_cons_zero, List.set_cons_succ]
  refine st_to (v := (.bool false)) (some 27) rfl rfl (ex_bin (u := (.int .i64 (n : Nat))) (r := (.int .i64 64)) rfl rfl rfl (eg3 _ _ _ _ _ _) (gtr3 _ (decide_eq_false (by omega)))) ?_
  simp only [Act.put, List.setIfInBounds_toArray, List.set_cons_zero, List.set_cons_succ]
  refine st_to (v := (.bool false)) (some 28) rfl rfl (ex_pkF rfl rfl rfl) ?_
  simp only [Act.put, List.setIfInBounds_toArray, List.set_cons_zero, List.set_cons_succ]
  refine st_to (v := (.bool false)) (some 29) rfl rfl (ex_mv rfl rfl) ?_
  simp only [Act.put, List.setIfInBounds_toArray, List.set_cons_zero, List.set_cons_succ]
  refine st_to (v := (.int .i64 s)) (some 30) rfl rfl (ex_mv rfl rfl) ?_
  simp only [Act.put, List.setIfInBounds_toArray, List.set_cons_zero, List.set_cons_succ]
  refine st_to (v := (.bool false)) (some 31) rfl rfl (ex_bin (u := (.int .i64 s)) (r := (.int .i64 0)) rfl rfl rfl (eg3 _ _ _ _ _ _) (lss3 _ (decide_eq_false (by omega)))) ?_
  simp only [Act.put, List.setIfInBounds_toArray, List.set_cons_zero, List.set_cons_succ]
  refine st_to (v := (.bool false)) (some 32) rfl rfl (ex_pkF rfl rfl rfl) ?_
  simp only [Act.put, List.setIfInBounds_toArray, List.set_cons_zero, List.set_cons_succ]
  refine st_end ?_
  subst hQ
  refine wp_cond_false rfl ?_
  refine wp_skip ?_
  refine wp_seq ?_
  obtain ⟨W5, hwd⟩ : ∃ wd, W4.drew = wd := ⟨_, rfl⟩
  refine wp_region_held (S := fun W => Kept (· = b2) W5 W) (by kernel_rfl) ?_
  show wpAnyH _ _ _ _ _ _ _ _ W4.drew
  rw [hwd]
  refine capQ fun Q hQ => ?_
  have hQP : ∀ c (a : Act) (d : Nat) v w, Q (.panic c) (a.put (some d) v) w → Q (.panic c) a w := by
    subst hQ
    exact fun _ _ _ _ _ h => h
  have BD : Below W4.heap.size W4 W5 := by rw [← hwd]; exact below_drew (Below.refl _ _)
  clear hwd
  replace E := below_next E BD
  replace k1 := keep BD k1
  replace k2 := keep BD k2
  clear BD
  have S : Kept (· = b2) W5 W5 := Kept.refl _ _
  have d_k1 := k1
  have d_k2 := k2
  refine ah_take (v := (.slice (some ⟨gs, 0, none⟩) n c)) (i := 0) (some 34) rfl rfl (by kernel_rfl) (by kernel_rfl) (by kernel_rfl) rfl (fun W hK => ex_mv rfl rfl) S (fun c a w h => hQP c a _ _ w h) ?_
  simp only [Act.put, List.setIfInBounds_toArray, List.set_cons_zero, List.set_cons_succ]
  refine ah_take (v := (.agg C)) (i := 2) (some 36) rfl rfl (by kernel_rfl) (by kernel_rfl) (by kernel_rfl) rfl (fun W hK => ex_load (p := (.pointer (some ⟨b1, 0, none⟩))) rfl rfl (ld_all (keepK hK d_k1 (fun e => ne_tag d_k1 d_k2 (by decide) e)) Try.underlying26 rfl (inf26.trans (congrArg some (hT.size).symm)))) S (fun c a w h => hQP c a _ _ w h) ?_
  simp only [Act.put, List.setIfInBounds_toArray, List.set_cons_zero, List.set_cons_succ]
  refine ah_take (v := (.int .i64 s)) (i := 3) (some 37) rfl rfl (by kernel_rfl) (by kernel_rfl) (by kernel_rfl) rfl (fun W hK => ex_mv rfl rfl) S (fun c a w h => hQP c a _ _ w h) ?_
  simp only [Act.put, List.setIfInBounds_toArray, List.set_cons_zero, List.set_cons_succ]
  refine ah_take (v := (.int .i64 nd)) (i := 5) (some 39) rfl rfl (by kernel_rfl) (by kernel_rfl) (by kernel_rfl) rfl (fun W hK => ex_mv rfl rfl) S (fun c a w h => hQP c a _ _ w h) ?_
  simp only [Act.put, List.setIfInBounds_toArray, List.set_cons_zero, List.set_cons_succ]
  refine ah_take (v := (.agg (pth nd 0 false 0 0 Z32))) (i := 6) (some 40) rfl rfl (by kernel_rfl) (by kernel_rfl) (by kernel_rfl) rfl (fun W hK => ex_build1 (v1 := (.int .i64 nd)) rfl rfl (b66_0 _ _)) S (fun c a w h => hQP c a _ _ w h) ?_
  simp only [Act.put, List.setIfInBounds_toArray, List.set_cons_zero, List.set_cons_succ]
  refine cap2 fun ops SS hops hS => ?_
  suffices FIN : ∀ (g35 : Nat) (c35 : Nat) (bt41 : Nat) (bt43 : Nat) (Wq : World) (gd_bt41 : W5.heap.size ≤ bt41) (ge_bt41 : w.heap.size ≤ bt41) (gd_bt43 : W5.heap.size ≤ bt43) (ge_bt43 : w.heap.size ≤ bt43) (E : Below w.heap.size w Wq) (k1 : Wq.heap[b1]? = some (.cells C 26)) (S : Kept (· = b2) W5 Wq) (R35 : Rw Wq w.heap.size 61 130 g35 n c35 (flatI Is n)) (kt41 : Wq.heap[bt41]? = some (.cells (pth nd 0 false 0 0 Z32) 66)) (kt43 : Wq.heap[bt43]? = some (.cells #[(.int .i64 (subN s t.fee)), (.slice (some ⟨bt41, 0, none⟩) 1 1)] 46)) (k2 : Wq.heap[b2]? = some (.cells #[(.slice (some ⟨g35, 0, none⟩) n c35), (.slice (some ⟨bt43, 0, none⟩) 1 1)] 34)), wpAnyH Try.prog .any ops Q SS 0 #[true, true, true, true, true, true, true, true, true, true, true, true, true] { tmps := #[(.agg C), (.int .i64 nd), (.slice (some ⟨gs, 0, none⟩) n c), (.int .i64 s), (.pointer (some ⟨b1, 0, none⟩)), undef, undef, undef, (.pointer (some ⟨b2, 0, none⟩)), (.int .i64 0), (.agg C), (.bool true), (.bool false), (.bool false), (.agg C), (.int .i64 nd), (.bool true), (.bool false), (.bool false), (.bool false), (.slice (some ⟨gs, 0, none⟩) n c), (.int .i64 (n : Nat)), (.bool false), (.bool false), (.bool false), (.slice (some ⟨gs, 0, none⟩) n c), (.int .i64 (n : Nat)), (.bool false), (.bool false), (.bool false), (.int .i64 s), (.bool false), (.bool false), undef, (.slice (some ⟨gs, 0, none⟩) n c), (.slice (some ⟨g35, 0, none⟩) n c35), (.agg C), (.int .i64 s), (.int .i64 (subN s t.fee)), (.int .i64 nd), (.agg (pth nd 0 false 0 0 Z32)), (.slice (some ⟨bt41, 0, none⟩) 1 1), (.agg #[(.int .i64 (subN s t.fee)), (.slice (some ⟨bt41, 0, none⟩) 1 1)]), (.slice (some ⟨bt43, 0, none⟩) 1 1), (.agg #[(.slice (some ⟨g35, 0, none⟩) n c35), (.slice (some ⟨bt43, 0, none⟩) 1 1)])], defers := [] } Wq by
    have ST1 : ∀ (g35 : Nat) (c35 : Nat) (bt41 : Nat) (bt43 : Nat) (Wq : World) (gd_bt41 : W5.heap.size ≤ bt41) (ge_bt41 : w.heap.size ≤ bt41) (gd_bt43 : W5.heap.size ≤ bt43) (ge_bt43 : w.heap.size ≤ bt43) (E : Below w.heap.size w Wq) (k1 : Wq.heap[b1]? = some (.cells C 26)) (k2 : Wq.heap[b2]? = some (.cells #[.slice none 0 0, .slice none 0 0] 34)) (S : Kept (· = b2) W5 Wq) (R35 : Rw Wq w.heap.size 61 130 g35 n c35 (flatI Is n)) (kt41 : Wq.heap[bt41]? = some (.cells (pth nd 0 false 0 0 Z32) 66)) (kt43 : Wq.heap[bt43]? = some (.cells #[(.int .i64 (subN s t.fee)), (.slice (some ⟨bt41, 0, none⟩) 1 1)] 46)), wpAnyH Try.prog .any ops Q SS 2 #[true, true, true, true, true, true, true, true, true, true, true, false, false] { tmps := #[(.agg C), (.int .i64 nd), (.slice (some ⟨gs, 0, none⟩) n c), (.int .i64 s), (.pointer (some ⟨b1, 0, none⟩)), undef, undef, undef, (.pointer (some ⟨b2, 0, none⟩)), (.int .i64 0), (.agg C), (.bool true), (.bool false), (.bool false), (.agg C), (.int .i64 nd), (.bool true), (.bool false), (.bool false), (.bool false), (.slice (some ⟨gs, 0, none⟩) n c), (.int .i64 (n : Nat)), (.bool false), (.bool false), (.bool false), (.slice (some ⟨gs, 0, none⟩) n c), (.int .i64 (n : Nat)), (.bool false), (.bool false), (.bool false), (.int .i64 s), (.bool false), (.bool false), undef, (.slice (some ⟨gs, 0, none⟩) n c), (.slice (some ⟨g35, 0, none⟩) n c35), (.agg C), (.int .i64 s), (.int .i64 (subN s t.fee)), (.int .i64 nd), (.agg (pth nd 0 false 0 0 Z32)), (.slice (some ⟨bt41, 0, none⟩) 1 1), (.agg #[(.int .i64 (subN s t.fee)), (.slice (some ⟨bt41, 0, none⟩) 1 1)]), (.slice (some ⟨bt43, 0, none⟩) 1 1), (.agg #[(.slice (some ⟨g35, 0, none⟩) n c35), (.slice (some ⟨bt43, 0, none⟩) 1 1)])], defers := [] } Wq := by
      intro g35 c35 bt41 bt43 Wq gd_bt41 ge_bt41 gd_bt43 ge_bt43 E k1 k2 S R35 kt41 kt43
      refine ops_in hops hS ?_
      refine ah_or1 (i := 11) (by kernel_rfl) ?_
      · skip
        obtain ⟨W16, hst, kn, K⟩ := put_all (D := #[(.slice (some ⟨g35, 0, none⟩) n c35), (.slice (some ⟨bt43, 0, none⟩) 1 1)]) k2 rfl inf34 (by kernel_rfl)
        refine nx_sk rfl rfl rfl (ex_store rfl rfl rfl hst) (S.putX K) ?_
        replace E := below_put E ge_b2 K
        replace k1 := keepK K k1 (fun e => ne_tag k1 k2 (by decide) e)
        replace S := S.putX K
        replace R35 := R35.keepK K (fun e => R35.ne k2 (by decide) e)
        replace kt41 := keepK K kt41 (fun e => ne_tag kt41 k2 (by decide) e)
        replace kt43 := keepK K kt43 (fun e => ne_tag kt43 k2 (by decide) e)
        replace k2 := kn
        clear kn K hst
        refine ah_take (v := (.int .i64 0)) (i := 12) (some 9) rfl rfl (by kernel_rfl) (by kernel_rfl) (by kernel_rfl) rfl (fun W hK => ex_asg rfl rfl) S (fun c a w h => hQP c a _ _ w h) ?_
        simp only [Act.put, List.setIfInBounds_toArray, List.set_cons_zero, List.set_cons_succ]
        refine ah_L (L' := #[true, true, true, true, true, true, true, true, true, true, true, true, true]) (by kernel_rfl) ?_
        refine ops_out hops hS ?_
        exact FIN g35 c35 bt41 bt43 W16 gd_bt41 ge_bt41 gd_bt43 ge_bt43 E k1 S R35 kt41 kt43 k2
    have ST2 : ∀ (g35 : Nat) (c35 : Nat) (bt41 : Nat) (Wq : World) (gd_bt41 : W5.heap.size ≤ bt41) (ge_bt41 : w.heap.size ≤ bt41) (E : Below w.heap.size w Wq) (k1 : Wq.heap[b1]? = some (.cells C 26)) (k2 : Wq.heap[b2]? = some (.cells #[.slice none 0 0, .slice none 0 0] 34)) (S : Kept (· = b2) W5 Wq) (R35 : Rw Wq w.heap.size 61 130 g35 n c35 (flatI Is n)) (kt41 : Wq.heap[bt41]? = some (.cells (pth nd 0 false 0 0 Z32) 66)), wpAnyH Try.prog .any ops Q SS 4 #[true, true, true, true, true, true, true, true, true, false, false, false, false] { tmps := #[(.agg C), (.int .i64 nd), (.slice (some ⟨gs, 0, none⟩) n c), (.int .i64 s), (.pointer (some ⟨b1, 0, none⟩)), undef, undef, undef, (.pointer (some ⟨b2, 0, none⟩)), (.int .i64 0), (.agg C), (.bool true), (.bool false), (.bool false), (.agg C), (.int .i64 nd), (.bool true), (.bool false), (.bool false), (.bool false), (.slice (some ⟨gs, 0, none⟩) n c), (.int .i64 (n : Nat)), (.bool false), (.bool false), (.bool false), (.slice (some ⟨gs, 0, none⟩) n c), (.int .i64 (n : Nat)), (.bool false), (.bool false), (.bool false), (.int .i64 s), (.bool false), (.bool false), undef, (.slice (some ⟨gs, 0, none⟩) n c), (.slice (some ⟨g35, 0, none⟩) n c35), (.agg C), (.int .i64 s), (.int .i64 (subN s t.fee)), (.int .i64 nd), (.agg (pth nd 0 false 0 0 Z32)), (.slice (some ⟨bt41, 0, none⟩) 1 1), (.agg #[(.int .i64 (subN s t.fee)), (.slice (some ⟨bt41, 0, none⟩) 1 1)]), undef, undef], defers := [] } Wq := by
      intro g35 c35 bt41 Wq gd_bt41 ge_bt41 E k1 k2 S R35 kt41
      refine ops_in hops hS ?_
      refine ah_or1 (i := 9) (by kernel_rfl) ?_
      · skip
        refine nx_new (fun b => .slice (some ⟨b, 0, none⟩) 1 1) (some 43) rfl rfl rfl (ex_bsl1 (u := (.agg #[(.int .i64 (subN s t.fee)), (.slice (some ⟨bt41, 0, none⟩) 1 1)])) rfl rfl (bs32_1 _ rfl _)) ?_
        intro bt43 W17 kt43 gt43 B
        refine ⟨S.next B, ?_⟩
        simp only [Act.put, List.setIfInBounds_toArray, List.set_cons_zero, List.set_cons_succ]
        have gd_bt43 := Nat.le_trans S.size gt43
        have ge_bt43 := Nat.le_trans E.size gt43
        replace E := below_next E B
        replace k1 := keep B k1
        replace k2 := keep B k2
        replace S := S.next B
        replace R35 := R35.keep B
        replace kt41 := keep B kt41
        clear B
        refine ah_take (v := (.agg #[(.slice (some ⟨g35, 0, none⟩) n c35), (.slice (some ⟨bt43, 0, none⟩) 1 1)])) (i := 10) (some 44) rfl rfl (by kernel_rfl) (by kernel_rfl) (by kernel_rfl) rfl (fun W hK => ex_build2 (v1 := (.slice (some ⟨g35, 0, none⟩) n c35)) (v2 := (.slice (some ⟨bt43, 0, none⟩) 1 1)) rfl rfl rfl (b34_01 _ _ _ _ _ _ _)) S (fun c a w h => hQP c a _ _ w h) ?_
        simp only [Act.put, List.setIfInBounds_toArray, List.set_cons_zero, List.set_cons_succ]
        refine ah_L (L' := #[true, true, true, true, true, true, true, true, true, true, true, false, false]) (by kernel_rfl) ?_
        refine ops_out hops hS ?_
        exact ST1 g35 c35 bt41 bt43 W17 gd_bt41 ge_bt41 gd_bt43 ge_bt43 E k1 k2 S R35 kt41 kt43
    have ST3 : ∀ (g35 : Nat) (c35 : Nat) (bt41 : Nat) (Wq : World) (gd_bt41 : W5.heap.size ≤ bt41) (ge_bt41 : w.heap.size ≤ bt41) (E : Below w.heap.size w Wq) (k1 : Wq.heap[b1]? = some (.cells C 26)) (k2 : Wq.heap[b2]? = some (.cells #[.slice none 0 0, .slice none 0 0] 34)) (S : Kept (· = b2) W5 Wq) (R35 : Rw Wq w.heap.size 61 130 g35 n c35 (flatI Is n)) (kt41 : Wq.heap[bt41]? = some (.cells (pth nd 0 false 0 0 Z32) 66)), wpAnyH Try.prog .any ops Q SS 5 #[true, true, true, true, true, true, true, true, false, false, false, false, false] { tmps := #[(.agg C), (.int .i64 nd), (.slice (some ⟨gs, 0, none⟩) n c), (.int .i64 s), (.pointer (some ⟨b1, 0, none⟩)), undef, undef, undef, (.pointer (some ⟨b2, 0, none⟩)), (.int .i64 0), (.agg C), (.bool true), (.bool false), (.bool false), (.agg C), (.int .i64 nd), (.bool true), (.bool false), (.bool false), (.bool false), (.slice (some ⟨gs, 0, none⟩) n c), (.int .i64 (n : Nat)), (.bool false), (.bool false), (.bool false), (.slice (some ⟨gs, 0, none⟩) n c), (.int .i64 (n : Nat)), (.bool false), (.bool false), (.bool false), (.int .i64 s), (.bool false), (.bool false), undef, (.slice (some ⟨gs, 0, none⟩) n c), (.slice (some ⟨g35, 0, none⟩) n c35), (.agg C), (.int .i64 s), (.int .i64 (subN s t.fee)), (.int .i64 nd), (.agg (pth nd 0 false 0 0 Z32)), (.slice (some ⟨bt41, 0, none⟩) 1 1), undef, undef, undef], defers := [] } Wq := by
      intro g35 c35 bt41 Wq gd_bt41 ge_bt41 E k1 k2 S R35 kt41
      refine ops_in hops hS ?_
      refine ah_or1 (i := 8) (by kernel_rfl) ?_
      · skip
        refine nx_call (some 42) rfl rfl rfl (output_any _ _ _ _ Wq) (ex_call (f := 39) (vs := [(.int .i64 (subN s t.fee)), (.slice (some ⟨bt41, 0, none⟩) 1 1)]) rfl (cf39 _) rfl) ?_
        rintro e W18 ⟨rfl, B⟩
        refine ⟨_, rfl, S.next B, ?_⟩
        simp only [Act.put, List.setIfInBounds_toArray, List.set_cons_zero, List.set_cons_succ]
        replace E := below_next E B
        replace k1 := keep B k1
        replace k2 := keep B k2
        replace S := S.next B
        replace R35 := R35.keep B
        replace kt41 := keep B kt41
        refine ah_L (L' := #[true, true, true, true, true, true, true, true, true, false, false, false, false]) (by kernel_rfl) ?_
        refine ops_out hops hS ?_
        exact ST2 g35 c35 bt41 W18 gd_bt41 ge_bt41 E k1 k2 S R35 kt41
    have ST4 : ∀ (g35 : Nat) (c35 : Nat) (Wq : World) (E : Below w.heap.size w Wq) (k1 : Wq.heap[b1]? = some (.cells C 26)) (k2 : Wq.heap[b2]? = some (.cells #[.slice none 0 0, .slice none 0 0] 34)) (S : Kept (· = b2) W5 Wq) (R35 : Rw Wq w.heap.size 61 130 g35 n c35 (flatI Is n)), wpAnyH Try.prog .any ops Q SS 6 #[true, true, true, true, true, true, true, false, false, false, false, false, false] { tmps := #[(.agg C), (.int .i64 nd), (.slice (some ⟨gs, 0, none⟩) n c), (.int .i64 s), (.pointer (some ⟨b1, 0, none⟩)), undef, undef, undef, (.pointer (some ⟨b2, 0, none⟩)), (.int .i64 0), (.agg C), (.bool true), (.bool false), (.bool false), (.agg C), (.int .i64 nd), (.bool true), (.bool false), (.bool false), (.bool false), (.slice (some ⟨gs, 0, none⟩) n c), (.int .i64 (n : Nat)), (.bool false), (.bool false), (.bool false), (.slice (some ⟨gs, 0, none⟩) n c), (.int .i64 (n : Nat)), (.bool false), (.bool false), (.bool false), (.int .i64 s), (.bool false), (.bool false), undef, (.slice (some ⟨gs, 0, none⟩) n c), (.slice (some ⟨g35, 0, none⟩) n c35), (.agg C), (.int .i64 s), (.int .i64 (subN s t.fee)), (.int .i64 nd), (.agg (pth nd 0 false 0 0 Z32)), undef, undef, undef, undef], defers := [] } Wq := by
      intro g35 c35 Wq E k1 k2 S R35
      refine ops_in hops hS ?_
      refine ah_or1 (i := 7) (by kernel_rfl) ?_
      · skip
        refine nx_new (fun b => .slice (some ⟨b, 0, none⟩) 1 1) (some 41) rfl rfl rfl (ex_bsl1 (u := (.agg (pth nd 0 false 0 0 Z32))) rfl rfl (bs44_1 _ (pth_size Z32_size) _)) ?_
        intro bt41 W19 kt41 gt41 B
        refine ⟨S.next B, ?_⟩
        simp only [Act.put, List.setIfInBounds_toArray, List.set_cons_zero, List.set_cons_succ]
        have gd_bt41 := Nat.le_trans S.size gt41
        have ge_bt41 := Nat.le_trans E.size gt41
        replace E := below_next E B
        replace k1 := keep B k1
        replace k2 := keep B k2
        replace S := S.next B
        replace R35 := R35.keep B
        clear B
        refine ah_L (L' := #[true, true, true, true, true, true, true, true, false, false, false, false, false]) (by kernel_rfl) ?_
        refine ops_out hops hS ?_
        exact ST3 g35 c35 bt41 W19 gd_bt41 ge_bt41 E k1 k2 S R35 kt41
    have ST5 : ∀ (g35 : Nat) (c35 : Nat) (bt41 : Nat) (Wq : World) (gd_bt41 : W5.heap.size ≤ bt41) (ge_bt41 : w.heap.size ≤ bt41) (E : Below w.heap.size w Wq) (k1 : Wq.heap[b1]? = some (.cells C 26)) (k2 : Wq.heap[b2]? = some (.cells #[.slice none 0 0, .slice none 0 0] 34)) (S : Kept (· = b2) W5 Wq) (R35 : Rw Wq w.heap.size 61 130 g35 n c35 (flatI Is n)) (kt41 : Wq.heap[bt41]? = some (.cells (pth nd 0 false 0 0 Z32) 66)), wpAnyH Try.prog .any ops Q SS 6 #[true, true, true, true, false, true, true, true, false, false, false, false, false] { tmps := #[(.agg C), (.int .i64 nd), (.slice (some ⟨gs, 0, none⟩) n c), (.int .i64 s), (.pointer (some ⟨b1, 0, none⟩)), undef, undef, undef, (.pointer (some ⟨b2, 0, none⟩)), (.int .i64 0), (.agg C), (.bool true), (.bool false), (.bool false), (.agg C), (.int .i64 nd), (.bool true), (.bool false), (.bool false), (.bool false), (.slice (some ⟨gs, 0, none⟩) n c), (.int .i64 (n : Nat)), (.bool false), (.bool false), (.bool false), (.slice (some ⟨gs, 0, none⟩) n c), (.int .i64 (n : Nat)), (.bool false), (.bool false), (.bool false), (.int .i64 s), (.bool false), (.bool false), undef, (.slice (some ⟨gs, 0, none⟩) n c), (.slice (some ⟨g35, 0, none⟩) n c35), (.agg C), (.int .i64 s), undef, (.int .i64 nd), (.agg (pth nd 0 false 0 0 Z32)), (.slice (some ⟨bt41, 0, none⟩) 1 1), undef, undef, undef], defers := [] } Wq := by
      intro g35 c35 bt41 Wq gd_bt41 ge_bt41 E k1 k2 S R35 kt41
      refine ops_in hops hS ?_
      refine ah_or1 (i := 4) (by kernel_rfl) ?_
      · skip
        refine nx_call (some 38) rfl rfl rfl (less_any s Wq hT ⟨hs0, hs⟩ ⟨hfe, hb.fee⟩) (ex_call (f := 28) (vs := [(.agg C), (.int .i64 s)]) rfl (cf28 _) rfl) ?_
        rintro e W20 ⟨rfl, B⟩
        refine ⟨_, rfl, S.next B, ?_⟩
        simp only [Act.put, List.setIfInBounds_toArray, List.set_cons_zero, List.set_cons_succ]
        replace E := below_next E B
        replace k1 := keep B k1
        replace k2 := keep B k2
        replace S := S.next B
        replace R35 := R35.keep B
        replace kt41 := keep B kt41
        refine ah_L (L' := #[true, true, true, true, true, true, true, true, false, false, false, false, false]) (by kernel_rfl) ?_
        refine ops_out hops hS ?_
        exact ST3 g35 c35 bt41 W20 gd_bt41 ge_bt41 E k1 k2 S R35 kt41
    have ST6 : ∀ (g35 : Nat) (c35 : Nat) (Wq : World) (E : Below w.heap.size w Wq) (k1 : Wq.heap[b1]? = some (.cells C 26)) (k2 : Wq.heap[b2]? = some (.cells #[.slice none 0 0, .slice none 0 0] 34)) (S : Kept (· = b2) W5 Wq) (R35 : Rw Wq w.heap.size 61 130 g35 n c35 (flatI Is n)), wpAnyH Try.prog .any ops Q SS 7 #[true, true, true, true, false, true, true, false, false, false, false, false, false] { tmps := #[(.agg C), (.int .i64 nd), (.slice (some ⟨gs, 0, none⟩) n c), (.int .i64 s), (.pointer (some ⟨b1, 0, none⟩)), undef, undef, undef, (.pointer (some ⟨b2, 0, none⟩)), (.int .i64 0), (.agg C), (.bool true), (.bool false), (.bool false), (.agg C), (.int .i64 nd), (.bool true), (.bool false), (.bool false), (.bool false), (.slice (some ⟨gs, 0, none⟩) n c), (.int .i64 (n : Nat)), (.bool false), (.bool false), (.bool false), (.slice (some ⟨gs, 0, none⟩) n c), (.int .i64 (n : Nat)), (.bool false), (.bool false), (.bool false), (.int .i64 s), (.bool false), (.bool false), undef, (.slice (some ⟨gs, 0, none⟩) n c), (.slice (some ⟨g35, 0, none⟩) n c35), (.agg C), (.int .i64 s), undef, (.int .i64 nd), (.agg (pth nd 0 false 0 0 Z32)), undef, undef, undef, undef], defers := [] } Wq := by
      intro g35 c35 Wq E k1 k2 S R35
      refine ops_in hops hS ?_
      refine ah_or2 (i := 4) (j := 7) (by kernel_rfl) ?_ ?_
      · skip
        refine nx_call (some 38) rfl rfl rfl (less_any s Wq hT ⟨hs0, hs⟩ ⟨hfe, hb.fee⟩) (ex_call (f := 28) (vs := [(.agg C), (.int .i64 s)]) rfl (cf28 _) rfl) ?_
        rintro e W21 ⟨rfl, B⟩
        refine ⟨_, rfl, S.next B, ?_⟩
        simp only [Act.put, List.setIfInBounds_toArray, List.set_cons_zero, List.set_cons_succ]
        replace E := below_next E B
        replace k1 := keep B k1
        replace k2 := keep B k2
        replace S := S.next B
        replace R35 := R35.keep B
        refine ah_L (L' := #[true, true, true, true, true, true, true, false, false, false, false, false, false]) (by kernel_rfl) ?_
        refine ops_out hops hS ?_
        exact ST4 g35 c35 W21 E k1 k2 S R35
      · skip
        refine nx_new (fun b => .slice (some ⟨b, 0, none⟩) 1 1) (some 41) rfl rfl rfl (ex_bsl1 (u := (.agg (pth nd 0 false 0 0 Z32))) rfl rfl (bs44_1 _ (pth_size Z32_size) _)) ?_
        intro bt41 W22 kt41 gt41 B
        refine ⟨S.next B, ?_⟩
        simp only [Act.put, List.setIfInBounds_toArray, List.set_cons_zero, List.set_cons_succ]
        have gd_bt41 := Nat.le_trans S.size gt41
        have ge_bt41 := Nat.le_trans E.size gt41
        replace E := below_next E B
        replace k1 := keep B k1
        replace k2 := keep B k2
        replace S := S.next B
        replace R35 := R35.keep B
        clear B
        refine ah_L (L' := #[true, true, true, true, false, true, true, true, false, false, false, false, false]) (by kernel_rfl) ?_
        refine ops_out hops hS ?_
        exact ST5 g35 c35 bt41 W22 gd_bt41 ge_bt41 E k1 k2 S R35 kt41
    have ST7 : ∀ (bt41 : Nat) (Wq : World) (gd_bt41 : W5.heap.size ≤ bt41) (ge_bt41 : w.heap.size ≤ bt41) (E : Below w.heap.size w Wq) (k1 : Wq.heap[b1]? = some (.cells C 26)) (k2 : Wq.heap[b2]? = some (.cells #[.slice none 0 0, .slice none 0 0] 34)) (S : Kept (· = b2) W5 Wq) (kt41 : Wq.heap[bt41]? = some (.cells (pth nd 0 false 0 0 Z32) 66)), wpAnyH Try.prog .any ops Q SS 7 #[true, false, true, true, false, true, true, true, false, false, false, false, false] { tmps := #[(.agg C), (.int .i64 nd), (.slice (some ⟨gs, 0, none⟩) n c), (.int .i64 s), (.pointer (some ⟨b1, 0, none⟩)), undef, undef, undef, (.pointer (some ⟨b2, 0, none⟩)), (.int .i64 0), (.agg C), (.bool true), (.bool false), (.bool false), (.agg C), (.int .i64 nd), (.bool true), (.bool false), (.bool false), (.bool false), (.slice (some ⟨gs, 0, none⟩) n c), (.int .i64 (n : Nat)), (.bool false), (.bool false), (.bool false), (.slice (some ⟨gs, 0, none⟩) n c), (.int .i64 (n : Nat)), (.bool false), (.bool false), (.bool false), (.int .i64 s), (.bool false), (.bool false), undef, (.slice (some ⟨gs, 0, none⟩) n c), undef, (.agg C), (.int .i64 s), undef, (.int .i64 nd), (.agg (pth nd 0 false 0 0 Z32)), (.slice (some ⟨bt41, 0, none⟩) 1 1), undef, undef, undef], defers := [] } Wq := by
      intro bt41 Wq gd_bt41 ge_bt41 E k1 k2 S kt41
      refine ops_in hops hS ?_
      refine ah_or1 (i := 1) (by kernel_rfl) ?_
      · skip
        refine nx_call (some 35) rfl rfl rfl (clone_ok Wq (hI.below E) hIs hN) (ex_call (f := 43) (vs := [(.slice (some ⟨gs, 0, none⟩) n c)]) rfl (cf43 _) rfl) ?_
        rintro e W23 ⟨g35, c35, rfl, R35', B⟩
        have R35 := R35'.base E.size
        refine ⟨_, rfl, S.next B, ?_⟩
        simp only [Act.put, List.setIfInBounds_toArray, List.set_cons_zero, List.set_cons_succ]
        replace E := below_next E B
        replace k1 := keep B k1
        replace k2 := keep B k2
        replace S := S.next B
        replace kt41 := keep B kt41
        refine ah_L (L' := #[true, true, true, true, false, true, true, true, false, false, false, false, false]) (by kernel_rfl) ?_
        refine ops_out hops hS ?_
        exact ST5 g35 c35 bt41 W23 gd_bt41 ge_bt41 E k1 k2 S R35 kt41
    refine ops_in hops hS ?_
    refine ah_or2 (i := 1) (j := 7) (by kernel_rfl) ?_ ?_
    · skip
      refine nx_call (some 35) rfl rfl rfl (clone_ok W5 (hI.below E) hIs hN) (ex_call (f := 43) (vs := [(.slice (some ⟨gs, 0, none⟩) n c)]) rfl (cf43 _) rfl) ?_
      rintro e W24 ⟨g35, c35, rfl, R35', B⟩
      have R35 := R35'.base E.size
      refine ⟨_, rfl, S.next B, ?_⟩
      simp only [Act.put, List.setIfInBounds_toArray, List.set_cons_zero, List.set_cons_succ]
      replace E := below_next E B
      replace k1 := keep B k1
      replace k2 := keep B k2
      replace S := S.next B
      refine ah_L (L' := #[true, true, true, true, false, true, true, false, false, false, false, false, false]) (by kernel_rfl) ?_
      refine ops_out hops hS ?_
      exact ST6 g35 c35 W24 E k1 k2 S R35
    · skip
      refine nx_new (fun b => .slice (some ⟨b, 0, none⟩) 1 1) (some 41) rfl rfl rfl (ex_bsl1 (u := (.agg (pth nd 0 false 0 0 Z32))) rfl rfl (bs44_1 _ (pth_size Z32_size) _)) ?_
      intro bt41 W25 kt41 gt41 B
      refine ⟨S.next B, ?_⟩
      simp only [Act.put, List.setIfInBounds_toArray, List.set_cons_zero, List.set_cons_succ]
      have gd_bt41 := Nat.le_trans S.size gt41
      have ge_bt41 := Nat.le_trans E.size gt41
      replace E := below_next E B
      replace k1 := keep B k1
      replace k2 := keep B k2
      replace S := S.next B
      clear B
      refine ah_L (L' := #[true, false, true, true, false, true, true, true, false, false, false, false, false]) (by kernel_rfl) ?_
      refine ops_out hops hS ?_
      exact ST7 bt41 W25 gd_bt41 ge_bt41 E k1 k2 S kt41
  intro g35 c35 bt41 bt43 Wq gd_bt41 ge_bt41 gd_bt43 ge_bt43 E k1 S R35 kt41 kt43 k2
  refine ops_in hops hS ?_
  refine ah_done (by kernel_rfl) ?_
  clear hQP hops hS
  subst hQ
  clear S d_k1 d_k2 
  refine wp_ret ?_
  have OU : Outs Wq w.heap.size bt43 1 1 (fun _ => subN s t.fee) (fun _ => 1) (fun _ => (pth nd 0 false 0 0 Z32)) := ⟨fun _ => bt41, Rw.ofBlock kt43 rfl ge_bt43 (by decide), fun j hj => kt41⟩
  refine bodyPost_ret (ret_ct Try.results22 _ _ b2 _ _ _ _ rfl rfl k2 Try.underlying34 rfl inf34) rfl ⟨g35, c35, bt43, rfl, R35, OU, E⟩
set_option maxHeartbeats 8000000 in
theorem rclaim_ok {C : Array Value} {t : TV} {nd s : Int} {ao : Option Addr} {n c : Nat} {Is : Nat → Array Value} (w : World) (hT : IsT C t) (hb : TB t) (hI : InsS w ao n c Is) (hIs : ∀ i, i < n → IsI (Is i)) (hN : n * 144 ≤ 140737488355328) (hs : s ≤ 9223372036854775807) (hok : mayT t = true ∧ (nd = t.a ∨ nd = t.b) ∧ 1 ≤ n ∧ n ≤ 64 ∧ 0 ≤ s) :
    Calls Try.prog 23 #[.agg C, .int .i64 nd, .slice ao n c, .int .i64 s] w fun e w' => ∃ gi ci g, e = .returned (.tuple #[.agg #[.slice (some ⟨gi, 0, none⟩) n ci, .slice (some ⟨g, 0, none⟩) 1 1], .int .i64 0]) ∧ Rw w' w.heap.size 61 130 gi n ci (flatI Is n) ∧ Outs w' w.heap.size g 1 1 (fun _ => subN s t.fee) (fun _ => 1) (fun _ => pth nd 0 false 0 0 Z32) ∧ Below w.heap.size w w' := by
  obtain ⟨c0, c1, c2, c3, hs0⟩ := hok
  have hfe : 0 ≤ t.fee := (of_decide_eq_true c0).2.1.1
  by_cases cA : nd = t.a
  · skip
    have E : Below w.heap.size w w := Below.refl _ _
    go_enter Try.func23, Try.ntmps23
    refine wp_seq ?_
    refine wl_in ?_
    refine wl_cap fun Q hQ => ?_
    refine st_new (fun b => .pointer (some ⟨b, 0, none⟩)) (some 4) rfl rfl (ex_box rfl rfl) ?_
    intro b1 W1 k1 g1 B
    simp only [Act.put, List.setIfInBounds_toArray, List.set_cons_zero, List.set_cons_succ]
    have ge_b1 := Nat.le_trans E.size g1
    replace E := below_next E B
    clear B
    refine st_new (fun b => .pointer (some ⟨b, 0, none⟩)) (some 8) rfl rfl (ex_alloc rfl zero34) ?_
    intro b2 W2 k2 g2 B
    simp only [Act.put, List.setIfInBounds_toArray, List.set_cons_zero, List.set_cons_succ]
    have ne_b2_b1 : b2 ≠ b1 := fun e => by have := lt_of k1; omega
    have ge_b2 := Nat.le_trans E.size g2
    replace E := below_next E B
    replace k1 := keep B k1
    clear B
    refine st_to (v := (.int .i64 0)) (some 9) rfl rfl (ex_asg rfl rfl) ?_
    simp only [Act.put, List.setIfInBounds_toArray, List.set_cons_zero, List.set_cons_succ]
    refine st_end ?_
    subst hQ
    refine wp_seq ?_
    refine wp_seq ?_
    refine wl_in ?_
    refine wl_cap fun Q hQ => ?_
    refine st_to (v := (.agg C)) (some 10) rfl rfl (ex_load (p := (.pointer (some ⟨b1, 0, none⟩))) rfl rfl (ld_all k1 Try.underlying26 rfl (inf26.trans (congrArg some (hT.size).symm)))) ?_
    simp only [Act.put, List.setIfInBounds_toArray, List.set_cons_zero, List.set_cons_succ]
    refine st_call (some 11) rfl rfl (rmay_any W2 hT hb c0) (ex_call (f := 13) (vs := [(.agg C)]) rfl (cf13 _) rfl) ?_
    rintro e W3 ⟨rfl, B⟩
    refine ⟨_, rfl, ?_⟩
    simp only [Act.put, List.setIfInBounds_toArray, List.set_cons_zero, List.set_cons_succ]
    replace E := below_next E B
    replace k1 := keep B k1
    replace k2 := keep B k2
    refine st_to (v := (.bool false)) (some 12) rfl rfl (ex_not rfl rfl rfl) ?_
    simp only [Act.put, List.setIfInBounds_toArray, List.set_cons_zero, List.set_cons_succ]
    refine st_to (v := (.bool false)) (some 13) rfl rfl (ex_mv rfl rfl) ?_
    simp only [Act.put, List.setIfInBounds_toArray, List.set_cons_zero, List.set_cons_succ]
    refine st_to (v := (.int .i64 nd)) (some 14) rfl rfl (ex_mv rfl rfl) ?_
    simp only [Act.put, List.setIfInBounds_toArray, List.set_cons_zero, List.set_cons_succ]
    refine st_to (v := (.pointer (some ⟨b1, 1, none⟩))) (some 15) rfl rfl (ex_fa (p := (.pointer (some ⟨b1, 0, none⟩))) rfl rfl (fa26_1 _ _)) ?_
    simp only [Act.put, List.setIfInBounds_toArray, List.set_cons_zero, List.set_cons_succ]
    refine st_to (v := (.int .i64 t.a)) (some 16) rfl rfl (ex_load (p := (.pointer (some ⟨b1, 1, none⟩))) rfl rfl (ld3 (at_cell k1 hT.c1))) ?_
    simp only [Act.put, List.setIfInBounds_toArray, List.set_cons_zero, List.set_cons_succ]
    refine st_to (v := (.bool false)) (some 17) rfl rfl (ex_bin (u := (.int .i64 nd)) (r := (.int .i64 t.a)) rfl rfl rfl (eg3 _ _ _ _ _ _) (neq3 _ (decide_eq_false (fun e => e cA)))) ?_
    simp only [Act.put, List.setIfInBounds_toArray, List.set_cons_zero, List.set_cons_succ]
    refine st_to (v := (.bool false)) (some 18) rfl rfl (ex_mv rfl rfl) ?_
    simp only [Act.put, List.setIfInBounds_toArray, List.set_cons_zero, List.set_cons_succ]
    refine st_no (some 19) rfl rfl ?_
    simp only [Act.put, List.setIfInBounds_toArray, List.set_cons_zero, List.set_cons_succ]
    refine st_no (some 20) rfl rfl ?_
    simp only [Act.put, List.setIfInBounds_toArray, List.set_cons_zero, List.set_cons_succ]
    refine st_no (some 21) rfl rfl ?_
    simp only [Act.put, List.setIfInBounds_toArray, List.set_cons_zero, List.set_cons_succ]
    refine st_no (some 22) rfl rfl ?_
    simp only [Act.put, List.setIfInBounds_toArray, List.set_cons_zero, List.set_cons_succ]
    refine st_to (v := (.bool false)) (some 23) rfl rfl (ex_pkF rfl rfl rfl) ?_
    simp only [Act.put, List.setIfInBounds_toArray, List.set_cons_zero, List.set_cons_succ]
    refine st_to (v := (.bool false)) (some 24) rfl rfl (ex_pkF rfl rfl rfl) ?_
    simp only [Act.put, List.setIfInBounds_toArray, List.set_cons_zero, List.set_cons_succ]
    refine st_to (v := (.bool false)) (some 25) rfl rfl (ex_mv rfl rfl) ?_
    simp only [Act.put, List.setIfInBounds_toArray, List.set_cons_zero, List.set_cons_succ]
    refine st_to (v := (.slice ao n c)) (some 26) rfl rfl (ex_mv rfl rfl) ?_
    simp only [Act.put, List.setIfInBounds_toArray, List.set_cons_zero, List.set_cons_succ]
    refine st_to (v := (.int .i64 (n : Nat))) (some 27) rfl rfl (ex_len rfl rfl (len31 _ _ _ _ _)) ?_
    simp only [Act.put, List.setIfInBounds_toArray, List.set_cons_zero, List.set_cons_succ]
    refine st_to (v := (.bool false)) (some 28) rfl rfl (ex_bin (u := (.int .i64 (n : Nat))) (r := (.int .i64 1)) rfl rfl rfl (eg3 _ _ _ _ _ _) (lss3 _ (decide_eq_false (by omega)))) ?_
    simp only [Act.put, List.setIfInBounds_toArray, List.set_cons_zero, List.set_cons_succ]
    refine st_to (v := (.bool false)) (some 29) rfl rfl (ex_pkF rfl rfl rfl) ?_
    simp only [Act.put, List.setIfInBounds_toArray, List.set_cons_zero, List.set_cons_succ]
    refine st_to (v := (.bool false)) (some 30) rfl rfl (ex_mv rfl rfl) ?_
    simp only [Act.put, List.setIfInBounds_toArray, List.set_cons_zero, List.set_cons_succ]
    refine st_to (v := (.slice ao n c)) (some 31) rfl rfl (ex_mv rfl rfl) ?_
    simp only [Act.put, List.setIfInBounds_toArray, List.set_cons_zero, List.set_cons_succ]
    refine st_to (v := (.int .i64 (n : Nat))) (some 32) rfl rfl (ex_len rfl rfl (len31 _ _ _ _ _)) ?_
    simp only [Act.put, List.setIfInBounds_toArray, List.set_cons_zero, List.set_cons_succ]
    refine st_to (v := (.bool false)) (some 33) rfl rfl (ex_bin (u := (.int .i64 (n : Nat))) (r := (.int .i64 64)) rfl rfl rfl (eg3 _ _ _ _ _ _) (gtr3 _ (decide_eq_false (by omega)))) ?_
    simp only [Act.put, List.setIfInBounds_toArray, List.set_cons_zero, List.set_cons_succ]
    refine st_to (v := (.bool false)) (some 34) rfl rfl (ex_pkF rfl rfl rfl) ?_
    simp only [Act.put, List.setIfInBounds_toArray, List.set_cons_zero, List.set_cons_succ]
    refine st_to (v := (.bool false)) (some 35) rfl rfl (ex_mv rfl rfl) ?_
    simp only [Act.put, List.setIfInBounds_toArray, List.set_cons_zero, List.set_cons_succ]
    refine st_to (v := (.int .i64 s)) (some 36) rfl rfl (ex_mv rfl rfl) ?_
    simp only [Act.put, List.setIfInBounds_toArray, List.set_cons_zero, List.set_cons_succ]
    refine st_to (v := (.bool false)) (some 37) rfl rfl (ex_bin (u := (.int .i64 s)) (r := (.int .i64 0)) rfl rfl rfl (eg3 _ _ _ _ _ _) (lss3 _ (decide_eq_false (by omega)))) ?_
    simp only [Act.put, List.setIfInBounds_toArray, List.set_cons_zero, List.set_cons_succ]
    refine st_to (v := (.bool false)) (some 38) rfl rfl (ex_pkF rfl rfl rfl) ?_
    simp only [Act.put, List.setIfInBounds_toArray, List.set_cons_zero, List.set_cons_succ]
    refine st_end ?_
    subst hQ
    refine wp_cond_false rfl ?_
    refine wp_skip ?_
    refine wp_seq ?_
    obtain ⟨W4, hwd⟩ : ∃ wd, W3.drew = wd := ⟨_, rfl⟩
    refine wp_region_held (S := fun W => Kept (· = b2) W4 W) (by kernel_rfl) ?_
    show wpAnyH _ _ _ _ _ _ _ _ W3.drew
    rw [hwd]
    refine capQ fun Q hQ => ?_
    have hQP : ∀ c (a : Act) (d : Nat) v w, Q (.panic c) (a.put (some d) v) w → Q (.panic c) a w := by
      subst hQ
      exact fun _ _ _ _ _ h => h
    have BD : Below W3.heap.size W3 W4 := by rw [← hwd]; exact below_drew (Below.refl _ _)
    clear hwd
    replace E := below_next E BD
    replace k1 := keep BD k1
    replace k2 := keep BD k2
    clear BD
    have S : Kept (· = b2) W4 W4 := Kept.refl _ _
    have d_k1 := k1
    have d_k2 := k2
    refine ah_take (v := (.slice ao n c)) (i := 1) (some 41) rfl rfl (by kernel_rfl) (by kernel_rfl) (by kernel_rfl) rfl (fun W hK => ex_mv rfl rfl) S (fun c a w h => hQP c a _ _ w h) ?_
    simp only [Act.put, List.setIfInBounds_toArray, List.set_cons_zero, List.set_cons_succ]
    refine ah_take (v := (.int .i64 s)) (i := 3) (some 43) rfl rfl (by kernel_rfl) (by kernel_rfl) (by kernel_rfl) rfl (fun W hK => ex_mv rfl rfl) S (fun c a w h => hQP c a _ _ w h) ?_
    simp only [Act.put, List.setIfInBounds_toArray, List.set_cons_zero, List.set_cons_succ]
    refine ah_take (v := (.pointer (some ⟨b1, 39, none⟩))) (i := 4) (some 44) rfl rfl (by kernel_rfl) (by kernel_rfl) (by kernel_rfl) rfl (fun W hK => ex_fa (p := (.pointer (some ⟨b1, 0, none⟩))) rfl rfl (fa26_7 _ _)) S (fun c a w h => hQP c a _ _ w h) ?_
    simp only [Act.put, List.setIfInBounds_toArray, List.set_cons_zero, List.set_cons_succ]
    refine ah_take (v := (.int .i64 t.fee)) (i := 5) (some 45) rfl rfl (by kernel_rfl) (by kernel_rfl) (by kernel_rfl) rfl (fun W hK => ex_load (p := (.pointer (some ⟨b1, 39, none⟩))) rfl rfl (ld3 (at_cell (keepK hK d_k1 (fun e => ne_tag d_k1 d_k2 (by decide) e)) hT.c39))) S (fun c a w h => hQP c a _ _ w h) ?_
    simp only [Act.put, List.setIfInBounds_toArray, List.set_cons_zero, List.set_cons_succ]
    refine ah_take (v := (.int .i64 nd)) (i := 7) (some 47) rfl rfl (by kernel_rfl) (by kernel_rfl) (by kernel_rfl) rfl (fun W hK => ex_mv rfl rfl) S (fun c a w h => hQP c a _ _ w h) ?_
    simp only [Act.put, List.setIfInBounds_toArray, List.set_cons_zero, List.set_cons_succ]
    refine ah_take (v := (.agg (pth nd 0 false 0 0 Z32))) (i := 8) (some 48) rfl rfl (by kernel_rfl) (by kernel_rfl) (by kernel_rfl) rfl (fun W hK => ex_build1 (v1 := (.int .i64 nd)) rfl rfl (b66_0 _ _)) S (fun c a w h => hQP c a _ _ w h) ?_
    simp only [Act.put, List.setIfInBounds_toArray, List.set_cons_zero, List.set_cons_succ]
    refine cap2 fun ops SS hops hS => ?_
    suffices FIN : ∀ (bt40 : Nat) (g42 : Nat) (cap42 : Nat) (bt49 : Nat) (bt51 : Nat) (Wq : World) (gd_bt40 : W4.heap.size ≤ bt40) (ge_bt40 : w.heap.size ≤ bt40) (gd_bt49 : W4.heap.size ≤ bt49) (ge_bt49 : w.heap.size ≤ bt49) (gd_bt51 : W4.heap.size ≤ bt51) (ge_bt51 : w.heap.size ≤ bt51) (E : Below w.heap.size w Wq) (k1 : Wq.heap[b1]? = some (.cells C 26)) (S : Kept (· = b2) W4 Wq) (R42 : Rw Wq w.heap.size 61 130 g42 n cap42 (flatI Is n)) (kt49 : Wq.heap[bt49]? = some (.cells (pth nd 0 false 0 0 Z32) 66)) (kt51 : Wq.heap[bt51]? = some (.cells #[(.int .i64 (subN s t.fee)), (.slice (some ⟨bt49, 0, none⟩) 1 1)] 46)) (k2 : Wq.heap[b2]? = some (.cells #[(.slice (some ⟨g42, 0, none⟩) n cap42), (.slice (some ⟨bt51, 0, none⟩) 1 1)] 34)), wpAnyH Try.prog .any ops Q SS 0 #[true, true, true, true, true, true, true, true, true, true, true, true, true, true, true] { tmps := #[(.agg C), (.int .i64 nd), (.slice ao n c), (.int .i64 s), (.pointer (some ⟨b1, 0, none⟩)), undef, undef, undef, (.pointer (some ⟨b2, 0, none⟩)), (.int .i64 0), (.agg C), (.bool true), (.bool false), (.bool false), (.int .i64 nd), (.pointer (some ⟨b1, 1, none⟩)), (.int .i64 t.a), (.bool false), (.bool false), undef, undef, undef, undef, (.bool false), (.bool false), (.bool false), (.slice ao n c), (.int .i64 (n : Nat)), (.bool false), (.bool false), (.bool false), (.slice ao n c), (.int .i64 (n : Nat)), (.bool false), (.bool false), (.bool false), (.int .i64 s), (.bool false), (.bool false), undef, (.slice (some ⟨bt40, 0, none⟩) 0 0), (.slice ao n c), (.slice (some ⟨g42, 0, none⟩) n cap42), (.int .i64 s), (.pointer (some ⟨b1, 39, none⟩)), (.int .i64 t.fee), (.int .i64 (subN s t.fee)), (.int .i64 nd), (.agg (pth nd 0 false 0 0 Z32)), (.slice (some ⟨bt49, 0, none⟩) 1 1), (.agg #[(.int .i64 (subN s t.fee)), (.slice (some ⟨bt49, 0, none⟩) 1 1)]), (.slice (some ⟨bt51, 0, none⟩) 1 1), (.agg #[(.slice (some ⟨g42, 0, none⟩) n cap42), (.slice (some ⟨bt51, 0, none⟩) 1 1)])], defers := [] } Wq by
      have ST1 : ∀ (bt40 : Nat) (g42 : Nat) (cap42 : Nat) (bt49 : Nat) (bt51 : Nat) (Wq : World) (gd_bt40 : W4.heap.size ≤ bt40) (ge_bt40 : w.heap.size ≤ bt40) (gd_bt49 : W4.heap.size ≤ bt49) (ge_bt49 : w.heap.size ≤ bt49) (gd_bt51 : W4.heap.size ≤ bt51) (ge_bt51 : w.heap.size ≤ bt51) (E : Below w.heap.size w Wq) (k1 : Wq.heap[b1]? = some (.cells C 26)) (k2 : Wq.heap[b2]? = some (.cells #[.slice none 0 0, .slice none 0 0] 34)) (S : Kept (· = b2) W4 Wq) (R42 : Rw Wq w.heap.size 61 130 g42 n cap42 (flatI Is n)) (kt49 : Wq.heap[bt49]? = some (.cells (pth nd 0 false 0 0 Z32) 66)) (kt51 : Wq.heap[bt51]? = some (.cells #[(.int .i64 (subN s t.fee)), (.slice (some ⟨bt49, 0, none⟩) 1 1)] 46)), wpAnyH Try.prog .any ops Q SS 2 #[true, true, true, true, true, true, true, true, true, true, true, true, true, false, false] { tmps := #[(.agg C), (.int .i64 nd), (.slice ao n c), (.int .i64 s), (.pointer (some ⟨b1, 0, none⟩)), undef, undef, undef, (.pointer (some ⟨b2, 0, none⟩)), (.int .i64 0), (.agg C), (.bool true), (.bool false), (.bool false), (.int .i64 nd), (.pointer (some ⟨b1, 1, none⟩)), (.int .i64 t.a), (.bool false), (.bool false), undef, undef, undef, undef, (.bool false), (.bool false), (.bool false), (.slice ao n c), (.int .i64 (n : Nat)), (.bool false), (.bool false), (.bool false), (.slice ao n c), (.int .i64 (n : Nat)), (.bool false), (.bool false), (.bool false), (.int .i64 s), (.bool false), (.bool false), undef, (.slice (some ⟨bt40, 0, none⟩) 0 0), (.slice ao n c), (.slice (some ⟨g42, 0, none⟩) n cap42), (.int .i64 s), (.pointer (some ⟨b1, 39, none⟩)), (.int .i64 t.fee), (.int .i64 (subN s t.fee)), (.int .i64 nd), (.agg (pth nd 0 false 0 0 Z32)), (.slice (some ⟨bt49, 0, none⟩) 1 1), (.agg #[(.int .i64 (subN s t.fee)), (.slice (some ⟨bt49, 0, none⟩) 1 1)]), (.slice (some ⟨bt51, 0, none⟩) 1 1), (.agg #[(.slice (some ⟨g42, 0, none⟩) n cap42), (.slice (some ⟨bt51, 0, none⟩) 1 1)])], defers := [] } Wq := by
        intro bt40 g42 cap42 bt49 bt51 Wq gd_bt40 ge_bt40 gd_bt49 ge_bt49 gd_bt51 ge_bt51 E k1 k2 S R42 kt49 kt51
        refine ops_in hops hS ?_
        refine ah_or1 (i := 13) (by kernel_rfl) ?_
        · skip
          obtain ⟨W17, hst, kn, K⟩ := put_all (D := #[(.slice (some ⟨g42, 0, none⟩) n cap42), (.slice (some ⟨bt51, 0, none⟩) 1 1)]) k2 rfl inf34 (by kernel_rfl)
          refine nx_sk rfl rfl rfl (ex_store rfl rfl rfl hst) (S.putX K) ?_
          replace E := below_put E ge_b2 K
          replace k1 := keepK K k1 (fun e => ne_tag k1 k2 (by decide) e)
          replace S := S.putX K
          replace R42 := R42.keepK K (fun e => R42.ne k2 (by decide) e)
          replace kt49 := keepK K kt49 (fun e => ne_tag kt49 k2 (by decide) e)
          replace kt51 := keepK K kt51 (fun e => ne_tag kt51 k2 (by decide) e)
          replace k2 := kn
          clear kn K hst
          refine ah_take (v := (.int .i64 0)) (i := 14) (some 9) rfl rfl (by kernel_rfl) (by kernel_rfl) (by kernel_rfl) rfl (fun W hK => ex_asg rfl rfl) S (fun c a w h => hQP c a _ _ w h) ?_
          simp only [Act.put, List.setIfInBounds_toArray, List.set_cons_zero, List.set_cons_succ]
          refine ah_L (L' := #[true, true, true, true, true, true, true, true, true, true, true, true, true, true, true]) (by kernel_rfl) ?_
          refine ops_out hops hS ?_
          exact FIN bt40 g42 cap42 bt49 bt51 W17 gd_bt40 ge_bt40 gd_bt49 ge_bt49 gd_bt51 ge_bt51 E k1 S R42 kt49 kt51 k2
      have ST2 : ∀ (bt40 : Nat) (g42 : Nat) (cap42 : Nat) (bt49 : Nat) (Wq : World) (gd_bt40 : W4.heap.size ≤ bt40) (ge_bt40 : w.heap.size ≤ bt40) (gd_bt49 : W4.heap.size ≤ bt49) (ge_bt49 : w.heap.size ≤ bt49) (E : Below w.heap.size w Wq) (k1 : Wq.heap[b1]? = some (.cells C 26)) (k2 : Wq.heap[b2]? = some (.cells #[.slice none 0 0, .slice none 0 0] 34)) (S : Kept (· = b2) W4 Wq) (R42 : Rw Wq w.heap.size 61 130 g42 n cap42 (flatI Is n)) (kt49 : Wq.heap[bt49]? = some (.cells (pth nd 0 false 0 0 Z32) 66)), wpAnyH Try.prog .any ops Q SS 4 #[true, true, true, true, true, true, true, true, true, true, true, false, false, false, false] { tmps := #[(.agg C), (.int .i64 nd), (.slice ao n c), (.int .i64 s), (.pointer (some ⟨b1, 0, none⟩)), undef, undef, undef, (.pointer (some ⟨b2, 0, none⟩)), (.int .i64 0), (.agg C), (.bool true), (.bool false), (.bool false), (.int .i64 nd), (.pointer (some ⟨b1, 1, none⟩)), (.int .i64 t.a), (.bool false), (.bool false), undef, undef, undef, undef, (.bool false), (.bool false), (.bool false), (.slice ao n c), (.int .i64 (n : Nat)), (.bool false), (.bool false), (.bool false), (.slice ao n c), (.int .i64 (n : Nat)), (.bool false), (.bool false), (.bool false), (.int .i64 s), (.bool false), (.bool false), undef, (.slice (some ⟨bt40, 0, none⟩) 0 0), (.slice ao n c), (.slice (some ⟨g42, 0, none⟩) n cap42), (.int .i64 s), (.pointer (some ⟨b1, 39, none⟩)), (.int .i64 t.fee), (.int .i64 (subN s t.fee)), (.int .i64 nd), (.agg (pth nd 0 false 0 0 Z32)), (.slice (some ⟨bt49, 0, none⟩) 1 1), (.agg #[(.int .i64 (subN s t.fee)), (.slice (some ⟨bt49, 0, none⟩) 1 1)]), undef, undef], defers := [] } Wq := by
        intro bt40 g42 cap42 bt49 Wq gd_bt40 ge_bt40 gd_bt49 ge_bt49 E k1 k2 S R42 kt49
        refine ops_in hops hS ?_
        refine ah_or1 (i := 11) (by kernel_rfl) ?_
        · skip
          refine nx_new (fun b => .slice (some ⟨b, 0, none⟩) 1 1) (some 51) rfl rfl rfl (ex_bsl1 (u := (.agg #[(.int .i64 (subN s t.fee)), (.slice (some ⟨bt49, 0, none⟩) 1 1)])) rfl rfl (bs32_1 _ rfl _)) ?_
          intro bt51 W18 kt51 gt51 B
          refine ⟨S.next B, ?_⟩
          simp only [Act.put, List.setIfInBounds_toArray, List.set_cons_zero, List.set_cons_succ]
          have gd_bt51 := Nat.le_trans S.size gt51
          have ge_bt51 := Nat.le_trans E.size gt51
          replace E := below_next E B
          replace k1 := keep B k1
          replace k2 := keep B k2
          replace S := S.next B
          replace R42 := R42.keep B
          replace kt49 := keep B kt49
          clear B
          refine ah_take (v := (.agg #[(.slice (some ⟨g42, 0, none⟩) n cap42), (.slice (some ⟨bt51, 0, none⟩) 1 1)])) (i := 12) (some 52) rfl rfl (by kernel_rfl) (by kernel_rfl) (by kernel_rfl) rfl (fun W hK => ex_build2 (v1 := (.slice (some ⟨g42, 0, none⟩) n cap42)) (v2 := (.slice (some ⟨bt51, 0, none⟩) 1 1)) rfl rfl rfl (b34_01 _ _ _ _ _ _ _)) S (fun c a w h => hQP c a _ _ w h) ?_
          simp only [Act.put, List.setIfInBounds_toArray, List.set_cons_zero, List.set_cons_succ]
          refine ah_L (L' := #[true, true, true, true, true, true, true, true, true, true, true, true, true, false, false]) (by kernel_rfl) ?_
          refine ops_out hops hS ?_
          exact ST1 bt40 g42 cap42 bt49 bt51 W18 gd_bt40 ge_bt40 gd_bt49 ge_bt49 gd_bt51 ge_bt51 E k1 k2 S R42 kt49 kt51
      have ST3 : ∀ (bt40 : Nat) (g42 : Nat) (cap42 : Nat) (Wq : World) (gd_bt40 : W4.heap.size ≤ bt40) (ge_bt40 : w.heap.size ≤ bt40) (E : Below w.heap.size w Wq) (k1 : Wq.heap[b1]? = some (.cells C 26)) (k2 : Wq.heap[b2]? = some (.cells #[.slice none 0 0, .slice none 0 0] 34)) (S : Kept (· = b2) W4 Wq) (R42 : Rw Wq w.heap.size 61 130 g42 n cap42 (flatI Is n)), wpAnyH Try.prog .any ops Q SS 6 #[true, true, true, true, true, true, true, true, true, false, false, false, false, false, false] { tmps := #[(.agg C), (.int .i64 nd), (.slice ao n c), (.int .i64 s), (.pointer (some ⟨b1, 0, none⟩)), undef, undef, undef, (.pointer (some ⟨b2, 0, none⟩)), (.int .i64 0), (.agg C), (.bool true), (.bool false), (.bool false), (.int .i64 nd), (.pointer (some ⟨b1, 1, none⟩)), (.int .i64 t.a), (.bool false), (.bool false), undef, undef, undef, undef, (.bool false), (.bool false), (.bool false), (.slice ao n c), (.int .i64 (n : Nat)), (.bool false), (.bool false), (.bool false), (.slice ao n c), (.int .i64 (n : Nat)), (.bool false), (.bool false), (.bool false), (.int .i64 s), (.bool false), (.bool false), undef, (.slice (some ⟨bt40, 0, none⟩) 0 0), (.slice ao n c), (.slice (some ⟨g42, 0, none⟩) n cap42), (.int .i64 s), (.pointer (some ⟨b1, 39, none⟩)), (.int .i64 t.fee), (.int .i64 (subN s t.fee)), (.int .i64 nd), (.agg (pth nd 0 false 0 0 Z32)), undef, undef, undef, undef], defers := [] } Wq := by
        intro bt40 g42 cap42 Wq gd_bt40 ge_bt40 E k1 k2 S R42
        refine ops_in hops hS ?_
        refine ah_or1 (i := 9) (by kernel_rfl) ?_
        · skip
          refine nx_new (fun b => .slice (some ⟨b, 0, none⟩) 1 1) (some 49) rfl rfl rfl (ex_bsl1 (u := (.agg (pth nd 0 false 0 0 Z32))) rfl rfl (bs44_1 _ (pth_size Z32_size) _)) ?_
          intro bt49 W19 kt49 gt49 B
          refine ⟨S.next B, ?_⟩
          simp only [Act.put, List.setIfInBounds_toArray, List.set_cons_zero, List.set_cons_succ]
          have gd_bt49 := Nat.le_trans S.size gt49
          have ge_bt49 := Nat.le_trans E.size gt49
          replace E := below_next E B
          replace k1 := keep B k1
          replace k2 := keep B k2
          replace S := S.next B
          replace R42 := R42.keep B
          clear B
          refine ah_take (v := (.agg #[(.int .i64 (subN s t.fee)), (.slice (some ⟨bt49, 0, none⟩) 1 1)])) (i := 10) (some 50) rfl rfl (by kernel_rfl) (by kernel_rfl) (by kernel_rfl) rfl (fun W hK => ex_build2 (v1 := (.int .i64 (subN s t.fee))) (v2 := (.slice (some ⟨bt49, 0, none⟩) 1 1)) rfl rfl rfl (b46_01 _ _ _ _ _)) S (fun c a w h => hQP c a _ _ w h) ?_
          simp only [Act.put, List.setIfInBounds_toArray, List.set_cons_zero, List.set_cons_succ]
          refine ah_L (L' := #[true, true, true, true, true, true, true, true, true, true, true, false, false, false, false]) (by kernel_rfl) ?_
          refine ops_out hops hS ?_
          exact ST2 bt40 g42 cap42 bt49 W19 gd_bt40 ge_bt40 gd_bt49 ge_bt49 E k1 k2 S R42 kt49
      have ST4 : ∀ (bt40 : Nat) (g42 : Nat) (cap42 : Nat) (bt49 : Nat) (Wq : World) (gd_bt40 : W4.heap.size ≤ bt40) (ge_bt40 : w.heap.size ≤ bt40) (gd_bt49 : W4.heap.size ≤ bt49) (ge_bt49 : w.heap.size ≤ bt49) (E : Below w.heap.size w Wq) (k1 : Wq.heap[b1]? = some (.cells C 26)) (k2 : Wq.heap[b2]? = some (.cells #[.slice none 0 0, .slice none 0 0] 34)) (S : Kept (· = b2) W4 Wq) (R42 : Rw Wq w.heap.size 61 130 g42 n cap42 (flatI Is n)) (kt49 : Wq.heap[bt49]? = some (.cells (pth nd 0 false 0 0 Z32) 66)), wpAnyH Try.prog .any ops Q SS 6 #[true, true, true, true, true, true, false, true, true, true, false, false, false, false, false] { tmps := #[(.agg C), (.int .i64 nd), (.slice ao n c), (.int .i64 s), (.pointer (some ⟨b1, 0, none⟩)), undef, undef, undef, (.pointer (some ⟨b2, 0, none⟩)), (.int .i64 0), (.agg C), (.bool true), (.bool false), (.bool false), (.int .i64 nd), (.pointer (some ⟨b1, 1, none⟩)), (.int .i64 t.a), (.bool false), (.bool false), undef, undef, undef, undef, (.bool false), (.bool false), (.bool false), (.slice ao n c), (.int .i64 (n : Nat)), (.bool false), (.bool false), (.bool false), (.slice ao n c), (.int .i64 (n : Nat)), (.bool false), (.bool false), (.bool false), (.int .i64 s), (.bool false), (.bool false), undef, (.slice (some ⟨bt40, 0, none⟩) 0 0), (.slice ao n c), (.slice (some ⟨g42, 0, none⟩) n cap42), (.int .i64 s), (.pointer (some ⟨b1, 39, none⟩)), (.int .i64 t.fee), undef, (.int .i64 nd), (.agg (pth nd 0 false 0 0 Z32)), (.slice (some ⟨bt49, 0, none⟩) 1 1), undef, undef, undef], defers := [] } Wq := by
        intro bt40 g42 cap42 bt49 Wq gd_bt40 ge_bt40 gd_bt49 ge_bt49 E k1 k2 S R42 kt49
        refine ops_in hops hS ?_
        refine ah_or1 (i := 6) (by kernel_rfl) ?_
        · skip
          refine nx_call (some 46) rfl rfl rfl (rless_any s t.fee Wq ⟨hs0, hs⟩ ⟨hfe, hb.fee⟩) (ex_call (f := 32) (vs := [(.int .i64 s), (.int .i64 t.fee)]) rfl (cf32 _) rfl) ?_
          rintro e W20 ⟨rfl, B⟩
          refine ⟨_, rfl, S.next B, ?_⟩
          simp only [Act.put, List.setIfInBounds_toArray, List.set_cons_zero, List.set_cons_succ]
          replace E := below_next E B
          replace k1 := keep B k1
          replace k2 := keep B k2
          replace S := S.next B
          replace R42 := R42.keep B
          replace kt49 := keep B kt49
          refine ah_take (v := (.agg #[(.int .i64 (subN s t.fee)), (.slice (some ⟨bt49, 0, none⟩) 1 1)])) (i := 10) (some 50) rfl rfl (by kernel_rfl) (by kernel_rfl) (by kernel_rfl) rfl (fun W hK => ex_build2 (v1 := (.int .i64 (subN s t.fee))) (v2 := (.slice (some ⟨bt49, 0, none⟩) 1 1)) rfl rfl rfl (b46_01 _ _ _ _ _)) S (fun c a w h => hQP c a _ _ w h) ?_
          simp only [Act.put, List.setIfInBounds_toArray, List.set_cons_zero, List.set_cons_succ]
          refine ah_L (L' := #[true, true, true, true, true, true, true, true, true, true, true, false, false, false, false]) (by kernel_rfl) ?_
          refine ops_out hops hS ?_
          exact ST2 bt40 g42 cap42 bt49 W20 gd_bt40 ge_bt40 gd_bt49 ge_bt49 E k1 k2 S R42 kt49
      have ST5 : ∀ (bt40 : Nat) (g42 : Nat) (cap42 : Nat) (Wq : World) (gd_bt40 : W4.heap.size ≤ bt40) (ge_bt40 : w.heap.size ≤ bt40) (E : Below w.heap.size w Wq) (k1 : Wq.heap[b1]? = some (.cells C 26)) (k2 : Wq.heap[b2]? = some (.cells #[.slice none 0 0, .slice none 0 0] 34)) (S : Kept (· = b2) W4 Wq) (R42 : Rw Wq w.heap.size 61 130 g42 n cap42 (flatI Is n)), wpAnyH Try.prog .any ops Q SS 7 #[true, true, true, true, true, true, false, true, true, false, false, false, false, false, false] { tmps := #[(.agg C), (.int .i64 nd), (.slice ao n c), (.int .i64 s), (.pointer (some ⟨b1, 0, none⟩)), undef, undef, undef, (.pointer (some ⟨b2, 0, none⟩)), (.int .i64 0), (.agg C), (.bool true), (.bool false), (.bool false), (.int .i64 nd), (.pointer (some ⟨b1, 1, none⟩)), (.int .i64 t.a), (.bool false), (.bool false), undef, undef, undef, undef, (.bool false), (.bool false), (.bool false), (.slice ao n c), (.int .i64 (n : Nat)), (.bool false), (.bool false), (.bool false), (.slice ao n c), (.int .i64 (n : Nat)), (.bool false), (.bool false), (.bool false), (.int .i64 s), (.bool false), (.bool false), undef, (.slice (some ⟨bt40, 0, none⟩) 0 0), (.slice ao n c), (.slice (some ⟨g42, 0, none⟩) n cap42), (.int .i64 s), (.pointer (some ⟨b1, 39, none⟩)), (.int .i64 t.fee), undef, (.int .i64 nd), (.agg (pth nd 0 false 0 0 Z32)), undef, undef, undef, undef], defers := [] } Wq := by
        intro bt40 g42 cap42 Wq gd_bt40 ge_bt40 E k1 k2 S R42
        refine ops_in hops hS ?_
        refine ah_or2 (i := 6) (j := 9) (by kernel_rfl) ?_ ?_
        · skip
          refine nx_call (some 46) rfl rfl rfl (rless_any s t.fee Wq ⟨hs0, hs⟩ ⟨hfe, hb.fee⟩) (ex_call (f := 32) (vs := [(.int .i64 s), (.int .i64 t.fee)]) rfl (cf32 _) rfl) ?_
          rintro e W21 ⟨rfl, B⟩
          refine ⟨_, rfl, S.next B, ?_⟩
          simp only [Act.put, List.setIfInBounds_toArray, List.set_cons_zero, List.set_cons_succ]
          replace E := below_next E B
          replace k1 := keep B k1
          replace k2 := keep B k2
          replace S := S.next B
          replace R42 := R42.keep B
          refine ah_L (L' := #[true, true, true, true, true, true, true, true, true, false, false, false, false, false, false]) (by kernel_rfl) ?_
          refine ops_out hops hS ?_
          exact ST3 bt40 g42 cap42 W21 gd_bt40 ge_bt40 E k1 k2 S R42
        · skip
          refine nx_new (fun b => .slice (some ⟨b, 0, none⟩) 1 1) (some 49) rfl rfl rfl (ex_bsl1 (u := (.agg (pth nd 0 false 0 0 Z32))) rfl rfl (bs44_1 _ (pth_size Z32_size) _)) ?_
          intro bt49 W22 kt49 gt49 B
          refine ⟨S.next B, ?_⟩
          simp only [Act.put, List.setIfInBounds_toArray, List.set_cons_zero, List.set_cons_succ]
          have gd_bt49 := Nat.le_trans S.size gt49
          have ge_bt49 := Nat.le_trans E.size gt49
          replace E := below_next E B
          replace k1 := keep B k1
          replace k2 := keep B k2
          replace S := S.next B
          replace R42 := R42.keep B
          clear B
          refine ah_L (L' := #[true, true, true, true, true, true, false, true, true, true, false, false, false, false, false]) (by kernel_rfl) ?_
          refine ops_out hops hS ?_
          exact ST4 bt40 g42 cap42 bt49 W22 gd_bt40 ge_bt40 gd_bt49 ge_bt49 E k1 k2 S R42 kt49
      have ST6 : ∀ (bt40 : Nat) (bt49 : Nat) (Wq : World) (gd_bt40 : W4.heap.size ≤ bt40) (ge_bt40 : w.heap.size ≤ bt40) (gd_bt49 : W4.heap.size ≤ bt49) (ge_bt49 : w.heap.size ≤ bt49) (E : Below w.heap.size w Wq) (k1 : Wq.heap[b1]? = some (.cells C 26)) (k2 : Wq.heap[b2]? = some (.cells #[.slice none 0 0, .slice none 0 0] 34)) (S : Kept (· = b2) W4 Wq) (kt40 : Wq.heap[bt40]? = some (.cells (#[] : Array Value) 61)) (kt49 : Wq.heap[bt49]? = some (.cells (pth nd 0 false 0 0 Z32) 66)), wpAnyH Try.prog .any ops Q SS 7 #[true, true, false, true, true, true, false, true, true, true, false, false, false, false, false] { tmps := #[(.agg C), (.int .i64 nd), (.slice ao n c), (.int .i64 s), (.pointer (some ⟨b1, 0, none⟩)), undef, undef, undef, (.pointer (some ⟨b2, 0, none⟩)), (.int .i64 0), (.agg C), (.bool true), (.bool false), (.bool false), (.int .i64 nd), (.pointer (some ⟨b1, 1, none⟩)), (.int .i64 t.a), (.bool false), (.bool false), undef, undef, undef, undef, (.bool false), (.bool false), (.bool false), (.slice ao n c), (.int .i64 (n : Nat)), (.bool false), (.bool false), (.bool false), (.slice ao n c), (.int .i64 (n : Nat)), (.bool false), (.bool false), (.bool false), (.int .i64 s), (.bool false), (.bool false), undef, (.slice (some ⟨bt40, 0, none⟩) 0 0), (.slice ao n c), undef, (.int .i64 s), (.pointer (some ⟨b1, 39, none⟩)), (.int .i64 t.fee), undef, (.int .i64 nd), (.agg (pth nd 0 false 0 0 Z32)), (.slice (some ⟨bt49, 0, none⟩) 1 1), undef, undef, undef], defers := [] } Wq := by
        intro bt40 bt49 Wq gd_bt40 ge_bt40 gd_bt49 ge_bt49 E k1 k2 S kt40 kt49
        refine ops_in hops hS ?_
        refine ah_or1 (i := 2) (by kernel_rfl) ?_
        · skip
          obtain ⟨g42, cap42, W23, hrun, R42, K⟩ := app_list kt40 ge_bt40 (hI.below E) hIs hN E.size
          refine nx_to (v := (.slice (some ⟨g42, 0, none⟩) n cap42)) (some 42) rfl rfl rfl (ex_app rfl rfl rfl hrun) (S.putN K gd_bt40) ?_
          simp only [Act.put, List.setIfInBounds_toArray, List.set_cons_zero, List.set_cons_succ]
          replace E := below_put E ge_bt40 K
          replace k1 := keepK K k1 (fun e => ne_tag k1 kt40 (by decide) e)
          replace k2 := keepK K k2 (fun e => ne_tag k2 kt40 (by decide) e)
          replace S := S.putN K gd_bt40
          replace kt49 := keepK K kt49 (fun e => ne_tag kt49 kt40 (by decide) e)
          clear kt40 K hrun
          refine ah_L (L' := #[true, true, true, true, true, true, false, true, true, true, false, false, false, false, false]) (by kernel_rfl) ?_
          refine ops_out hops hS ?_
          exact ST4 bt40 g42 cap42 bt49 W23 gd_bt40 ge_bt40 gd_bt49 ge_bt49 E k1 k2 S R42 kt49
      have ST7 : ∀ (bt40 : Nat) (Wq : World) (gd_bt40 : W4.heap.size ≤ bt40) (ge_bt40 : w.heap.size ≤ bt40) (E : Below w.heap.size w Wq) (k1 : Wq.heap[b1]? = some (.cells C 26)) (k2 : Wq.heap[b2]? = some (.cells #[.slice none 0 0, .slice none 0 0] 34)) (S : Kept (· = b2) W4 Wq) (kt40 : Wq.heap[bt40]? = some (.cells (#[] : Array Value) 61)), wpAnyH Try.prog .any ops Q SS 8 #[true, true, false, true, true, true, false, true, true, false, false, false, false, false, false] { tmps := #[(.agg C), (.int .i64 nd), (.slice ao n c), (.int .i64 s), (.pointer (some ⟨b1, 0, none⟩)), undef, undef, undef, (.pointer (some ⟨b2, 0, none⟩)), (.int .i64 0), (.agg C), (.bool true), (.bool false), (.bool false), (.int .i64 nd), (.pointer (some ⟨b1, 1, none⟩)), (.int .i64 t.a), (.bool false), (.bool false), undef, undef, undef, undef, (.bool false), (.bool false), (.bool false), (.slice ao n c), (.int .i64 (n : Nat)), (.bool false), (.bool false), (.bool false), (.slice ao n c), (.int .i64 (n : Nat)), (.bool false), (.bool false), (.bool false), (.int .i64 s), (.bool false), (.bool false), undef, (.slice (some ⟨bt40, 0, none⟩) 0 0), (.slice ao n c), undef, (.int .i64 s), (.pointer (some ⟨b1, 39, none⟩)), (.int .i64 t.fee), undef, (.int .i64 nd), (.agg (pth nd 0 false 0 0 Z32)), undef, undef, undef, undef], defers := [] } Wq := by
        intro bt40 Wq gd_bt40 ge_bt40 E k1 k2 S kt40
        refine ops_in hops hS ?_
        refine ah_or2 (i := 2) (j := 9) (by kernel_rfl) ?_ ?_
        · skip
          obtain ⟨g42, cap42, W24, hrun, R42, K⟩ := app_list kt40 ge_bt40 (hI.below E) hIs hN E.size
          refine nx_to (v := (.slice (some ⟨g42, 0, none⟩) n cap42)) (some 42) rfl rfl rfl (ex_app rfl rfl rfl hrun) (S.putN K gd_bt40) ?_
          simp only [Act.put, List.setIfInBounds_toArray, List.set_cons_zero, List.set_cons_succ]
          replace E := below_put E ge_bt40 K
          replace k1 := keepK K k1 (fun e => ne_tag k1 kt40 (by decide) e)
          replace k2 := keepK K k2 (fun e => ne_tag k2 kt40 (by decide) e)
          replace S := S.putN K gd_bt40
          clear kt40 K hrun
          refine ah_L (L' := #[true, true, true, true, true, true, false, true, true, false, false, false, false, false, false]) (by kernel_rfl) ?_
          refine ops_out hops hS ?_
          exact ST5 bt40 g42 cap42 W24 gd_bt40 ge_bt40 E k1 k2 S R42
        · skip
          refine nx_new (fun b => .slice (some ⟨b, 0, none⟩) 1 1) (some 49) rfl rfl rfl (ex_bsl1 (u := (.agg (pth nd 0 false 0 0 Z32))) rfl rfl (bs44_1 _ (pth_size Z32_size) _)) ?_
          intro bt49 W25 kt49 gt49 B
          refine ⟨S.next B, ?_⟩
          simp only [Act.put, List.setIfInBounds_toArray, List.set_cons_zero, List.set_cons_succ]
          have gd_bt49 := Nat.le_trans S.size gt49
          have ge_bt49 := Nat.le_trans E.size gt49
          replace E := below_next E B
          replace k1 := keep B k1
          replace k2 := keep B k2
          replace S := S.next B
          replace kt40 := keep B kt40
          clear B
          refine ah_L (L' := #[true, true, false, true, true, true, false, true, true, true, false, false, false, false, false]) (by kernel_rfl) ?_
          refine ops_out hops hS ?_
          exact ST6 bt40 bt49 W25 gd_bt40 ge_bt40 gd_bt49 ge_bt49 E k1 k2 S kt40 kt49
      have ST8 : ∀ (bt49 : Nat) (Wq : World) (gd_bt49 : W4.heap.size ≤ bt49) (ge_bt49 : w.heap.size ≤ bt49) (E : Below w.heap.size w Wq) (k1 : Wq.heap[b1]? = some (.cells C 26)) (k2 : Wq.heap[b2]? = some (.cells #[.slice none 0 0, .slice none 0 0] 34)) (S : Kept (· = b2) W4 Wq) (kt49 : Wq.heap[bt49]? = some (.cells (pth nd 0 false 0 0 Z32) 66)), wpAnyH Try.prog .any ops Q SS 8 #[false, true, false, true, true, true, false, true, true, true, false, false, false, false, false] { tmps := #[(.agg C), (.int .i64 nd), (.slice ao n c), (.int .i64 s), (.pointer (some ⟨b1, 0, none⟩)), undef, undef, undef, (.pointer (some ⟨b2, 0, none⟩)), (.int .i64 0), (.agg C), (.bool true), (.bool false), (.bool false), (.int .i64 nd), (.pointer (some ⟨b1, 1, none⟩)), (.int .i64 t.a), (.bool false), (.bool false), undef, undef, undef, undef, (.bool false), (.bool false), (.bool false), (.slice ao n c), (.int .i64 (n : Nat)), (.bool false), (.bool false), (.bool false), (.slice ao n c), (.int .i64 (n : Nat)), (.bool false), (.bool false), (.bool false), (.int .i64 s), (.bool false), (.bool false), undef, undef, (.slice ao n c), undef, (.int .i64 s), (.pointer (some ⟨b1, 39, none⟩)), (.int .i64 t.fee), undef, (.int .i64 nd), (.agg (pth nd 0 false 0 0 Z32)), (.slice (some ⟨bt49, 0, none⟩) 1 1), undef, undef, undef], defers := [] } Wq := by
        intro bt49 Wq gd_bt49 ge_bt49 E k1 k2 S kt49
        refine ops_in hops hS ?_
        refine ah_or1 (i := 0) (by kernel_rfl) ?_
        · skip
          refine nx_new (fun b => .slice (some ⟨b, 0, none⟩) 0 0) (some 40) rfl rfl rfl (ex_bsl0  rfl (bs31_0 _)) ?_
          intro bt40 W26 kt40 gt40 B
          refine ⟨S.next B, ?_⟩
          simp only [Act.put, List.setIfInBounds_toArray, List.set_cons_zero, List.set_cons_succ]
          have gd_bt40 := Nat.le_trans S.size gt40
          have ge_bt40 := Nat.le_trans E.size gt40
          replace E := below_next E B
          replace k1 := keep B k1
          replace k2 := keep B k2
          replace S := S.next B
          replace kt49 := keep B kt49
          clear B
          refine ah_L (L' := #[true, true, false, true, true, true, false, true, true, true, false, false, false, false, false]) (by kernel_rfl) ?_
          refine ops_out hops hS ?_
          exact ST6 bt40 bt49 W26 gd_bt40 ge_bt40 gd_bt49 ge_bt49 E k1 k2 S kt40 kt49
      refine ops_in hops hS ?_
      refine ah_or2 (i := 0) (j := 9) (by kernel_rfl) ?_ ?_
      · skip
        refine nx_new (fun b => .slice (some ⟨b, 0, none⟩) 0 0) (some 40) rfl rfl rfl (ex_bsl0  rfl (bs31_0 _)) ?_
        intro bt40 W27 kt40 gt40 B
        refine ⟨S.next B, ?_⟩
        simp only [Act.put, List.setIfInBounds_toArray, List.set_cons_zero, List.set_cons_succ]
        have gd_bt40 := Nat.le_trans S.size gt40
        have ge_bt40 := Nat.le_trans E.size gt40
        replace E := below_next E B
        replace k1 := keep B k1
        replace k2 := keep B k2
        replace S := S.next B
        clear B
        refine ah_L (L' := #[true, true, false, true, true, true, false, true, true, false, false, false, false, false, false]) (by kernel_rfl) ?_
        refine ops_out hops hS ?_
        exact ST7 bt40 W27 gd_bt40 ge_bt40 E k1 k2 S kt40
      · skip
        refine nx_new (fun b => .slice (some ⟨b, 0, none⟩) 1 1) (some 49) rfl rfl rfl (ex_bsl1 (u := (.agg (pth nd 0 false 0 0 Z32))) rfl rfl (bs44_1 _ (pth_size Z32_size) _)) ?_
        intro bt49 W28 kt49 gt49 B
        refine ⟨S.next B, ?_⟩
        simp only [Act.put, List.setIfInBounds_toArray, List.set_cons_zero, List.set_cons_succ]
        have gd_bt49 := Nat.le_trans S.size gt49
        have ge_bt49 := Nat.le_trans E.size gt49
        replace E := below_next E B
        replace k1 := keep B k1
        replace k2 := keep B k2
        replace S := S.next B
        clear B
        refine ah_L (L' := #[false, true, false, true, true, true, false, true, true, true, false, false, false, false, false]) (by kernel_rfl) ?_
        refine ops_out hops hS ?_
        exact ST8 bt49 W28 gd_bt49 ge_bt49 E k1 k2 S kt49
    intro bt40 g42 cap42 bt49 bt51 Wq gd_bt40 ge_bt40 gd_bt49 ge_bt49 gd_bt51 ge_bt51 E k1 S R42 kt49 kt51 k2
    refine ops_in hops hS ?_
    refine ah_done (by kernel_rfl) ?_
    clear hQP hops hS
    subst hQ
    clear S d_k1 d_k2 
    refine wp_ret ?_
    have OU : Outs Wq w.heap.size bt51 1 1 (fun _ => subN s t.fee) (fun _ => 1) (fun _ => (pth nd 0 false 0 0 Z32)) := ⟨fun _ => bt49, Rw.ofBlock kt51 rfl ge_bt51 (by decide), fun j hj => kt49⟩
    refine bodyPost_ret (ret_ct Try.results23 _ _ b2 _ _ _ _ rfl rfl k2 Try.underlying34 rfl inf34) rfl ⟨g42, cap42, bt51, rfl, R42, OU, E⟩
  have cB : nd = t.b := c1.resolve_left cA
  have E : Below w.heap.size w w := Below.refl _ _
  go_enter Try.func23, Try.ntmps23
  refine wp_seq ?_
  refine wl_in ?_
  refine wl_cap fun Q hQ => ?_
  refine st_new (fun b => .pointer (some ⟨b, 0, none⟩)) (some 4) rfl rfl (ex_box rfl rfl) ?_
  intro b1 W1 k1 g1 B
  simp only [Act.put, List.setIfInBounds_toArray, List.set_cons_zero, List.set_cons_succ]
  have ge_b1 := Nat.le_trans E.size g1
  replace E := below_next E B
  clear B
  refine st_new (fun b => .pointer (some ⟨b, 0, none⟩)) (some 8) rfl rfl (ex_alloc rfl zero34) ?_
  intro b2 W2 k2 g2 B
  simp only [Act.put, List.setIfInBounds_toArray, List.set_cons_zero, List.set_cons_succ]
  have ne_b2_b1 : b2 ≠ b1 := fun e => by have := lt_of k1; omega
  have ge_b2 := Nat.le_trans E.size g2
  replace E := below_next E B
  replace k1 := keep B k1
  clear B
  refine st_to (v := (.int .i64 0)) (some 9) rfl rfl (ex_asg rfl rfl) ?_
  simp only [Act.put, List.setIfInBounds_toArray, List.set_cons_zero, List.set_cons_succ]
  refine st_end ?_
  subst hQ
  refine wp_seq ?_
  refine wp_seq ?_
  refine wl_in ?_
  refine wl_cap fun Q hQ => ?_
  refine st_to (v := (.agg C)) (some 10) rfl rfl (ex_load (p := (.pointer (some ⟨b1, 0, none⟩))) rfl rfl (ld_all k1 Try.underlying26 rfl (inf26.trans (congrArg some (hT.size).symm)))) ?_
  simp only [Act.put, List.setIfInBounds_toArray, List.set_cons_zero, List.set_cons_succ]
  refine st_call (some 11) rfl rfl (rmay_any W2 hT hb c0) (ex_call (f := 13) (vs := [(.agg C)]) rfl (cf13 _) rfl) ?_
  rintro e W3 ⟨rfl, B⟩
  refine ⟨_, rfl, ?_⟩
  simp only [Act.put, List.setIfInBounds_toArray, List.set_cons_zero, List.set_cons_succ]
  replace E := below_next E B
  replace k1 := keep B k1
  replace k2 := keep B k2
  refine st_to (v := (.bool false)) (some 12) rfl rfl (ex_not rfl rfl rfl) ?_
  simp only [Act.put, List.setIfInBounds_toArray, List.set_cons_zero, List.set_cons_succ]
  refine st_to (v := (.bool false)) (some 13) rfl rfl (ex_mv rfl rfl) ?_
  simp only [Act.put, List.setIfInBounds_toArray, List.set_cons_zero, List.set_cons_succ]
  refine st_to (v := (.int .i64 nd)) (some 14) rfl rfl (ex_mv rfl rfl) ?_
  simp only [Act.put, List.setIfInBounds_toArray, List.set_cons_zero, List.set_cons_succ]
  refine st_to (v := (.pointer (some ⟨b1, 1, none⟩))) (some 15) rfl rfl (ex_fa (p := (.pointer (some ⟨b1, 0, none⟩))) rfl rfl (fa26_1 _ _)) ?_
  simp only [Act.put, List.setIfInBounds_toArray, List.set_cons_zero, List.set_cons_succ]
  refine st_to (v := (.int .i64 t.a)) (some 16) rfl rfl (ex_load (p := (.pointer (some ⟨b1, 1, none⟩))) rfl rfl (ld3 (at_cell k1 hT.c1))) ?_
  simp only [Act.put, List.setIfInBounds_toArray, List.set_cons_zero, List.set_cons_succ]
  refine st_to (v := (.bool true)) (some 17) rfl rfl (ex_bin (u := (.int .i64 nd)) (r := (.int .i64 t.a)) rfl rfl rfl (eg3 _ _ _ _ _ _) (neq3 _ (decide_eq_true cA))) ?_
  simp only [Act.put, List.setIfInBounds_toArray, List.set_cons_zero, List.set_cons_succ]
  refine st_to (v := (.bool true)) (some 18) rfl rfl (ex_mv rfl rfl) ?_
  simp only [Act.put, List.setIfInBounds_toArray, List.set_cons_zero, List.set_cons_succ]
  refine st_to (v := (.int .i64 nd)) (some 19) rfl rfl (ex_mv rfl rfl) ?_
  simp only [Act.put, List.setIfInBounds_toArray, List.set_cons_zero, List.set_cons_succ]
  refine st_to (v := (.pointer (some ⟨b1, 2, none⟩))) (some 20) rfl rfl (ex_fa (p := (.pointer (some ⟨b1, 0, none⟩))) rfl rfl (fa26_2 _ _)) ?_
  simp only [Act.put, List.setIfInBounds_toArray, List.set_cons_zero, List.set_cons_succ]
  refine st_to (v := (.int .i64 t.b)) (some 21) rfl rfl (ex_load (p := (.pointer (some ⟨b1, 2, none⟩))) rfl rfl (ld3 (at_cell k1 hT.c2))) ?_
  simp only [Act.put, List.setIfInBounds_toArray, List.set_cons_zero, List.set_cons_succ]
  refine st_to (v := (.bool false)) (some 22) rfl rfl (ex_bin (u := (.int .i64 nd)) (r := (.int .i64 t.b)) rfl rfl rfl (eg3 _ _ _ _ _ _) (neq3 _ (decide_eq_false (fun e => e cB)))) ?_
  simp only [Act.put, List.setIfInBounds_toArray, List.set_cons_zero, List.set_cons_succ]
  refine st_to (v := (.bool false)) (some 23) rfl rfl (ex_pkT rfl rfl rfl) ?_
  simp only [Act.put, List.setIfInBounds_toArray, List.set_cons_zero, List.set_cons_succ]
  refine st_to (v := (.bool false)) (some 24) rfl rfl (ex_pkF rfl rfl rfl) ?_
  simp only [Act.put, List.setIfInBounds_toArray, List.set_cons_zero, List.set_cons_succ]
  refine st_to (v := (.bool false)) (some 25) rfl rfl (ex_mv rfl rfl) ?_
  simp only [Act.put, List.setIfInBounds_toArray, List.set_cons_zero, List.set_cons_succ]
  refine st_to (v := (.slice ao n c)) (some 26) rfl rfl (ex_mv rfl rfl) ?_
  simp only [Act.put, List.setIfInBounds_toArray, List.set_cons_zero, List.set_cons_succ]
  refine st_to (v := (.int .i64 (n : Nat))) (some 27) rfl rfl (ex_len rfl rfl (len31 _ _ _ _ _)) ?_
  simp only [Act.put, List.setIfInBounds_toArray, List.set_cons_zero, List.set_cons_succ]
  refine st_to (v := (.bool false)) (some 28) rfl rfl (ex_bin (u := (.int .i64 (n : Nat))) (r := (.int .i64 1)) rfl rfl rfl (eg3 _ _ _ _ _ _) (lss3 _ (decide_eq_false (by omega)))) ?_
  simp only [Act.put, List.setIfInBounds_toArray, List.set_cons_zero, List.set_cons_succ]
  refine st_to (v := (.bool false)) (some 29) rfl rfl (ex_pkF rfl rfl rfl) ?_
  simp only [Act.put, List.setIfInBounds_toArray, List.set_cons_zero, List.set_cons_succ]
  refine st_to (v := (.bool false)) (some 30) rfl rfl (ex_mv rfl rfl) ?_
  simp only [Act.put, List.setIfInBounds_toArray, List.set_cons_zero, List.set_cons_succ]
  refine st_to (v := (.slice ao n c)) (some 31) rfl rfl (ex_mv rfl rfl) ?_
  simp only [Act.put, List.setIfInBounds_toArray, List.set_cons_zero, List.set_cons_succ]
  refine st_to (v := (.int .i64 (n : Nat))) (some 32) rfl rfl (ex_len rfl rfl (len31 _ _ _ _ _)) ?_
  simp only [Act.put, List.setIfInBounds_toArray, List.set_cons_zero, List.set_cons_succ]
  refine st_to (v := (.bool false)) (some 33) rfl rfl (ex_bin (u := (.int .i64 (n : Nat))) (r := (.int .i64 64)) rfl rfl rfl (eg3 _ _ _ _ _ _) (gtr3 _ (decide_eq_false (by omega)))) ?_
  simp only [Act.put, List.setIfInBounds_toArray, List.set_cons_zero, List.set_cons_succ]
  refine st_to (v := (.bool false)) (some 34) rfl rfl (ex_pkF rfl rfl rfl) ?_
  simp only [Act.put, List.setIfInBounds_toArray, List.set_cons_zero, List.set_cons_succ]
  refine st_to (v := (.bool false)) (some 35) rfl rfl (ex_mv rfl rfl) ?_
  simp only [Act.put, List.setIfInBounds_toArray, List.set_cons_zero, List.set_cons_succ]
  refine st_to (v := (.int .i64 s)) (some 36) rfl rfl (ex_mv rfl rfl) ?_
  simp only [Act.put, List.setIfInBounds_toArray, List.set_cons_zero, List.set_cons_succ]
  refine st_to (v := (.bool false)) (some 37) rfl rfl (ex_bin (u := (.int .i64 s)) (r := (.int .i64 0)) rfl rfl rfl (eg3 _ _ _ _ _ _) (lss3 _ (decide_eq_false (by omega)))) ?_
  simp only [Act.put, List.setIfInBounds_toArray, List.set_cons_zero, List.set_cons_succ]
  refine st_to (v := (.bool false)) (some 38) rfl rfl (ex_pkF rfl rfl rfl) ?_
  simp only [Act.put, List.setIfInBounds_toArray, List.set_cons_zero, List.set_cons_succ]
  refine st_end ?_
  subst hQ
  refine wp_cond_false rfl ?_
  refine wp_skip ?_
  refine wp_seq ?_
  obtain ⟨W4, hwd⟩ : ∃ wd, W3.drew = wd := ⟨_, rfl⟩
  refine wp_region_held (S := fun W => Kept (· = b2) W4 W) (by kernel_rfl) ?_
  show wpAnyH _ _ _ _ _ _ _ _ W3.drew
  rw [hwd]
  refine capQ fun Q hQ => ?_
  have hQP : ∀ c (a : Act) (d : Nat) v w, Q (.panic c) (a.put (some d) v) w → Q (.panic c) a w := by
    subst hQ
    exact fun _ _ _ _ _ h => h
  have BD : Below W3.heap.size W3 W4 := by rw [← hwd]; exact below_drew (Below.refl _ _)
  clear hwd
  replace E := below_next E BD
  replace k1 := keep BD k1
  replace k2 := keep BD k2
  clear BD
  have S : Kept (· = b2) W4 W4 := Kept.refl _ _
  have d_k1 := k1
  have d_k2 := k2
  refine ah_take (v := (.slice ao n c)) (i := 1) (some 41) rfl rfl (by kernel_rfl) (by kernel_rfl) (by kernel_rfl) rfl (fun W hK => ex_mv rfl rfl) S (fun c a w h => hQP c a _ _ w h) ?_
  simp only [Act.put, List.setIfInBounds_toArray, List.set_cons_zero, List.set_cons_succ]
  refine ah_take (v := (.int .i64 s)) (i := 3) (some 43) rfl rfl (by kernel_rfl) (by kernel_rfl) (by kernel_rfl) rfl (fun W hK => ex_mv rfl rfl) S (fun c a w h => hQP c a _ _ w h) ?_
  simp only [Act.put, List.setIfInBounds_toArray, List.set_cons_zero, List.set_cons_succ]
  refine ah_take (v := (.pointer (some ⟨b1, 39, none⟩))) (i := 4) (some 44) rfl rfl (by kernel_rfl) (by kernel_rfl) (by kernel_rfl) rfl (fun W hK => ex_fa (p := (.pointer (some ⟨b1, 0, none⟩))) rfl rfl (fa26_7 _ _)) S (fun c a w h => hQP c a _ _ w h) ?_
  simp only [Act.put, List.setIfInBounds_toArray, List.set_cons_zero, List.set_cons_succ]
  refine ah_take (v := (.int .i64 t.fee)) (i := 5) (some 45) rfl rfl (by kernel_rfl) (by kernel_rfl) (by kernel_rfl) rfl (fun W hK => ex_load (p := (.pointer (some ⟨b1, 39, none⟩))) rfl rfl (ld3 (at_cell (keepK hK d_k1 (fun e => ne_tag d_k1 d_k2 (by decide) e)) hT.c39))) S (fun c a w h => hQP c a _ _ w h) ?_
  simp only [Act.put, List.setIfInBounds_toArray, List.set_cons_zero, List.set_cons_succ]
  refine ah_take (v := (.int .i64 nd)) (i := 7) (some 47) rfl rfl (by kernel_rfl) (by kernel_rfl) (by kernel_rfl) rfl (fun W hK => ex_mv rfl rfl) S (fun c a w h => hQP c a _ _ w h) ?_
  simp only [Act.put, List.setIfInBounds_toArray, List.set_cons_zero, List.set_cons_succ]
  refine ah_take (v := (.agg (pth nd 0 false 0 0 Z32))) (i := 8) (some 48) rfl rfl (by kernel_rfl) (by kernel_rfl) (by kernel_rfl) rfl (fun W hK => ex_build1 (v1 := (.int .i64 nd)) rfl rfl (b66_0 _ _)) S (fun c a w h => hQP c a _ _ w h) ?_
  simp only [Act.put, List.setIfInBounds_toArray, List.set_cons_zero, List.set_cons_succ]
  refine cap2 fun ops SS hops hS => ?_
  suffices FIN : ∀ (bt40 : Nat) (g42 : Nat) (cap42 : Nat) (bt49 : Nat) (bt51 : Nat) (Wq : World) (gd_bt40 : W4.heap.size ≤ bt40) (ge_bt40 : w.heap.size ≤ bt40) (gd_bt49 : W4.heap.size ≤ bt49) (ge_bt49 : w.heap.size ≤ bt49) (gd_bt51 : W4.heap.size ≤ bt51) (ge_bt51 : w.heap.size ≤ bt51) (E : Below w.heap.size w Wq) (k1 : Wq.heap[b1]? = some (.cells C 26)) (S : Kept (· = b2) W4 Wq) (R42 : Rw Wq w.heap.size 61 130 g42 n cap42 (flatI Is n)) (kt49 : Wq.heap[bt49]? = some (.cells (pth nd 0 false 0 0 Z32) 66)) (kt51 : Wq.heap[bt51]? = some (.cells #[(.int .i64 (subN s t.fee)), (.slice (some ⟨bt49, 0, none⟩) 1 1)] 46)) (k2 : Wq.heap[b2]? = some (.cells #[(.slice (some ⟨g42, 0, none⟩) n cap42), (.slice (some ⟨bt51, 0, none⟩) 1 1)] 34)), wpAnyH Try.prog .any ops Q SS 0 #[true, true, true, true, true, true, true, true, true, true, true, true, true, true, true] { tmps := #[(.agg C), (.int .i64 nd), (.slice ao n c), (.int .i64 s), (.pointer (some ⟨b1, 0, none⟩)), undef, undef, undef, (.pointer (some ⟨b2, 0, none⟩)), (.int .i64 0), (.agg C), (.bool true), (.bool false), (.bool false), (.int .i64 nd), (.pointer (some ⟨b1, 1, none⟩)), (.int .i64 t.a), (.bool true), (.bool true), (.int .i64 nd), (.pointer (some ⟨b1, 2, none⟩)), (.int .i64 t.b), (.bool false), (.bool false), (.bool false), (.bool false), (.slice ao n c), (.int .i64 (n : Nat)), (.bool false), (.bool false), (.bool false), (.slice ao n c), (.int .i64 (n : Nat)), (.bool false), (.bool false), (.bool false), (.int .i64 s), (.bool false), (.bool false), undef, (.slice (some ⟨bt40, 0, none⟩) 0 0), (.slice ao n c), (.slice (some ⟨g42, 0, none⟩) n cap42), (.int .i64 s), (.pointer (some ⟨b1, 39, none⟩)), (.int .i64 t.fee), (.int .i64 (subN s t.fee)), (.int .i64 nd), (.agg (pth nd 0 false 0 0 Z32)), (.slice (some ⟨bt49, 0, none⟩) 1 1), (.agg #[(.int .i64 (subN s t.fee)), (.slice (some ⟨bt49, 0, none⟩) 1 1)]), (.slice (some ⟨bt51, 0, none⟩) 1 1), (.agg #[(.slice (some ⟨g42, 0, none⟩) n cap42), (.slice (some ⟨bt51, 0, none⟩) 1 1)])], defers := [] } Wq by
    have ST1 : ∀ (bt40 : Nat) (g42 : Nat) (cap42 : Nat) (bt49 : Nat) (bt51 : Nat) (Wq : World) (gd_bt40 : W4.heap.size ≤ bt40) (ge_bt40 : w.heap.size ≤ bt40) (gd_bt49 : W4.heap.size ≤ bt49) (ge_bt49 : w.heap.size ≤ bt49) (gd_bt51 : W4.heap.size ≤ bt51) (ge_bt51 : w.heap.size ≤ bt51) (E : Below w.heap.size w Wq) (k1 : Wq.heap[b1]? = some (.cells C 26)) (k2 : Wq.heap[b2]? = some (.cells #[.slice none 0 0, .slice none 0 0] 34)) (S : Kept (· = b2) W4 Wq) (R42 : Rw Wq w.heap.size 61 130 g42 n cap42 (flatI Is n)) (kt49 : Wq.heap[bt49]? = some (.cells (pth nd 0 false 0 0 Z32) 66)) (kt51 : Wq.heap[bt51]? = some (.cells #[(.int .i64 (subN s t.fee)), (.slice (some ⟨bt49, 0, none⟩) 1 1)] 46)), wpAnyH Try.prog .any ops Q SS 2 #[true, true, true, true, true, true, true, true, true, true, true, true, true, false, false] { tmps := #[(.agg C), (.int .i64 nd), (.slice ao n c), (.int .i64 s), (.pointer (some ⟨b1, 0, none⟩)), undef, undef, undef, (.pointer (some ⟨b2, 0, none⟩)), (.int .i64 0), (.agg C), (.bool true), (.bool false), (.bool false), (.int .i64 nd), (.pointer (some ⟨b1, 1, none⟩)), (.int .i64 t.a), (.bool true), (.bool true), (.int .i64 nd), (.pointer (some ⟨b1, 2, none⟩)), (.int .i64 t.b), (.bool false), (.bool false), (.bool false), (.bool false), (.slice ao n c), (.int .i64 (n : Nat)), (.bool false), (.bool false), (.bool false), (.slice ao n c), (.int .i64 (n : Nat)), (.bool false), (.bool false), (.bool false), (.int .i64 s), (.bool false), (.bool false), undef, (.slice (some ⟨bt40, 0, none⟩) 0 0), (.slice ao n c), (.slice (some ⟨g42, 0, none⟩) n cap42), (.int .i64 s), (.pointer (some ⟨b1, 39, none⟩)), (.int .i64 t.fee), (.int .i64 (subN s t.fee)), (.int .i64 nd), (.agg (pth nd 0 false 0 0 Z32)), (.slice (some ⟨bt49, 0, none⟩) 1 1), (.agg #[(.int .i64 (subN s t.fee)), (.slice (some ⟨bt49, 0, none⟩) 1 1)]), (.slice (some ⟨bt51, 0, none⟩) 1 1), (.agg #[(.slice (some ⟨g42, 0, none⟩) n cap42), (.slice (some ⟨bt51, 0, none⟩) 1 1)])], defers := [] } Wq := by
      intro bt40 g42 cap42 bt49 bt51 Wq gd_bt40 ge_bt40 gd_bt49 ge_bt49 gd_bt51 ge_bt51 E k1 k2 S R42 kt49 kt51
      refine ops_in hops hS ?_
      refine ah_or1 (i := 13) (by kernel_rfl) ?_
      · skip
        obtain ⟨W17, hst, kn, K⟩ := put_all (D := #[(.slice (some ⟨g42, 0, none⟩) n cap42), (.slice (some ⟨bt51, 0, none⟩) 1 1)]) k2 rfl inf34 (by kernel_rfl)
        refine nx_sk rfl rfl rfl (ex_store rfl rfl rfl hst) (S.putX K) ?_
        replace E := below_put E ge_b2 K
        replace k1 := keepK K k1 (fun e => ne_tag k1 k2 (by decide) e)
        replace S := S.putX K
        replace R42 := R42.keepK K (fun e => R42.ne k2 (by decide) e)
        replace kt49 := keepK K kt49 (fun e => ne_tag kt49 k2 (by decide) e)
        replace kt51 := keepK K kt51 (fun e => ne_tag kt51 k2 (by decide) e)
        replace k2 := kn
        clear kn K hst
        refine ah_take (v := (.int .i64 0)) (i := 14) (some 9) rfl rfl (by kernel_rfl) (by kernel_rfl) (by kernel_rfl) rfl (fun W hK => ex_asg rfl rfl) S (fun c a w h => hQP c a _ _ w h) ?_
        simp only [Act.put, List.setIfInBounds_toArray, List.set_cons_zero, List.set_cons_succ]
        refine ah_L (L' := #[true, true, true, true, true, true, true, true, true, true, true, true, true, true, true]) (by kernel_rfl) ?_
        refine ops_out hops hS ?_
        exact FIN bt40 g42 cap42 bt49 bt51 W17 gd_bt40 ge_bt40 gd_bt49 ge_bt49 gd_bt51 ge_bt51 E k1 S R42 kt49 kt51 k2
    have ST2 : ∀ (bt40 : Nat) (g42 : Nat) (cap42 : Nat) (bt49 : Nat) (Wq : World) (gd_bt40 : W4.heap.size ≤ bt40) (ge_bt40 : w.heap.size ≤ bt40) (gd_bt49 : W4.heap.size ≤ bt49) (ge_bt49 : w.heap.size ≤ bt49) (E : Below w.heap.size w Wq) (k1 : Wq.heap[b1]? = some (.cells C 26)) (k2 : Wq.heap[b2]? = some (.cells #[.slice none 0 0, .slice none 0 0] 34)) (S : Kept (· = b2) W4 Wq) (R42 : Rw Wq w.heap.size 61 130 g42 n cap42 (flatI Is n)) (kt49 : Wq.heap[bt49]? = some (.cells (pth nd 0 false 0 0 Z32) 66)), wpAnyH Try.prog .any ops Q SS 4 #[true, true, true, true, true, true, true, true, true, true, true, false, false, false, false] { tmps := #[(.agg C), (.int .i64 nd), (.slice ao n c), (.int .i64 s), (.pointer (some ⟨b1, 0, none⟩)), undef, undef, undef, (.pointer (some ⟨b2, 0, none⟩)), (.int .i64 0), (.agg C), (.bool true), (.bool false), (.bool false), (.int .i64 nd), (.pointer (some ⟨b1, 1, none⟩)), (.int .i64 t.a), (.bool true), (.bool true), (.int .i64 nd), (.pointer (some ⟨b1, 2, none⟩)), (.int .i64 t.b), (.bool false), (.bool false), (.bool false), (.bool false), (.slice ao n c), (.int .i64 (n : Nat)), (.bool false), (.bool false), (.bool false), (.slice ao n c), (.int .i64 (n : Nat)), (.bool false), (.bool false), (.bool false), (.int .i64 s), (.bool false), (.bool false), undef, (.slice (some ⟨bt40, 0, none⟩) 0 0), (.slice ao n c), (.slice (some ⟨g42, 0, none⟩) n cap42), (.int .i64 s), (.pointer (some ⟨b1, 39, none⟩)), (.int .i64 t.fee), (.int .i64 (subN s t.fee)), (.int .i64 nd), (.agg (pth nd 0 false 0 0 Z32)), (.slice (some ⟨bt49, 0, none⟩) 1 1), (.agg #[(.int .i64 (subN s t.fee)), (.slice (some ⟨bt49, 0, none⟩) 1 1)]), undef, undef], defers := [] } Wq := by
      intro bt40 g42 cap42 bt49 Wq gd_bt40 ge_bt40 gd_bt49 ge_bt49 E k1 k2 S R42 kt49
      refine ops_in hops hS ?_
      refine ah_or1 (i := 11) (by kernel_rfl) ?_
      · skip
        refine nx_new (fun b => .slice (some ⟨b, 0, none⟩) 1 1) (some 51) rfl rfl rfl (ex_bsl1 (u := (.agg #[(.int .i64 (subN s t.fee)), (.slice (some ⟨bt49, 0, none⟩) 1 1)])) rfl rfl (bs32_1 _ rfl _)) ?_
        intro bt51 W18 kt51 gt51 B
        refine ⟨S.next B, ?_⟩
        simp only [Act.put, List.setIfInBounds_toArray, List.set_cons_zero, List.set_cons_succ]
        have gd_bt51 := Nat.le_trans S.size gt51
        have ge_bt51 := Nat.le_trans E.size gt51
        replace E := below_next E B
        replace k1 := keep B k1
        replace k2 := keep B k2
        replace S := S.next B
        replace R42 := R42.keep B
        replace kt49 := keep B kt49
        clear B
        refine ah_take (v := (.agg #[(.slice (some ⟨g42, 0, none⟩) n cap42), (.slice (some ⟨bt51, 0, none⟩) 1 1)])) (i := 12) (some 52) rfl rfl (by kernel_rfl) (by kernel_rfl) (by kernel_rfl) rfl (fun W hK => ex_build2 (v1 := (.slice (some ⟨g42, 0, none⟩) n cap42)) (v2 := (.slice (some ⟨bt51, 0, none⟩) 1 1)) rfl rfl rfl (b34_01 _ _ _ _ _ _ _)) S (fun c a w h => hQP c a _ _ w h) ?_
        simp only [Act.put, List.setIfInBounds_toArray, List.set_cons_zero, List.set_cons_succ]
        refine ah_L (L' := #[true, true, true, true, true, true, true, true, true, true, true, true, true, false, false]) (by kernel_rfl) ?_
        refine ops_out hops hS ?_
        exact ST1 bt40 g42 cap42 bt49 bt51 W18 gd_bt40 ge_bt40 gd_bt49 ge_bt49 gd_bt51 ge_bt51 E k1 k2 S R42 kt49 kt51
    have ST3 : ∀ (bt40 : Nat) (g42 : Nat) (cap42 : Nat) (Wq : World) (gd_bt40 : W4.heap.size ≤ bt40) (ge_bt40 : w.heap.size ≤ bt40) (E : Below w.heap.size w Wq) (k1 : Wq.heap[b1]? = some (.cells C 26)) (k2 : Wq.heap[b2]? = some (.cells #[.slice none 0 0, .slice none 0 0] 34)) (S : Kept (· = b2) W4 Wq) (R42 : Rw Wq w.heap.size 61 130 g42 n cap42 (flatI Is n)), wpAnyH Try.prog .any ops Q SS 6 #[true, true, true, true, true, true, true, true, true, false, false, false, false, false, false] { tmps := #[(.agg C), (.int .i64 nd), (.slice ao n c), (.int .i64 s), (.pointer (some ⟨b1, 0, none⟩)), undef, undef, undef, (.pointer (some ⟨b2, 0, none⟩)), (.int .i64 0), (.agg C), (.bool true), (.bool false), (.bool false), (.int .i64 nd), (.pointer (some ⟨b1, 1, none⟩)), (.int .i64 t.a), (.bool true), (.bool true), (.int .i64 nd), (.pointer (some ⟨b1, 2, none⟩)), (.int .i64 t.b), (.bool false), (.bool false), (.bool false), (.bool false), (.slice ao n c), (.int .i64 (n : Nat)), (.bool false), (.bool false), (.bool false), (.slice ao n c), (.int .i64 (n : Nat)), (.bool false), (.bool false), (.bool false), (.int .i64 s), (.bool false), (.bool false), undef, (.slice (some ⟨bt40, 0, none⟩) 0 0), (.slice ao n c), (.slice (some ⟨g42, 0, none⟩) n cap42), (.int .i64 s), (.pointer (some ⟨b1, 39, none⟩)), (.int .i64 t.fee), (.int .i64 (subN s t.fee)), (.int .i64 nd), (.agg (pth nd 0 false 0 0 Z32)), undef, undef, undef, undef], defers := [] } Wq := by
      intro bt40 g42 cap42 Wq gd_bt40 ge_bt40 E k1 k2 S R42
      refine ops_in hops hS ?_
      refine ah_or1 (i := 9) (by kernel_rfl) ?_
      · skip
        refine nx_new (fun b => .slice (some ⟨b, 0, none⟩) 1 1) (some 49) rfl rfl rfl (ex_bsl1 (u := (.agg (pth nd 0 false 0 0 Z32))) rfl rfl (bs44_1 _ (pth_size Z32_size) _)) ?_
        intro bt49 W19 kt49 gt49 B
        refine ⟨S.next B, ?_⟩
        simp only [Act.put, List.setIfInBounds_toArray, List.set_cons_zero, List.set_cons_succ]
        have gd_bt49 := Nat.le_trans S.size gt49
        have ge_bt49 := Nat.le_trans E.size gt49
        replace E := below_next E B
        replace k1 := keep B k1
        replace k2 := keep B k2
        replace S := S.next B
        replace R42 := R42.keep B
        clear B
        refine ah_take (v := (.agg #[(.int .i64 (subN s t.fee)), (.slice (some ⟨bt49, 0, none⟩) 1 1)])) (i := 10) (some 50) rfl rfl (by kernel_rfl) (by kernel_rfl) (by kernel_rfl) rfl (fun W hK => ex_build2 (v1 := (.int .i64 (subN s t.fee))) (v2 := (.slice (some ⟨bt49, 0, none⟩) 1 1)) rfl rfl rfl (b46_01 _ _ _ _ _)) S (fun c a w h => hQP c a _ _ w h) ?_
        simp only [Act.put, List.setIfInBounds_toArray, List.set_cons_zero, List.set_cons_succ]
        refine ah_L (L' := #[true, true, true, true, true, true, true, true, true, true, true, false, false, false, false]) (by kernel_rfl) ?_
        refine ops_out hops hS ?_
        exact ST2 bt40 g42 cap42 bt49 W19 gd_bt40 ge_bt40 gd_bt49 ge_bt49 E k1 k2 S R42 kt49
    have ST4 : ∀ (bt40 : Nat) (g42 : Nat) (cap42 : Nat) (bt49 : Nat) (Wq : World) (gd_bt40 : W4.heap.size ≤ bt40) (ge_bt40 : w.heap.size ≤ bt40) (gd_bt49 : W4.heap.size ≤ bt49) (ge_bt49 : w.heap.size ≤ bt49) (E : Below w.heap.size w Wq) (k1 : Wq.heap[b1]? = some (.cells C 26)) (k2 : Wq.heap[b2]? = some (.cells #[.slice none 0 0, .slice none 0 0] 34)) (S : Kept (· = b2) W4 Wq) (R42 : Rw Wq w.heap.size 61 130 g42 n cap42 (flatI Is n)) (kt49 : Wq.heap[bt49]? = some (.cells (pth nd 0 false 0 0 Z32) 66)), wpAnyH Try.prog .any ops Q SS 6 #[true, true, true, true, true, true, false, true, true, true, false, false, false, false, false] { tmps := #[(.agg C), (.int .i64 nd), (.slice ao n c), (.int .i64 s), (.pointer (some ⟨b1, 0, none⟩)), undef, undef, undef, (.pointer (some ⟨b2, 0, none⟩)), (.int .i64 0), (.agg C), (.bool true), (.bool false), (.bool false), (.int .i64 nd), (.pointer (some ⟨b1, 1, none⟩)), (.int .i64 t.a), (.bool true), (.bool true), (.int .i64 nd), (.pointer (some ⟨b1, 2, none⟩)), (.int .i64 t.b), (.bool false), (.bool false), (.bool false), (.bool false), (.slice ao n c), (.int .i64 (n : Nat)), (.bool false), (.bool false), (.bool false), (.slice ao n c), (.int .i64 (n : Nat)), (.bool false), (.bool false), (.bool false), (.int .i64 s), (.bool false), (.bool false), undef, (.slice (some ⟨bt40, 0, none⟩) 0 0), (.slice ao n c), (.slice (some ⟨g42, 0, none⟩) n cap42), (.int .i64 s), (.pointer (some ⟨b1, 39, none⟩)), (.int .i64 t.fee), undef, (.int .i64 nd), (.agg (pth nd 0 false 0 0 Z32)), (.slice (some ⟨bt49, 0, none⟩) 1 1), undef, undef, undef], defers := [] } Wq := by
      intro bt40 g42 cap42 bt49 Wq gd_bt40 ge_bt40 gd_bt49 ge_bt49 E k1 k2 S R42 kt49
      refine ops_in hops hS ?_
      refine ah_or1 (i := 6) (by kernel_rfl) ?_
      · skip
        refine nx_call (some 46) rfl rfl rfl (rless_any s t.fee Wq ⟨hs0, hs⟩ ⟨hfe, hb.fee⟩) (ex_call (f := 32) (vs := [(.int .i64 s), (.int .i64 t.fee)]) rfl (cf32 _) rfl) ?_
        rintro e W20 ⟨rfl, B⟩
        refine ⟨_, rfl, S.next B, ?_⟩
        simp only [Act.put, List.setIfInBounds_toArray, List.set_cons_zero, List.set_cons_succ]
        replace E := below_next E B
        replace k1 := keep B k1
        replace k2 := keep B k2
        replace S := S.next B
        replace R42 := R42.keep B
        replace kt49 := keep B kt49
        refine ah_take (v := (.agg #[(.int .i64 (subN s t.fee)), (.slice (some ⟨bt49, 0, none⟩) 1 1)])) (i := 10) (some 50) rfl rfl (by kernel_rfl) (by kernel_rfl) (by kernel_rfl) rfl (fun W hK => ex_build2 (v1 := (.int .i64 (subN s t.fee))) (v2 := (.slice (some ⟨bt49, 0, none⟩) 1 1)) rfl rfl rfl (b46_01 _ _ _ _ _)) S (fun c a w h => hQP c a _ _ w h) ?_
        simp only [Act.put, List.setIfInBounds_toArray, List.set_cons_zero, List.set_cons_succ]
        refine ah_L (L' := #[true, true, true, true, true, true, true, true, true, true, true, false, false, false, false]) (by kernel_rfl) ?_
        refine ops_out hops hS ?_
        exact ST2 bt40 g42 cap42 bt49 W20 gd_bt40 ge_bt40 gd_bt49 ge_bt49 E k1 k2 S R42 kt49
    have ST5 : ∀ (bt40 : Nat) (g42 : Nat) (cap42 : Nat) (Wq : World) (gd_bt40 : W4.heap.size ≤ bt40) (ge_bt40 : w.heap.size ≤ bt40) (E : Below w.heap.size w Wq) (k1 : Wq.heap[b1]? = some (.cells C 26)) (k2 : Wq.heap[b2]? = some (.cells #[.slice none 0 0, .slice none 0 0] 34)) (S : Kept (· = b2) W4 Wq) (R42 : Rw Wq w.heap.size 61 130 g42 n cap42 (flatI Is n)), wpAnyH Try.prog .any ops Q SS 7 #[true, true, true, true, true, true, false, true, true, false, false, false, false, false, false] { tmps := #[(.agg C), (.int .i64 nd), (.slice ao n c), (.int .i64 s), (.pointer (some ⟨b1, 0, none⟩)), undef, undef, undef, (.pointer (some ⟨b2, 0, none⟩)), (.int .i64 0), (.agg C), (.bool true), (.bool false), (.bool false), (.int .i64 nd), (.pointer (some ⟨b1, 1, none⟩)), (.int .i64 t.a), (.bool true), (.bool true), (.int .i64 nd), (.pointer (some ⟨b1, 2, none⟩)), (.int .i64 t.b), (.bool false), (.bool false), (.bool false), (.bool false), (.slice ao n c), (.int .i64 (n : Nat)), (.bool false), (.bool false), (.bool false), (.slice ao n c), (.int .i64 (n : Nat)), (.bool false), (.bool false), (.bool false), (.int .i64 s), (.bool false), (.bool false), undef, (.slice (some ⟨bt40, 0, none⟩) 0 0), (.slice ao n c), (.slice (some ⟨g42, 0, none⟩) n cap42), (.int .i64 s), (.pointer (some ⟨b1, 39, none⟩)), (.int .i64 t.fee), undef, (.int .i64 nd), (.agg (pth nd 0 false 0 0 Z32)), undef, undef, undef, undef], defers := [] } Wq := by
      intro bt40 g42 cap42 Wq gd_bt40 ge_bt40 E k1 k2 S R42
      refine ops_in hops hS ?_
      refine ah_or2 (i := 6) (j := 9) (by kernel_rfl) ?_ ?_
      · skip
        refine nx_call (some 46) rfl rfl rfl (rless_any s t.fee Wq ⟨hs0, hs⟩ ⟨hfe, hb.fee⟩) (ex_call (f := 32) (vs := [(.int .i64 s), (.int .i64 t.fee)]) rfl (cf32 _) rfl) ?_
        rintro e W21 ⟨rfl, B⟩
        refine ⟨_, rfl, S.next B, ?_⟩
        simp only [Act.put, List.setIfInBounds_toArray, List.set_cons_zero, List.set_cons_succ]
        replace E := below_next E B
        replace k1 := keep B k1
        replace k2 := keep B k2
        replace S := S.next B
        replace R42 := R42.keep B
        refine ah_L (L' := #[true, true, true, true, true, true, true, true, true, false, false, false, false, false, false]) (by kernel_rfl) ?_
        refine ops_out hops hS ?_
        exact ST3 bt40 g42 cap42 W21 gd_bt40 ge_bt40 E k1 k2 S R42
      · skip
        refine nx_new (fun b => .slice (some ⟨b, 0, none⟩) 1 1) (some 49) rfl rfl rfl (ex_bsl1 (u := (.agg (pth nd 0 false 0 0 Z32))) rfl rfl (bs44_1 _ (pth_size Z32_size) _)) ?_
        intro bt49 W22 kt49 gt49 B
        refine ⟨S.next B, ?_⟩
        simp only [Act.put, List.setIfInBounds_toArray, List.set_cons_zero, List.set_cons_succ]
        have gd_bt49 := Nat.le_trans S.size gt49
        have ge_bt49 := Nat.le_trans E.size gt49
        replace E := below_next E B
        replace k1 := keep B k1
        replace k2 := keep B k2
        replace S := S.next B
        replace R42 := R42.keep B
        clear B
        refine ah_L (L' := #[true, true, true, true, true, true, false, true, true, true, false, false, false, false, false]) (by kernel_rfl) ?_
        refine ops_out hops hS ?_
        exact ST4 bt40 g42 cap42 bt49 W22 gd_bt40 ge_bt40 gd_bt49 ge_bt49 E k1 k2 S R42 kt49
    have ST6 : ∀ (bt40 : Nat) (bt49 : Nat) (Wq : World) (gd_bt40 : W4.heap.size ≤ bt40) (ge_bt40 : w.heap.size ≤ bt40) (gd_bt49 : W4.heap.size ≤ bt49) (ge_bt49 : w.heap.size ≤ bt49) (E : Below w.heap.size w Wq) (k1 : Wq.heap[b1]? = some (.cells C 26)) (k2 : Wq.heap[b2]? = some (.cells #[.slice none 0 0, .slice none 0 0] 34)) (S : Kept (· = b2) W4 Wq) (kt40 : Wq.heap[bt40]? = some (.cells (#[] : Array Value) 61)) (kt49 : Wq.heap[bt49]? = some (.cells (pth nd 0 false 0 0 Z32) 66)), wpAnyH Try.prog .any ops Q SS 7 #[true, true, false, true, true, true, false, true, true, true, false, false, false, false, false] { tmps := #[(.agg C), (.int .i64 nd), (.slice ao n c), (.int .i64 s), (.pointer (some ⟨b1, 0, none⟩)), undef, undef, undef, (.pointer (some ⟨b2, 0, none⟩)), (.int .i64 0), (.agg C), (.bool true), (.bool false), (.bool false), (.int .i64 nd), (.pointer (some ⟨b1, 1, none⟩)), (.int .i64 t.a), (.bool true), (.bool true), (.int .i64 nd), (.pointer (some ⟨b1, 2, none⟩)), (.int .i64 t.b), (.bool false), (.bool false), (.bool false), (.bool false), (.slice ao n c), (.int .i64 (n : Nat)), (.bool false), (.bool false), (.bool false), (.slice ao n c), (.int .i64 (n : Nat)), (.bool false), (.bool false), (.bool false), (.int .i64 s), (.bool false), (.bool false), undef, (.slice (some ⟨bt40, 0, none⟩) 0 0), (.slice ao n c), undef, (.int .i64 s), (.pointer (some ⟨b1, 39, none⟩)), (.int .i64 t.fee), undef, (.int .i64 nd), (.agg (pth nd 0 false 0 0 Z32)), (.slice (some ⟨bt49, 0, none⟩) 1 1), undef, undef, undef], defers := [] } Wq := by
      intro bt40 bt49 Wq gd_bt40 ge_bt40 gd_bt49 ge_bt49 E k1 k2 S kt40 kt49
      refine ops_in hops hS ?_
      refine ah_or1 (i := 2) (by kernel_rfl) ?_
      · skip
        obtain ⟨g42, cap42, W23, hrun, R42, K⟩ := app_list kt40 ge_bt40 (hI.below E) hIs hN E.size
        refine nx_to (v := (.slice (some ⟨g42, 0, none⟩) n cap42)) (some 42) rfl rfl rfl (ex_app rfl rfl rfl hrun) (S.putN K gd_bt40) ?_
        simp only [Act.put, List.setIfInBounds_toArray, List.set_cons_zero, List.set_cons_succ]
        replace E := below_put E ge_bt40 K
        replace k1 := keepK K k1 (fun e => ne_tag k1 kt40 (by decide) e)
        replace k2 := keepK K k2 (fun e => ne_tag k2 kt40 (by decide) e)
        replace S := S.putN K gd_bt40
        replace kt49 := keepK K kt49 (fun e => ne_tag kt49 kt40 (by decide) e)
        clear kt40 K hrun
        refine ah_L (L' := #[true, true, true, true, true, true, false, true, true, true, false, false, false, false, false]) (by kernel_rfl) ?_
        refine ops_out hops hS ?_
        exact ST4 bt40 g42 cap42 bt49 W23 gd_bt40 ge_bt40 gd_bt49 ge_bt49 E k1 k2 S R42 kt49
    have ST7 : ∀ (bt40 : Nat) (Wq : World) (gd_bt40 : W4.heap.size ≤ bt40) (ge_bt40 : w.heap.size ≤ bt40) (E : Below w.heap.size w Wq) (k1 : Wq.heap[b1]? = some (.cells C 26)) (k2 : Wq.heap[b2]? = some (.cells #[.slice none 0 0, .slice none 0 0] 34)) (S : Kept (· = b2) W4 Wq) (kt40 : Wq.heap[bt40]? = some (.cells (#[] : Array Value) 61)), wpAnyH Try.prog .any ops Q SS 8 #[true, true, false, true, true, true, false, true, true, false, false, false, false, false, false] { tmps := #[(.agg C), (.int .i64 nd), (.slice ao n c), (.int .i64 s), (.pointer (some ⟨b1, 0, none⟩)), undef, undef, undef, (.pointer (some ⟨b2, 0, none⟩)), (.int .i64 0), (.agg C), (.bool true), (.bool false), (.bool false), (.int .i64 nd), (.pointer (some ⟨b1, 1, none⟩)), (.int .i64 t.a), (.bool true), (.bool true), (.int .i64 nd), (.pointer (some ⟨b1, 2, none⟩)), (.int .i64 t.b), (.bool false), (.bool false), (.bool false), (.bool false), (.slice ao n c), (.int .i64 (n : Nat)), (.bool false), (.bool false), (.bool false), (.slice ao n c), (.int .i64 (n : Nat)), (.bool false), (.bool false), (.bool false), (.int .i64 s), (.bool false), (.bool false), undef, (.slice (some ⟨bt40, 0, none⟩) 0 0), (.slice ao n c), undef, (.int .i64 s), (.pointer (some ⟨b1, 39, none⟩)), (.int .i64 t.fee), undef, (.int .i64 nd), (.agg (pth nd 0 false 0 0 Z32)), undef, undef, undef, undef], defers := [] } Wq := by
      intro bt40 Wq gd_bt40 ge_bt40 E k1 k2 S kt40
      refine ops_in hops hS ?_
      refine ah_or2 (i := 2) (j := 9) (by kernel_rfl) ?_ ?_
      · skip
        obtain ⟨g42, cap42, W24, hrun, R42, K⟩ := app_list kt40 ge_bt40 (hI.below E) hIs hN E.size
        refine nx_to (v := (.slice (some ⟨g42, 0, none⟩) n cap42)) (some 42) rfl rfl rfl (ex_app rfl rfl rfl hrun) (S.putN K gd_bt40) ?_
        simp only [Act.put, List.setIfInBounds_toArray, List.set_cons_zero, List.set_cons_succ]
        replace E := below_put E ge_bt40 K
        replace k1 := keepK K k1 (fun e => ne_tag k1 kt40 (by decide) e)
        replace k2 := keepK K k2 (fun e => ne_tag k2 kt40 (by decide) e)
        replace S := S.putN K gd_bt40
        clear kt40 K hrun
        refine ah_L (L' := #[true, true, true, true, true, true, false, true, true, false, false, false, false, false, false]) (by kernel_rfl) ?_
        refine ops_out hops hS ?_
        exact ST5 bt40 g42 cap42 W24 gd_bt40 ge_bt40 E k1 k2 S R42
      · skip
        refine nx_new (fun b => .slice (some ⟨b, 0, none⟩) 1 1) (some 49) rfl rfl rfl (ex_bsl1 (u := (.agg (pth nd 0 false 0 0 Z32))) rfl rfl (bs44_1 _ (pth_size Z32_size) _)) ?_
        intro bt49 W25 kt49 gt49 B
        refine ⟨S.next B, ?_⟩
        simp only [Act.put, List.setIfInBounds_toArray, List.set_cons_zero, List.set_cons_succ]
        have gd_bt49 := Nat.le_trans S.size gt49
        have ge_bt49 := Nat.le_trans E.size gt49
        replace E := below_next E B
        replace k1 := keep B k1
        replace k2 := keep B k2
        replace S := S.next B
        replace kt40 := keep B kt40
        clear B
        refine ah_L (L' := #[true, true, false, true, true, true, false, true, true, true, false, false, false, false, false]) (by kernel_rfl) ?_
        refine ops_out hops hS ?_
        exact ST6 bt40 bt49 W25 gd_bt40 ge_bt40 gd_bt49 ge_bt49 E k1 k2 S kt40 kt49
    have ST8 : ∀ (bt49 : Nat) (Wq : World) (gd_bt49 : W4.heap.size ≤ bt49) (ge_bt49 : w.heap.size ≤ bt49) (E : Below w.heap.size w Wq) (k1 : Wq.heap[b1]? = some (.cells C 26)) (k2 : Wq.heap[b2]? = some (.cells #[.slice none 0 0, .slice none 0 0] 34)) (S : Kept (· = b2) W4 Wq) (kt49 : Wq.heap[bt49]? = some (.cells (pth nd 0 false 0 0 Z32) 66)), wpAnyH Try.prog .any ops Q SS 8 #[false, true, false, true, true, true, false, true, true, true, false, false, false, false, false] { tmps := #[(.agg C), (.int .i64 nd), (.slice ao n c), (.int .i64 s), (.pointer (some ⟨b1, 0, none⟩)), undef, undef, undef, (.pointer (some ⟨b2, 0, none⟩)), (.int .i64 0), (.agg C), (.bool true), (.bool false), (.bool false), (.int .i64 nd), (.pointer (some ⟨b1, 1, none⟩)), (.int .i64 t.a), (.bool true), (.bool true), (.int .i64 nd), (.pointer (some ⟨b1, 2, none⟩)), (.int .i64 t.b), (.bool false), (.bool false), (.bool false), (.bool false), (.slice ao n c), (.int .i64 (n : Nat)), (.bool false), (.bool false), (.bool false), (.slice ao n c), (.int .i64 (n : Nat)), (.bool false), (.bool false), (.bool false), (.int .i64 s), (.bool false), (.bool false), undef, undef, (.slice ao n c), undef, (.int .i64 s), (.pointer (some ⟨b1, 39, none⟩)), (.int .i64 t.fee), undef, (.int .i64 nd), (.agg (pth nd 0 false 0 0 Z32)), (.slice (some ⟨bt49, 0, none⟩) 1 1), undef, undef, undef], defers := [] } Wq := by
      intro bt49 Wq gd_bt49 ge_bt49 E k1 k2 S kt49
      refine ops_in hops hS ?_
      refine ah_or1 (i := 0) (by kernel_rfl) ?_
      · skip
        refine nx_new (fun b => .slice (some ⟨b, 0, none⟩) 0 0) (some 40) rfl rfl rfl (ex_bsl0  rfl (bs31_0 _)) ?_
        intro bt40 W26 kt40 gt40 B
        refine ⟨S.next B, ?_⟩
        simp only [Act.put, List.setIfInBounds_toArray, List.set_cons_zero, List.set_cons_succ]
        have gd_bt40 := Nat.le_trans S.size gt40
        have ge_bt40 := Nat.le_trans E.size gt40
        replace E := below_next E B
        replace k1 := keep B k1
        replace k2 := keep B k2
        replace S := S.next B
        replace kt49 := keep B kt49
        clear B
        refine ah_L (L' := #[true, true, false, true, true, true, false, true, true, true, false, false, false, false, false]) (by kernel_rfl) ?_
        refine ops_out hops hS ?_
        exact ST6 bt40 bt49 W26 gd_bt40 ge_bt40 gd_bt49 ge_bt49 E k1 k2 S kt40 kt49
    refine ops_in hops hS ?_
    refine ah_or2 (i := 0) (j := 9) (by kernel_rfl) ?_ ?_
    · skip
      refine nx_new (fun b => .slice (some ⟨b, 0, none⟩) 0 0) (some 40) rfl rfl rfl (ex_bsl0  rfl (bs31_0 _)) ?_
      intro bt40 W27 kt40 gt40 B
      refine ⟨S.next B, ?_⟩
      simp only [Act.put, List.setIfInBounds_toArray, List.set_cons_zero, List.set_cons_succ]
      have gd_bt40 := Nat.le_trans S.size gt40
      have ge_bt40 := Nat.le_trans E.size gt40
      replace E := below_next E B
      replace k1 := keep B k1
      replace k2 := keep B k2
      replace S := S.next B
      clear B
      refine ah_L (L' := #[true, true, false, true, true, true, false, true, true, false, false, false, false, false, false]) (by kernel_rfl) ?_
      refine ops_out hops hS ?_
      exact ST7 bt40 W27 gd_bt40 ge_bt40 E k1 k2 S kt40
    · skip
      refine nx_new (fun b => .slice (some ⟨b, 0, none⟩) 1 1) (some 49) rfl rfl rfl (ex_bsl1 (u := (.agg (pth nd 0 false 0 0 Z32))) rfl rfl (bs44_1 _ (pth_size Z32_size) _)) ?_
      intro bt49 W28 kt49 gt49 B
      refine ⟨S.next B, ?_⟩
      simp only [Act.put, List.setIfInBounds_toArray, List.set_cons_zero, List.set_cons_succ]
      have gd_bt49 := Nat.le_trans S.size gt49
      have ge_bt49 := Nat.le_trans E.size gt49
      replace E := below_next E B
      replace k1 := keep B k1
      replace k2 := keep B k2
      replace S := S.next B
      clear B
      refine ah_L (L' := #[false, true, false, true, true, true, false, true, true, true, false, false, false, false, false]) (by kernel_rfl) ?_
      refine ops_out hops hS ?_
      exact ST8 bt49 W28 gd_bt49 ge_bt49 E k1 k2 S kt49
  intro bt40 g42 cap42 bt49 bt51 Wq gd_bt40 ge_bt40 gd_bt49 ge_bt49 gd_bt51 ge_bt51 E k1 S R42 kt49 kt51 k2
  refine ops_in hops hS ?_
  refine ah_done (by kernel_rfl) ?_
  clear hQP hops hS
  subst hQ
  clear S d_k1 d_k2 
  refine wp_ret ?_
  have OU : Outs Wq w.heap.size bt51 1 1 (fun _ => subN s t.fee) (fun _ => 1) (fun _ => (pth nd 0 false 0 0 Z32)) := ⟨fun _ => bt49, Rw.ofBlock kt51 rfl ge_bt51 (by decide), fun j hj => kt49⟩
  refine bodyPost_ret (ret_ct Try.results23 _ _ b2 _ _ _ _ rfl rfl k2 Try.underlying34 rfl inf34) rfl ⟨g42, cap42, bt51, rfl, R42, OU, E⟩
end Go.Proofs.Ytkhpbjafdamhaaa
