/- Where in a list a function answers true first. -/
import Derived.Test.YtkhpbjafdamhaaaDSum
namespace Go.Proofs.Ytkhpbjafdamhaaa
open Go.RowKit
set_option linter.unusedVariables false
set_option linter.unusedSimpArgs false
set_option maxRecDepth 100000

theorem then_go {next : Act → World → Prop} {Q : Exit → Act → World → Prop} {a : Act} {w : World} (h : next a w) : Exit.then next Q .normal a w := h
theorem ex_then {next : Act → World → Prop} {Q : Exit → Act → World → Prop} {a : Act} {w : World} {i : Nat} (h : Q (.exit i) a w) : Exit.then next Q (.exit i) a w := h
theorem ex_blk {Q : Exit → Act → World → Prop} {a : Act} {w : World} {i : Nat} (h : Q .normal a w) : Exit.inBlock i Q (.exit i) a w := by
  unfold Exit.inBlock
  simp only [if_true]; exact h
theorem ret_blk {Q : Exit → Act → World → Prop} {a : Act} {w : World} {i : Nat} (h : Q .ret a w) : Exit.inBlock i Q .ret a w := h
/-- the first place of which p is true, from i on; -1, if there is none of n -/
def firstP (p : Nat → Bool) (n : Nat) : Nat → Nat → Int
  | 0, _ => -1
  | m + 1, i => if p i then i else firstP p n m (i + 1)
def idxP (p : Nat → Bool) (n : Nat) : Int := firstP p n n 0
theorem firstP_none {p : Nat → Bool} {n : Nat} : ∀ m i, (∀ j, i ≤ j → j < i + m → p j = false) → firstP p n m i = -1
  | 0, _, _ => rfl
  | m + 1, i, h => by
    unfold firstP
    rw [h i (Nat.le_refl _) (by omega)]; exact firstP_none m (i + 1) (fun j h1 h2 => h j (by omega) (by omega))
theorem firstP_some {p : Nat → Bool} {n : Nat} : ∀ m i k, i ≤ k → k < i + m → p k = true → (∀ j, i ≤ j → j < k → p j = false) → firstP p n m i = k
  | 0, i, k, h1, h2, _, _ => by omega
  | m + 1, i, k, h1, h2, hk, h => by
    unfold firstP
    by_cases e : i = k
    · subst e
      rw [hk]
      rfl
    · rw [h i (Nat.le_refl _) (by omega)]
      exact firstP_some m (i + 1) k (by omega) (by omega) hk (fun j h1 h2 => h j (by omega) h2)
theorem idxP_none {p : Nat → Bool} {n : Nat} (h : ∀ j, j < n → p j = false) : idxP p n = -1 := firstP_none n 0 (fun j _ h2 => h j (by omega))
theorem idxP_some {p : Nat → Bool} {n k : Nat} (hk : k < n) (hp : p k = true) (h : ∀ j, j < k → p j = false) : idxP p n = k := firstP_some n 0 k (by omega) (by omega) hp (fun j _ h2 => h j h2)
theorem idxP_cases (p : Nat → Bool) (n : Nat) : (idxP p n = -1 ∧ ∀ j, j < n → p j = false) ∨ ∃ k, k < n ∧ idxP p n = k ∧ p k = true ∧ ∀ j, j < k → p j = false := by
  by_cases h : ∃ k, k < n ∧ p k = true
  · have : ∀ m, ∀ k, k ≤ m → k < n → p k = true → ∃ k, k < n ∧ p k = true ∧ ∀ j, j < k → p j = false := by
      intro m
      induction m with
      | zero => intro k h0 h1 h2; exact ⟨k, h1, h2, fun j hj => by omega⟩
      | succ m ih =>
        intro k h0 h1 h2
        by_cases e : ∃ j, j < k ∧ p j = true
        · obtain ⟨j, hj, hpj⟩ := e
          exact ih j (by omega) (by omega) hpj
        · exact ⟨k, h1, h2, fun j hj => by
            cases hq : p j with
            | false => rfl
            | true => exact absurd ⟨j, hj, hq⟩ e⟩
    obtain ⟨k, h1, h2⟩ := h; obtain ⟨k, h1, h2, h3⟩ := this k k (Nat.le_refl _) h1 h2; exact .inr ⟨k, h1, idxP_some h1 h2 h3, h2, h3⟩
  · have h' : ∀ j, j < n → p j = false := fun j hj => by
      cases hq : p j with
      | false => rfl
      | true => exact absurd ⟨j, hj, hq⟩ h
    exact .inl ⟨idxP_none h', h'⟩

/-- n Htlcs lie there -/
def Hs (w : World) (ao : Option Addr) (n : Nat) (Cs : Nat → Array Value) (hv : Nat → HV) : Prop :=
  n = 0 ∨ ∃ b o, ao = some ⟨b, o, none⟩ ∧ ∀ i, i < n → IsH (Cs i) (hv i) ∧ w.rangeAt b (o + i * 36) (Cs i).toList
theorem range_below {w W : World} {b o : Nat} {C : List Value} (h : w.rangeAt b o C) (hB : Below w.heap.size w W) : W.rangeAt b o C := fun j v hv => by
  have := h j v hv
  rw [hB.cell (block_lt_of_cell this)]; exact this
theorem Hs.below {w W : World} {ao : Option Addr} {n : Nat} {Cs : Nat → Array Value} {hv : Nat → HV} (h : Hs w ao n Cs hv) (hB : Below w.heap.size w W) : Hs W ao n Cs hv := by
  rcases h with h | ⟨b, o, e, h⟩
  · exact .inl h
  · exact .inr ⟨b, o, e, fun i hi => ⟨(h i hi).1, range_below (h i hi).2 hB⟩⟩
theorem Hs.ish {w : World} {ao : Option Addr} {n : Nat} {Cs : Nat → Array Value} {hv : Nat → HV} (h : Hs w ao n Cs hv) {i : Nat} (hi : i < n) : IsH (Cs i) (hv i) := by
  rcases h with h | ⟨b, o, e, h⟩
  · omega
  · exact (h i hi).1
/-- n numbers lie there -/
def Ns (w : World) (ao : Option Addr) (n : Nat) (z : Nat → Int) : Prop := n = 0 ∨ ∃ b o, ao = some ⟨b, o, none⟩ ∧ ∀ i, i < n → w.cell? ⟨b, o + i, none⟩ = some (.int .i64 (z i))
theorem Ns.below {w W : World} {ao : Option Addr} {n : Nat} {z : Nat → Int} (h : Ns w ao n z) (hB : Below w.heap.size w W) : Ns W ao n z := by
  rcases h with h | ⟨b, o, e, h⟩
  · exact .inl h
  · exact .inr ⟨b, o, e, fun i hi => (hB.cell (block_lt_of_cell (h i hi))).trans (h i hi)⟩
section
variable {o : Oper} {a : Act} {W : World}
theorem ex_ix27 {x y : Operand} {b p n c k : Nat} (ho : o.op = .indexAddr 27 x y) (hx : a.eval x = .slice (some ⟨b, p, none⟩) n c) (hy : a.eval y = .int .i64 k) (hk : k < n) : (execOp a.eval o).run Try.prog W = .ok (.value (.pointer (some ⟨b, p + k * 36, none⟩))) W := by
  have h1 : (k : Int) < (n : Int) := by omega
  unfold execOp
  simp only [ho, hx, hy]
  go_simp
theorem ex_ix82 {x y : Operand} {b p n c k : Nat} (ho : o.op = .indexAddr 82 x y) (hx : a.eval x = .slice (some ⟨b, p, none⟩) n c) (hy : a.eval y = .int .i64 k) (hk : k < n) : (execOp a.eval o).run Try.prog W = .ok (.value (.pointer (some ⟨b, p + k, none⟩))) W := by
  have h1 : (k : Int) < (n : Int) := by omega
  unfold execOp
  simp only [ho, hx, hy]
  go_simp
end
theorem add3 {x y z : Int} (W : World) (hz : x + y = z) (h : -9223372036854775808 ≤ z ∧ z ≤ 9223372036854775807) : (binOp .add 3 (.int .i64 x) (.int .i64 y)).run Try.prog W = .ok (.int .i64 z) W := by
  subst hz
  have := IntKind.wrap_i64 (x + y)
  go_simp
  omega
theorem sub3 {x y z : Int} (W : World) (hz : x - y = z) (h : -9223372036854775808 ≤ z ∧ z ≤ 9223372036854775807) : (binOp .sub 3 (.int .i64 x) (.int .i64 y)).run Try.prog W = .ok (.int .i64 z) W := by
  subst hz
  have := IntKind.wrap_i64 (x - y)
  go_simp
  omega

set_option maxHeartbeats 2000000 in
theorem idxH_any (k : Nat) (cap : Array Value) (ao : Option Addr) (n c : Nat) (Cs : Nat → Array Value) (hv : Nat → HV) (P : Nat → Bool) (w : World) (h : Hs w ao n Cs hv) (hn : n ≤ 140737488355328) (hk : ∀ W vs, (callFunc k vs).run Try.prog W = .ok (.enter k vs) W)
    (hP : ∀ i, i < n → ∀ W, Below w.heap.size w W → Calls Try.prog k (#[.agg (Cs i)] ++ cap) W fun e w' => e = .returned (.bool (P i)) ∧ Below W.heap.size W w') :
    Calls Try.prog 44 #[.slice ao n c, .func (.func k) #[] cap] w fun e w' => e = .returned (.int .i64 (idxP P n)) ∧ Below w.heap.size w w' := by
  have E : Below w.heap.size w w := Below.refl _ _
  go_enter Try.func44, Try.ntmps44; refine wq fun Q hQ => ?_; refine sg (.int .i64 0) 4 rfl rfl rfl rfl ?_; simp only [zp]; refine st_end ?_; subst hQ; refine wp_seq ?_; refine wq fun Q hQ => ?_; refine sm (.slice ao n c) 6 rfl rfl rfl rfl ?_; simp only [zp]; refine sv (.int .i64 (n : Nat)) 7 rfl rfl (ex_len rfl rfl (len27 _ _ _ _ _)) ?_; simp only [zp]; refine sm (.int .i64 0) 8 rfl rfl rfl rfl ?_; simp only [zp]; refine st_end ?_; subst hQ; refine wp_block ?_
  go_loopw [8] (fun v8 wr => ∃ i : Nat, i ≤ n ∧ v8 = .int .i64 i ∧ Below w.heap.size w wr ∧ ∀ j, j < i → P j = false) (fun v8 _ => n - (intOf v8).toNat)
  case atStart => exact ⟨0, Nat.zero_le _, rfl, E, fun j hj => by omega⟩
  case round =>
    obtain ⟨i, hi, rfl, E, hno⟩ := hrel
    by_cases hlt : i < n
    · rcases h with h | ⟨b, p, rfl, h⟩
      · omega
      have HC := (h i hlt); have hPi := hP i hlt wr E
      cases hp : P i with
      | true =>
        rw [hp] at hPi; refine wq fun Q hQ => ?_; refine sv (.bool true) 9 rfl rfl (ex_bin (u := (.int .i64 (i : Nat))) (r := (.int .i64 (n : Nat))) rfl rfl rfl (eg3 _ _ _ _ _ _) (lss3 _ (decide_eq_true (by omega)))) ?_; simp only [zp]; refine st_end ?_; subst hQ; refine wp_seq ?_; refine wp_cond_true rfl ?_; refine wp_skip ?_; refine wp_seq ?_; refine wp_block ?_; refine wq fun Q hQ => ?_; refine sm (.int .i64 (i : Nat)) 10 rfl rfl rfl rfl ?_; simp only [zp]; refine sg (.int .i64 (i : Nat)) 5 rfl rfl rfl rfl ?_; simp only [zp]; refine st_end ?_; subst hQ; refine wq fun Q hQ => ?_
        refine sm (.func (.func k) #[] cap) 11 rfl rfl rfl rfl ?_; simp only [zp]; refine sm (.slice (some ⟨b, p, none⟩) n c) 12 rfl rfl rfl rfl ?_; simp only [zp]; refine sm (.int .i64 (i : Nat)) 13 rfl rfl rfl rfl ?_; simp only [zp]; refine sv (.pointer (some ⟨b, (p + i * 36), none⟩)) 14 rfl rfl (ex_ix27 rfl rfl rfl hlt) ?_; simp only [zp]; refine sv (.agg (Cs i)) 15 rfl rfl (ex_load rfl rfl (ld_range (range_below HC.2 E) Try.underlying49 rfl (inf49.trans (congrArg some HC.1.size.symm)))) ?_; simp only [zp]
        refine st_call (some 16) rfl rfl hPi (ex_callv (f := k) (vs := [(.agg (Cs i))]) rfl rfl (hk _) rfl) ?_; rintro e W1 ⟨rfl, B⟩; refine ⟨_, rfl, ?_⟩; simp only [zp]; replace E := below_next E B; refine st_end ?_; subst hQ; refine wp_cond_true rfl ?_; refine wq fun Q hQ => ?_; refine sm (.int .i64 (i : Nat)) 17 rfl rfl rfl rfl ?_; simp only [zp]; refine sg (.int .i64 (i : Nat)) 4 rfl rfl rfl rfl ?_; simp only [zp]; refine st_end ?_; subst hQ; refine wp_ret ?_
        repeat (first | refine ret_out ?_ | refine ret_blk ?_)
        refine bodyPost_ret (results_tmp Try.results44 _ _ _) rfl ⟨?_, E⟩; rw [idxP_some hlt hp hno]
        rfl
      | false =>
        rw [hp] at hPi; refine wq fun Q hQ => ?_; refine sv (.bool true) 9 rfl rfl (ex_bin (u := (.int .i64 (i : Nat))) (r := (.int .i64 (n : Nat))) rfl rfl rfl (eg3 _ _ _ _ _ _) (lss3 _ (decide_eq_true (by omega)))) ?_; simp only [zp]; refine st_end ?_; subst hQ; refine wp_seq ?_; refine wp_cond_true rfl ?_; refine wp_skip ?_; refine wp_seq ?_; refine wp_block ?_; refine wq fun Q hQ => ?_; refine sm (.int .i64 (i : Nat)) 10 rfl rfl rfl rfl ?_; simp only [zp]; refine sg (.int .i64 (i : Nat)) 5 rfl rfl rfl rfl ?_; simp only [zp]; refine st_end ?_; subst hQ; refine wq fun Q hQ => ?_
        refine sm (.func (.func k) #[] cap) 11 rfl rfl rfl rfl ?_; simp only [zp]; refine sm (.slice (some ⟨b, p, none⟩) n c) 12 rfl rfl rfl rfl ?_; simp only [zp]; refine sm (.int .i64 (i : Nat)) 13 rfl rfl rfl rfl ?_; simp only [zp]; refine sv (.pointer (some ⟨b, (p + i * 36), none⟩)) 14 rfl rfl (ex_ix27 rfl rfl rfl hlt) ?_; simp only [zp]; refine sv (.agg (Cs i)) 15 rfl rfl (ex_load rfl rfl (ld_range (range_below HC.2 E) Try.underlying49 rfl (inf49.trans (congrArg some HC.1.size.symm)))) ?_; simp only [zp]
        refine st_call (some 16) rfl rfl hPi (ex_callv (f := k) (vs := [(.agg (Cs i))]) rfl rfl (hk _) rfl) ?_; rintro e W2 ⟨rfl, B⟩; refine ⟨_, rfl, ?_⟩; simp only [zp]; replace E := below_next E B; refine st_end ?_; subst hQ; refine wp_cond_false rfl ?_; refine wp_skip ?_; refine wl_in (wl_cap fun Q hQ => ?_); refine sv (.int .i64 ((i + 1 : Nat) : Int)) 18 rfl rfl (ex_bin rfl rfl rfl (eg3 _ _ _ _ _ _) (add3 _ (by omega) (by omega))) ?_; simp only [zp]; refine sm (.int .i64 ((i + 1 : Nat) : Int)) 8 rfl rfl rfl rfl ?_; simp only [zp]; refine st_end ?_; subst hQ; refine then_go ?_
        go_roundw
        case rel =>
          refine ⟨i + 1, by omega, rfl, E, fun j hj => ?_⟩
          by_cases e : j = i
          · subst e; exact hp
          · exact hno j (by omega)
        case measure => simp [intOf]; omega
    · skip
      have hi' : i = n := by omega
      subst hi'; refine wq fun Q hQ => ?_; refine sv (.bool false) 9 rfl rfl (ex_bin (u := (.int .i64 (i : Nat))) (r := (.int .i64 (i : Nat))) rfl rfl rfl (eg3 _ _ _ _ _ _) (lss3 _ (decide_eq_false (by omega)))) ?_; simp only [zp]; refine st_end ?_; subst hQ; refine wp_seq ?_; refine wp_cond_false rfl ?_; refine wp_exit ?_; refine ex_then ?_; refine ex_then ?_; refine ex_blk ?_; refine wq fun Q hQ => ?_; refine sg (.int .i64 (-1)) 4 rfl rfl rfl rfl ?_; simp only [zp]; refine st_end ?_; subst hQ; refine wp_ret ?_; refine bodyPost_ret (results_tmp Try.results44 _ _ _) rfl ⟨?_, E⟩
      rw [idxP_none hno]
      rfl

set_option maxHeartbeats 2000000 in
theorem idxN_any (k : Nat) (cap : Array Value) (ao : Option Addr) (n c : Nat) (z : Nat → Int) (P : Nat → Bool) (w : World) (h : Ns w ao n z) (hn : n ≤ 140737488355328) (hk : ∀ W vs, (callFunc k vs).run Try.prog W = .ok (.enter k vs) W)
    (hP : ∀ i, i < n → ∀ W, Below w.heap.size w W → Calls Try.prog k (#[.int .i64 (z i)] ++ cap) W fun e w' => e = .returned (.bool (P i)) ∧ Below W.heap.size W w') :
    Calls Try.prog 62 #[.slice ao n c, .func (.func k) #[] cap] w fun e w' => e = .returned (.int .i64 (idxP P n)) ∧ Below w.heap.size w w' := by
  have E : Below w.heap.size w w := Below.refl _ _
  go_enter Try.func62, Try.ntmps62; refine wq fun Q hQ => ?_; refine sg (.int .i64 0) 4 rfl rfl rfl rfl ?_; simp only [zp]; refine st_end ?_; subst hQ; refine wp_seq ?_; refine wq fun Q hQ => ?_; refine sm (.slice ao n c) 6 rfl rfl rfl rfl ?_; simp only [zp]; refine sv (.int .i64 (n : Nat)) 7 rfl rfl (ex_len rfl rfl (len82 _ _ _ _ _)) ?_; simp only [zp]; refine sm (.int .i64 0) 8 rfl rfl rfl rfl ?_; simp only [zp]; refine st_end ?_; subst hQ; refine wp_block ?_
  go_loopw [8] (fun v8 wr => ∃ i : Nat, i ≤ n ∧ v8 = .int .i64 i ∧ Below w.heap.size w wr ∧ ∀ j, j < i → P j = false) (fun v8 _ => n - (intOf v8).toNat)
  case atStart => exact ⟨0, Nat.zero_le _, rfl, E, fun j hj => by omega⟩
  case round =>
    obtain ⟨i, hi, rfl, E, hno⟩ := hrel
    by_cases hlt : i < n
    · rcases h with h | ⟨b, p, rfl, h⟩
      · omega
      have HC := (h i hlt); have hPi := hP i hlt wr E
      cases hp : P i with
      | true =>
        rw [hp] at hPi; refine wq fun Q hQ => ?_; refine sv (.bool true) 9 rfl rfl (ex_bin (u := (.int .i64 (i : Nat))) (r := (.int .i64 (n : Nat))) rfl rfl rfl (eg3 _ _ _ _ _ _) (lss3 _ (decide_eq_true (by omega)))) ?_; simp only [zp]; refine st_end ?_; subst hQ; refine wp_seq ?_; refine wp_cond_true rfl ?_; refine wp_skip ?_; refine wp_seq ?_; refine wp_block ?_; refine wq fun Q hQ => ?_; refine sm (.int .i64 (i : Nat)) 10 rfl rfl rfl rfl ?_; simp only [zp]; refine sg (.int .i64 (i : Nat)) 5 rfl rfl rfl rfl ?_; simp only [zp]; refine st_end ?_; subst hQ; refine wq fun Q hQ => ?_
        refine sm (.func (.func k) #[] cap) 11 rfl rfl rfl rfl ?_; simp only [zp]; refine sm (.slice (some ⟨b, p, none⟩) n c) 12 rfl rfl rfl rfl ?_; simp only [zp]; refine sm (.int .i64 (i : Nat)) 13 rfl rfl rfl rfl ?_; simp only [zp]; refine sv (.pointer (some ⟨b, (p + i), none⟩)) 14 rfl rfl (ex_ix82 rfl rfl rfl hlt) ?_; simp only [zp]; refine sv (.int .i64 (z i)) 15 rfl rfl (ex_load rfl rfl (ld3 ((E.cell (block_lt_of_cell HC)).trans HC))) ?_; simp only [zp]; refine st_call (some 16) rfl rfl hPi (ex_callv (f := k) (vs := [(.int .i64 (z i))]) rfl rfl (hk _) rfl) ?_; rintro e W1 ⟨rfl, B⟩
        refine ⟨_, rfl, ?_⟩; simp only [zp]; replace E := below_next E B; refine st_end ?_; subst hQ; refine wp_cond_true rfl ?_; refine wq fun Q hQ => ?_; refine sm (.int .i64 (i : Nat)) 17 rfl rfl rfl rfl ?_; simp only [zp]; refine sg (.int .i64 (i : Nat)) 4 rfl rfl rfl rfl ?_; simp only [zp]; refine st_end ?_; subst hQ; refine wp_ret ?_
        repeat (first | refine ret_out ?_ | refine ret_blk ?_)
        refine bodyPost_ret (results_tmp Try.results62 _ _ _) rfl ⟨?_, E⟩; rw [idxP_some hlt hp hno]
        rfl
      | false =>
        rw [hp] at hPi; refine wq fun Q hQ => ?_; refine sv (.bool true) 9 rfl rfl (ex_bin (u := (.int .i64 (i : Nat))) (r := (.int .i64 (n : Nat))) rfl rfl rfl (eg3 _ _ _ _ _ _) (lss3 _ (decide_eq_true (by omega)))) ?_; simp only [zp]; refine st_end ?_; subst hQ; refine wp_seq ?_; refine wp_cond_true rfl ?_; refine wp_skip ?_; refine wp_seq ?_; refine wp_block ?_; refine wq fun Q hQ => ?_; refine sm (.int .i64 (i : Nat)) 10 rfl rfl rfl rfl ?_; simp only [zp]; refine sg (.int .i64 (i : Nat)) 5 rfl rfl rfl rfl ?_; simp only [zp]; refine st_end ?_; subst hQ; refine wq fun Q hQ => ?_
        refine sm (.func (.func k) #[] cap) 11 rfl rfl rfl rfl ?_; simp only [zp]; refine sm (.slice (some ⟨b, p, none⟩) n c) 12 rfl rfl rfl rfl ?_; simp only [zp]; refine sm (.int .i64 (i : Nat)) 13 rfl rfl rfl rfl ?_; simp only [zp]; refine sv (.pointer (some ⟨b, (p + i), none⟩)) 14 rfl rfl (ex_ix82 rfl rfl rfl hlt) ?_; simp only [zp]; refine sv (.int .i64 (z i)) 15 rfl rfl (ex_load rfl rfl (ld3 ((E.cell (block_lt_of_cell HC)).trans HC))) ?_; simp only [zp]; refine st_call (some 16) rfl rfl hPi (ex_callv (f := k) (vs := [(.int .i64 (z i))]) rfl rfl (hk _) rfl) ?_; rintro e W2 ⟨rfl, B⟩
        refine ⟨_, rfl, ?_⟩; simp only [zp]; replace E := below_next E B; refine st_end ?_; subst hQ; refine wp_cond_false rfl ?_; refine wp_skip ?_; refine wl_in (wl_cap fun Q hQ => ?_); refine sv (.int .i64 ((i + 1 : Nat) : Int)) 18 rfl rfl (ex_bin rfl rfl rfl (eg3 _ _ _ _ _ _) (add3 _ (by omega) (by omega))) ?_; simp only [zp]; refine sm (.int .i64 ((i + 1 : Nat) : Int)) 8 rfl rfl rfl rfl ?_; simp only [zp]; refine st_end ?_; subst hQ; refine then_go ?_
        go_roundw
        case rel =>
          refine ⟨i + 1, by omega, rfl, E, fun j hj => ?_⟩
          by_cases e : j = i
          · subst e; exact hp
          · exact hno j (by omega)
        case measure => simp [intOf]; omega
    · skip
      have hi' : i = n := by omega
      subst hi'; refine wq fun Q hQ => ?_; refine sv (.bool false) 9 rfl rfl (ex_bin (u := (.int .i64 (i : Nat))) (r := (.int .i64 (i : Nat))) rfl rfl rfl (eg3 _ _ _ _ _ _) (lss3 _ (decide_eq_false (by omega)))) ?_; simp only [zp]; refine st_end ?_; subst hQ; refine wp_seq ?_; refine wp_cond_false rfl ?_; refine wp_exit ?_; refine ex_then ?_; refine ex_then ?_; refine ex_blk ?_; refine wq fun Q hQ => ?_; refine sg (.int .i64 (-1)) 4 rfl rfl rfl rfl ?_; simp only [zp]; refine st_end ?_; subst hQ; refine wp_ret ?_; refine bodyPost_ret (results_tmp Try.results62 _ _ _) rfl ⟨?_, E⟩
      rw [idxP_none hno]
      rfl

end Go.Proofs.Ytkhpbjafdamhaaa
