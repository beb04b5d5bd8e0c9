/- Rows of outputs and of paths: all of them. -/
import Derived.Test.YtkhpbjafdamhaaaDRComB
namespace Go.Proofs.Ytkhpbjafdamhaaa
open Go.RowKit
set_option linter.unusedVariables false
set_option linter.unusedSimpArgs false
set_option maxRecDepth 100000
/-- n things of sz cells lie there -/
def Rg (w : World) (ao : Option Addr) (n sz : Nat) (Cs : Nat → Array Value) : Prop :=
  n = 0 ∨ ∃ b o, ao = some ⟨b, o, none⟩ ∧ ∀ i, i < n → (Cs i).size = sz ∧ w.rangeAt b (o + i * sz) (Cs i).toList
theorem Rg.below {w W : World} {ao : Option Addr} {n sz : Nat} {Cs : Nat → Array Value} (h : Rg w ao n sz Cs) (hB : Below w.heap.size w W) : Rg W ao n sz Cs := by
  rcases h with h | ⟨b, o, e, h⟩
  · exact .inl h
  · exact .inr ⟨b, o, e, fun i hi => ⟨(h i hi).1, range_below (h i hi).2 hB⟩⟩
theorem Rg.size {w : World} {ao : Option Addr} {n sz : Nat} {Cs : Nat → Array Value} (h : Rg w ao n sz Cs) {i : Nat} (hi : i < n) : (Cs i).size = sz := by
  rcases h with h | ⟨b, o, e, h⟩
  · omega
  · exact (h i hi).1
section
variable {o : Oper} {a : Act} {W : World}
theorem ex_ixp32 {x y : Operand} {b p n c k : Nat} (ho : o.op = .indexAddr 32 x y) (hx : a.eval x = .slice (some ⟨b, p, none⟩) n c) (hy : a.eval y = .int .i64 k) (hk : k < n) : (execOp a.eval o).run Try.prog W = .ok (.value (.pointer (some ⟨b, p + k * 2, none⟩))) W := by
  have h1 : (k : Int) < (n : Int) := by omega
  unfold execOp
  simp only [ho, hx, hy]
  go_simp
theorem ex_ixp44 {x y : Operand} {b p n c k : Nat} (ho : o.op = .indexAddr 44 x y) (hx : a.eval x = .slice (some ⟨b, p, none⟩) n c) (hy : a.eval y = .int .i64 k) (hk : k < n) : (execOp a.eval o).run Try.prog W = .ok (.value (.pointer (some ⟨b, p + k * 37, none⟩))) W := by
  have h1 : (k : Int) < (n : Int) := by omega
  unfold execOp
  simp only [ho, hx, hy]
  go_simp
theorem ex_boxf {T : Nat} {x : Operand} {f : Fn} {q : Array Value} {cap : Array Value} (ho : o.op = .box T x) (hx : a.eval x = .func f q cap) : (execOp a.eval o).run Try.prog W = .ok (.value (.pointer (some ⟨W.heap.size, 0, none⟩))) (W.alloc (.cells #[.func f q cap] T)) := by
  unfold execOp
  simp only [ho, hx]
  go_simp
end
theorem ld91 {W : World} {b o : Nat} {f : Fn} {q : Array Value} {cap : Array Value} (h : W.cell? ⟨b, o, none⟩ = some (.func f q cap)) : (Instr.loadAt 91 (.pointer (some ⟨b, o, none⟩))).run Try.prog W = .ok (.func f q cap) W := by go_simp
theorem ld95 {W : World} {b o : Nat} {f : Fn} {q : Array Value} {cap : Array Value} (h : W.cell? ⟨b, o, none⟩ = some (.func f q cap)) : (Instr.loadAt 95 (.pointer (some ⟨b, o, none⟩))).run Try.prog W = .ok (.func f q cap) W := by go_simp
theorem ld74 {W : World} {b o : Nat} {f : Fn} {q : Array Value} {cap : Array Value} (h : W.cell? ⟨b, o, none⟩ = some (.func f q cap)) : (Instr.loadAt 74 (.pointer (some ⟨b, o, none⟩))).run Try.prog W = .ok (.func f q cap) W := by go_simp
theorem cf66' (W : World) (vs : Array Value) : (callFunc 66 vs).run Try.prog W = .ok (.enter 66 vs) W := by go_simp
theorem cf74' (W : World) (vs : Array Value) : (callFunc 74 vs).run Try.prog W = .ok (.enter 74 vs) W := by go_simp
theorem cf78' (W : World) (vs : Array Value) : (callFunc 78 vs).run Try.prog W = .ok (.enter 78 vs) W := by go_simp
set_option maxHeartbeats 2000000 in
theorem idxO_any (k : Nat) (cap : Array Value) (ao : Option Addr) (n c : Nat) (Cs : Nat → Array Value) (P : Nat → Bool) (w : World) (h : Rg w ao n 2 Cs) (hn : n ≤ 140737488355328) (hk : ∀ W vs, (callFunc k vs).run Try.prog W = .ok (.enter k vs) W)
    (hP : ∀ i, i < n → ∀ W, Below w.heap.size w W → Calls Try.prog k (#[.agg (Cs i)] ++ cap) W fun e w' => e = .returned (.bool (P i)) ∧ Below W.heap.size W w') :
    Calls Try.prog 72 #[.slice ao n c, .func (.func k) #[] cap] w fun e w' => e = .returned (.int .i64 (idxP P n)) ∧ Below w.heap.size w w' := by
  have E : Below w.heap.size w w := Below.refl _ _
  go_enter Try.func72, Try.ntmps72; refine wq fun Q hQ => ?_; refine sg (.int .i64 0) 4 rfl rfl rfl rfl ?_; simp only [zp]; refine st_end ?_; subst hQ; refine wp_seq ?_; refine wq fun Q hQ => ?_; refine sm (.slice ao n c) 6 rfl rfl rfl rfl ?_; simp only [zp]; refine sv (.int .i64 (n : Nat)) 7 rfl rfl (ex_len rfl rfl (len32 _ _ _ _ _)) ?_; simp only [zp]; refine sm (.int .i64 0) 8 rfl rfl rfl rfl ?_; simp only [zp]; refine st_end ?_; subst hQ; refine wp_block ?_
  go_loopw [8] (fun v8 wr => ∃ i : Nat, i ≤ n ∧ v8 = .int .i64 i ∧ Below w.heap.size w wr ∧ ∀ j, j < i → P j = false) (fun v8 _ => n - (intOf v8).toNat)
  case atStart => exact ⟨0, Nat.zero_le _, rfl, E, fun j hj => by omega⟩
  case round =>
    obtain ⟨i, hi, rfl, E, hno⟩ := hrel
    by_cases hlt : i < n
    · rcases h with h | ⟨b, p, rfl, h⟩
      · omega
      have HC := (h i hlt); have hPi := hP i hlt wr E
      cases hp : P i with
      | true =>
        rw [hp] at hPi; refine wq fun Q hQ => ?_; refine sv (.bool true) 9 rfl rfl (ex_bin (u := (.int .i64 (i : Nat))) (r := (.int .i64 (n : Nat))) rfl rfl rfl (eg3 _ _ _ _ _ _) (lss3 _ (decide_eq_true (by omega)))) ?_; simp only [zp]; refine st_end ?_; subst hQ; refine wp_seq ?_; refine wp_cond_true rfl ?_; refine wp_skip ?_; refine wp_seq ?_; refine wp_block ?_; refine wq fun Q hQ => ?_; refine sm (.int .i64 (i : Nat)) 10 rfl rfl rfl rfl ?_; simp only [zp]; refine sg (.int .i64 (i : Nat)) 5 rfl rfl rfl rfl ?_; simp only [zp]; refine st_end ?_; subst hQ; refine wq fun Q hQ => ?_
        refine sm (.func (.func k) #[] cap) 11 rfl rfl rfl rfl ?_; simp only [zp]; refine sm (.slice (some ⟨b, p, none⟩) n c) 12 rfl rfl rfl rfl ?_; simp only [zp]; refine sm (.int .i64 (i : Nat)) 13 rfl rfl rfl rfl ?_; simp only [zp]; refine sv (.pointer (some ⟨b, (p + i * 2), none⟩)) 14 rfl rfl (ex_ixp32 rfl rfl rfl hlt) ?_; simp only [zp]; refine sv (.agg (Cs i)) 15 rfl rfl (ex_load rfl rfl (ld_range (range_below HC.2 E) Try.underlying46 rfl (inf46.trans (congrArg some HC.1.symm)))) ?_; simp only [zp]
        refine st_call (some 16) rfl rfl hPi (ex_callv (f := k) (vs := [(.agg (Cs i))]) rfl rfl (hk _) rfl) ?_; rintro e W1 ⟨rfl, B⟩; refine ⟨_, rfl, ?_⟩; simp only [zp]; replace E := below_next E B; refine st_end ?_; subst hQ; refine wp_cond_true rfl ?_; refine wq fun Q hQ => ?_; refine sm (.int .i64 (i : Nat)) 17 rfl rfl rfl rfl ?_; simp only [zp]; refine sg (.int .i64 (i : Nat)) 4 rfl rfl rfl rfl ?_; simp only [zp]; refine st_end ?_; subst hQ; refine wp_ret ?_
        repeat (first | refine ret_out ?_ | refine ret_blk ?_)
        refine bodyPost_ret (results_tmp Try.results72 _ _ _) rfl ⟨?_, E⟩; rw [idxP_some hlt hp hno]
        rfl
      | false =>
        rw [hp] at hPi; refine wq fun Q hQ => ?_; refine sv (.bool true) 9 rfl rfl (ex_bin (u := (.int .i64 (i : Nat))) (r := (.int .i64 (n : Nat))) rfl rfl rfl (eg3 _ _ _ _ _ _) (lss3 _ (decide_eq_true (by omega)))) ?_; simp only [zp]; refine st_end ?_; subst hQ; refine wp_seq ?_; refine wp_cond_true rfl ?_; refine wp_skip ?_; refine wp_seq ?_; refine wp_block ?_; refine wq fun Q hQ => ?_; refine sm (.int .i64 (i : Nat)) 10 rfl rfl rfl rfl ?_; simp only [zp]; refine sg (.int .i64 (i : Nat)) 5 rfl rfl rfl rfl ?_; simp only [zp]; refine st_end ?_; subst hQ; refine wq fun Q hQ => ?_
        refine sm (.func (.func k) #[] cap) 11 rfl rfl rfl rfl ?_; simp only [zp]; refine sm (.slice (some ⟨b, p, none⟩) n c) 12 rfl rfl rfl rfl ?_; simp only [zp]; refine sm (.int .i64 (i : Nat)) 13 rfl rfl rfl rfl ?_; simp only [zp]; refine sv (.pointer (some ⟨b, (p + i * 2), none⟩)) 14 rfl rfl (ex_ixp32 rfl rfl rfl hlt) ?_; simp only [zp]; refine sv (.agg (Cs i)) 15 rfl rfl (ex_load rfl rfl (ld_range (range_below HC.2 E) Try.underlying46 rfl (inf46.trans (congrArg some HC.1.symm)))) ?_; simp only [zp]
        refine st_call (some 16) rfl rfl hPi (ex_callv (f := k) (vs := [(.agg (Cs i))]) rfl rfl (hk _) rfl) ?_; rintro e W2 ⟨rfl, B⟩; refine ⟨_, rfl, ?_⟩; simp only [zp]; replace E := below_next E B; refine st_end ?_; subst hQ; refine wp_cond_false rfl ?_; refine wp_skip ?_; refine wl_in (wl_cap fun Q hQ => ?_); refine sv (.int .i64 ((i + 1 : Nat) : Int)) 18 rfl rfl (ex_bin rfl rfl rfl (eg3 _ _ _ _ _ _) (add3 _ (by omega) (by omega))) ?_; simp only [zp]; refine sm (.int .i64 ((i + 1 : Nat) : Int)) 8 rfl rfl rfl rfl ?_; simp only [zp]; refine st_end ?_; subst hQ; refine then_go ?_
        go_roundw
        case rel =>
          refine ⟨i + 1, by omega, rfl, E, fun j hj => ?_⟩
          by_cases e : j = i
          · subst e; exact hp
          · exact hno j (by omega)
        case measure => simp [intOf]; omega
    · skip
      have hi' : i = n := by omega
      subst hi'; refine wq fun Q hQ => ?_; refine sv (.bool false) 9 rfl rfl (ex_bin (u := (.int .i64 (i : Nat))) (r := (.int .i64 (i : Nat))) rfl rfl rfl (eg3 _ _ _ _ _ _) (lss3 _ (decide_eq_false (by omega)))) ?_; simp only [zp]; refine st_end ?_; subst hQ; refine wp_seq ?_; refine wp_cond_false rfl ?_; refine wp_exit ?_; refine ex_then ?_; refine ex_then ?_; refine ex_blk ?_; refine wq fun Q hQ => ?_; refine sg (.int .i64 (-1)) 4 rfl rfl rfl rfl ?_; simp only [zp]; refine st_end ?_; subst hQ; refine wp_ret ?_; refine bodyPost_ret (results_tmp Try.results72 _ _ _) rfl ⟨?_, E⟩
      rw [idxP_none hno]
      rfl

set_option maxHeartbeats 2000000 in
theorem idxQ_any (k : Nat) (cap : Array Value) (ao : Option Addr) (n c : Nat) (Cs : Nat → Array Value) (P : Nat → Bool) (w : World) (h : Rg w ao n 37 Cs) (hn : n ≤ 140737488355328) (hk : ∀ W vs, (callFunc k vs).run Try.prog W = .ok (.enter k vs) W)
    (hP : ∀ i, i < n → ∀ W, Below w.heap.size w W → Calls Try.prog k (#[.agg (Cs i)] ++ cap) W fun e w' => e = .returned (.bool (P i)) ∧ Below W.heap.size W w') :
    Calls Try.prog 77 #[.slice ao n c, .func (.func k) #[] cap] w fun e w' => e = .returned (.int .i64 (idxP P n)) ∧ Below w.heap.size w w' := by
  have E : Below w.heap.size w w := Below.refl _ _
  go_enter Try.func77, Try.ntmps77; refine wq fun Q hQ => ?_; refine sg (.int .i64 0) 4 rfl rfl rfl rfl ?_; simp only [zp]; refine st_end ?_; subst hQ; refine wp_seq ?_; refine wq fun Q hQ => ?_; refine sm (.slice ao n c) 6 rfl rfl rfl rfl ?_; simp only [zp]; refine sv (.int .i64 (n : Nat)) 7 rfl rfl (ex_len rfl rfl (len44 _ _ _ _ _)) ?_; simp only [zp]; refine sm (.int .i64 0) 8 rfl rfl rfl rfl ?_; simp only [zp]; refine st_end ?_; subst hQ; refine wp_block ?_
  go_loopw [8] (fun v8 wr => ∃ i : Nat, i ≤ n ∧ v8 = .int .i64 i ∧ Below w.heap.size w wr ∧ ∀ j, j < i → P j = false) (fun v8 _ => n - (intOf v8).toNat)
  case atStart => exact ⟨0, Nat.zero_le _, rfl, E, fun j hj => by omega⟩
  case round =>
    obtain ⟨i, hi, rfl, E, hno⟩ := hrel
    by_cases hlt : i < n
    · rcases h with h | ⟨b, p, rfl, h⟩
      · omega
      have HC := (h i hlt); have hPi := hP i hlt wr E
      cases hp : P i with
      | true =>
        rw [hp] at hPi; refine wq fun Q hQ => ?_; refine sv (.bool true) 9 rfl rfl (ex_bin (u := (.int .i64 (i : Nat))) (r := (.int .i64 (n : Nat))) rfl rfl rfl (eg3 _ _ _ _ _ _) (lss3 _ (decide_eq_true (by omega)))) ?_; simp only [zp]; refine st_end ?_; subst hQ; refine wp_seq ?_; refine wp_cond_true rfl ?_; refine wp_skip ?_; refine wp_seq ?_; refine wp_block ?_; refine wq fun Q hQ => ?_; refine sm (.int .i64 (i : Nat)) 10 rfl rfl rfl rfl ?_; simp only [zp]; refine sg (.int .i64 (i : Nat)) 5 rfl rfl rfl rfl ?_; simp only [zp]; refine st_end ?_; subst hQ; refine wq fun Q hQ => ?_
        refine sm (.func (.func k) #[] cap) 11 rfl rfl rfl rfl ?_; simp only [zp]; refine sm (.slice (some ⟨b, p, none⟩) n c) 12 rfl rfl rfl rfl ?_; simp only [zp]; refine sm (.int .i64 (i : Nat)) 13 rfl rfl rfl rfl ?_; simp only [zp]; refine sv (.pointer (some ⟨b, (p + i * 37), none⟩)) 14 rfl rfl (ex_ixp44 rfl rfl rfl hlt) ?_; simp only [zp]; refine sv (.agg (Cs i)) 15 rfl rfl (ex_load rfl rfl (ld_range (range_below HC.2 E) Try.underlying66 rfl (inf66.trans (congrArg some HC.1.symm)))) ?_; simp only [zp]
        refine st_call (some 16) rfl rfl hPi (ex_callv (f := k) (vs := [(.agg (Cs i))]) rfl rfl (hk _) rfl) ?_; rintro e W1 ⟨rfl, B⟩; refine ⟨_, rfl, ?_⟩; simp only [zp]; replace E := below_next E B; refine st_end ?_; subst hQ; refine wp_cond_true rfl ?_; refine wq fun Q hQ => ?_; refine sm (.int .i64 (i : Nat)) 17 rfl rfl rfl rfl ?_; simp only [zp]; refine sg (.int .i64 (i : Nat)) 4 rfl rfl rfl rfl ?_; simp only [zp]; refine st_end ?_; subst hQ; refine wp_ret ?_
        repeat (first | refine ret_out ?_ | refine ret_blk ?_)
        refine bodyPost_ret (results_tmp Try.results77 _ _ _) rfl ⟨?_, E⟩; rw [idxP_some hlt hp hno]
        rfl
      | false =>
        rw [hp] at hPi; refine wq fun Q hQ => ?_; refine sv (.bool true) 9 rfl rfl (ex_bin (u := (.int .i64 (i : Nat))) (r := (.int .i64 (n : Nat))) rfl rfl rfl (eg3 _ _ _ _ _ _) (lss3 _ (decide_eq_true (by omega)))) ?_; simp only [zp]; refine st_end ?_; subst hQ; refine wp_seq ?_; refine wp_cond_true rfl ?_; refine wp_skip ?_; refine wp_seq ?_; refine wp_block ?_; refine wq fun Q hQ => ?_; refine sm (.int .i64 (i : Nat)) 10 rfl rfl rfl rfl ?_; simp only [zp]; refine sg (.int .i64 (i : Nat)) 5 rfl rfl rfl rfl ?_; simp only [zp]; refine st_end ?_; subst hQ; refine wq fun Q hQ => ?_
        refine sm (.func (.func k) #[] cap) 11 rfl rfl rfl rfl ?_; simp only [zp]; refine sm (.slice (some ⟨b, p, none⟩) n c) 12 rfl rfl rfl rfl ?_; simp only [zp]; refine sm (.int .i64 (i : Nat)) 13 rfl rfl rfl rfl ?_; simp only [zp]; refine sv (.pointer (some ⟨b, (p + i * 37), none⟩)) 14 rfl rfl (ex_ixp44 rfl rfl rfl hlt) ?_; simp only [zp]; refine sv (.agg (Cs i)) 15 rfl rfl (ex_load rfl rfl (ld_range (range_below HC.2 E) Try.underlying66 rfl (inf66.trans (congrArg some HC.1.symm)))) ?_; simp only [zp]
        refine st_call (some 16) rfl rfl hPi (ex_callv (f := k) (vs := [(.agg (Cs i))]) rfl rfl (hk _) rfl) ?_; rintro e W2 ⟨rfl, B⟩; refine ⟨_, rfl, ?_⟩; simp only [zp]; replace E := below_next E B; refine st_end ?_; subst hQ; refine wp_cond_false rfl ?_; refine wp_skip ?_; refine wl_in (wl_cap fun Q hQ => ?_); refine sv (.int .i64 ((i + 1 : Nat) : Int)) 18 rfl rfl (ex_bin rfl rfl rfl (eg3 _ _ _ _ _ _) (add3 _ (by omega) (by omega))) ?_; simp only [zp]; refine sm (.int .i64 ((i + 1 : Nat) : Int)) 8 rfl rfl rfl rfl ?_; simp only [zp]; refine st_end ?_; subst hQ; refine then_go ?_
        go_roundw
        case rel =>
          refine ⟨i + 1, by omega, rfl, E, fun j hj => ?_⟩
          by_cases e : j = i
          · subst e; exact hp
          · exact hno j (by omega)
        case measure => simp [intOf]; omega
    · skip
      have hi' : i = n := by omega
      subst hi'; refine wq fun Q hQ => ?_; refine sv (.bool false) 9 rfl rfl (ex_bin (u := (.int .i64 (i : Nat))) (r := (.int .i64 (i : Nat))) rfl rfl rfl (eg3 _ _ _ _ _ _) (lss3 _ (decide_eq_false (by omega)))) ?_; simp only [zp]; refine st_end ?_; subst hQ; refine wp_seq ?_; refine wp_cond_false rfl ?_; refine wp_exit ?_; refine ex_then ?_; refine ex_then ?_; refine ex_blk ?_; refine wq fun Q hQ => ?_; refine sg (.int .i64 (-1)) 4 rfl rfl rfl rfl ?_; simp only [zp]; refine st_end ?_; subst hQ; refine wp_ret ?_; refine bodyPost_ret (results_tmp Try.results77 _ _ _) rfl ⟨?_, E⟩
      rw [idxP_none hno]
      rfl

theorem cont65 (k : Nat) (cap : Array Value) (ao : Option Addr) (n c : Nat) (Cs : Nat → Array Value) (P : Nat → Bool) (w : World) (h : Rg w ao n 2 Cs) (hn : n ≤ 140737488355328) (hk : ∀ W vs, (callFunc k vs).run Try.prog W = .ok (.enter k vs) W)
    (hP : ∀ i, i < n → ∀ W, Below w.heap.size w W → Calls Try.prog k (#[.agg (Cs i)] ++ cap) W fun e w' => e = .returned (.bool (P i)) ∧ Below W.heap.size W w') {r : Bool} (hr : decide (0 ≤ idxP P n) = r) :
    Calls Try.prog 65 #[.slice ao n c, .func (.func k) #[] cap] w fun e w' => e = .returned (.bool r) ∧ Below w.heap.size w w' := by
  have E : Below w.heap.size w w := Below.refl _ _
  go_enter Try.func65, Try.ntmps65; refine wq fun Q hQ => ?_; refine sg (.bool false) 4 rfl rfl rfl rfl ?_; simp only [zp]; refine st_end ?_; subst hQ; refine wq fun Q hQ => ?_; refine sm (.slice ao n c) 5 rfl rfl rfl rfl ?_; simp only [zp]; refine sm (.func (.func k) #[] cap) 6 rfl rfl rfl rfl ?_; simp only [zp]; refine st_call (some 7) rfl rfl (idxO_any k cap ao n c Cs P w h hn hk hP) (ex_call (f := 72) (vs := [(.slice ao n c), (.func (.func k) #[] cap)]) rfl (cf72 _) rfl) ?_; rintro e W1 ⟨rfl, B⟩; refine ⟨_, rfl, ?_⟩; simp only [zp]; replace E := below_next E B
  refine sv (.bool r) 8 rfl rfl (ex_bin (u := (.int .i64 (idxP P n))) (r := (.int .i64 0)) rfl rfl rfl (eg3 _ _ _ _ _ _) (geq3 _ hr)) ?_; simp only [zp]; refine sg (.bool r) 4 rfl rfl rfl rfl ?_; simp only [zp]; refine st_end ?_; subst hQ; refine wp_ret ?_; refine bodyPost_ret (results_tmp Try.results65 _ _ _) rfl ⟨rfl, E⟩
theorem cont73 (k : Nat) (cap : Array Value) (ao : Option Addr) (n c : Nat) (Cs : Nat → Array Value) (P : Nat → Bool) (w : World) (h : Rg w ao n 37 Cs) (hn : n ≤ 140737488355328) (hk : ∀ W vs, (callFunc k vs).run Try.prog W = .ok (.enter k vs) W)
    (hP : ∀ i, i < n → ∀ W, Below w.heap.size w W → Calls Try.prog k (#[.agg (Cs i)] ++ cap) W fun e w' => e = .returned (.bool (P i)) ∧ Below W.heap.size W w') {r : Bool} (hr : decide (0 ≤ idxP P n) = r) :
    Calls Try.prog 73 #[.slice ao n c, .func (.func k) #[] cap] w fun e w' => e = .returned (.bool r) ∧ Below w.heap.size w w' := by
  have E : Below w.heap.size w w := Below.refl _ _
  go_enter Try.func73, Try.ntmps73; refine wq fun Q hQ => ?_; refine sg (.bool false) 4 rfl rfl rfl rfl ?_; simp only [zp]; refine st_end ?_; subst hQ; refine wq fun Q hQ => ?_; refine sm (.slice ao n c) 5 rfl rfl rfl rfl ?_; simp only [zp]; refine sm (.func (.func k) #[] cap) 6 rfl rfl rfl rfl ?_; simp only [zp]; refine st_call (some 7) rfl rfl (idxQ_any k cap ao n c Cs P w h hn hk hP) (ex_call (f := 77) (vs := [(.slice ao n c), (.func (.func k) #[] cap)]) rfl (cf77 _) rfl) ?_; rintro e W1 ⟨rfl, B⟩; refine ⟨_, rfl, ?_⟩; simp only [zp]; replace E := below_next E B
  refine sv (.bool r) 8 rfl rfl (ex_bin (u := (.int .i64 (idxP P n))) (r := (.int .i64 0)) rfl rfl rfl (eg3 _ _ _ _ _ _) (geq3 _ hr)) ?_; simp only [zp]; refine sg (.bool r) 4 rfl rfl rfl rfl ?_; simp only [zp]; refine st_end ?_; subst hQ; refine wp_ret ?_; refine bodyPost_ret (results_tmp Try.results73 _ _ _) rfl ⟨rfl, E⟩
theorem not66 {b k : Nat} {cap : Array Value} {X : Array Value} (hX : X.size = 2) (w : World) (kb : w.heap[b]? = some (.cells #[(.func (.func k) #[] cap)] 91)) (hk : ∀ W vs, (callFunc k vs).run Try.prog W = .ok (.enter k vs) W)
    (hc : ∀ W, Below w.heap.size w W → Calls Try.prog k (#[.agg X] ++ cap) W fun e w' => e = .returned (.bool true) ∧ Below W.heap.size W w') :
    Calls Try.prog 66 (#[.agg X] ++ #[.pointer (some ⟨b, 0, none⟩)]) w fun e w' => e = .returned (.bool false) ∧ Below w.heap.size w w' := by
  show Calls Try.prog 66 #[.agg X, .pointer (some ⟨b, 0, none⟩)] w _
  have E : Below w.heap.size w w := Below.refl _ _
  go_enter Try.func66, Try.ntmps66; refine wq fun Q hQ => ?_; refine st_new (fun b => .pointer (some ⟨b, 0, none⟩)) (some 2) rfl rfl (ex_box rfl rfl) ?_; intro b1 W1 k1 g1 B; simp only [zp]
  have ne_b1_b : b1 ≠ b := fun e => by have := lt_of kb; omega
  have ge_b1 := Nat.le_trans E.size g1; replace E := below_next E B; replace kb := keep B kb; clear B; refine sg (.bool false) 3 rfl rfl rfl rfl ?_; simp only [zp]; refine st_end ?_; subst hQ; refine wq fun Q hQ => ?_; refine sv (.func (.func k) #[] cap) 4 rfl rfl (ex_load (p := (.pointer (some ⟨b, 0, none⟩))) rfl rfl (ld91 (at_cell kb rfl))) ?_; simp only [zp]; refine sv (.agg X) 5 rfl rfl (ex_load (p := (.pointer (some ⟨b1, 0, none⟩))) rfl rfl (ld_all k1 Try.underlying46 rfl (inf46.trans (congrArg some (hX).symm)))) ?_; simp only [zp]
  refine st_call (some 6) rfl rfl (hc W1 E) (ex_callv (f := k) (vs := [(.agg X)]) rfl rfl (hk _) rfl) ?_; rintro e W2 ⟨rfl, B⟩; refine ⟨_, rfl, ?_⟩; simp only [zp]; replace E := below_next E B; replace kb := keep B kb; replace k1 := keep B k1; refine sv (.bool false) 7 rfl rfl (ex_not rfl rfl rfl) ?_; simp only [zp]; refine sg (.bool false) 3 rfl rfl rfl rfl ?_; simp only [zp]; refine st_end ?_; subst hQ; refine wp_ret ?_; refine bodyPost_ret (results_tmp Try.results66 _ _ _) rfl ⟨rfl, E⟩
theorem not74 {b k : Nat} {cap : Array Value} {X : Array Value} (hX : X.size = 37) (w : World) (kb : w.heap[b]? = some (.cells #[(.func (.func k) #[] cap)] 95)) (hk : ∀ W vs, (callFunc k vs).run Try.prog W = .ok (.enter k vs) W)
    (hc : ∀ W, Below w.heap.size w W → Calls Try.prog k (#[.agg X] ++ cap) W fun e w' => e = .returned (.bool true) ∧ Below W.heap.size W w') :
    Calls Try.prog 74 (#[.agg X] ++ #[.pointer (some ⟨b, 0, none⟩)]) w fun e w' => e = .returned (.bool false) ∧ Below w.heap.size w w' := by
  show Calls Try.prog 74 #[.agg X, .pointer (some ⟨b, 0, none⟩)] w _
  have E : Below w.heap.size w w := Below.refl _ _
  go_enter Try.func74, Try.ntmps74; refine wq fun Q hQ => ?_; refine st_new (fun b => .pointer (some ⟨b, 0, none⟩)) (some 2) rfl rfl (ex_box rfl rfl) ?_; intro b1 W1 k1 g1 B; simp only [zp]
  have ne_b1_b : b1 ≠ b := fun e => by have := lt_of kb; omega
  have ge_b1 := Nat.le_trans E.size g1; replace E := below_next E B; replace kb := keep B kb; clear B; refine sg (.bool false) 3 rfl rfl rfl rfl ?_; simp only [zp]; refine st_end ?_; subst hQ; refine wq fun Q hQ => ?_; refine sv (.func (.func k) #[] cap) 4 rfl rfl (ex_load (p := (.pointer (some ⟨b, 0, none⟩))) rfl rfl (ld95 (at_cell kb rfl))) ?_; simp only [zp]; refine sv (.agg X) 5 rfl rfl (ex_load (p := (.pointer (some ⟨b1, 0, none⟩))) rfl rfl (ld_all k1 Try.underlying66 rfl (inf66.trans (congrArg some (hX).symm)))) ?_; simp only [zp]
  refine st_call (some 6) rfl rfl (hc W1 E) (ex_callv (f := k) (vs := [(.agg X)]) rfl rfl (hk _) rfl) ?_; rintro e W2 ⟨rfl, B⟩; refine ⟨_, rfl, ?_⟩; simp only [zp]; replace E := below_next E B; replace kb := keep B kb; replace k1 := keep B k1; refine sv (.bool false) 7 rfl rfl (ex_not rfl rfl rfl) ?_; simp only [zp]; refine sg (.bool false) 3 rfl rfl rfl rfl ?_; simp only [zp]; refine st_end ?_; subst hQ; refine wp_ret ?_; refine bodyPost_ret (results_tmp Try.results74 _ _ _) rfl ⟨rfl, E⟩
theorem not78 {b k : Nat} {cap : Array Value} {x : Int} (w : World) (kb : w.heap[b]? = some (.cells #[(.func (.func k) #[] cap)] 74)) (hk : ∀ W vs, (callFunc k vs).run Try.prog W = .ok (.enter k vs) W)
    (hc : ∀ W, Below w.heap.size w W → Calls Try.prog k (#[.int .i64 x] ++ cap) W fun e w' => e = .returned (.bool true) ∧ Below W.heap.size W w') :
    Calls Try.prog 78 (#[.int .i64 x] ++ #[.pointer (some ⟨b, 0, none⟩)]) w fun e w' => e = .returned (.bool false) ∧ Below w.heap.size w w' := by
  show Calls Try.prog 78 #[.int .i64 x, .pointer (some ⟨b, 0, none⟩)] w _
  have E : Below w.heap.size w w := Below.refl _ _
  go_enter Try.func78, Try.ntmps78; refine wq fun Q hQ => ?_; refine sg (.bool false) 3 rfl rfl rfl rfl ?_; simp only [zp]; refine st_end ?_; subst hQ; refine wq fun Q hQ => ?_; refine sv (.func (.func k) #[] cap) 4 rfl rfl (ex_load (p := (.pointer (some ⟨b, 0, none⟩))) rfl rfl (ld74 (at_cell kb rfl))) ?_; simp only [zp]; refine sm (.int .i64 x) 5 rfl rfl rfl rfl ?_; simp only [zp]; refine st_call (some 6) rfl rfl (hc w E) (ex_callv (f := k) (vs := [(.int .i64 x)]) rfl rfl (hk _) rfl) ?_; rintro e W1 ⟨rfl, B⟩; refine ⟨_, rfl, ?_⟩; simp only [zp]; replace E := below_next E B
  replace kb := keep B kb; refine sv (.bool false) 7 rfl rfl (ex_not rfl rfl rfl) ?_; simp only [zp]; refine sg (.bool false) 3 rfl rfl rfl rfl ?_; simp only [zp]; refine st_end ?_; subst hQ; refine wp_ret ?_; refine bodyPost_ret (results_tmp Try.results78 _ _ _) rfl ⟨rfl, E⟩
theorem idx_no (n : Nat) : decide (0 ≤ idxP (fun _ => false) n) = false := by
  rw [idxP_none fun _ _ => rfl]
  rfl
theorem all58 (k : Nat) (cap : Array Value) (ao : Option Addr) (n c : Nat) (Cs : Nat → Array Value) (w : World) (h : Rg w ao n 2 Cs) (hn : n ≤ 140737488355328) (hk : ∀ W vs, (callFunc k vs).run Try.prog W = .ok (.enter k vs) W)
    (hP : ∀ i, i < n → ∀ W, Below w.heap.size w W → Calls Try.prog k (#[.agg (Cs i)] ++ cap) W fun e w' => e = .returned (.bool true) ∧ Below W.heap.size W w') :
    Calls Try.prog 58 #[.slice ao n c, .func (.func k) #[] cap] w fun e w' => e = .returned (.bool true) ∧ Below w.heap.size w w' := by
  have E : Below w.heap.size w w := Below.refl _ _
  go_enter Try.func58, Try.ntmps58; refine wq fun Q hQ => ?_; refine st_new (fun b => .pointer (some ⟨b, 0, none⟩)) (some 3) rfl rfl (ex_boxf rfl rfl) ?_; intro b1 W1 k1 g1 B; simp only [zp]; have ge_b1 := Nat.le_trans E.size g1; replace E := below_next E B; clear B; refine sg (.bool false) 4 rfl rfl rfl rfl ?_; simp only [zp]; refine st_end ?_; subst hQ; refine wq fun Q hQ => ?_; refine sm (.slice ao n c) 5 rfl rfl rfl rfl ?_; simp only [zp]; refine sv (.func (.func 66) #[] #[(.pointer (some ⟨b1, 0, none⟩))]) 6 rfl rfl (ex_mkf rfl rfl) ?_; simp only [zp]
  refine st_call (some 7) rfl rfl (cont65 66 #[.pointer (some ⟨b1, 0, none⟩)] ao n c Cs (fun _ => false) W1 (h.below E) hn cf66' (fun i hi W' hW' => not66 (h.size hi) W' (keep hW' k1) hk (fun W2 hW2 => hP i hi W2 (below_next (below_next E hW') hW2))) (idx_no n)) (ex_call (f := 65) (vs := [(.slice ao n c), (.func (.func 66) #[] #[(.pointer (some ⟨b1, 0, none⟩))])]) rfl (cf65 _) rfl) ?_; rintro e W2 ⟨rfl, B⟩; refine ⟨_, rfl, ?_⟩; simp only [zp]; replace E := below_next E B; replace k1 := keep B k1; refine sv (.bool true) 8 rfl rfl (ex_not rfl rfl rfl) ?_; simp only [zp]
  refine sg (.bool true) 4 rfl rfl rfl rfl ?_; simp only [zp]; refine st_end ?_; subst hQ; refine wp_ret ?_; refine bodyPost_ret (results_tmp Try.results58 _ _ _) rfl ⟨rfl, E⟩
theorem all68 (k : Nat) (cap : Array Value) (ao : Option Addr) (n c : Nat) (Cs : Nat → Array Value) (w : World) (h : Rg w ao n 37 Cs) (hn : n ≤ 140737488355328) (hk : ∀ W vs, (callFunc k vs).run Try.prog W = .ok (.enter k vs) W)
    (hP : ∀ i, i < n → ∀ W, Below w.heap.size w W → Calls Try.prog k (#[.agg (Cs i)] ++ cap) W fun e w' => e = .returned (.bool true) ∧ Below W.heap.size W w') :
    Calls Try.prog 68 #[.slice ao n c, .func (.func k) #[] cap] w fun e w' => e = .returned (.bool true) ∧ Below w.heap.size w w' := by
  have E : Below w.heap.size w w := Below.refl _ _
  go_enter Try.func68, Try.ntmps68; refine wq fun Q hQ => ?_; refine st_new (fun b => .pointer (some ⟨b, 0, none⟩)) (some 3) rfl rfl (ex_boxf rfl rfl) ?_; intro b1 W1 k1 g1 B; simp only [zp]; have ge_b1 := Nat.le_trans E.size g1; replace E := below_next E B; clear B; refine sg (.bool false) 4 rfl rfl rfl rfl ?_; simp only [zp]; refine st_end ?_; subst hQ; refine wq fun Q hQ => ?_; refine sm (.slice ao n c) 5 rfl rfl rfl rfl ?_; simp only [zp]; refine sv (.func (.func 74) #[] #[(.pointer (some ⟨b1, 0, none⟩))]) 6 rfl rfl (ex_mkf rfl rfl) ?_; simp only [zp]
  refine st_call (some 7) rfl rfl (cont73 74 #[.pointer (some ⟨b1, 0, none⟩)] ao n c Cs (fun _ => false) W1 (h.below E) hn cf74' (fun i hi W' hW' => not74 (h.size hi) W' (keep hW' k1) hk (fun W2 hW2 => hP i hi W2 (below_next (below_next E hW') hW2))) (idx_no n)) (ex_call (f := 73) (vs := [(.slice ao n c), (.func (.func 74) #[] #[(.pointer (some ⟨b1, 0, none⟩))])]) rfl (cf73 _) rfl) ?_; rintro e W2 ⟨rfl, B⟩; refine ⟨_, rfl, ?_⟩; simp only [zp]; replace E := below_next E B; replace k1 := keep B k1; refine sv (.bool true) 8 rfl rfl (ex_not rfl rfl rfl) ?_; simp only [zp]
  refine sg (.bool true) 4 rfl rfl rfl rfl ?_; simp only [zp]; refine st_end ?_; subst hQ; refine wp_ret ?_; refine bodyPost_ret (results_tmp Try.results68 _ _ _) rfl ⟨rfl, E⟩
theorem all75 (k : Nat) (cap : Array Value) (ao : Option Addr) (n c : Nat) (z : Nat → Int) (w : World) (h : Ns w ao n z) (hn : n ≤ 140737488355328) (hk : ∀ W vs, (callFunc k vs).run Try.prog W = .ok (.enter k vs) W)
    (hP : ∀ i, i < n → ∀ W, Below w.heap.size w W → Calls Try.prog k (#[.int .i64 (z i)] ++ cap) W fun e w' => e = .returned (.bool true) ∧ Below W.heap.size W w') :
    Calls Try.prog 75 #[.slice ao n c, .func (.func k) #[] cap] w fun e w' => e = .returned (.bool true) ∧ Below w.heap.size w w' := by
  have E : Below w.heap.size w w := Below.refl _ _
  go_enter Try.func75, Try.ntmps75; refine wq fun Q hQ => ?_; refine st_new (fun b => .pointer (some ⟨b, 0, none⟩)) (some 3) rfl rfl (ex_boxf rfl rfl) ?_; intro b1 W1 k1 g1 B; simp only [zp]; have ge_b1 := Nat.le_trans E.size g1; replace E := below_next E B; clear B; refine sg (.bool false) 4 rfl rfl rfl rfl ?_; simp only [zp]; refine st_end ?_; subst hQ; refine wq fun Q hQ => ?_; refine sm (.slice ao n c) 5 rfl rfl rfl rfl ?_; simp only [zp]; refine sv (.func (.func 78) #[] #[(.pointer (some ⟨b1, 0, none⟩))]) 6 rfl rfl (ex_mkf rfl rfl) ?_; simp only [zp]
  refine st_call (some 7) rfl rfl (cont51 78 #[.pointer (some ⟨b1, 0, none⟩)] ao n c z (fun _ => false) W1 (h.below E) hn cf78' (fun i hi W' hW' => not78  W' (keep hW' k1) hk (fun W2 hW2 => hP i hi W2 (below_next (below_next E hW') hW2))) (idx_no n)) (ex_call (f := 51) (vs := [(.slice ao n c), (.func (.func 78) #[] #[(.pointer (some ⟨b1, 0, none⟩))])]) rfl (cf51 _) rfl) ?_; rintro e W2 ⟨rfl, B⟩; refine ⟨_, rfl, ?_⟩; simp only [zp]; replace E := below_next E B; replace k1 := keep B k1; refine sv (.bool true) 8 rfl rfl (ex_not rfl rfl rfl) ?_; simp only [zp]
  refine sg (.bool true) 4 rfl rfl rfl rfl ?_; simp only [zp]; refine st_end ?_; subst hQ; refine wp_ret ?_; refine bodyPost_ret (results_tmp Try.results75 _ _ _) rfl ⟨rfl, E⟩
end Go.Proofs.Ytkhpbjafdamhaaa
