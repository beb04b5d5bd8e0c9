/- The small functions of graph; policy.May. -/
import Derived.Test.YtgnkcmmpbohafaaGEs
namespace Go.Proofs.Ytgnkcmmpbohafaa
open Go.RowKit
set_option linter.unusedVariables false
set_option linter.unusedSimpArgs false
set_option maxRecDepth 100000

theorem ldF {W : World} {bl : Nat} {q : RV} (k : W.heap[bl]? = some (.cells (RL q) 45)) : (Instr.loadAt 43 (.pointer (some ⟨bl, 0, none⟩))).run Try.prog W = .ok (.agg (FL q)) W := ld_part (o := 0) (n := 2) k (by show 0 + 2 ≤ _; simp [RL]) Try.underlying43 rfl inf43
theorem ldER {W : World} {bl : Nat} {e : EV} (k : W.heap[bl]? = some (.cells (EL e) 49)) : (Instr.loadAt 45 (.pointer (some ⟨bl, 4, none⟩))).run Try.prog W = .ok (.agg (RL e.q)) W := ld_part (o := 4) (n := 5) k (by show 4 + 5 ≤ _; simp [EL]) Try.underlying45 rfl inf45
theorem ldEP {W : World} {bl : Nat} {e : EV} (k : W.heap[bl]? = some (.cells (EL e) 49)) : (Instr.loadAt 47 (.pointer (some ⟨bl, 9, none⟩))).run Try.prog W = .ok (.agg (PL e.p)) W := ld_part (o := 9) (n := 4) k (by show 9 + 4 ≤ _; simp [EL]) Try.underlying47 rfl inf47
theorem fee0 (b r : Int) (hb : b ≤ 9223372036854775807) : feeE b r 0 = if rightB b r then 0 else 1 := by
  unfold feeE
  by_cases h : rightB b r = true
  · have hr : 0 ≤ b ∧ 0 ≤ r ∧ r ≤ 1000000 := of_decide_eq_true h
    rw [if_pos ⟨h, by decide⟩, if_pos h]
    unfold addE
    simp
    omega
  · rw [if_neg (fun q => h q.1), if_neg h]
section
variable {o : Oper} {a : Act} {W : World}
theorem ex_nil {x : Operand} {p : Value} {ad : Addr} (ho : o.op = .nilCheck x) (hx : a.eval x = p) (hp : p = .pointer (some ad)) : (execOp a.eval o).run Try.prog W = .ok (.value p) W := by
  subst hp
  unfold execOp
  simp only [ho, hx]
  go_simp
theorem ex_pnil {x y : Operand} {t t2 : Nat} {c : Bool} {p : Option Addr} (ho : o.op = .binOp .eql 23 x y t2) (hx : a.eval x = .pointer p) (hy : a.eval y = .pointer none) (hc : p.isNone = c) : (execOp a.eval o).run Try.prog W = .ok (.value (.bool c)) W := by
  subst hc
  unfold execOp
  simp only [ho, hx, hy]
  cases p <;> go_simp
theorem ex_snil {x y : Operand} {t t2 : Nat} {c : Bool} {p : Option Addr} {n m : Nat} (ho : o.op = .binOp .eql 33 x y t2) (hx : a.eval x = .slice p n m) (hy : a.eval y = .slice none 0 0) (hc : p.isNone = c) : (execOp a.eval o).run Try.prog W = .ok (.value (.bool c)) W := by
  subst hc
  have hq : (eqGuard .eql 33 x y (.slice p n m) (.slice none 0 0)).run Try.prog W = .ok () W := by rfl
  have h : ∀ d, (Op.equalIn (d + 1) 33 (.slice p n m) (.slice none 0 0)).run Try.prog W = .ok p.isNone W := fun d => by cases p <;> simp [Op.equalIn, run_underlying Try.underlying33]
  refine ex_bin ho hx hy hq ?_
  simp only [binOp]
  simp [Op.equal, Op.maxDepth, h 9999]
end
set_option maxHeartbeats 4000000 in
theorem node_any (n : Int) (w : World) {c : Bool} (hc : nodeB n = c) : Calls Try.prog 93 #[.int .i64 n] w fun e w' => e = .returned (.bool c) ∧ Below w.heap.size w w' := by
  subst hc
  by_cases e0 : 0 ≤ n
  · skip
    by_cases e1 : n < 8
    · skip
      have E : Below w.heap.size w w := Below.refl _ _
      go_enter Try.func93, Try.ntmps93
      refine wq fun Q hQ => ?_
      refine sg (.bool false) 2 rfl rfl rfl rfl ?_
      simp only [zp]
      refine st_end ?_
      subst hQ
      refine wq fun Q hQ => ?_
      refine sm (.int .i64 n) 3 rfl rfl rfl rfl ?_
      simp only [zp]
      refine sv (.bool true) 4 rfl rfl (ex_bin (u := (.int .i64 n)) (r := (.int .i64 0)) rfl rfl rfl (eg3 _ _ _ _ _ _) (geq3 _ (decide_eq_true (by omega)))) ?_
      simp only [zp]
      refine sm (.bool true) 5 rfl rfl rfl rfl ?_
      simp only [zp]
      refine sm (.int .i64 n) 6 rfl rfl rfl rfl ?_
      simp only [zp]
      refine sv (.bool true) 7 rfl rfl (ex_bin (u := (.int .i64 n)) (r := (.int .i64 8)) rfl rfl rfl (eg3 _ _ _ _ _ _) (lss3 _ (decide_eq_true (by omega)))) ?_
      simp only [zp]
      refine sv (.bool true) 8 rfl rfl (ex_pkT rfl rfl rfl) ?_
      simp only [zp]
      refine sg (.bool true) 2 rfl rfl rfl rfl ?_
      simp only [zp]
      refine st_end ?_
      subst hQ
      refine wp_ret ?_
      repeat (first | refine ret_out ?_ | refine ret_blk ?_)
      refine bodyPost_ret (results_tmp Try.results93 _ _ _) rfl ⟨?_, E⟩
      show Ending.returned (.bool true) = _
      simp [nodeB, e0, e1]
    · skip
      have E : Below w.heap.size w w := Below.refl _ _
      go_enter Try.func93, Try.ntmps93
      refine wq fun Q hQ => ?_
      refine sg (.bool false) 2 rfl rfl rfl rfl ?_
      simp only [zp]
      refine st_end ?_
      subst hQ
      refine wq fun Q hQ => ?_
      refine sm (.int .i64 n) 3 rfl rfl rfl rfl ?_
      simp only [zp]
      refine sv (.bool true) 4 rfl rfl (ex_bin (u := (.int .i64 n)) (r := (.int .i64 0)) rfl rfl rfl (eg3 _ _ _ _ _ _) (geq3 _ (decide_eq_true (by omega)))) ?_
      simp only [zp]
      refine sm (.bool true) 5 rfl rfl rfl rfl ?_
      simp only [zp]
      refine sm (.int .i64 n) 6 rfl rfl rfl rfl ?_
      simp only [zp]
      refine sv (.bool false) 7 rfl rfl (ex_bin (u := (.int .i64 n)) (r := (.int .i64 8)) rfl rfl rfl (eg3 _ _ _ _ _ _) (lss3 _ (decide_eq_false (by omega)))) ?_
      simp only [zp]
      refine sv (.bool false) 8 rfl rfl (ex_pkT rfl rfl rfl) ?_
      simp only [zp]
      refine sg (.bool false) 2 rfl rfl rfl rfl ?_
      simp only [zp]
      refine st_end ?_
      subst hQ
      refine wp_ret ?_
      repeat (first | refine ret_out ?_ | refine ret_blk ?_)
      refine bodyPost_ret (results_tmp Try.results93 _ _ _) rfl ⟨?_, E⟩
      show Ending.returned (.bool false) = _
      simp [nodeB, e0, e1]
  · skip
    have E : Below w.heap.size w w := Below.refl _ _
    go_enter Try.func93, Try.ntmps93
    refine wq fun Q hQ => ?_
    refine sg (.bool false) 2 rfl rfl rfl rfl ?_
    simp only [zp]
    refine st_end ?_
    subst hQ
    refine wq fun Q hQ => ?_
    refine sm (.int .i64 n) 3 rfl rfl rfl rfl ?_
    simp only [zp]
    refine sv (.bool false) 4 rfl rfl (ex_bin (u := (.int .i64 n)) (r := (.int .i64 0)) rfl rfl rfl (eg3 _ _ _ _ _ _) (geq3 _ (decide_eq_false (by omega)))) ?_
    simp only [zp]
    refine sm (.bool false) 5 rfl rfl rfl rfl ?_
    simp only [zp]
    refine sn 6 rfl rfl ?_
    simp only [zp]
    refine sn 7 rfl rfl ?_
    simp only [zp]
    refine sv (.bool false) 8 rfl rfl (ex_pkF rfl rfl rfl) ?_
    simp only [zp]
    refine sg (.bool false) 2 rfl rfl rfl rfl ?_
    simp only [zp]
    refine st_end ?_
    subst hQ
    refine wp_ret ?_
    repeat (first | refine ret_out ?_ | refine ret_blk ?_)
    refine bodyPost_ret (results_tmp Try.results93 _ _ _) rfl ⟨?_, E⟩
    show Ending.returned (.bool false) = _
    simp [nodeB, e0]
set_option maxHeartbeats 4000000 in
theorem chan_any (n : Int) (w : World) {c : Bool} (hc : chanB n = c) : Calls Try.prog 85 #[.int .i64 n] w fun e w' => e = .returned (.bool c) ∧ Below w.heap.size w w' := by
  subst hc
  by_cases e0 : 1 ≤ n
  · skip
    by_cases e1 : n ≤ 65535
    · skip
      have E : Below w.heap.size w w := Below.refl _ _
      go_enter Try.func85, Try.ntmps85
      refine wq fun Q hQ => ?_
      refine sg (.bool false) 2 rfl rfl rfl rfl ?_
      simp only [zp]
      refine st_end ?_
      subst hQ
      refine wq fun Q hQ => ?_
      refine sm (.int .i64 n) 3 rfl rfl rfl rfl ?_
      simp only [zp]
      refine sv (.bool true) 4 rfl rfl (ex_bin (u := (.int .i64 n)) (r := (.int .i64 1)) rfl rfl rfl (eg3 _ _ _ _ _ _) (geq3 _ (decide_eq_true (by omega)))) ?_
      simp only [zp]
      refine sm (.bool true) 5 rfl rfl rfl rfl ?_
      simp only [zp]
      refine sm (.int .i64 n) 6 rfl rfl rfl rfl ?_
      simp only [zp]
      refine sv (.bool true) 7 rfl rfl (ex_bin (u := (.int .i64 n)) (r := (.int .i64 65535)) rfl rfl rfl (eg3 _ _ _ _ _ _) (leq3 _ (decide_eq_true (by omega)))) ?_
      simp only [zp]
      refine sv (.bool true) 8 rfl rfl (ex_pkT rfl rfl rfl) ?_
      simp only [zp]
      refine sg (.bool true) 2 rfl rfl rfl rfl ?_
      simp only [zp]
      refine st_end ?_
      subst hQ
      refine wp_ret ?_
      repeat (first | refine ret_out ?_ | refine ret_blk ?_)
      refine bodyPost_ret (results_tmp Try.results85 _ _ _) rfl ⟨?_, E⟩
      show Ending.returned (.bool true) = _
      simp [chanB, e0, e1]
    · skip
      have E : Below w.heap.size w w := Below.refl _ _
      go_enter Try.func85, Try.ntmps85
      refine wq fun Q hQ => ?_
      refine sg (.bool false) 2 rfl rfl rfl rfl ?_
      simp only [zp]
      refine st_end ?_
      subst hQ
      refine wq fun Q hQ => ?_
      refine sm (.int .i64 n) 3 rfl rfl rfl rfl ?_
      simp only [zp]
      refine sv (.bool true) 4 rfl rfl (ex_bin (u := (.int .i64 n)) (r := (.int .i64 1)) rfl rfl rfl (eg3 _ _ _ _ _ _) (geq3 _ (decide_eq_true (by omega)))) ?_
      simp only [zp]
      refine sm (.bool true) 5 rfl rfl rfl rfl ?_
      simp only [zp]
      refine sm (.int .i64 n) 6 rfl rfl rfl rfl ?_
      simp only [zp]
      refine sv (.bool false) 7 rfl rfl (ex_bin (u := (.int .i64 n)) (r := (.int .i64 65535)) rfl rfl rfl (eg3 _ _ _ _ _ _) (leq3 _ (decide_eq_false (by omega)))) ?_
      simp only [zp]
      refine sv (.bool false) 8 rfl rfl (ex_pkT rfl rfl rfl) ?_
      simp only [zp]
      refine sg (.bool false) 2 rfl rfl rfl rfl ?_
      simp only [zp]
      refine st_end ?_
      subst hQ
      refine wp_ret ?_
      repeat (first | refine ret_out ?_ | refine ret_blk ?_)
      refine bodyPost_ret (results_tmp Try.results85 _ _ _) rfl ⟨?_, E⟩
      show Ending.returned (.bool false) = _
      simp [chanB, e0, e1]
  · skip
    have E : Below w.heap.size w w := Below.refl _ _
    go_enter Try.func85, Try.ntmps85
    refine wq fun Q hQ => ?_
    refine sg (.bool false) 2 rfl rfl rfl rfl ?_
    simp only [zp]
    refine st_end ?_
    subst hQ
    refine wq fun Q hQ => ?_
    refine sm (.int .i64 n) 3 rfl rfl rfl rfl ?_
    simp only [zp]
    refine sv (.bool false) 4 rfl rfl (ex_bin (u := (.int .i64 n)) (r := (.int .i64 1)) rfl rfl rfl (eg3 _ _ _ _ _ _) (geq3 _ (decide_eq_false (by omega)))) ?_
    simp only [zp]
    refine sm (.bool false) 5 rfl rfl rfl rfl ?_
    simp only [zp]
    refine sn 6 rfl rfl ?_
    simp only [zp]
    refine sn 7 rfl rfl ?_
    simp only [zp]
    refine sv (.bool false) 8 rfl rfl (ex_pkF rfl rfl rfl) ?_
    simp only [zp]
    refine sg (.bool false) 2 rfl rfl rfl rfl ?_
    simp only [zp]
    refine st_end ?_
    subst hQ
    refine wp_ret ?_
    repeat (first | refine ret_out ?_ | refine ret_blk ?_)
    refine bodyPost_ret (results_tmp Try.results85 _ _ _) rfl ⟨?_, E⟩
    show Ending.returned (.bool false) = _
    simp [chanB, e0]
set_option maxHeartbeats 4000000 in
theorem amt_any (n : Int) (w : World) (hn : n ≤ 9223372036854775807) {c : Bool} (hc : decide (0 ≤ n) = c) : Calls Try.prog 73 #[.int .i64 n] w fun e w' => e = .returned (.bool c) ∧ Below w.heap.size w w' := by
  subst hc
  by_cases e0 : 0 ≤ n
  · skip
    have E : Below w.heap.size w w := Below.refl _ _
    go_enter Try.func73, Try.ntmps73
    refine wq fun Q hQ => ?_
    refine sg (.bool false) 2 rfl rfl rfl rfl ?_
    simp only [zp]
    refine st_end ?_
    subst hQ
    refine wq fun Q hQ => ?_
    refine sm (.int .i64 n) 3 rfl rfl rfl rfl ?_
    simp only [zp]
    refine sv (.bool true) 4 rfl rfl (ex_bin (u := (.int .i64 n)) (r := (.int .i64 0)) rfl rfl rfl (eg3 _ _ _ _ _ _) (geq3 _ (decide_eq_true (by omega)))) ?_
    simp only [zp]
    refine sm (.bool true) 5 rfl rfl rfl rfl ?_
    simp only [zp]
    refine sm (.int .i64 n) 6 rfl rfl rfl rfl ?_
    simp only [zp]
    refine sv (.bool true) 7 rfl rfl (ex_bin (u := (.int .i64 n)) (r := (.int .i64 9223372036854775807)) rfl rfl rfl (eg3 _ _ _ _ _ _) (leq3 _ (decide_eq_true (by omega)))) ?_
    simp only [zp]
    refine sv (.bool true) 8 rfl rfl (ex_pkT rfl rfl rfl) ?_
    simp only [zp]
    refine sg (.bool true) 2 rfl rfl rfl rfl ?_
    simp only [zp]
    refine st_end ?_
    subst hQ
    refine wp_ret ?_
    repeat (first | refine ret_out ?_ | refine ret_blk ?_)
    refine bodyPost_ret (results_tmp Try.results73 _ _ _) rfl ⟨?_, E⟩
    show Ending.returned (.bool true) = _
    simp [e0]
  · skip
    have E : Below w.heap.size w w := Below.refl _ _
    go_enter Try.func73, Try.ntmps73
    refine wq fun Q hQ => ?_
    refine sg (.bool false) 2 rfl rfl rfl rfl ?_
    simp only [zp]
    refine st_end ?_
    subst hQ
    refine wq fun Q hQ => ?_
    refine sm (.int .i64 n) 3 rfl rfl rfl rfl ?_
    simp only [zp]
    refine sv (.bool false) 4 rfl rfl (ex_bin (u := (.int .i64 n)) (r := (.int .i64 0)) rfl rfl rfl (eg3 _ _ _ _ _ _) (geq3 _ (decide_eq_false (by omega)))) ?_
    simp only [zp]
    refine sm (.bool false) 5 rfl rfl rfl rfl ?_
    simp only [zp]
    refine sn 6 rfl rfl ?_
    simp only [zp]
    refine sn 7 rfl rfl ?_
    simp only [zp]
    refine sv (.bool false) 8 rfl rfl (ex_pkF rfl rfl rfl) ?_
    simp only [zp]
    refine sg (.bool false) 2 rfl rfl rfl rfl ?_
    simp only [zp]
    refine st_end ?_
    subst hQ
    refine wp_ret ?_
    repeat (first | refine ret_out ?_ | refine ret_blk ?_)
    refine bodyPost_ret (results_tmp Try.results73 _ _ _) rfl ⟨?_, E⟩
    show Ending.returned (.bool false) = _
    simp [e0]
set_option maxHeartbeats 4000000 in
theorem two_any (x y : Int) (w : World) {c : Bool} (hc : (nodeB x && nodeB y && decide (¬ x = y)) = c) : Calls Try.prog 72 #[.int .i64 x, .int .i64 y] w fun e w' => e = .returned (.bool c) ∧ Below w.heap.size w w' := by
  subst hc
  by_cases e0 : nodeB x = true
  · skip
    by_cases e1 : nodeB y = true
    · skip
      by_cases e2 : x = y
      · skip
        have E : Below w.heap.size w w := Below.refl _ _
        go_enter Try.func72, Try.ntmps72
        refine wq fun Q hQ => ?_
        refine sg (.bool false) 4 rfl rfl rfl rfl ?_
        simp only [zp]
        refine st_end ?_
        subst hQ
        refine wq fun Q hQ => ?_
        refine sm (.int .i64 x) 5 rfl rfl rfl rfl ?_
        simp only [zp]
        refine st_call (some 6) rfl rfl (node_any x w e0) (ex_call (f := 93) (vs := [(.int .i64 x)]) rfl (cf93 _) rfl) ?_
        rintro e W1 ⟨rfl, B⟩
        refine ⟨_, rfl, ?_⟩
        simp only [zp]
        replace E := below_next E B
        refine sm (.bool true) 7 rfl rfl rfl rfl ?_
        simp only [zp]
        refine sm (.int .i64 y) 8 rfl rfl rfl rfl ?_
        simp only [zp]
        refine st_call (some 9) rfl rfl (node_any y W1 e1) (ex_call (f := 93) (vs := [(.int .i64 y)]) rfl (cf93 _) rfl) ?_
        rintro e W2 ⟨rfl, B⟩
        refine ⟨_, rfl, ?_⟩
        simp only [zp]
        replace E := below_next E B
        refine sv (.bool true) 10 rfl rfl (ex_pkT rfl rfl rfl) ?_
        simp only [zp]
        refine sm (.bool true) 11 rfl rfl rfl rfl ?_
        simp only [zp]
        refine sm (.int .i64 x) 12 rfl rfl rfl rfl ?_
        simp only [zp]
        refine sm (.int .i64 y) 13 rfl rfl rfl rfl ?_
        simp only [zp]
        refine sv (.bool false) 14 rfl rfl (ex_bin (u := (.int .i64 x)) (r := (.int .i64 y)) rfl rfl rfl (eg3 _ _ _ _ _ _) (neq3 _ (decide_eq_false (by omega)))) ?_
        simp only [zp]
        refine sv (.bool false) 15 rfl rfl (ex_pkT rfl rfl rfl) ?_
        simp only [zp]
        refine sg (.bool false) 4 rfl rfl rfl rfl ?_
        simp only [zp]
        refine st_end ?_
        subst hQ
        refine wp_ret ?_
        repeat (first | refine ret_out ?_ | refine ret_blk ?_)
        refine bodyPost_ret (results_tmp Try.results72 _ _ _) rfl ⟨?_, E⟩
        show Ending.returned (.bool false) = _
        simp [e0, e1, e2]
      · skip
        have E : Below w.heap.size w w := Below.refl _ _
        go_enter Try.func72, Try.ntmps72
        refine wq fun Q hQ => ?_
        refine sg (.bool false) 4 rfl rfl rfl rfl ?_
        simp only [zp]
        refine st_end ?_
        subst hQ
        refine wq fun Q hQ => ?_
        refine sm (.int .i64 x) 5 rfl rfl rfl rfl ?_
        simp only [zp]
        refine st_call (some 6) rfl rfl (node_any x w e0) (ex_call (f := 93) (vs := [(.int .i64 x)]) rfl (cf93 _) rfl) ?_
        rintro e W1 ⟨rfl, B⟩
        refine ⟨_, rfl, ?_⟩
        simp only [zp]
        replace E := below_next E B
        refine sm (.bool true) 7 rfl rfl rfl rfl ?_
        simp only [zp]
        refine sm (.int .i64 y) 8 rfl rfl rfl rfl ?_
        simp only [zp]
        refine st_call (some 9) rfl rfl (node_any y W1 e1) (ex_call (f := 93) (vs := [(.int .i64 y)]) rfl (cf93 _) rfl) ?_
        rintro e W2 ⟨rfl, B⟩
        refine ⟨_, rfl, ?_⟩
        simp only [zp]
        replace E := below_next E B
        refine sv (.bool true) 10 rfl rfl (ex_pkT rfl rfl rfl) ?_
        simp only [zp]
        refine sm (.bool true) 11 rfl rfl rfl rfl ?_
        simp only [zp]
        refine sm (.int .i64 x) 12 rfl rfl rfl rfl ?_
        simp only [zp]
        refine sm (.int .i64 y) 13 rfl rfl rfl rfl ?_
        simp only [zp]
        refine sv (.bool true) 14 rfl rfl (ex_bin (u := (.int .i64 x)) (r := (.int .i64 y)) rfl rfl rfl (eg3 _ _ _ _ _ _) (neq3 _ (decide_eq_true (by omega)))) ?_
        simp only [zp]
        refine sv (.bool true) 15 rfl rfl (ex_pkT rfl rfl rfl) ?_
        simp only [zp]
        refine sg (.bool true) 4 rfl rfl rfl rfl ?_
        simp only [zp]
        refine st_end ?_
        subst hQ
        refine wp_ret ?_
        repeat (first | refine ret_out ?_ | refine ret_blk ?_)
        refine bodyPost_ret (results_tmp Try.results72 _ _ _) rfl ⟨?_, E⟩
        show Ending.returned (.bool true) = _
        simp [e0, e1, e2]
    · skip
      replace e1 := Bool.eq_false_iff.2 e1
      have E : Below w.heap.size w w := Below.refl _ _
      go_enter Try.func72, Try.ntmps72
      refine wq fun Q hQ => ?_
      refine sg (.bool false) 4 rfl rfl rfl rfl ?_
      simp only [zp]
      refine st_end ?_
      subst hQ
      refine wq fun Q hQ => ?_
      refine sm (.int .i64 x) 5 rfl rfl rfl rfl ?_
      simp only [zp]
      refine st_call (some 6) rfl rfl (node_any x w e0) (ex_call (f := 93) (vs := [(.int .i64 x)]) rfl (cf93 _) rfl) ?_
      rintro e W1 ⟨rfl, B⟩
      refine ⟨_, rfl, ?_⟩
      simp only [zp]
      replace E := below_next E B
      refine sm (.bool true) 7 rfl rfl rfl rfl ?_
      simp only [zp]
      refine sm (.int .i64 y) 8 rfl rfl rfl rfl ?_
      simp only [zp]
      refine st_call (some 9) rfl rfl (node_any y W1 e1) (ex_call (f := 93) (vs := [(.int .i64 y)]) rfl (cf93 _) rfl) ?_
      rintro e W2 ⟨rfl, B⟩
      refine ⟨_, rfl, ?_⟩
      simp only [zp]
      replace E := below_next E B
      refine sv (.bool false) 10 rfl rfl (ex_pkT rfl rfl rfl) ?_
      simp only [zp]
      refine sm (.bool false) 11 rfl rfl rfl rfl ?_
      simp only [zp]
      refine sn 12 rfl rfl ?_
      simp only [zp]
      refine sn 13 rfl rfl ?_
      simp only [zp]
      refine sn 14 rfl rfl ?_
      simp only [zp]
      refine sv (.bool false) 15 rfl rfl (ex_pkF rfl rfl rfl) ?_
      simp only [zp]
      refine sg (.bool false) 4 rfl rfl rfl rfl ?_
      simp only [zp]
      refine st_end ?_
      subst hQ
      refine wp_ret ?_
      repeat (first | refine ret_out ?_ | refine ret_blk ?_)
      refine bodyPost_ret (results_tmp Try.results72 _ _ _) rfl ⟨?_, E⟩
      show Ending.returned (.bool false) = _
      simp [e0, e1]
  · skip
    replace e0 := Bool.eq_false_iff.2 e0
    have E : Below w.heap.size w w := Below.refl _ _
    go_enter Try.func72, Try.ntmps72
    refine wq fun Q hQ => ?_
    refine sg (.bool false) 4 rfl rfl rfl rfl ?_
    simp only [zp]
    refine st_end ?_
    subst hQ
    refine wq fun Q hQ => ?_
    refine sm (.int .i64 x) 5 rfl rfl rfl rfl ?_
    simp only [zp]
    refine st_call (some 6) rfl rfl (node_any x w e0) (ex_call (f := 93) (vs := [(.int .i64 x)]) rfl (cf93 _) rfl) ?_
    rintro e W1 ⟨rfl, B⟩
    refine ⟨_, rfl, ?_⟩
    simp only [zp]
    replace E := below_next E B
    refine sm (.bool false) 7 rfl rfl rfl rfl ?_
    simp only [zp]
    refine sn 8 rfl rfl ?_
    simp only [zp]
    refine sn 9 rfl rfl ?_
    simp only [zp]
    refine sv (.bool false) 10 rfl rfl (ex_pkF rfl rfl rfl) ?_
    simp only [zp]
    refine sm (.bool false) 11 rfl rfl rfl rfl ?_
    simp only [zp]
    refine sn 12 rfl rfl ?_
    simp only [zp]
    refine sn 13 rfl rfl ?_
    simp only [zp]
    refine sn 14 rfl rfl ?_
    simp only [zp]
    refine sv (.bool false) 15 rfl rfl (ex_pkF rfl rfl rfl) ?_
    simp only [zp]
    refine sg (.bool false) 4 rfl rfl rfl rfl ?_
    simp only [zp]
    refine st_end ?_
    subst hQ
    refine wp_ret ?_
    repeat (first | refine ret_out ?_ | refine ret_blk ?_)
    refine bodyPost_ret (results_tmp Try.results72 _ _ _) rfl ⟨?_, E⟩
    show Ending.returned (.bool false) = _
    simp [e0]
set_option maxHeartbeats 4000000 in
theorem may_any {q : RV} (w : World) (hb : q.b ≤ 9223372036854775807) {c : Bool} (hc : mayR q = c) : Calls Try.prog 82 #[.agg (RL q)] w fun e w' => e = .returned (.bool c) ∧ Below w.heap.size w w' := by
  subst hc
  have hf := fee0 q.b q.r hb
  by_cases e0 : rightB q.b q.r = true
  · skip
    by_cases e1 : 1 ≤ q.d
    · skip
      by_cases e2 : q.d ≤ 1000
      · skip
        by_cases e3 : 0 ≤ q.g
        · skip
          by_cases e4 : q.g ≤ 1000
          · skip
            by_cases e5 : 1 ≤ q.f
            · skip
              by_cases e6 : q.f ≤ 2147483647
              · skip
                have E : Below w.heap.size w w := Below.refl _ _
                go_enter Try.func82, Try.ntmps82
                refine wq fun Q hQ => ?_
                refine st_new (fun b => .pointer (some ⟨b, 0, none⟩)) (some 1) rfl rfl (ex_box rfl rfl) ?_
                intro b1 W1 k1 g1 B
                simp only [zp]
                have ge_b1 := Nat.le_trans E.size g1
                replace E := below_next E B
                clear B
                refine sg (.bool false) 2 rfl rfl rfl rfl ?_
                simp only [zp]
                refine st_end ?_
                subst hQ
                refine wq fun Q hQ => ?_
                refine sv (.pointer (some ⟨b1, 0, none⟩)) 6 rfl rfl (ex_fa (p := (.pointer (some ⟨b1, 0, none⟩))) rfl rfl (fa45_0 _ _)) ?_
                simp only [zp]
                refine sv (.agg (FL q)) 7 rfl rfl (ex_load (p := (.pointer (some ⟨b1, 0, none⟩))) rfl rfl (ldF k1)) ?_
                simp only [zp]
                refine st_call (some 8) rfl rfl (fee_any q.b q.r 0 W1 hb (by decide)) (ex_call (f := 94) (vs := [(.agg (FL q)), (.int .i64 0)]) rfl (cf94 _) rfl) ?_
                rintro e W2 ⟨rfl, B⟩
                refine ⟨_, rfl, ?_⟩
                simp only [zp]
                replace E := below_next E B
                replace k1 := keep B k1
                refine sm (.tuple #[(.int .i64 (feeN q.b q.r 0)), (.int .i64 (feeE q.b q.r 0))]) 5 rfl rfl rfl rfl ?_
                simp only [zp]
                refine sv (.int .i64 (feeN q.b q.r 0)) 9 rfl rfl (ex_ext rfl rfl rfl) ?_
                simp only [zp]
                refine sv (.int .i64 (feeE q.b q.r 0)) 10 rfl rfl (ex_ext rfl rfl rfl) ?_
                simp only [zp]
                refine sg (.int .i64 (feeN q.b q.r 0)) 3 rfl rfl rfl rfl ?_
                simp only [zp]
                refine sg (.int .i64 (feeE q.b q.r 0)) 4 rfl rfl rfl rfl ?_
                simp only [zp]
                refine st_end ?_
                subst hQ
                refine wq fun Q hQ => ?_
                refine sm (.int .i64 (feeE q.b q.r 0)) 11 rfl rfl rfl rfl ?_
                simp only [zp]
                refine sv (.bool true) 12 rfl rfl (ex_bin (u := (.int .i64 (feeE q.b q.r 0))) (r := (.int .i64 0)) rfl rfl rfl (eg37 _ _ _ _ _ _) (eql37 _ (decide_eq_true (by rw [hf, e0]; rfl)))) ?_
                simp only [zp]
                refine sm (.bool true) 13 rfl rfl rfl rfl ?_
                simp only [zp]
                refine sv (.pointer (some ⟨b1, 2, none⟩)) 14 rfl rfl (ex_fa (p := (.pointer (some ⟨b1, 0, none⟩))) rfl rfl (fa45_1 _ _)) ?_
                simp only [zp]
                refine sv (.int .i64 q.d) 15 rfl rfl (ex_load (p := (.pointer (some ⟨b1, 2, none⟩))) rfl rfl (ld3 (at_cell k1 rfl))) ?_
                simp only [zp]
                refine sv (.bool true) 16 rfl rfl (ex_bin (u := (.int .i64 q.d)) (r := (.int .i64 1)) rfl rfl rfl (eg3 _ _ _ _ _ _) (geq3 _ (decide_eq_true (by omega)))) ?_
                simp only [zp]
                refine sv (.bool true) 17 rfl rfl (ex_pkT rfl rfl rfl) ?_
                simp only [zp]
                refine sm (.bool true) 18 rfl rfl rfl rfl ?_
                simp only [zp]
                refine sv (.pointer (some ⟨b1, 2, none⟩)) 19 rfl rfl (ex_fa (p := (.pointer (some ⟨b1, 0, none⟩))) rfl rfl (fa45_1 _ _)) ?_
                simp only [zp]
                refine sv (.int .i64 q.d) 20 rfl rfl (ex_load (p := (.pointer (some ⟨b1, 2, none⟩))) rfl rfl (ld3 (at_cell k1 rfl))) ?_
                simp only [zp]
                refine sv (.bool true) 21 rfl rfl (ex_bin (u := (.int .i64 q.d)) (r := (.int .i64 1000)) rfl rfl rfl (eg3 _ _ _ _ _ _) (leq3 _ (decide_eq_true (by omega)))) ?_
                simp only [zp]
                refine sv (.bool true) 22 rfl rfl (ex_pkT rfl rfl rfl) ?_
                simp only [zp]
                refine sm (.bool true) 23 rfl rfl rfl rfl ?_
                simp only [zp]
                refine sv (.pointer (some ⟨b1, 3, none⟩)) 24 rfl rfl (ex_fa (p := (.pointer (some ⟨b1, 0, none⟩))) rfl rfl (fa45_2 _ _)) ?_
                simp only [zp]
                refine sv (.int .i64 q.g) 25 rfl rfl (ex_load (p := (.pointer (some ⟨b1, 3, none⟩))) rfl rfl (ld3 (at_cell k1 rfl))) ?_
                simp only [zp]
                refine sv (.bool true) 26 rfl rfl (ex_bin (u := (.int .i64 q.g)) (r := (.int .i64 0)) rfl rfl rfl (eg3 _ _ _ _ _ _) (geq3 _ (decide_eq_true (by omega)))) ?_
                simp only [zp]
                refine sv (.bool true) 27 rfl rfl (ex_pkT rfl rfl rfl) ?_
                simp only [zp]
                refine sm (.bool true) 28 rfl rfl rfl rfl ?_
                simp only [zp]
                refine sv (.pointer (some ⟨b1, 3, none⟩)) 29 rfl rfl (ex_fa (p := (.pointer (some ⟨b1, 0, none⟩))) rfl rfl (fa45_2 _ _)) ?_
                simp only [zp]
                refine sv (.int .i64 q.g) 30 rfl rfl (ex_load (p := (.pointer (some ⟨b1, 3, none⟩))) rfl rfl (ld3 (at_cell k1 rfl))) ?_
                simp only [zp]
                refine sv (.bool true) 31 rfl rfl (ex_bin (u := (.int .i64 q.g)) (r := (.int .i64 1000)) rfl rfl rfl (eg3 _ _ _ _ _ _) (leq3 _ (decide_eq_true (by omega)))) ?_
                simp only [zp]
                refine sv (.bool true) 32 rfl rfl (ex_pkT rfl rfl rfl) ?_
                simp only [zp]
                refine sm (.bool true) 33 rfl rfl rfl rfl ?_
                simp only [zp]
                refine sv (.pointer (some ⟨b1, 4, none⟩)) 34 rfl rfl (ex_fa (p := (.pointer (some ⟨b1, 0, none⟩))) rfl rfl (fa45_3 _ _)) ?_
                simp only [zp]
                refine sv (.int .i64 q.f) 35 rfl rfl (ex_load (p := (.pointer (some ⟨b1, 4, none⟩))) rfl rfl (ld3 (at_cell k1 rfl))) ?_
                simp only [zp]
                refine sv (.bool true) 36 rfl rfl (ex_bin (u := (.int .i64 q.f)) (r := (.int .i64 1)) rfl rfl rfl (eg3 _ _ _ _ _ _) (geq3 _ (decide_eq_true (by omega)))) ?_
                simp only [zp]
                refine sv (.bool true) 37 rfl rfl (ex_pkT rfl rfl rfl) ?_
                simp only [zp]
                refine sm (.bool true) 38 rfl rfl rfl rfl ?_
                simp only [zp]
                refine sv (.pointer (some ⟨b1, 4, none⟩)) 39 rfl rfl (ex_fa (p := (.pointer (some ⟨b1, 0, none⟩))) rfl rfl (fa45_3 _ _)) ?_
                simp only [zp]
                refine sv (.int .i64 q.f) 40 rfl rfl (ex_load (p := (.pointer (some ⟨b1, 4, none⟩))) rfl rfl (ld3 (at_cell k1 rfl))) ?_
                simp only [zp]
                refine sv (.bool true) 41 rfl rfl (ex_bin (u := (.int .i64 q.f)) (r := (.int .i64 2147483647)) rfl rfl rfl (eg3 _ _ _ _ _ _) (leq3 _ (decide_eq_true (by omega)))) ?_
                simp only [zp]
                refine sv (.bool true) 42 rfl rfl (ex_pkT rfl rfl rfl) ?_
                simp only [zp]
                refine sg (.bool true) 2 rfl rfl rfl rfl ?_
                simp only [zp]
                refine st_end ?_
                subst hQ
                refine wp_ret ?_
                repeat (first | refine ret_out ?_ | refine ret_blk ?_)
                refine bodyPost_ret (results_tmp Try.results82 _ _ _) rfl ⟨?_, E⟩
                show Ending.returned (.bool true) = _
                simp [mayR, e0, e1, e2, e3, e4, e5, e6]
              · skip
                have E : Below w.heap.size w w := Below.refl _ _
                go_enter Try.func82, Try.ntmps82
                refine wq fun Q hQ => ?_
                refine st_new (fun b => .pointer (some ⟨b, 0, none⟩)) (some 1) rfl rfl (ex_box rfl rfl) ?_
                intro b1 W1 k1 g1 B
                simp only [zp]
                have ge_b1 := Nat.le_trans E.size g1
                replace E := below_next E B
                clear B
                refine sg (.bool false) 2 rfl rfl rfl rfl ?_
                simp only [zp]
                refine st_end ?_
                subst hQ
                refine wq fun Q hQ => ?_
                refine sv (.pointer (some ⟨b1, 0, none⟩)) 6 rfl rfl (ex_fa (p := (.pointer (some ⟨b1, 0, none⟩))) rfl rfl (fa45_0 _ _)) ?_
                simp only [zp]
                refine sv (.agg (FL q)) 7 rfl rfl (ex_load (p := (.pointer (some ⟨b1, 0, none⟩))) rfl rfl (ldF k1)) ?_
                simp only [zp]
                refine st_call (some 8) rfl rfl (fee_any q.b q.r 0 W1 hb (by decide)) (ex_call (f := 94) (vs := [(.agg (FL q)), (.int .i64 0)]) rfl (cf94 _) rfl) ?_
                rintro e W2 ⟨rfl, B⟩
                refine ⟨_, rfl, ?_⟩
                simp only [zp]
                replace E := below_next E B
                replace k1 := keep B k1
                refine sm (.tuple #[(.int .i64 (feeN q.b q.r 0)), (.int .i64 (feeE q.b q.r 0))]) 5 rfl rfl rfl rfl ?_
                simp only [zp]
                refine sv (.int .i64 (feeN q.b q.r 0)) 9 rfl rfl (ex_ext rfl rfl rfl) ?_
                simp only [zp]
                refine sv (.int .i64 (feeE q.b q.r 0)) 10 rfl rfl (ex_ext rfl rfl rfl) ?_
                simp only [zp]
                refine sg (.int .i64 (feeN q.b q.r 0)) 3 rfl rfl rfl rfl ?_
                simp only [zp]
                refine sg (.int .i64 (feeE q.b q.r 0)) 4 rfl rfl rfl rfl ?_
                simp only [zp]
                refine st_end ?_
                subst hQ
                refine wq fun Q hQ => ?_
                refine sm (.int .i64 (feeE q.b q.r 0)) 11 rfl rfl rfl rfl ?_
                simp only [zp]
                refine sv (.bool true) 12 rfl rfl (ex_bin (u := (.int .i64 (feeE q.b q.r 0))) (r := (.int .i64 0)) rfl rfl rfl (eg37 _ _ _ _ _ _) (eql37 _ (decide_eq_true (by rw [hf, e0]; rfl)))) ?_
                simp only [zp]
                refine sm (.bool true) 13 rfl rfl rfl rfl ?_
                simp only [zp]
                refine sv (.pointer (some ⟨b1, 2, none⟩)) 14 rfl rfl (ex_fa (p := (.pointer (some ⟨b1, 0, none⟩))) rfl rfl (fa45_1 _ _)) ?_
                simp only [zp]
                refine sv (.int .i64 q.d) 15 rfl rfl (ex_load (p := (.pointer (some ⟨b1, 2, none⟩))) rfl rfl (ld3 (at_cell k1 rfl))) ?_
                simp only [zp]
                refine sv (.bool true) 16 rfl rfl (ex_bin (u := (.int .i64 q.d)) (r := (.int .i64 1)) rfl rfl rfl (eg3 _ _ _ _ _ _) (geq3 _ (decide_eq_true (by omega)))) ?_
                simp only [zp]
                refine sv (.bool true) 17 rfl rfl (ex_pkT rfl rfl rfl) ?_
                simp only [zp]
                refine sm (.bool true) 18 rfl rfl rfl rfl ?_
                simp only [zp]
                refine sv (.pointer (some ⟨b1, 2, none⟩)) 19 rfl rfl (ex_fa (p := (.pointer (some ⟨b1, 0, none⟩))) rfl rfl (fa45_1 _ _)) ?_
                simp only [zp]
                refine sv (.int .i64 q.d) 20 rfl rfl (ex_load (p := (.pointer (some ⟨b1, 2, none⟩))) rfl rfl (ld3 (at_cell k1 rfl))) ?_
                simp only [zp]
                refine sv (.bool true) 21 rfl rfl (ex_bin (u := (.int .i64 q.d)) (r := (.int .i64 1000)) rfl rfl rfl (eg3 _ _ _ _ _ _) (leq3 _ (decide_eq_true (by omega)))) ?_
                simp only [zp]
                refine sv (.bool true) 22 rfl rfl (ex_pkT rfl rfl rfl) ?_
                simp only [zp]
                refine sm (.bool true) 23 rfl rfl rfl rfl ?_
                simp only [zp]
                refine sv (.pointer (some ⟨b1, 3, none⟩)) 24 rfl rfl (ex_fa (p := (.pointer (some ⟨b1, 0, none⟩))) rfl rfl (fa45_2 _ _)) ?_
                simp only [zp]
                refine sv (.int .i64 q.g) 25 rfl rfl (ex_load (p := (.pointer (some ⟨b1, 3, none⟩))) rfl rfl (ld3 (at_cell k1 rfl))) ?_
                simp only [zp]
                refine sv (.bool true) 26 rfl rfl (ex_bin (u := (.int .i64 q.g)) (r := (.int .i64 0)) rfl rfl rfl (eg3 _ _ _ _ _ _) (geq3 _ (decide_eq_true (by omega)))) ?_
                simp only [zp]
                refine sv (.bool true) 27 rfl rfl (ex_pkT rfl rfl rfl) ?_
                simp only [zp]
                refine sm (.bool true) 28 rfl rfl rfl rfl ?_
                simp only [zp]
                refine sv (.pointer (some ⟨b1, 3, none⟩)) 29 rfl rfl (ex_fa (p := (.pointer (some ⟨b1, 0, none⟩))) rfl rfl (fa45_2 _ _)) ?_
                simp only [zp]
                refine sv (.int .i64 q.g) 30 rfl rfl (ex_load (p := (.pointer (some ⟨b1, 3, none⟩))) rfl rfl (ld3 (at_cell k1 rfl))) ?_
                simp only [zp]
                refine sv (.bool true) 31 rfl rfl (ex_bin (u := (.int .i64 q.g)) (r := (.int .i64 1000)) rfl rfl rfl (eg3 _ _ _ _ _ _) (leq3 _ (decide_eq_true (by omega)))) ?_
                simp only [zp]
                refine sv (.bool true) 32 rfl rfl (ex_pkT rfl rfl rfl) ?_
                simp only [zp]
                refine sm (.bool true) 33 rfl rfl rfl rfl ?_
                simp only [zp]
                refine sv (.pointer (some ⟨b1, 4, none⟩)) 34 rfl rfl (ex_fa (p := (.pointer (some ⟨b1, 0, none⟩))) rfl rfl (fa45_3 _ _)) ?_
                simp only [zp]
                refine sv (.int .i64 q.f) 35 rfl rfl (ex_load (p := (.pointer (some ⟨b1, 4, none⟩))) rfl rfl (ld3 (at_cell k1 rfl))) ?_
                simp only [zp]
                refine sv (.bool true) 36 rfl rfl (ex_bin (u := (.int .i64 q.f)) (r := (.int .i64 1)) rfl rfl rfl (eg3 _ _ _ _ _ _) (geq3 _ (decide_eq_true (by omega)))) ?_
                simp only [zp]
                refine sv (.bool true) 37 rfl rfl (ex_pkT rfl rfl rfl) ?_
                simp only [zp]
                refine sm (.bool true) 38 rfl rfl rfl rfl ?_
                simp only [zp]
                refine sv (.pointer (some ⟨b1, 4, none⟩)) 39 rfl rfl (ex_fa (p := (.pointer (some ⟨b1, 0, none⟩))) rfl rfl (fa45_3 _ _)) ?_
                simp only [zp]
                refine sv (.int .i64 q.f) 40 rfl rfl (ex_load (p := (.pointer (some ⟨b1, 4, none⟩))) rfl rfl (ld3 (at_cell k1 rfl))) ?_
                simp only [zp]
                refine sv (.bool false) 41 rfl rfl (ex_bin (u := (.int .i64 q.f)) (r := (.int .i64 2147483647)) rfl rfl rfl (eg3 _ _ _ _ _ _) (leq3 _ (decide_eq_false (by omega)))) ?_
                simp only [zp]
                refine sv (.bool false) 42 rfl rfl (ex_pkT rfl rfl rfl) ?_
                simp only [zp]
                refine sg (.bool false) 2 rfl rfl rfl rfl ?_
                simp only [zp]
                refine st_end ?_
                subst hQ
                refine wp_ret ?_
                repeat (first | refine ret_out ?_ | refine ret_blk ?_)
                refine bodyPost_ret (results_tmp Try.results82 _ _ _) rfl ⟨?_, E⟩
                show Ending.returned (.bool false) = _
                simp [mayR, e0, e1, e2, e3, e4, e5, e6]
            · skip
              have E : Below w.heap.size w w := Below.refl _ _
              go_enter Try.func82, Try.ntmps82
              refine wq fun Q hQ => ?_
              refine st_new (fun b => .pointer (some ⟨b, 0, none⟩)) (some 1) rfl rfl (ex_box rfl rfl) ?_
              intro b1 W1 k1 g1 B
              simp only [zp]
              have ge_b1 := Nat.le_trans E.size g1
              replace E := below_next E B
              clear B
              refine sg (.bool false) 2 rfl rfl rfl rfl ?_
              simp only [zp]
              refine st_end ?_
              subst hQ
              refine wq fun Q hQ => ?_
              refine sv (.pointer (some ⟨b1, 0, none⟩)) 6 rfl rfl (ex_fa (p := (.pointer (some ⟨b1, 0, none⟩))) rfl rfl (fa45_0 _ _)) ?_
              simp only [zp]
              refine sv (.agg (FL q)) 7 rfl rfl (ex_load (p := (.pointer (some ⟨b1, 0, none⟩))) rfl rfl (ldF k1)) ?_
              simp only [zp]
              refine st_call (some 8) rfl rfl (fee_any q.b q.r 0 W1 hb (by decide)) (ex_call (f := 94) (vs := [(.agg (FL q)), (.int .i64 0)]) rfl (cf94 _) rfl) ?_
              rintro e W2 ⟨rfl, B⟩
              refine ⟨_, rfl, ?_⟩
              simp only [zp]
              replace E := below_next E B
              replace k1 := keep B k1
              refine sm (.tuple #[(.int .i64 (feeN q.b q.r 0)), (.int .i64 (feeE q.b q.r 0))]) 5 rfl rfl rfl rfl ?_
              simp only [zp]
              refine sv (.int .i64 (feeN q.b q.r 0)) 9 rfl rfl (ex_ext rfl rfl rfl) ?_
              simp only [zp]
              refine sv (.int .i64 (feeE q.b q.r 0)) 10 rfl rfl (ex_ext rfl rfl rfl) ?_
              simp only [zp]
              refine sg (.int .i64 (feeN q.b q.r 0)) 3 rfl rfl rfl rfl ?_
              simp only [zp]
              refine sg (.int .i64 (feeE q.b q.r 0)) 4 rfl rfl rfl rfl ?_
              simp only [zp]
              refine st_end ?_
              subst hQ
              refine wq fun Q hQ => ?_
              refine sm (.int .i64 (feeE q.b q.r 0)) 11 rfl rfl rfl rfl ?_
              simp only [zp]
              refine sv (.bool true) 12 rfl rfl (ex_bin (u := (.int .i64 (feeE q.b q.r 0))) (r := (.int .i64 0)) rfl rfl rfl (eg37 _ _ _ _ _ _) (eql37 _ (decide_eq_true (by rw [hf, e0]; rfl)))) ?_
              simp only [zp]
              refine sm (.bool true) 13 rfl rfl rfl rfl ?_
              simp only [zp]
              refine sv (.pointer (some ⟨b1, 2, none⟩)) 14 rfl rfl (ex_fa (p := (.pointer (some ⟨b1, 0, none⟩))) rfl rfl (fa45_1 _ _)) ?_
              simp only [zp]
              refine sv (.int .i64 q.d) 15 rfl rfl (ex_load (p := (.pointer (some ⟨b1, 2, none⟩))) rfl rfl (ld3 (at_cell k1 rfl))) ?_
              simp only [zp]
              refine sv (.bool true) 16 rfl rfl (ex_bin (u := (.int .i64 q.d)) (r := (.int .i64 1)) rfl rfl rfl (eg3 _ _ _ _ _ _) (geq3 _ (decide_eq_true (by omega)))) ?_
              simp only [zp]
              refine sv (.bool true) 17 rfl rfl (ex_pkT rfl rfl rfl) ?_
              simp only [zp]
              refine sm (.bool true) 18 rfl rfl rfl rfl ?_
              simp only [zp]
              refine sv (.pointer (some ⟨b1, 2, none⟩)) 19 rfl rfl (ex_fa (p := (.pointer (some ⟨b1, 0, none⟩))) rfl rfl (fa45_1 _ _)) ?_
              simp only [zp]
              refine sv (.int .i64 q.d) 20 rfl rfl (ex_load (p := (.pointer (some ⟨b1, 2, none⟩))) rfl rfl (ld3 (at_cell k1 rfl))) ?_
              simp only [zp]
              refine sv (.bool true) 21 rfl rfl (ex_bin (u := (.int .i64 q.d)) (r := (.int .i64 1000)) rfl rfl rfl (eg3 _ _ _ _ _ _) (leq3 _ (decide_eq_true (by omega)))) ?_
              simp only [zp]
              refine sv (.bool true) 22 rfl rfl (ex_pkT rfl rfl rfl) ?_
              simp only [zp]
              refine sm (.bool true) 23 rfl rfl rfl rfl ?_
              simp only [zp]
              refine sv (.pointer (some ⟨b1, 3, none⟩)) 24 rfl rfl (ex_fa (p := (.pointer (some ⟨b1, 0, none⟩))) rfl rfl (fa45_2 _ _)) ?_
              simp only [zp]
              refine sv (.int .i64 q.g) 25 rfl rfl (ex_load (p := (.pointer (some ⟨b1, 3, none⟩))) rfl rfl (ld3 (at_cell k1 rfl))) ?_
              simp only [zp]
              refine sv (.bool true) 26 rfl rfl (ex_bin (u := (.int .i64 q.g)) (r := (.int .i64 0)) rfl rfl rfl (eg3 _ _ _ _ _ _) (geq3 _ (decide_eq_true (by omega)))) ?_
              simp only [zp]
              refine sv (.bool true) 27 rfl rfl (ex_pkT rfl rfl rfl) ?_
              simp only [zp]
              refine sm (.bool true) 28 rfl rfl rfl rfl ?_
              simp only [zp]
              refine sv (.pointer (some ⟨b1, 3, none⟩)) 29 rfl rfl (ex_fa (p := (.pointer (some ⟨b1, 0, none⟩))) rfl rfl (fa45_2 _ _)) ?_
              simp only [zp]
              refine sv (.int .i64 q.g) 30 rfl rfl (ex_load (p := (.pointer (some ⟨b1, 3, none⟩))) rfl rfl (ld3 (at_cell k1 rfl))) ?_
              simp only [zp]
              refine sv (.bool true) 31 rfl rfl (ex_bin (u := (.int .i64 q.g)) (r := (.int .i64 1000)) rfl rfl rfl (eg3 _ _ _ _ _ _) (leq3 _ (decide_eq_true (by omega)))) ?_
              simp only [zp]
              refine sv (.bool true) 32 rfl rfl (ex_pkT rfl rfl rfl) ?_
              simp only [zp]
              refine sm (.bool true) 33 rfl rfl rfl rfl ?_
              simp only [zp]
              refine sv (.pointer (some ⟨b1, 4, none⟩)) 34 rfl rfl (ex_fa (p := (.pointer (some ⟨b1, 0, none⟩))) rfl rfl (fa45_3 _ _)) ?_
              simp only [zp]
              refine sv (.int .i64 q.f) 35 rfl rfl (ex_load (p := (.pointer (some ⟨b1, 4, none⟩))) rfl rfl (ld3 (at_cell k1 rfl))) ?_
              simp only [zp]
              refine sv (.bool false) 36 rfl rfl (ex_bin (u := (.int .i64 q.f)) (r := (.int .i64 1)) rfl rfl rfl (eg3 _ _ _ _ _ _) (geq3 _ (decide_eq_false (by omega)))) ?_
              simp only [zp]
              refine sv (.bool false) 37 rfl rfl (ex_pkT rfl rfl rfl) ?_
              simp only [zp]
              refine sm (.bool false) 38 rfl rfl rfl rfl ?_
              simp only [zp]
              refine sn 39 rfl rfl ?_
              simp only [zp]
              refine sn 40 rfl rfl ?_
              simp only [zp]
              refine sn 41 rfl rfl ?_
              simp only [zp]
              refine sv (.bool false) 42 rfl rfl (ex_pkF rfl rfl rfl) ?_
              simp only [zp]
              refine sg (.bool false) 2 rfl rfl rfl rfl ?_
              simp only [zp]
              refine st_end ?_
              subst hQ
              refine wp_ret ?_
              repeat (first | refine ret_out ?_ | refine ret_blk ?_)
              refine bodyPost_ret (results_tmp Try.results82 _ _ _) rfl ⟨?_, E⟩
              show Ending.returned (.bool false) = _
              simp [mayR, e0, e1, e2, e3, e4, e5]
          · skip
            have E : Below w.heap.size w w := Below.refl _ _
            go_enter Try.func82, Try.ntmps82
            refine wq fun Q hQ => ?_
            refine st_new (fun b => .pointer (some ⟨b, 0, none⟩)) (some 1) rfl rfl (ex_box rfl rfl) ?_
            intro b1 W1 k1 g1 B
            simp only [zp]
            have ge_b1 := Nat.le_trans E.size g1
            replace E := below_next E B
            clear B
            refine sg (.bool false) 2 rfl rfl rfl rfl ?_
            simp only [zp]
            refine st_end ?_
            subst hQ
            refine wq fun Q hQ => ?_
            refine sv (.pointer (some ⟨b1, 0, none⟩)) 6 rfl rfl (ex_fa (p := (.pointer (some ⟨b1, 0, none⟩))) rfl rfl (fa45_0 _ _)) ?_
            simp only [zp]
            refine sv (.agg (FL q)) 7 rfl rfl (ex_load (p := (.pointer (some ⟨b1, 0, none⟩))) rfl rfl (ldF k1)) ?_
            simp only [zp]
            refine st_call (some 8) rfl rfl (fee_any q.b q.r 0 W1 hb (by decide)) (ex_call (f := 94) (vs := [(.agg (FL q)), (.int .i64 0)]) rfl (cf94 _) rfl) ?_
            rintro e W2 ⟨rfl, B⟩
            refine ⟨_, rfl, ?_⟩
            simp only [zp]
            replace E := below_next E B
            replace k1 := keep B k1
            refine sm (.tuple #[(.int .i64 (feeN q.b q.r 0)), (.int .i64 (feeE q.b q.r 0))]) 5 rfl rfl rfl rfl ?_
            simp only [zp]
            refine sv (.int .i64 (feeN q.b q.r 0)) 9 rfl rfl (ex_ext rfl rfl rfl) ?_
            simp only [zp]
            refine sv (.int .i64 (feeE q.b q.r 0)) 10 rfl rfl (ex_ext rfl rfl rfl) ?_
            simp only [zp]
            refine sg (.int .i64 (feeN q.b q.r 0)) 3 rfl rfl rfl rfl ?_
            simp only [zp]
            refine sg (.int .i64 (feeE q.b q.r 0)) 4 rfl rfl rfl rfl ?_
            simp only [zp]
            refine st_end ?_
            subst hQ
            refine wq fun Q hQ => ?_
            refine sm (.int .i64 (feeE q.b q.r 0)) 11 rfl rfl rfl rfl ?_
            simp only [zp]
            refine sv (.bool true) 12 rfl rfl (ex_bin (u := (.int .i64 (feeE q.b q.r 0))) (r := (.int .i64 0)) rfl rfl rfl (eg37 _ _ _ _ _ _) (eql37 _ (decide_eq_true (by rw [hf, e0]; rfl)))) ?_
            simp only [zp]
            refine sm (.bool true) 13 rfl rfl rfl rfl ?_
            simp only [zp]
            refine sv (.pointer (some ⟨b1, 2, none⟩)) 14 rfl rfl (ex_fa (p := (.pointer (some ⟨b1, 0, none⟩))) rfl rfl (fa45_1 _ _)) ?_
            simp only [zp]
            refine sv (.int .i64 q.d) 15 rfl rfl (ex_load (p := (.pointer (some ⟨b1, 2, none⟩))) rfl rfl (ld3 (at_cell k1 rfl))) ?_
            simp only [zp]
            refine sv (.bool true) 16 rfl rfl (ex_bin (u := (.int .i64 q.d)) (r := (.int .i64 1)) rfl rfl rfl (eg3 _ _ _ _ _ _) (geq3 _ (decide_eq_true (by omega)))) ?_
            simp only [zp]
            refine sv (.bool true) 17 rfl rfl (ex_pkT rfl rfl rfl) ?_
            simp only [zp]
            refine sm (.bool true) 18 rfl rfl rfl rfl ?_
            simp only [zp]
            refine sv (.pointer (some ⟨b1, 2, none⟩)) 19 rfl rfl (ex_fa (p := (.pointer (some ⟨b1, 0, none⟩))) rfl rfl (fa45_1 _ _)) ?_
            simp only [zp]
            refine sv (.int .i64 q.d) 20 rfl rfl (ex_load (p := (.pointer (some ⟨b1, 2, none⟩))) rfl rfl (ld3 (at_cell k1 rfl))) ?_
            simp only [zp]
            refine sv (.bool true) 21 rfl rfl (ex_bin (u := (.int .i64 q.d)) (r := (.int .i64 1000)) rfl rfl rfl (eg3 _ _ _ _ _ _) (leq3 _ (decide_eq_true (by omega)))) ?_
            simp only [zp]
            refine sv (.bool true) 22 rfl rfl (ex_pkT rfl rfl rfl) ?_
            simp only [zp]
            refine sm (.bool true) 23 rfl rfl rfl rfl ?_
            simp only [zp]
            refine sv (.pointer (some ⟨b1, 3, none⟩)) 24 rfl rfl (ex_fa (p := (.pointer (some ⟨b1, 0, none⟩))) rfl rfl (fa45_2 _ _)) ?_
            simp only [zp]
            refine sv (.int .i64 q.g) 25 rfl rfl (ex_load (p := (.pointer (some ⟨b1, 3, none⟩))) rfl rfl (ld3 (at_cell k1 rfl))) ?_
            simp only [zp]
            refine sv (.bool true) 26 rfl rfl (ex_bin (u := (.int .i64 q.g)) (r := (.int .i64 0)) rfl rfl rfl (eg3 _ _ _ _ _ _) (geq3 _ (decide_eq_true (by omega)))) ?_
            simp only [zp]
            refine sv (.bool true) 27 rfl rfl (ex_pkT rfl rfl rfl) ?_
            simp only [zp]
            refine sm (.bool true) 28 rfl rfl rfl rfl ?_
            simp only [zp]
            refine sv (.pointer (some ⟨b1, 3, none⟩)) 29 rfl rfl (ex_fa (p := (.pointer (some ⟨b1, 0, none⟩))) rfl rfl (fa45_2 _ _)) ?_
            simp only [zp]
            refine sv (.int .i64 q.g) 30 rfl rfl (ex_load (p := (.pointer (some ⟨b1, 3, none⟩))) rfl rfl (ld3 (at_cell k1 rfl))) ?_
            simp only [zp]
            refine sv (.bool false) 31 rfl rfl (ex_bin (u := (.int .i64 q.g)) (r := (.int .i64 1000)) rfl rfl rfl (eg3 _ _ _ _ _ _) (leq3 _ (decide_eq_false (by omega)))) ?_
            simp only [zp]
            refine sv (.bool false) 32 rfl rfl (ex_pkT rfl rfl rfl) ?_
            simp only [zp]
            refine sm (.bool false) 33 rfl rfl rfl rfl ?_
            simp only [zp]
            refine sn 34 rfl rfl ?_
            simp only [zp]
            refine sn 35 rfl rfl ?_
            simp only [zp]
            refine sn 36 rfl rfl ?_
            simp only [zp]
            refine sv (.bool false) 37 rfl rfl (ex_pkF rfl rfl rfl) ?_
            simp only [zp]
            refine sm (.bool false) 38 rfl rfl rfl rfl ?_
            simp only [zp]
            refine sn 39 rfl rfl ?_
            simp only [zp]
            refine sn 40 rfl rfl ?_
            simp only [zp]
            refine sn 41 rfl rfl ?_
            simp only [zp]
            refine sv (.bool false) 42 rfl rfl (ex_pkF rfl rfl rfl) ?_
            simp only [zp]
            refine sg (.bool false) 2 rfl rfl rfl rfl ?_
            simp only [zp]
            refine st_end ?_
            subst hQ
            refine wp_ret ?_
            repeat (first | refine ret_out ?_ | refine ret_blk ?_)
            refine bodyPost_ret (results_tmp Try.results82 _ _ _) rfl ⟨?_, E⟩
            show Ending.returned (.bool false) = _
            simp [mayR, e0, e1, e2, e3, e4]
        · skip
          have E : Below w.heap.size w w := Below.refl _ _
          go_enter Try.func82, Try.ntmps82
          refine wq fun Q hQ => ?_
          refine st_new (fun b => .pointer (some ⟨b, 0, none⟩)) (some 1) rfl rfl (ex_box rfl rfl) ?_
          intro b1 W1 k1 g1 B
          simp only [zp]
          have ge_b1 := Nat.le_trans E.size g1
          replace E := below_next E B
          clear B
          refine sg (.bool false) 2 rfl rfl rfl rfl ?_
          simp only [zp]
          refine st_end ?_
          subst hQ
          refine wq fun Q hQ => ?_
          refine sv (.pointer (some ⟨b1, 0, none⟩)) 6 rfl rfl (ex_fa (p := (.pointer (some ⟨b1, 0, none⟩))) rfl rfl (fa45_0 _ _)) ?_
          simp only [zp]
          refine sv (.agg (FL q)) 7 rfl rfl (ex_load (p := (.pointer (some ⟨b1, 0, none⟩))) rfl rfl (ldF k1)) ?_
          simp only [zp]
          refine st_call (some 8) rfl rfl (fee_any q.b q.r 0 W1 hb (by decide)) (ex_call (f := 94) (vs := [(.agg (FL q)), (.int .i64 0)]) rfl (cf94 _) rfl) ?_
          rintro e W2 ⟨rfl, B⟩
          refine ⟨_, rfl, ?_⟩
          simp only [zp]
          replace E := below_next E B
          replace k1 := keep B k1
          refine sm (.tuple #[(.int .i64 (feeN q.b q.r 0)), (.int .i64 (feeE q.b q.r 0))]) 5 rfl rfl rfl rfl ?_
          simp only [zp]
          refine sv (.int .i64 (feeN q.b q.r 0)) 9 rfl rfl (ex_ext rfl rfl rfl) ?_
          simp only [zp]
          refine sv (.int .i64 (feeE q.b q.r 0)) 10 rfl rfl (ex_ext rfl rfl rfl) ?_
          simp only [zp]
          refine sg (.int .i64 (feeN q.b q.r 0)) 3 rfl rfl rfl rfl ?_
          simp only [zp]
          refine sg (.int .i64 (feeE q.b q.r 0)) 4 rfl rfl rfl rfl ?_
          simp only [zp]
          refine st_end ?_
          subst hQ
          refine wq fun Q hQ => ?_
          refine sm (.int .i64 (feeE q.b q.r 0)) 11 rfl rfl rfl rfl ?_
          simp only [zp]
          refine sv (.bool true) 12 rfl rfl (ex_bin (u := (.int .i64 (feeE q.b q.r 0))) (r := (.int .i64 0)) rfl rfl rfl (eg37 _ _ _ _ _ _) (eql37 _ (decide_eq_true (by rw [hf, e0]; rfl)))) ?_
          simp only [zp]
          refine sm (.bool true) 13 rfl rfl rfl rfl ?_
          simp only [zp]
          refine sv (.pointer (some ⟨b1, 2, none⟩)) 14 rfl rfl (ex_fa (p := (.pointer (some ⟨b1, 0, none⟩))) rfl rfl (fa45_1 _ _)) ?_
          simp only [zp]
          refine sv (.int .i64 q.d) 15 rfl rfl (ex_load (p := (.pointer (some ⟨b1, 2, none⟩))) rfl rfl (ld3 (at_cell k1 rfl))) ?_
          simp only [zp]
          refine sv (.bool true) 16 rfl rfl (ex_bin (u := (.int .i64 q.d)) (r := (.int .i64 1)) rfl rfl rfl (eg3 _ _ _ _ _ _) (geq3 _ (decide_eq_true (by omega)))) ?_
          simp only [zp]
          refine sv (.bool true) 17 rfl rfl (ex_pkT rfl rfl rfl) ?_
          simp only [zp]
          refine sm (.bool true) 18 rfl rfl rfl rfl ?_
          simp only [zp]
          refine sv (.pointer (some ⟨b1, 2, none⟩)) 19 rfl rfl (ex_fa (p := (.pointer (some ⟨b1, 0, none⟩))) rfl rfl (fa45_1 _ _)) ?_
          simp only [zp]
          refine sv (.int .i64 q.d) 20 rfl rfl (ex_load (p := (.pointer (some ⟨b1, 2, none⟩))) rfl rfl (ld3 (at_cell k1 rfl))) ?_
          simp only [zp]
          refine sv (.bool true) 21 rfl rfl (ex_bin (u := (.int .i64 q.d)) (r := (.int .i64 1000)) rfl rfl rfl (eg3 _ _ _ _ _ _) (leq3 _ (decide_eq_true (by omega)))) ?_
          simp only [zp]
          refine sv (.bool true) 22 rfl rfl (ex_pkT rfl rfl rfl) ?_
          simp only [zp]
          refine sm (.bool true) 23 rfl rfl rfl rfl ?_
          simp only [zp]
          refine sv (.pointer (some ⟨b1, 3, none⟩)) 24 rfl rfl (ex_fa (p := (.pointer (some ⟨b1, 0, none⟩))) rfl rfl (fa45_2 _ _)) ?_
          simp only [zp]
          refine sv (.int .i64 q.g) 25 rfl rfl (ex_load (p := (.pointer (some ⟨b1, 3, none⟩))) rfl rfl (ld3 (at_cell k1 rfl))) ?_
          simp only [zp]
          refine sv (.bool false) 26 rfl rfl (ex_bin (u := (.int .i64 q.g)) (r := (.int .i64 0)) rfl rfl rfl (eg3 _ _ _ _ _ _) (geq3 _ (decide_eq_false (by omega)))) ?_
          simp only [zp]
          refine sv (.bool false) 27 rfl rfl (ex_pkT rfl rfl rfl) ?_
          simp only [zp]
          refine sm (.bool false) 28 rfl rfl rfl rfl ?_
          simp only [zp]
          refine sn 29 rfl rfl ?_
          simp only [zp]
          refine sn 30 rfl rfl ?_
          simp only [zp]
          refine sn 31 rfl rfl ?_
          simp only [zp]
          refine sv (.bool false) 32 rfl rfl (ex_pkF rfl rfl rfl) ?_
          simp only [zp]
          refine sm (.bool false) 33 rfl rfl rfl rfl ?_
          simp only [zp]
          refine sn 34 rfl rfl ?_
          simp only [zp]
          refine sn 35 rfl rfl ?_
          simp only [zp]
          refine sn 36 rfl rfl ?_
          simp only [zp]
          refine sv (.bool false) 37 rfl rfl (ex_pkF rfl rfl rfl) ?_
          simp only [zp]
          refine sm (.bool false) 38 rfl rfl rfl rfl ?_
          simp only [zp]
          refine sn 39 rfl rfl ?_
          simp only [zp]
          refine sn 40 rfl rfl ?_
          simp only [zp]
          refine sn 41 rfl rfl ?_
          simp only [zp]
          refine sv (.bool false) 42 rfl rfl (ex_pkF rfl rfl rfl) ?_
          simp only [zp]
          refine sg (.bool false) 2 rfl rfl rfl rfl ?_
          simp only [zp]
          refine st_end ?_
          subst hQ
          refine wp_ret ?_
          repeat (first | refine ret_out ?_ | refine ret_blk ?_)
          refine bodyPost_ret (results_tmp Try.results82 _ _ _) rfl ⟨?_, E⟩
          show Ending.returned (.bool false) = _
          simp [mayR, e0, e1, e2, e3]
      · skip
        have E : Below w.heap.size w w := Below.refl _ _
        go_enter Try.func82, Try.ntmps82
        refine wq fun Q hQ => ?_
        refine st_new (fun b => .pointer (some ⟨b, 0, none⟩)) (some 1) rfl rfl (ex_box rfl rfl) ?_
        intro b1 W1 k1 g1 B
        simp only [zp]
        have ge_b1 := Nat.le_trans E.size g1
        replace E := below_next E B
        clear B
        refine sg (.bool false) 2 rfl rfl rfl rfl ?_
        simp only [zp]
        refine st_end ?_
        subst hQ
        refine wq fun Q hQ => ?_
        refine sv (.pointer (some ⟨b1, 0, none⟩)) 6 rfl rfl (ex_fa (p := (.pointer (some ⟨b1, 0, none⟩))) rfl rfl (fa45_0 _ _)) ?_
        simp only [zp]
        refine sv (.agg (FL q)) 7 rfl rfl (ex_load (p := (.pointer (some ⟨b1, 0, none⟩))) rfl rfl (ldF k1)) ?_
        simp only [zp]
        refine st_call (some 8) rfl rfl (fee_any q.b q.r 0 W1 hb (by decide)) (ex_call (f := 94) (vs := [(.agg (FL q)), (.int .i64 0)]) rfl (cf94 _) rfl) ?_
        rintro e W2 ⟨rfl, B⟩
        refine ⟨_, rfl, ?_⟩
        simp only [zp]
        replace E := below_next E B
        replace k1 := keep B k1
        refine sm (.tuple #[(.int .i64 (feeN q.b q.r 0)), (.int .i64 (feeE q.b q.r 0))]) 5 rfl rfl rfl rfl ?_
        simp only [zp]
        refine sv (.int .i64 (feeN q.b q.r 0)) 9 rfl rfl (ex_ext rfl rfl rfl) ?_
        simp only [zp]
        refine sv (.int .i64 (feeE q.b q.r 0)) 10 rfl rfl (ex_ext rfl rfl rfl) ?_
        simp only [zp]
        refine sg (.int .i64 (feeN q.b q.r 0)) 3 rfl rfl rfl rfl ?_
        simp only [zp]
        refine sg (.int .i64 (feeE q.b q.r 0)) 4 rfl rfl rfl rfl ?_
        simp only [zp]
        refine st_end ?_
        subst hQ
        refine wq fun Q hQ => ?_
        refine sm (.int .i64 (feeE q.b q.r 0)) 11 rfl rfl rfl rfl ?_
        simp only [zp]
        refine sv (.bool true) 12 rfl rfl (ex_bin (u := (.int .i64 (feeE q.b q.r 0))) (r := (.int .i64 0)) rfl rfl rfl (eg37 _ _ _ _ _ _) (eql37 _ (decide_eq_true (by rw [hf, e0]; rfl)))) ?_
        simp only [zp]
        refine sm (.bool true) 13 rfl rfl rfl rfl ?_
        simp only [zp]
        refine sv (.pointer (some ⟨b1, 2, none⟩)) 14 rfl rfl (ex_fa (p := (.pointer (some ⟨b1, 0, none⟩))) rfl rfl (fa45_1 _ _)) ?_
        simp only [zp]
        refine sv (.int .i64 q.d) 15 rfl rfl (ex_load (p := (.pointer (some ⟨b1, 2, none⟩))) rfl rfl (ld3 (at_cell k1 rfl))) ?_
        simp only [zp]
        refine sv (.bool true) 16 rfl rfl (ex_bin (u := (.int .i64 q.d)) (r := (.int .i64 1)) rfl rfl rfl (eg3 _ _ _ _ _ _) (geq3 _ (decide_eq_true (by omega)))) ?_
        simp only [zp]
        refine sv (.bool true) 17 rfl rfl (ex_pkT rfl rfl rfl) ?_
        simp only [zp]
        refine sm (.bool true) 18 rfl rfl rfl rfl ?_
        simp only [zp]
        refine sv (.pointer (some ⟨b1, 2, none⟩)) 19 rfl rfl (ex_fa (p := (.pointer (some ⟨b1, 0, none⟩))) rfl rfl (fa45_1 _ _)) ?_
        simp only [zp]
        refine sv (.int .i64 q.d) 20 rfl rfl (ex_load (p := (.pointer (some ⟨b1, 2, none⟩))) rfl rfl (ld3 (at_cell k1 rfl))) ?_
        simp only [zp]
        refine sv (.bool false) 21 rfl rfl (ex_bin (u := (.int .i64 q.d)) (r := (.int .i64 1000)) rfl rfl rfl (eg3 _ _ _ _ _ _) (leq3 _ (decide_eq_false (by omega)))) ?_
        simp only [zp]
        refine sv (.bool false) 22 rfl rfl (ex_pkT rfl rfl rfl) ?_
        simp only [zp]
        refine sm (.bool false) 23 rfl rfl rfl rfl ?_
        simp only [zp]
        refine sn 24 rfl rfl ?_
        simp only [zp]
        refine sn 25 rfl rfl ?_
        simp only [zp]
        refine sn 26 rfl rfl ?_
        simp only [zp]
        refine sv (.bool false) 27 rfl rfl (ex_pkF rfl rfl rfl) ?_
        simp only [zp]
        refine sm (.bool false) 28 rfl rfl rfl rfl ?_
        simp only [zp]
        refine sn 29 rfl rfl ?_
        simp only [zp]
        refine sn 30 rfl rfl ?_
        simp only [zp]
        refine sn 31 rfl rfl ?_
        simp only [zp]
        refine sv (.bool false) 32 rfl rfl (ex_pkF rfl rfl rfl) ?_
        simp only [zp]
        refine sm (.bool false) 33 rfl rfl rfl rfl ?_
        simp only [zp]
        refine sn 34 rfl rfl ?_
        simp only [zp]
        refine sn 35 rfl rfl ?_
        simp only [zp]
        refine sn 36 rfl rfl ?_
        simp only [zp]
        refine sv (.bool false) 37 rfl rfl (ex_pkF rfl rfl rfl) ?_
        simp only [zp]
        refine sm (.bool false) 38 rfl rfl rfl rfl ?_
        simp only [zp]
        refine sn 39 rfl rfl ?_
        simp only [zp]
        refine sn 40 rfl rfl ?_
        simp only [zp]
        refine sn 41 rfl rfl ?_
        simp only [zp]
        refine sv (.bool false) 42 rfl rfl (ex_pkF rfl rfl rfl) ?_
        simp only [zp]
        refine sg (.bool false) 2 rfl rfl rfl rfl ?_
        simp only [zp]
        refine st_end ?_
        subst hQ
        refine wp_ret ?_
        repeat (first | refine ret_out ?_ | refine ret_blk ?_)
        refine bodyPost_ret (results_tmp Try.results82 _ _ _) rfl ⟨?_, E⟩
        show Ending.returned (.bool false) = _
        simp [mayR, e0, e1, e2]
    · skip
      have E : Below w.heap.size w w := Below.refl _ _
      go_enter Try.func82, Try.ntmps82
      refine wq fun Q hQ => ?_
      refine st_new (fun b => .pointer (some ⟨b, 0, none⟩)) (some 1) rfl rfl (ex_box rfl rfl) ?_
      intro b1 W1 k1 g1 B
      simp only [zp]
      have ge_b1 := Nat.le_trans E.size g1
      replace E := below_next E B
      clear B
      refine sg (.bool false) 2 rfl rfl rfl rfl ?_
      simp only [zp]
      refine st_end ?_
      subst hQ
      refine wq fun Q hQ => ?_
      refine sv (.pointer (some ⟨b1, 0, none⟩)) 6 rfl rfl (ex_fa (p := (.pointer (some ⟨b1, 0, none⟩))) rfl rfl (fa45_0 _ _)) ?_
      simp only [zp]
      refine sv (.agg (FL q)) 7 rfl rfl (ex_load (p := (.pointer (some ⟨b1, 0, none⟩))) rfl rfl (ldF k1)) ?_
      simp only [zp]
      refine st_call (some 8) rfl rfl (fee_any q.b q.r 0 W1 hb (by decide)) (ex_call (f := 94) (vs := [(.agg (FL q)), (.int .i64 0)]) rfl (cf94 _) rfl) ?_
      rintro e W2 ⟨rfl, B⟩
      refine ⟨_, rfl, ?_⟩
      simp only [zp]
      replace E := below_next E B
      replace k1 := keep B k1
      refine sm (.tuple #[(.int .i64 (feeN q.b q.r 0)), (.int .i64 (feeE q.b q.r 0))]) 5 rfl rfl rfl rfl ?_
      simp only [zp]
      refine sv (.int .i64 (feeN q.b q.r 0)) 9 rfl rfl (ex_ext rfl rfl rfl) ?_
      simp only [zp]
      refine sv (.int .i64 (feeE q.b q.r 0)) 10 rfl rfl (ex_ext rfl rfl rfl) ?_
      simp only [zp]
      refine sg (.int .i64 (feeN q.b q.r 0)) 3 rfl rfl rfl rfl ?_
      simp only [zp]
      refine sg (.int .i64 (feeE q.b q.r 0)) 4 rfl rfl rfl rfl ?_
      simp only [zp]
      refine st_end ?_
      subst hQ
      refine wq fun Q hQ => ?_
      refine sm (.int .i64 (feeE q.b q.r 0)) 11 rfl rfl rfl rfl ?_
      simp only [zp]
      refine sv (.bool true) 12 rfl rfl (ex_bin (u := (.int .i64 (feeE q.b q.r 0))) (r := (.int .i64 0)) rfl rfl rfl (eg37 _ _ _ _ _ _) (eql37 _ (decide_eq_true (by rw [hf, e0]; rfl)))) ?_
      simp only [zp]
      refine sm (.bool true) 13 rfl rfl rfl rfl ?_
      simp only [zp]
      refine sv (.pointer (some ⟨b1, 2, none⟩)) 14 rfl rfl (ex_fa (p := (.pointer (some ⟨b1, 0, none⟩))) rfl rfl (fa45_1 _ _)) ?_
      simp only [zp]
      refine sv (.int .i64 q.d) 15 rfl rfl (ex_load (p := (.pointer (some ⟨b1, 2, none⟩))) rfl rfl (ld3 (at_cell k1 rfl))) ?_
      simp only [zp]
      refine sv (.bool false) 16 rfl rfl (ex_bin (u := (.int .i64 q.d)) (r := (.int .i64 1)) rfl rfl rfl (eg3 _ _ _ _ _ _) (geq3 _ (decide_eq_false (by omega)))) ?_
      simp only [zp]
      refine sv (.bool false) 17 rfl rfl (ex_pkT rfl rfl rfl) ?_
      simp only [zp]
      refine sm (.bool false) 18 rfl rfl rfl rfl ?_
      simp only [zp]
      refine sn 19 rfl rfl ?_
      simp only [zp]
      refine sn 20 rfl rfl ?_
      simp only [zp]
      refine sn 21 rfl rfl ?_
      simp only [zp]
      refine sv (.bool false) 22 rfl rfl (ex_pkF rfl rfl rfl) ?_
      simp only [zp]
      refine sm (.bool false) 23 rfl rfl rfl rfl ?_
      simp only [zp]
      refine sn 24 rfl rfl ?_
      simp only [zp]
      refine sn 25 rfl rfl ?_
      simp only [zp]
      refine sn 26 rfl rfl ?_
      simp only [zp]
      refine sv (.bool false) 27 rfl rfl (ex_pkF rfl rfl rfl) ?_
      simp only [zp]
      refine sm (.bool false) 28 rfl rfl rfl rfl ?_
      simp only [zp]
      refine sn 29 rfl rfl ?_
      simp only [zp]
      refine sn 30 rfl rfl ?_
      simp only [zp]
      refine sn 31 rfl rfl ?_
      simp only [zp]
      refine sv (.bool false) 32 rfl rfl (ex_pkF rfl rfl rfl) ?_
      simp only [zp]
      refine sm (.bool false) 33 rfl rfl rfl rfl ?_
      simp only [zp]
      refine sn 34 rfl rfl ?_
      simp only [zp]
      refine sn 35 rfl rfl ?_
      simp only [zp]
      refine sn 36 rfl rfl ?_
      simp only [zp]
      refine sv (.bool false) 37 rfl rfl (ex_pkF rfl rfl rfl) ?_
      simp only [zp]
      refine sm (.bool false) 38 rfl rfl rfl rfl ?_
      simp only [zp]
      refine sn 39 rfl rfl ?_
      simp only [zp]
      refine sn 40 rfl rfl ?_
      simp only [zp]
      refine sn 41 rfl rfl ?_
      simp only [zp]
      refine sv (.bool false) 42 rfl rfl (ex_pkF rfl rfl rfl) ?_
      simp only [zp]
      refine sg (.bool false) 2 rfl rfl rfl rfl ?_
      simp only [zp]
      refine st_end ?_
      subst hQ
      refine wp_ret ?_
      repeat (first | refine ret_out ?_ | refine ret_blk ?_)
      refine bodyPost_ret (results_tmp Try.results82 _ _ _) rfl ⟨?_, E⟩
      show Ending.returned (.bool false) = _
      simp [mayR, e0, e1]
  · skip
    replace e0 := Bool.eq_false_iff.2 e0
    have E : Below w.heap.size w w := Below.refl _ _
    go_enter Try.func82, Try.ntmps82
    refine wq fun Q hQ => ?_
    refine st_new (fun b => .pointer (some ⟨b, 0, none⟩)) (some 1) rfl rfl (ex_box rfl rfl) ?_
    intro b1 W1 k1 g1 B
    simp only [zp]
    have ge_b1 := Nat.le_trans E.size g1
    replace E := below_next E B
    clear B
    refine sg (.bool false) 2 rfl rfl rfl rfl ?_
    simp only [zp]
    refine st_end ?_
    subst hQ
    refine wq fun Q hQ => ?_
    refine sv (.pointer (some ⟨b1, 0, none⟩)) 6 rfl rfl (ex_fa (p := (.pointer (some ⟨b1, 0, none⟩))) rfl rfl (fa45_0 _ _)) ?_
    simp only [zp]
    refine sv (.agg (FL q)) 7 rfl rfl (ex_load (p := (.pointer (some ⟨b1, 0, none⟩))) rfl rfl (ldF k1)) ?_
    simp only [zp]
    refine st_call (some 8) rfl rfl (fee_any q.b q.r 0 W1 hb (by decide)) (ex_call (f := 94) (vs := [(.agg (FL q)), (.int .i64 0)]) rfl (cf94 _) rfl) ?_
    rintro e W2 ⟨rfl, B⟩
    refine ⟨_, rfl, ?_⟩
    simp only [zp]
    replace E := below_next E B
    replace k1 := keep B k1
    refine sm (.tuple #[(.int .i64 (feeN q.b q.r 0)), (.int .i64 (feeE q.b q.r 0))]) 5 rfl rfl rfl rfl ?_
    simp only [zp]
    refine sv (.int .i64 (feeN q.b q.r 0)) 9 rfl rfl (ex_ext rfl rfl rfl) ?_
    simp only [zp]
    refine sv (.int .i64 (feeE q.b q.r 0)) 10 rfl rfl (ex_ext rfl rfl rfl) ?_
    simp only [zp]
    refine sg (.int .i64 (feeN q.b q.r 0)) 3 rfl rfl rfl rfl ?_
    simp only [zp]
    refine sg (.int .i64 (feeE q.b q.r 0)) 4 rfl rfl rfl rfl ?_
    simp only [zp]
    refine st_end ?_
    subst hQ
    refine wq fun Q hQ => ?_
    refine sm (.int .i64 (feeE q.b q.r 0)) 11 rfl rfl rfl rfl ?_
    simp only [zp]
    refine sv (.bool false) 12 rfl rfl (ex_bin (u := (.int .i64 (feeE q.b q.r 0))) (r := (.int .i64 0)) rfl rfl rfl (eg37 _ _ _ _ _ _) (eql37 _ (decide_eq_false (by rw [hf, e0]; decide)))) ?_
    simp only [zp]
    refine sm (.bool false) 13 rfl rfl rfl rfl ?_
    simp only [zp]
    refine sn 14 rfl rfl ?_
    simp only [zp]
    refine sn 15 rfl rfl ?_
    simp only [zp]
    refine sn 16 rfl rfl ?_
    simp only [zp]
    refine sv (.bool false) 17 rfl rfl (ex_pkF rfl rfl rfl) ?_
    simp only [zp]
    refine sm (.bool false) 18 rfl rfl rfl rfl ?_
    simp only [zp]
    refine sn 19 rfl rfl ?_
    simp only [zp]
    refine sn 20 rfl rfl ?_
    simp only [zp]
    refine sn 21 rfl rfl ?_
    simp only [zp]
    refine sv (.bool false) 22 rfl rfl (ex_pkF rfl rfl rfl) ?_
    simp only [zp]
    refine sm (.bool false) 23 rfl rfl rfl rfl ?_
    simp only [zp]
    refine sn 24 rfl rfl ?_
    simp only [zp]
    refine sn 25 rfl rfl ?_
    simp only [zp]
    refine sn 26 rfl rfl ?_
    simp only [zp]
    refine sv (.bool false) 27 rfl rfl (ex_pkF rfl rfl rfl) ?_
    simp only [zp]
    refine sm (.bool false) 28 rfl rfl rfl rfl ?_
    simp only [zp]
    refine sn 29 rfl rfl ?_
    simp only [zp]
    refine sn 30 rfl rfl ?_
    simp only [zp]
    refine sn 31 rfl rfl ?_
    simp only [zp]
    refine sv (.bool false) 32 rfl rfl (ex_pkF rfl rfl rfl) ?_
    simp only [zp]
    refine sm (.bool false) 33 rfl rfl rfl rfl ?_
    simp only [zp]
    refine sn 34 rfl rfl ?_
    simp only [zp]
    refine sn 35 rfl rfl ?_
    simp only [zp]
    refine sn 36 rfl rfl ?_
    simp only [zp]
    refine sv (.bool false) 37 rfl rfl (ex_pkF rfl rfl rfl) ?_
    simp only [zp]
    refine sm (.bool false) 38 rfl rfl rfl rfl ?_
    simp only [zp]
    refine sn 39 rfl rfl ?_
    simp only [zp]
    refine sn 40 rfl rfl ?_
    simp only [zp]
    refine sn 41 rfl rfl ?_
    simp only [zp]
    refine sv (.bool false) 42 rfl rfl (ex_pkF rfl rfl rfl) ?_
    simp only [zp]
    refine sg (.bool false) 2 rfl rfl rfl rfl ?_
    simp only [zp]
    refine st_end ?_
    subst hQ
    refine wp_ret ?_
    repeat (first | refine ret_out ?_ | refine ret_blk ?_)
    refine bodyPost_ret (results_tmp Try.results82 _ _ _) rfl ⟨?_, E⟩
    show Ending.returned (.bool false) = _
    simp [mayR, e0]
set_option maxHeartbeats 4000000 in
theorem mayE_any {e : EV} (w : World) (hb : e.q.b ≤ 9223372036854775807) (hc2 : e.cap ≤ 9223372036854775807) {c : Bool} (hc : mayE e = c) : Calls Try.prog 62 #[.agg (EL e)] w fun e w' => e = .returned (.bool c) ∧ Below w.heap.size w w' := by
  subst hc
  by_cases e0 : chanB e.ch = true
  · skip
    by_cases e1 : (nodeB e.fr && nodeB e.to && decide (¬ e.fr = e.to)) = true
    · skip
      by_cases e2 : 0 ≤ e.cap
      · skip
        by_cases e3 : mayR e.q = true
        · skip
          have E : Below w.heap.size w w := Below.refl _ _
          go_enter Try.func62, Try.ntmps62
          refine wq fun Q hQ => ?_
          refine st_new (fun b => .pointer (some ⟨b, 0, none⟩)) (some 1) rfl rfl (ex_box rfl rfl) ?_
          intro b1 W1 k1 g1 B
          simp only [zp]
          have ge_b1 := Nat.le_trans E.size g1
          replace E := below_next E B
          clear B
          refine sg (.bool false) 2 rfl rfl rfl rfl ?_
          simp only [zp]
          refine st_end ?_
          subst hQ
          refine wq fun Q hQ => ?_
          refine sv (.pointer (some ⟨b1, 0, none⟩)) 3 rfl rfl (ex_fa (p := (.pointer (some ⟨b1, 0, none⟩))) rfl rfl (fa49_0 _ _)) ?_
          simp only [zp]
          refine sv (.int .i64 e.ch) 4 rfl rfl (ex_load (p := (.pointer (some ⟨b1, 0, none⟩))) rfl rfl (ld3 (at_cell k1 rfl))) ?_
          simp only [zp]
          refine st_call (some 5) rfl rfl (chan_any e.ch W1 e0) (ex_call (f := 85) (vs := [(.int .i64 e.ch)]) rfl (cf85 _) rfl) ?_
          rintro e W2 ⟨rfl, B⟩
          refine ⟨_, rfl, ?_⟩
          simp only [zp]
          replace E := below_next E B
          replace k1 := keep B k1
          refine sm (.bool true) 6 rfl rfl rfl rfl ?_
          simp only [zp]
          refine sv (.pointer (some ⟨b1, 1, none⟩)) 7 rfl rfl (ex_fa (p := (.pointer (some ⟨b1, 0, none⟩))) rfl rfl (fa49_1 _ _)) ?_
          simp only [zp]
          refine sv (.int .i64 e.fr) 8 rfl rfl (ex_load (p := (.pointer (some ⟨b1, 1, none⟩))) rfl rfl (ld3 (at_cell k1 rfl))) ?_
          simp only [zp]
          refine sv (.pointer (some ⟨b1, 2, none⟩)) 9 rfl rfl (ex_fa (p := (.pointer (some ⟨b1, 0, none⟩))) rfl rfl (fa49_2 _ _)) ?_
          simp only [zp]
          refine sv (.int .i64 e.to) 10 rfl rfl (ex_load (p := (.pointer (some ⟨b1, 2, none⟩))) rfl rfl (ld3 (at_cell k1 rfl))) ?_
          simp only [zp]
          refine st_call (some 11) rfl rfl (two_any e.fr e.to W2 e1) (ex_call (f := 72) (vs := [(.int .i64 e.fr), (.int .i64 e.to)]) rfl (cf72 _) rfl) ?_
          rintro e W3 ⟨rfl, B⟩
          refine ⟨_, rfl, ?_⟩
          simp only [zp]
          replace E := below_next E B
          replace k1 := keep B k1
          refine sv (.bool true) 12 rfl rfl (ex_pkT rfl rfl rfl) ?_
          simp only [zp]
          refine sm (.bool true) 13 rfl rfl rfl rfl ?_
          simp only [zp]
          refine sv (.pointer (some ⟨b1, 3, none⟩)) 14 rfl rfl (ex_fa (p := (.pointer (some ⟨b1, 0, none⟩))) rfl rfl (fa49_3 _ _)) ?_
          simp only [zp]
          refine sv (.int .i64 e.cap) 15 rfl rfl (ex_load (p := (.pointer (some ⟨b1, 3, none⟩))) rfl rfl (ld3 (at_cell k1 rfl))) ?_
          simp only [zp]
          refine st_call (some 16) rfl rfl (amt_any e.cap W3 hc2 (decide_eq_true (by omega))) (ex_call (f := 73) (vs := [(.int .i64 e.cap)]) rfl (cf73 _) rfl) ?_
          rintro e W4 ⟨rfl, B⟩
          refine ⟨_, rfl, ?_⟩
          simp only [zp]
          replace E := below_next E B
          replace k1 := keep B k1
          refine sv (.bool true) 17 rfl rfl (ex_pkT rfl rfl rfl) ?_
          simp only [zp]
          refine sm (.bool true) 18 rfl rfl rfl rfl ?_
          simp only [zp]
          refine sv (.pointer (some ⟨b1, 4, none⟩)) 19 rfl rfl (ex_fa (p := (.pointer (some ⟨b1, 0, none⟩))) rfl rfl (fa49_4 _ _)) ?_
          simp only [zp]
          refine sv (.agg (RL e.q)) 20 rfl rfl (ex_load (p := (.pointer (some ⟨b1, 4, none⟩))) rfl rfl (ldER k1)) ?_
          simp only [zp]
          refine st_call (some 21) rfl rfl (may_any W4 hb e3) (ex_call (f := 82) (vs := [(.agg (RL e.q))]) rfl (cf82 _) rfl) ?_
          rintro e W5 ⟨rfl, B⟩
          refine ⟨_, rfl, ?_⟩
          simp only [zp]
          replace E := below_next E B
          replace k1 := keep B k1
          refine sv (.bool true) 22 rfl rfl (ex_pkT rfl rfl rfl) ?_
          simp only [zp]
          refine sg (.bool true) 2 rfl rfl rfl rfl ?_
          simp only [zp]
          refine st_end ?_
          subst hQ
          refine wp_ret ?_
          repeat (first | refine ret_out ?_ | refine ret_blk ?_)
          refine bodyPost_ret (results_tmp Try.results62 _ _ _) rfl ⟨?_, E⟩
          unfold mayE
          simp only [e0, e1, e3, decide_eq_true e2]
          rfl
        · skip
          replace e3 := Bool.eq_false_iff.2 e3
          have E : Below w.heap.size w w := Below.refl _ _
          go_enter Try.func62, Try.ntmps62
          refine wq fun Q hQ => ?_
          refine st_new (fun b => .pointer (some ⟨b, 0, none⟩)) (some 1) rfl rfl (ex_box rfl rfl) ?_
          intro b1 W1 k1 g1 B
          simp only [zp]
          have ge_b1 := Nat.le_trans E.size g1
          replace E := below_next E B
          clear B
          refine sg (.bool false) 2 rfl rfl rfl rfl ?_
          simp only [zp]
          refine st_end ?_
          subst hQ
          refine wq fun Q hQ => ?_
          refine sv (.pointer (some ⟨b1, 0, none⟩)) 3 rfl rfl (ex_fa (p := (.pointer (some ⟨b1, 0, none⟩))) rfl rfl (fa49_0 _ _)) ?_
          simp only [zp]
          refine sv (.int .i64 e.ch) 4 rfl rfl (ex_load (p := (.pointer (some ⟨b1, 0, none⟩))) rfl rfl (ld3 (at_cell k1 rfl))) ?_
          simp only [zp]
          refine st_call (some 5) rfl rfl (chan_any e.ch W1 e0) (ex_call (f := 85) (vs := [(.int .i64 e.ch)]) rfl (cf85 _) rfl) ?_
          rintro e W2 ⟨rfl, B⟩
          refine ⟨_, rfl, ?_⟩
          simp only [zp]
          replace E := below_next E B
          replace k1 := keep B k1
          refine sm (.bool true) 6 rfl rfl rfl rfl ?_
          simp only [zp]
          refine sv (.pointer (some ⟨b1, 1, none⟩)) 7 rfl rfl (ex_fa (p := (.pointer (some ⟨b1, 0, none⟩))) rfl rfl (fa49_1 _ _)) ?_
          simp only [zp]
          refine sv (.int .i64 e.fr) 8 rfl rfl (ex_load (p := (.pointer (some ⟨b1, 1, none⟩))) rfl rfl (ld3 (at_cell k1 rfl))) ?_
          simp only [zp]
          refine sv (.pointer (some ⟨b1, 2, none⟩)) 9 rfl rfl (ex_fa (p := (.pointer (some ⟨b1, 0, none⟩))) rfl rfl (fa49_2 _ _)) ?_
          simp only [zp]
          refine sv (.int .i64 e.to) 10 rfl rfl (ex_load (p := (.pointer (some ⟨b1, 2, none⟩))) rfl rfl (ld3 (at_cell k1 rfl))) ?_
          simp only [zp]
          refine st_call (some 11) rfl rfl (two_any e.fr e.to W2 e1) (ex_call (f := 72) (vs := [(.int .i64 e.fr), (.int .i64 e.to)]) rfl (cf72 _) rfl) ?_
          rintro e W3 ⟨rfl, B⟩
          refine ⟨_, rfl, ?_⟩
          simp only [zp]
          replace E := below_next E B
          replace k1 := keep B k1
          refine sv (.bool true) 12 rfl rfl (ex_pkT rfl rfl rfl) ?_
          simp only [zp]
          refine sm (.bool true) 13 rfl rfl rfl rfl ?_
          simp only [zp]
          refine sv (.pointer (some ⟨b1, 3, none⟩)) 14 rfl rfl (ex_fa (p := (.pointer (some ⟨b1, 0, none⟩))) rfl rfl (fa49_3 _ _)) ?_
          simp only [zp]
          refine sv (.int .i64 e.cap) 15 rfl rfl (ex_load (p := (.pointer (some ⟨b1, 3, none⟩))) rfl rfl (ld3 (at_cell k1 rfl))) ?_
          simp only [zp]
          refine st_call (some 16) rfl rfl (amt_any e.cap W3 hc2 (decide_eq_true (by omega))) (ex_call (f := 73) (vs := [(.int .i64 e.cap)]) rfl (cf73 _) rfl) ?_
          rintro e W4 ⟨rfl, B⟩
          refine ⟨_, rfl, ?_⟩
          simp only [zp]
          replace E := below_next E B
          replace k1 := keep B k1
          refine sv (.bool true) 17 rfl rfl (ex_pkT rfl rfl rfl) ?_
          simp only [zp]
          refine sm (.bool true) 18 rfl rfl rfl rfl ?_
          simp only [zp]
          refine sv (.pointer (some ⟨b1, 4, none⟩)) 19 rfl rfl (ex_fa (p := (.pointer (some ⟨b1, 0, none⟩))) rfl rfl (fa49_4 _ _)) ?_
          simp only [zp]
          refine sv (.agg (RL e.q)) 20 rfl rfl (ex_load (p := (.pointer (some ⟨b1, 4, none⟩))) rfl rfl (ldER k1)) ?_
          simp only [zp]
          refine st_call (some 21) rfl rfl (may_any W4 hb e3) (ex_call (f := 82) (vs := [(.agg (RL e.q))]) rfl (cf82 _) rfl) ?_
          rintro e W5 ⟨rfl, B⟩
          refine ⟨_, rfl, ?_⟩
          simp only [zp]
          replace E := below_next E B
          replace k1 := keep B k1
          refine sv (.bool false) 22 rfl rfl (ex_pkT rfl rfl rfl) ?_
          simp only [zp]
          refine sg (.bool false) 2 rfl rfl rfl rfl ?_
          simp only [zp]
          refine st_end ?_
          subst hQ
          refine wp_ret ?_
          repeat (first | refine ret_out ?_ | refine ret_blk ?_)
          refine bodyPost_ret (results_tmp Try.results62 _ _ _) rfl ⟨?_, E⟩
          unfold mayE
          simp only [e0, e1, e3, decide_eq_true e2]
          rfl
      · skip
        have E : Below w.heap.size w w := Below.refl _ _
        go_enter Try.func62, Try.ntmps62
        refine wq fun Q hQ => ?_
        refine st_new (fun b => .pointer (some ⟨b, 0, none⟩)) (some 1) rfl rfl (ex_box rfl rfl) ?_
        intro b1 W1 k1 g1 B
        simp only [zp]
        have ge_b1 := Nat.le_trans E.size g1
        replace E := below_next E B
        clear B
        refine sg (.bool false) 2 rfl rfl rfl rfl ?_
        simp only [zp]
        refine st_end ?_
        subst hQ
        refine wq fun Q hQ => ?_
        refine sv (.pointer (some ⟨b1, 0, none⟩)) 3 rfl rfl (ex_fa (p := (.pointer (some ⟨b1, 0, none⟩))) rfl rfl (fa49_0 _ _)) ?_
        simp only [zp]
        refine sv (.int .i64 e.ch) 4 rfl rfl (ex_load (p := (.pointer (some ⟨b1, 0, none⟩))) rfl rfl (ld3 (at_cell k1 rfl))) ?_
        simp only [zp]
        refine st_call (some 5) rfl rfl (chan_any e.ch W1 e0) (ex_call (f := 85) (vs := [(.int .i64 e.ch)]) rfl (cf85 _) rfl) ?_
        rintro e W2 ⟨rfl, B⟩
        refine ⟨_, rfl, ?_⟩
        simp only [zp]
        replace E := below_next E B
        replace k1 := keep B k1
        refine sm (.bool true) 6 rfl rfl rfl rfl ?_
        simp only [zp]
        refine sv (.pointer (some ⟨b1, 1, none⟩)) 7 rfl rfl (ex_fa (p := (.pointer (some ⟨b1, 0, none⟩))) rfl rfl (fa49_1 _ _)) ?_
        simp only [zp]
        refine sv (.int .i64 e.fr) 8 rfl rfl (ex_load (p := (.pointer (some ⟨b1, 1, none⟩))) rfl rfl (ld3 (at_cell k1 rfl))) ?_
        simp only [zp]
        refine sv (.pointer (some ⟨b1, 2, none⟩)) 9 rfl rfl (ex_fa (p := (.pointer (some ⟨b1, 0, none⟩))) rfl rfl (fa49_2 _ _)) ?_
        simp only [zp]
        refine sv (.int .i64 e.to) 10 rfl rfl (ex_load (p := (.pointer (some ⟨b1, 2, none⟩))) rfl rfl (ld3 (at_cell k1 rfl))) ?_
        simp only [zp]
        refine st_call (some 11) rfl rfl (two_any e.fr e.to W2 e1) (ex_call (f := 72) (vs := [(.int .i64 e.fr), (.int .i64 e.to)]) rfl (cf72 _) rfl) ?_
        rintro e W3 ⟨rfl, B⟩
        refine ⟨_, rfl, ?_⟩
        simp only [zp]
        replace E := below_next E B
        replace k1 := keep B k1
        refine sv (.bool true) 12 rfl rfl (ex_pkT rfl rfl rfl) ?_
        simp only [zp]
        refine sm (.bool true) 13 rfl rfl rfl rfl ?_
        simp only [zp]
        refine sv (.pointer (some ⟨b1, 3, none⟩)) 14 rfl rfl (ex_fa (p := (.pointer (some ⟨b1, 0, none⟩))) rfl rfl (fa49_3 _ _)) ?_
        simp only [zp]
        refine sv (.int .i64 e.cap) 15 rfl rfl (ex_load (p := (.pointer (some ⟨b1, 3, none⟩))) rfl rfl (ld3 (at_cell k1 rfl))) ?_
        simp only [zp]
        refine st_call (some 16) rfl rfl (amt_any e.cap W3 hc2 (decide_eq_false (by omega))) (ex_call (f := 73) (vs := [(.int .i64 e.cap)]) rfl (cf73 _) rfl) ?_
        rintro e W4 ⟨rfl, B⟩
        refine ⟨_, rfl, ?_⟩
        simp only [zp]
        replace E := below_next E B
        replace k1 := keep B k1
        refine sv (.bool false) 17 rfl rfl (ex_pkT rfl rfl rfl) ?_
        simp only [zp]
        refine sm (.bool false) 18 rfl rfl rfl rfl ?_
        simp only [zp]
        refine sn 19 rfl rfl ?_
        simp only [zp]
        refine sn 20 rfl rfl ?_
        simp only [zp]
        refine sn 21 rfl rfl ?_
        simp only [zp]
        refine sv (.bool false) 22 rfl rfl (ex_pkF rfl rfl rfl) ?_
        simp only [zp]
        refine sg (.bool false) 2 rfl rfl rfl rfl ?_
        simp only [zp]
        refine st_end ?_
        subst hQ
        refine wp_ret ?_
        repeat (first | refine ret_out ?_ | refine ret_blk ?_)
        refine bodyPost_ret (results_tmp Try.results62 _ _ _) rfl ⟨?_, E⟩
        unfold mayE
        simp only [e0, e1, decide_eq_false e2]
        rfl
    · skip
      replace e1 := Bool.eq_false_iff.2 e1
      have E : Below w.heap.size w w := Below.refl _ _
      go_enter Try.func62, Try.ntmps62
      refine wq fun Q hQ => ?_
      refine st_new (fun b => .pointer (some ⟨b, 0, none⟩)) (some 1) rfl rfl (ex_box rfl rfl) ?_
      intro b1 W1 k1 g1 B
      simp only [zp]
      have ge_b1 := Nat.le_trans E.size g1
      replace E := below_next E B
      clear B
      refine sg (.bool false) 2 rfl rfl rfl rfl ?_
      simp only [zp]
      refine st_end ?_
      subst hQ
      refine wq fun Q hQ => ?_
      refine sv (.pointer (some ⟨b1, 0, none⟩)) 3 rfl rfl (ex_fa (p := (.pointer (some ⟨b1, 0, none⟩))) rfl rfl (fa49_0 _ _)) ?_
      simp only [zp]
      refine sv (.int .i64 e.ch) 4 rfl rfl (ex_load (p := (.pointer (some ⟨b1, 0, none⟩))) rfl rfl (ld3 (at_cell k1 rfl))) ?_
      simp only [zp]
      refine st_call (some 5) rfl rfl (chan_any e.ch W1 e0) (ex_call (f := 85) (vs := [(.int .i64 e.ch)]) rfl (cf85 _) rfl) ?_
      rintro e W2 ⟨rfl, B⟩
      refine ⟨_, rfl, ?_⟩
      simp only [zp]
      replace E := below_next E B
      replace k1 := keep B k1
      refine sm (.bool true) 6 rfl rfl rfl rfl ?_
      simp only [zp]
      refine sv (.pointer (some ⟨b1, 1, none⟩)) 7 rfl rfl (ex_fa (p := (.pointer (some ⟨b1, 0, none⟩))) rfl rfl (fa49_1 _ _)) ?_
      simp only [zp]
      refine sv (.int .i64 e.fr) 8 rfl rfl (ex_load (p := (.pointer (some ⟨b1, 1, none⟩))) rfl rfl (ld3 (at_cell k1 rfl))) ?_
      simp only [zp]
      refine sv (.pointer (some ⟨b1, 2, none⟩)) 9 rfl rfl (ex_fa (p := (.pointer (some ⟨b1, 0, none⟩))) rfl rfl (fa49_2 _ _)) ?_
      simp only [zp]
      refine sv (.int .i64 e.to) 10 rfl rfl (ex_load (p := (.pointer (some ⟨b1, 2, none⟩))) rfl rfl (ld3 (at_cell k1 rfl))) ?_
      simp only [zp]
      refine st_call (some 11) rfl rfl (two_any e.fr e.to W2 e1) (ex_call (f := 72) (vs := [(.int .i64 e.fr), (.int .i64 e.to)]) rfl (cf72 _) rfl) ?_
      rintro e W3 ⟨rfl, B⟩
      refine ⟨_, rfl, ?_⟩
      simp only [zp]
      replace E := below_next E B
      replace k1 := keep B k1
      refine sv (.bool false) 12 rfl rfl (ex_pkT rfl rfl rfl) ?_
      simp only [zp]
      refine sm (.bool false) 13 rfl rfl rfl rfl ?_
      simp only [zp]
      refine sn 14 rfl rfl ?_
      simp only [zp]
      refine sn 15 rfl rfl ?_
      simp only [zp]
      refine sn 16 rfl rfl ?_
      simp only [zp]
      refine sv (.bool false) 17 rfl rfl (ex_pkF rfl rfl rfl) ?_
      simp only [zp]
      refine sm (.bool false) 18 rfl rfl rfl rfl ?_
      simp only [zp]
      refine sn 19 rfl rfl ?_
      simp only [zp]
      refine sn 20 rfl rfl ?_
      simp only [zp]
      refine sn 21 rfl rfl ?_
      simp only [zp]
      refine sv (.bool false) 22 rfl rfl (ex_pkF rfl rfl rfl) ?_
      simp only [zp]
      refine sg (.bool false) 2 rfl rfl rfl rfl ?_
      simp only [zp]
      refine st_end ?_
      subst hQ
      refine wp_ret ?_
      repeat (first | refine ret_out ?_ | refine ret_blk ?_)
      refine bodyPost_ret (results_tmp Try.results62 _ _ _) rfl ⟨?_, E⟩
      unfold mayE
      simp only [e0, e1]
      rfl
  · skip
    replace e0 := Bool.eq_false_iff.2 e0
    have E : Below w.heap.size w w := Below.refl _ _
    go_enter Try.func62, Try.ntmps62
    refine wq fun Q hQ => ?_
    refine st_new (fun b => .pointer (some ⟨b, 0, none⟩)) (some 1) rfl rfl (ex_box rfl rfl) ?_
    intro b1 W1 k1 g1 B
    simp only [zp]
    have ge_b1 := Nat.le_trans E.size g1
    replace E := below_next E B
    clear B
    refine sg (.bool false) 2 rfl rfl rfl rfl ?_
    simp only [zp]
    refine st_end ?_
    subst hQ
    refine wq fun Q hQ => ?_
    refine sv (.pointer (some ⟨b1, 0, none⟩)) 3 rfl rfl (ex_fa (p := (.pointer (some ⟨b1, 0, none⟩))) rfl rfl (fa49_0 _ _)) ?_
    simp only [zp]
    refine sv (.int .i64 e.ch) 4 rfl rfl (ex_load (p := (.pointer (some ⟨b1, 0, none⟩))) rfl rfl (ld3 (at_cell k1 rfl))) ?_
    simp only [zp]
    refine st_call (some 5) rfl rfl (chan_any e.ch W1 e0) (ex_call (f := 85) (vs := [(.int .i64 e.ch)]) rfl (cf85 _) rfl) ?_
    rintro e W2 ⟨rfl, B⟩
    refine ⟨_, rfl, ?_⟩
    simp only [zp]
    replace E := below_next E B
    replace k1 := keep B k1
    refine sm (.bool false) 6 rfl rfl rfl rfl ?_
    simp only [zp]
    refine sn 7 rfl rfl ?_
    simp only [zp]
    refine sn 8 rfl rfl ?_
    simp only [zp]
    refine sn 9 rfl rfl ?_
    simp only [zp]
    refine sn 10 rfl rfl ?_
    simp only [zp]
    refine sn 11 rfl rfl ?_
    simp only [zp]
    refine sv (.bool false) 12 rfl rfl (ex_pkF rfl rfl rfl) ?_
    simp only [zp]
    refine sm (.bool false) 13 rfl rfl rfl rfl ?_
    simp only [zp]
    refine sn 14 rfl rfl ?_
    simp only [zp]
    refine sn 15 rfl rfl ?_
    simp only [zp]
    refine sn 16 rfl rfl ?_
    simp only [zp]
    refine sv (.bool false) 17 rfl rfl (ex_pkF rfl rfl rfl) ?_
    simp only [zp]
    refine sm (.bool false) 18 rfl rfl rfl rfl ?_
    simp only [zp]
    refine sn 19 rfl rfl ?_
    simp only [zp]
    refine sn 20 rfl rfl ?_
    simp only [zp]
    refine sn 21 rfl rfl ?_
    simp only [zp]
    refine sv (.bool false) 22 rfl rfl (ex_pkF rfl rfl rfl) ?_
    simp only [zp]
    refine sg (.bool false) 2 rfl rfl rfl rfl ?_
    simp only [zp]
    refine st_end ?_
    subst hQ
    refine wp_ret ?_
    repeat (first | refine ret_out ?_ | refine ret_blk ?_)
    refine bodyPost_ret (results_tmp Try.results62 _ _ _) rfl ⟨?_, E⟩
    unfold mayE
    simp only [e0]
    rfl
set_option maxHeartbeats 4000000 in
theorem mayW_any {v : WV} {ao : Option Addr} {n k : Nat} (w : World) (hm : v.am ≤ 9223372036854775807) {c : Bool} (hc : mayW v = c) : Calls Try.prog 34 #[.agg (WL_ v ao n k)] w fun e w' => e = .returned (.bool c) ∧ Below w.heap.size w w' := by
  subst hc
  by_cases e0 : (nodeB v.fr && nodeB v.to && decide (¬ v.fr = v.to)) = true
  · skip
    by_cases e1 : 1 ≤ v.am
    · skip
      by_cases e2 : 0 ≤ v.la
      · skip
        by_cases e3 : v.la ≤ 2147483647
        · skip
          by_cases e4 : 0 ≤ v.mo
          · skip
            have E : Below w.heap.size w w := Below.refl _ _
            go_enter Try.func34, Try.ntmps34
            refine wq fun Q hQ => ?_
            refine st_new (fun b => .pointer (some ⟨b, 0, none⟩)) (some 1) rfl rfl (ex_box rfl rfl) ?_
            intro b1 W1 k1 g1 B
            simp only [zp]
            have ge_b1 := Nat.le_trans E.size g1
            replace E := below_next E B
            clear B
            refine sg (.bool false) 2 rfl rfl rfl rfl ?_
            simp only [zp]
            refine st_end ?_
            subst hQ
            refine wq fun Q hQ => ?_
            refine sv (.pointer (some ⟨b1, 0, none⟩)) 3 rfl rfl (ex_fa (p := (.pointer (some ⟨b1, 0, none⟩))) rfl rfl (fa32_0 _ _)) ?_
            simp only [zp]
            refine sv (.int .i64 v.fr) 4 rfl rfl (ex_load (p := (.pointer (some ⟨b1, 0, none⟩))) rfl rfl (ld3 (at_cell k1 rfl))) ?_
            simp only [zp]
            refine sv (.pointer (some ⟨b1, 1, none⟩)) 5 rfl rfl (ex_fa (p := (.pointer (some ⟨b1, 0, none⟩))) rfl rfl (fa32_1 _ _)) ?_
            simp only [zp]
            refine sv (.int .i64 v.to) 6 rfl rfl (ex_load (p := (.pointer (some ⟨b1, 1, none⟩))) rfl rfl (ld3 (at_cell k1 rfl))) ?_
            simp only [zp]
            refine st_call (some 7) rfl rfl (two_any v.fr v.to W1 e0) (ex_call (f := 72) (vs := [(.int .i64 v.fr), (.int .i64 v.to)]) rfl (cf72 _) rfl) ?_
            rintro e W2 ⟨rfl, B⟩
            refine ⟨_, rfl, ?_⟩
            simp only [zp]
            replace E := below_next E B
            replace k1 := keep B k1
            refine sm (.bool true) 8 rfl rfl rfl rfl ?_
            simp only [zp]
            refine sv (.pointer (some ⟨b1, 2, none⟩)) 9 rfl rfl (ex_fa (p := (.pointer (some ⟨b1, 0, none⟩))) rfl rfl (fa32_2 _ _)) ?_
            simp only [zp]
            refine sv (.int .i64 v.am) 10 rfl rfl (ex_load (p := (.pointer (some ⟨b1, 2, none⟩))) rfl rfl (ld3 (at_cell k1 rfl))) ?_
            simp only [zp]
            refine sv (.bool true) 11 rfl rfl (ex_bin (u := (.int .i64 v.am)) (r := (.int .i64 1)) rfl rfl rfl (eg3 _ _ _ _ _ _) (geq3 _ (decide_eq_true (by omega)))) ?_
            simp only [zp]
            refine sv (.bool true) 12 rfl rfl (ex_pkT rfl rfl rfl) ?_
            simp only [zp]
            refine sm (.bool true) 13 rfl rfl rfl rfl ?_
            simp only [zp]
            refine sv (.pointer (some ⟨b1, 2, none⟩)) 14 rfl rfl (ex_fa (p := (.pointer (some ⟨b1, 0, none⟩))) rfl rfl (fa32_2 _ _)) ?_
            simp only [zp]
            refine sv (.int .i64 v.am) 15 rfl rfl (ex_load (p := (.pointer (some ⟨b1, 2, none⟩))) rfl rfl (ld3 (at_cell k1 rfl))) ?_
            simp only [zp]
            refine st_call (some 16) rfl rfl (amt_any v.am W2 hm (decide_eq_true (by omega))) (ex_call (f := 73) (vs := [(.int .i64 v.am)]) rfl (cf73 _) rfl) ?_
            rintro e W3 ⟨rfl, B⟩
            refine ⟨_, rfl, ?_⟩
            simp only [zp]
            replace E := below_next E B
            replace k1 := keep B k1
            refine sv (.bool true) 17 rfl rfl (ex_pkT rfl rfl rfl) ?_
            simp only [zp]
            refine sm (.bool true) 18 rfl rfl rfl rfl ?_
            simp only [zp]
            refine sv (.pointer (some ⟨b1, 3, none⟩)) 19 rfl rfl (ex_fa (p := (.pointer (some ⟨b1, 0, none⟩))) rfl rfl (fa32_3 _ _)) ?_
            simp only [zp]
            refine sv (.int .i64 v.la) 20 rfl rfl (ex_load (p := (.pointer (some ⟨b1, 3, none⟩))) rfl rfl (ld3 (at_cell k1 rfl))) ?_
            simp only [zp]
            refine sv (.bool true) 21 rfl rfl (ex_bin (u := (.int .i64 v.la)) (r := (.int .i64 0)) rfl rfl rfl (eg3 _ _ _ _ _ _) (geq3 _ (decide_eq_true (by omega)))) ?_
            simp only [zp]
            refine sv (.bool true) 22 rfl rfl (ex_pkT rfl rfl rfl) ?_
            simp only [zp]
            refine sm (.bool true) 23 rfl rfl rfl rfl ?_
            simp only [zp]
            refine sv (.pointer (some ⟨b1, 3, none⟩)) 24 rfl rfl (ex_fa (p := (.pointer (some ⟨b1, 0, none⟩))) rfl rfl (fa32_3 _ _)) ?_
            simp only [zp]
            refine sv (.int .i64 v.la) 25 rfl rfl (ex_load (p := (.pointer (some ⟨b1, 3, none⟩))) rfl rfl (ld3 (at_cell k1 rfl))) ?_
            simp only [zp]
            refine sv (.bool true) 26 rfl rfl (ex_bin (u := (.int .i64 v.la)) (r := (.int .i64 2147483647)) rfl rfl rfl (eg3 _ _ _ _ _ _) (leq3 _ (decide_eq_true (by omega)))) ?_
            simp only [zp]
            refine sv (.bool true) 27 rfl rfl (ex_pkT rfl rfl rfl) ?_
            simp only [zp]
            refine sm (.bool true) 28 rfl rfl rfl rfl ?_
            simp only [zp]
            refine sv (.pointer (some ⟨b1, 6, none⟩)) 29 rfl rfl (ex_fa (p := (.pointer (some ⟨b1, 0, none⟩))) rfl rfl (fa32_6 _ _)) ?_
            simp only [zp]
            refine sv (.int .i64 v.mo) 30 rfl rfl (ex_load (p := (.pointer (some ⟨b1, 6, none⟩))) rfl rfl (ld3 (at_cell k1 rfl))) ?_
            simp only [zp]
            refine sv (.bool true) 31 rfl rfl (ex_bin (u := (.int .i64 v.mo)) (r := (.int .i64 0)) rfl rfl rfl (eg3 _ _ _ _ _ _) (geq3 _ (decide_eq_true (by omega)))) ?_
            simp only [zp]
            refine sv (.bool true) 32 rfl rfl (ex_pkT rfl rfl rfl) ?_
            simp only [zp]
            refine sg (.bool true) 2 rfl rfl rfl rfl ?_
            simp only [zp]
            refine st_end ?_
            subst hQ
            refine wp_ret ?_
            repeat (first | refine ret_out ?_ | refine ret_blk ?_)
            refine bodyPost_ret (results_tmp Try.results34 _ _ _) rfl ⟨?_, E⟩
            unfold mayW
            simp only [e0, decide_eq_true e1, decide_eq_true e2, decide_eq_true e3, decide_eq_true e4]
            rfl
          · skip
            have E : Below w.heap.size w w := Below.refl _ _
            go_enter Try.func34, Try.ntmps34
            refine wq fun Q hQ => ?_
            refine st_new (fun b => .pointer (some ⟨b, 0, none⟩)) (some 1) rfl rfl (ex_box rfl rfl) ?_
            intro b1 W1 k1 g1 B
            simp only [zp]
            have ge_b1 := Nat.le_trans E.size g1
            replace E := below_next E B
            clear B
            refine sg (.bool false) 2 rfl rfl rfl rfl ?_
            simp only [zp]
            refine st_end ?_
            subst hQ
            refine wq fun Q hQ => ?_
            refine sv (.pointer (some ⟨b1, 0, none⟩)) 3 rfl rfl (ex_fa (p := (.pointer (some ⟨b1, 0, none⟩))) rfl rfl (fa32_0 _ _)) ?_
            simp only [zp]
            refine sv (.int .i64 v.fr) 4 rfl rfl (ex_load (p := (.pointer (some ⟨b1, 0, none⟩))) rfl rfl (ld3 (at_cell k1 rfl))) ?_
            simp only [zp]
            refine sv (.pointer (some ⟨b1, 1, none⟩)) 5 rfl rfl (ex_fa (p := (.pointer (some ⟨b1, 0, none⟩))) rfl rfl (fa32_1 _ _)) ?_
            simp only [zp]
            refine sv (.int .i64 v.to) 6 rfl rfl (ex_load (p := (.pointer (some ⟨b1, 1, none⟩))) rfl rfl (ld3 (at_cell k1 rfl))) ?_
            simp only [zp]
            refine st_call (some 7) rfl rfl (two_any v.fr v.to W1 e0) (ex_call (f := 72) (vs := [(.int .i64 v.fr), (.int .i64 v.to)]) rfl (cf72 _) rfl) ?_
            rintro e W2 ⟨rfl, B⟩
            refine ⟨_, rfl, ?_⟩
            simp only [zp]
            replace E := below_next E B
            replace k1 := keep B k1
            refine sm (.bool true) 8 rfl rfl rfl rfl ?_
            simp only [zp]
            refine sv (.pointer (some ⟨b1, 2, none⟩)) 9 rfl rfl (ex_fa (p := (.pointer (some ⟨b1, 0, none⟩))) rfl rfl (fa32_2 _ _)) ?_
            simp only [zp]
            refine sv (.int .i64 v.am) 10 rfl rfl (ex_load (p := (.pointer (some ⟨b1, 2, none⟩))) rfl rfl (ld3 (at_cell k1 rfl))) ?_
            simp only [zp]
            refine sv (.bool true) 11 rfl rfl (ex_bin (u := (.int .i64 v.am)) (r := (.int .i64 1)) rfl rfl rfl (eg3 _ _ _ _ _ _) (geq3 _ (decide_eq_true (by omega)))) ?_
            simp only [zp]
            refine sv (.bool true) 12 rfl rfl (ex_pkT rfl rfl rfl) ?_
            simp only [zp]
            refine sm (.bool true) 13 rfl rfl rfl rfl ?_
            simp only [zp]
            refine sv (.pointer (some ⟨b1, 2, none⟩)) 14 rfl rfl (ex_fa (p := (.pointer (some ⟨b1, 0, none⟩))) rfl rfl (fa32_2 _ _)) ?_
            simp only [zp]
            refine sv (.int .i64 v.am) 15 rfl rfl (ex_load (p := (.pointer (some ⟨b1, 2, none⟩))) rfl rfl (ld3 (at_cell k1 rfl))) ?_
            simp only [zp]
            refine st_call (some 16) rfl rfl (amt_any v.am W2 hm (decide_eq_true (by omega))) (ex_call (f := 73) (vs := [(.int .i64 v.am)]) rfl (cf73 _) rfl) ?_
            rintro e W3 ⟨rfl, B⟩
            refine ⟨_, rfl, ?_⟩
            simp only [zp]
            replace E := below_next E B
            replace k1 := keep B k1
            refine sv (.bool true) 17 rfl rfl (ex_pkT rfl rfl rfl) ?_
            simp only [zp]
            refine sm (.bool true) 18 rfl rfl rfl rfl ?_
            simp only [zp]
            refine sv (.pointer (some ⟨b1, 3, none⟩)) 19 rfl rfl (ex_fa (p := (.pointer (some ⟨b1, 0, none⟩))) rfl rfl (fa32_3 _ _)) ?_
            simp only [zp]
            refine sv (.int .i64 v.la) 20 rfl rfl (ex_load (p := (.pointer (some ⟨b1, 3, none⟩))) rfl rfl (ld3 (at_cell k1 rfl))) ?_
            simp only [zp]
            refine sv (.bool true) 21 rfl rfl (ex_bin (u := (.int .i64 v.la)) (r := (.int .i64 0)) rfl rfl rfl (eg3 _ _ _ _ _ _) (geq3 _ (decide_eq_true (by omega)))) ?_
            simp only [zp]
            refine sv (.bool true) 22 rfl rfl (ex_pkT rfl rfl rfl) ?_
            simp only [zp]
            refine sm (.bool true) 23 rfl rfl rfl rfl ?_
            simp only [zp]
            refine sv (.pointer (some ⟨b1, 3, none⟩)) 24 rfl rfl (ex_fa (p := (.pointer (some ⟨b1, 0, none⟩))) rfl rfl (fa32_3 _ _)) ?_
            simp only [zp]
            refine sv (.int .i64 v.la) 25 rfl rfl (ex_load (p := (.pointer (some ⟨b1, 3, none⟩))) rfl rfl (ld3 (at_cell k1 rfl))) ?_
            simp only [zp]
            refine sv (.bool true) 26 rfl rfl (ex_bin (u := (.int .i64 v.la)) (r := (.int .i64 2147483647)) rfl rfl rfl (eg3 _ _ _ _ _ _) (leq3 _ (decide_eq_true (by omega)))) ?_
            simp only [zp]
            refine sv (.bool true) 27 rfl rfl (ex_pkT rfl rfl rfl) ?_
            simp only [zp]
            refine sm (.bool true) 28 rfl rfl rfl rfl ?_
            simp only [zp]
            refine sv (.pointer (some ⟨b1, 6, none⟩)) 29 rfl rfl (ex_fa (p := (.pointer (some ⟨b1, 0, none⟩))) rfl rfl (fa32_6 _ _)) ?_
            simp only [zp]
            refine sv (.int .i64 v.mo) 30 rfl rfl (ex_load (p := (.pointer (some ⟨b1, 6, none⟩))) rfl rfl (ld3 (at_cell k1 rfl))) ?_
            simp only [zp]
            refine sv (.bool false) 31 rfl rfl (ex_bin (u := (.int .i64 v.mo)) (r := (.int .i64 0)) rfl rfl rfl (eg3 _ _ _ _ _ _) (geq3 _ (decide_eq_false (by omega)))) ?_
            simp only [zp]
            refine sv (.bool false) 32 rfl rfl (ex_pkT rfl rfl rfl) ?_
            simp only [zp]
            refine sg (.bool false) 2 rfl rfl rfl rfl ?_
            simp only [zp]
            refine st_end ?_
            subst hQ
            refine wp_ret ?_
            repeat (first | refine ret_out ?_ | refine ret_blk ?_)
            refine bodyPost_ret (results_tmp Try.results34 _ _ _) rfl ⟨?_, E⟩
            unfold mayW
            simp only [e0, decide_eq_true e1, decide_eq_true e2, decide_eq_true e3, decide_eq_false e4]
            rfl
        · skip
          have E : Below w.heap.size w w := Below.refl _ _
          go_enter Try.func34, Try.ntmps34
          refine wq fun Q hQ => ?_
          refine st_new (fun b => .pointer (some ⟨b, 0, none⟩)) (some 1) rfl rfl (ex_box rfl rfl) ?_
          intro b1 W1 k1 g1 B
          simp only [zp]
          have ge_b1 := Nat.le_trans E.size g1
          replace E := below_next E B
          clear B
          refine sg (.bool false) 2 rfl rfl rfl rfl ?_
          simp only [zp]
          refine st_end ?_
          subst hQ
          refine wq fun Q hQ => ?_
          refine sv (.pointer (some ⟨b1, 0, none⟩)) 3 rfl rfl (ex_fa (p := (.pointer (some ⟨b1, 0, none⟩))) rfl rfl (fa32_0 _ _)) ?_
          simp only [zp]
          refine sv (.int .i64 v.fr) 4 rfl rfl (ex_load (p := (.pointer (some ⟨b1, 0, none⟩))) rfl rfl (ld3 (at_cell k1 rfl))) ?_
          simp only [zp]
          refine sv (.pointer (some ⟨b1, 1, none⟩)) 5 rfl rfl (ex_fa (p := (.pointer (some ⟨b1, 0, none⟩))) rfl rfl (fa32_1 _ _)) ?_
          simp only [zp]
          refine sv (.int .i64 v.to) 6 rfl rfl (ex_load (p := (.pointer (some ⟨b1, 1, none⟩))) rfl rfl (ld3 (at_cell k1 rfl))) ?_
          simp only [zp]
          refine st_call (some 7) rfl rfl (two_any v.fr v.to W1 e0) (ex_call (f := 72) (vs := [(.int .i64 v.fr), (.int .i64 v.to)]) rfl (cf72 _) rfl) ?_
          rintro e W2 ⟨rfl, B⟩
          refine ⟨_, rfl, ?_⟩
          simp only [zp]
          replace E := below_next E B
          replace k1 := keep B k1
          refine sm (.bool true) 8 rfl rfl rfl rfl ?_
          simp only [zp]
          refine sv (.pointer (some ⟨b1, 2, none⟩)) 9 rfl rfl (ex_fa (p := (.pointer (some ⟨b1, 0, none⟩))) rfl rfl (fa32_2 _ _)) ?_
          simp only [zp]
          refine sv (.int .i64 v.am) 10 rfl rfl (ex_load (p := (.pointer (some ⟨b1, 2, none⟩))) rfl rfl (ld3 (at_cell k1 rfl))) ?_
          simp only [zp]
          refine sv (.bool true) 11 rfl rfl (ex_bin (u := (.int .i64 v.am)) (r := (.int .i64 1)) rfl rfl rfl (eg3 _ _ _ _ _ _) (geq3 _ (decide_eq_true (by omega)))) ?_
          simp only [zp]
          refine sv (.bool true) 12 rfl rfl (ex_pkT rfl rfl rfl) ?_
          simp only [zp]
          refine sm (.bool true) 13 rfl rfl rfl rfl ?_
          simp only [zp]
          refine sv (.pointer (some ⟨b1, 2, none⟩)) 14 rfl rfl (ex_fa (p := (.pointer (some ⟨b1, 0, none⟩))) rfl rfl (fa32_2 _ _)) ?_
          simp only [zp]
          refine sv (.int .i64 v.am) 15 rfl rfl (ex_load (p := (.pointer (some ⟨b1, 2, none⟩))) rfl rfl (ld3 (at_cell k1 rfl))) ?_
          simp only [zp]
          refine st_call (some 16) rfl rfl (amt_any v.am W2 hm (decide_eq_true (by omega))) (ex_call (f := 73) (vs := [(.int .i64 v.am)]) rfl (cf73 _) rfl) ?_
          rintro e W3 ⟨rfl, B⟩
          refine ⟨_, rfl, ?_⟩
          simp only [zp]
          replace E := below_next E B
          replace k1 := keep B k1
          refine sv (.bool true) 17 rfl rfl (ex_pkT rfl rfl rfl) ?_
          simp only [zp]
          refine sm (.bool true) 18 rfl rfl rfl rfl ?_
          simp only [zp]
          refine sv (.pointer (some ⟨b1, 3, none⟩)) 19 rfl rfl (ex_fa (p := (.pointer (some ⟨b1, 0, none⟩))) rfl rfl (fa32_3 _ _)) ?_
          simp only [zp]
          refine sv (.int .i64 v.la) 20 rfl rfl (ex_load (p := (.pointer (some ⟨b1, 3, none⟩))) rfl rfl (ld3 (at_cell k1 rfl))) ?_
          simp only [zp]
          refine sv (.bool true) 21 rfl rfl (ex_bin (u := (.int .i64 v.la)) (r := (.int .i64 0)) rfl rfl rfl (eg3 _ _ _ _ _ _) (geq3 _ (decide_eq_true (by omega)))) ?_
          simp only [zp]
          refine sv (.bool true) 22 rfl rfl (ex_pkT rfl rfl rfl) ?_
          simp only [zp]
          refine sm (.bool true) 23 rfl rfl rfl rfl ?_
          simp only [zp]
          refine sv (.pointer (some ⟨b1, 3, none⟩)) 24 rfl rfl (ex_fa (p := (.pointer (some ⟨b1, 0, none⟩))) rfl rfl (fa32_3 _ _)) ?_
          simp only [zp]
          refine sv (.int .i64 v.la) 25 rfl rfl (ex_load (p := (.pointer (some ⟨b1, 3, none⟩))) rfl rfl (ld3 (at_cell k1 rfl))) ?_
          simp only [zp]
          refine sv (.bool false) 26 rfl rfl (ex_bin (u := (.int .i64 v.la)) (r := (.int .i64 2147483647)) rfl rfl rfl (eg3 _ _ _ _ _ _) (leq3 _ (decide_eq_false (by omega)))) ?_
          simp only [zp]
          refine sv (.bool false) 27 rfl rfl (ex_pkT rfl rfl rfl) ?_
          simp only [zp]
          refine sm (.bool false) 28 rfl rfl rfl rfl ?_
          simp only [zp]
          refine sn 29 rfl rfl ?_
          simp only [zp]
          refine sn 30 rfl rfl ?_
          simp only [zp]
          refine sn 31 rfl rfl ?_
          simp only [zp]
          refine sv (.bool false) 32 rfl rfl (ex_pkF rfl rfl rfl) ?_
          simp only [zp]
          refine sg (.bool false) 2 rfl rfl rfl rfl ?_
          simp only [zp]
          refine st_end ?_
          subst hQ
          refine wp_ret ?_
          repeat (first | refine ret_out ?_ | refine ret_blk ?_)
          refine bodyPost_ret (results_tmp Try.results34 _ _ _) rfl ⟨?_, E⟩
          unfold mayW
          simp only [e0, decide_eq_true e1, decide_eq_true e2, decide_eq_false e3]
          rfl
      · skip
        have E : Below w.heap.size w w := Below.refl _ _
        go_enter Try.func34, Try.ntmps34
        refine wq fun Q hQ => ?_
        refine st_new (fun b => .pointer (some ⟨b, 0, none⟩)) (some 1) rfl rfl (ex_box rfl rfl) ?_
        intro b1 W1 k1 g1 B
        simp only [zp]
        have ge_b1 := Nat.le_trans E.size g1
        replace E := below_next E B
        clear B
        refine sg (.bool false) 2 rfl rfl rfl rfl ?_
        simp only [zp]
        refine st_end ?_
        subst hQ
        refine wq fun Q hQ => ?_
        refine sv (.pointer (some ⟨b1, 0, none⟩)) 3 rfl rfl (ex_fa (p := (.pointer (some ⟨b1, 0, none⟩))) rfl rfl (fa32_0 _ _)) ?_
        simp only [zp]
        refine sv (.int .i64 v.fr) 4 rfl rfl (ex_load (p := (.pointer (some ⟨b1, 0, none⟩))) rfl rfl (ld3 (at_cell k1 rfl))) ?_
        simp only [zp]
        refine sv (.pointer (some ⟨b1, 1, none⟩)) 5 rfl rfl (ex_fa (p := (.pointer (some ⟨b1, 0, none⟩))) rfl rfl (fa32_1 _ _)) ?_
        simp only [zp]
        refine sv (.int .i64 v.to) 6 rfl rfl (ex_load (p := (.pointer (some ⟨b1, 1, none⟩))) rfl rfl (ld3 (at_cell k1 rfl))) ?_
        simp only [zp]
        refine st_call (some 7) rfl rfl (two_any v.fr v.to W1 e0) (ex_call (f := 72) (vs := [(.int .i64 v.fr), (.int .i64 v.to)]) rfl (cf72 _) rfl) ?_
        rintro e W2 ⟨rfl, B⟩
        refine ⟨_, rfl, ?_⟩
        simp only [zp]
        replace E := below_next E B
        replace k1 := keep B k1
        refine sm (.bool true) 8 rfl rfl rfl rfl ?_
        simp only [zp]
        refine sv (.pointer (some ⟨b1, 2, none⟩)) 9 rfl rfl (ex_fa (p := (.pointer (some ⟨b1, 0, none⟩))) rfl rfl (fa32_2 _ _)) ?_
        simp only [zp]
        refine sv (.int .i64 v.am) 10 rfl rfl (ex_load (p := (.pointer (some ⟨b1, 2, none⟩))) rfl rfl (ld3 (at_cell k1 rfl))) ?_
        simp only [zp]
        refine sv (.bool true) 11 rfl rfl (ex_bin (u := (.int .i64 v.am)) (r := (.int .i64 1)) rfl rfl rfl (eg3 _ _ _ _ _ _) (geq3 _ (decide_eq_true (by omega)))) ?_
        simp only [zp]
        refine sv (.bool true) 12 rfl rfl (ex_pkT rfl rfl rfl) ?_
        simp only [zp]
        refine sm (.bool true) 13 rfl rfl rfl rfl ?_
        simp only [zp]
        refine sv (.pointer (some ⟨b1, 2, none⟩)) 14 rfl rfl (ex_fa (p := (.pointer (some ⟨b1, 0, none⟩))) rfl rfl (fa32_2 _ _)) ?_
        simp only [zp]
        refine sv (.int .i64 v.am) 15 rfl rfl (ex_load (p := (.pointer (some ⟨b1, 2, none⟩))) rfl rfl (ld3 (at_cell k1 rfl))) ?_
        simp only [zp]
        refine st_call (some 16) rfl rfl (amt_any v.am W2 hm (decide_eq_true (by omega))) (ex_call (f := 73) (vs := [(.int .i64 v.am)]) rfl (cf73 _) rfl) ?_
        rintro e W3 ⟨rfl, B⟩
        refine ⟨_, rfl, ?_⟩
        simp only [zp]
        replace E := below_next E B
        replace k1 := keep B k1
        refine sv (.bool true) 17 rfl rfl (ex_pkT rfl rfl rfl) ?_
        simp only [zp]
        refine sm (.bool true) 18 rfl rfl rfl rfl ?_
        simp only [zp]
        refine sv (.pointer (some ⟨b1, 3, none⟩)) 19 rfl rfl (ex_fa (p := (.pointer (some ⟨b1, 0, none⟩))) rfl rfl (fa32_3 _ _)) ?_
        simp only [zp]
        refine sv (.int .i64 v.la) 20 rfl rfl (ex_load (p := (.pointer (some ⟨b1, 3, none⟩))) rfl rfl (ld3 (at_cell k1 rfl))) ?_
        simp only [zp]
        refine sv (.bool false) 21 rfl rfl (ex_bin (u := (.int .i64 v.la)) (r := (.int .i64 0)) rfl rfl rfl (eg3 _ _ _ _ _ _) (geq3 _ (decide_eq_false (by omega)))) ?_
        simp only [zp]
        refine sv (.bool false) 22 rfl rfl (ex_pkT rfl rfl rfl) ?_
        simp only [zp]
        refine sm (.bool false) 23 rfl rfl rfl rfl ?_
        simp only [zp]
        refine sn 24 rfl rfl ?_
        simp only [zp]
        refine sn 25 rfl rfl ?_
        simp only [zp]
        refine sn 26 rfl rfl ?_
        simp only [zp]
        refine sv (.bool false) 27 rfl rfl (ex_pkF rfl rfl rfl) ?_
        simp only [zp]
        refine sm (.bool false) 28 rfl rfl rfl rfl ?_
        simp only [zp]
        refine sn 29 rfl rfl ?_
        simp only [zp]
        refine sn 30 rfl rfl ?_
        simp only [zp]
        refine sn 31 rfl rfl ?_
        simp only [zp]
        refine sv (.bool false) 32 rfl rfl (ex_pkF rfl rfl rfl) ?_
        simp only [zp]
        refine sg (.bool false) 2 rfl rfl rfl rfl ?_
        simp only [zp]
        refine st_end ?_
        subst hQ
        refine wp_ret ?_
        repeat (first | refine ret_out ?_ | refine ret_blk ?_)
        refine bodyPost_ret (results_tmp Try.results34 _ _ _) rfl ⟨?_, E⟩
        unfold mayW
        simp only [e0, decide_eq_true e1, decide_eq_false e2]
        rfl
    · skip
      have E : Below w.heap.size w w := Below.refl _ _
      go_enter Try.func34, Try.ntmps34
      refine wq fun Q hQ => ?_
      refine st_new (fun b => .pointer (some ⟨b, 0, none⟩)) (some 1) rfl rfl (ex_box rfl rfl) ?_
      intro b1 W1 k1 g1 B
      simp only [zp]
      have ge_b1 := Nat.le_trans E.size g1
      replace E := below_next E B
      clear B
      refine sg (.bool false) 2 rfl rfl rfl rfl ?_
      simp only [zp]
      refine st_end ?_
      subst hQ
      refine wq fun Q hQ => ?_
      refine sv (.pointer (some ⟨b1, 0, none⟩)) 3 rfl rfl (ex_fa (p := (.pointer (some ⟨b1, 0, none⟩))) rfl rfl (fa32_0 _ _)) ?_
      simp only [zp]
      refine sv (.int .i64 v.fr) 4 rfl rfl (ex_load (p := (.pointer (some ⟨b1, 0, none⟩))) rfl rfl (ld3 (at_cell k1 rfl))) ?_
      simp only [zp]
      refine sv (.pointer (some ⟨b1, 1, none⟩)) 5 rfl rfl (ex_fa (p := (.pointer (some ⟨b1, 0, none⟩))) rfl rfl (fa32_1 _ _)) ?_
      simp only [zp]
      refine sv (.int .i64 v.to) 6 rfl rfl (ex_load (p := (.pointer (some ⟨b1, 1, none⟩))) rfl rfl (ld3 (at_cell k1 rfl))) ?_
      simp only [zp]
      refine st_call (some 7) rfl rfl (two_any v.fr v.to W1 e0) (ex_call (f := 72) (vs := [(.int .i64 v.fr), (.int .i64 v.to)]) rfl (cf72 _) rfl) ?_
      rintro e W2 ⟨rfl, B⟩
      refine ⟨_, rfl, ?_⟩
      simp only [zp]
      replace E := below_next E B
      replace k1 := keep B k1
      refine sm (.bool true) 8 rfl rfl rfl rfl ?_
      simp only [zp]
      refine sv (.pointer (some ⟨b1, 2, none⟩)) 9 rfl rfl (ex_fa (p := (.pointer (some ⟨b1, 0, none⟩))) rfl rfl (fa32_2 _ _)) ?_
      simp only [zp]
      refine sv (.int .i64 v.am) 10 rfl rfl (ex_load (p := (.pointer (some ⟨b1, 2, none⟩))) rfl rfl (ld3 (at_cell k1 rfl))) ?_
      simp only [zp]
      refine sv (.bool false) 11 rfl rfl (ex_bin (u := (.int .i64 v.am)) (r := (.int .i64 1)) rfl rfl rfl (eg3 _ _ _ _ _ _) (geq3 _ (decide_eq_false (by omega)))) ?_
      simp only [zp]
      refine sv (.bool false) 12 rfl rfl (ex_pkT rfl rfl rfl) ?_
      simp only [zp]
      refine sm (.bool false) 13 rfl rfl rfl rfl ?_
      simp only [zp]
      refine sn 14 rfl rfl ?_
      simp only [zp]
      refine sn 15 rfl rfl ?_
      simp only [zp]
      refine sn 16 rfl rfl ?_
      simp only [zp]
      refine sv (.bool false) 17 rfl rfl (ex_pkF rfl rfl rfl) ?_
      simp only [zp]
      refine sm (.bool false) 18 rfl rfl rfl rfl ?_
      simp only [zp]
      refine sn 19 rfl rfl ?_
      simp only [zp]
      refine sn 20 rfl rfl ?_
      simp only [zp]
      refine sn 21 rfl rfl ?_
      simp only [zp]
      refine sv (.bool false) 22 rfl rfl (ex_pkF rfl rfl rfl) ?_
      simp only [zp]
      refine sm (.bool false) 23 rfl rfl rfl rfl ?_
      simp only [zp]
      refine sn 24 rfl rfl ?_
      simp only [zp]
      refine sn 25 rfl rfl ?_
      simp only [zp]
      refine sn 26 rfl rfl ?_
      simp only [zp]
      refine sv (.bool false) 27 rfl rfl (ex_pkF rfl rfl rfl) ?_
      simp only [zp]
      refine sm (.bool false) 28 rfl rfl rfl rfl ?_
      simp only [zp]
      refine sn 29 rfl rfl ?_
      simp only [zp]
      refine sn 30 rfl rfl ?_
      simp only [zp]
      refine sn 31 rfl rfl ?_
      simp only [zp]
      refine sv (.bool false) 32 rfl rfl (ex_pkF rfl rfl rfl) ?_
      simp only [zp]
      refine sg (.bool false) 2 rfl rfl rfl rfl ?_
      simp only [zp]
      refine st_end ?_
      subst hQ
      refine wp_ret ?_
      repeat (first | refine ret_out ?_ | refine ret_blk ?_)
      refine bodyPost_ret (results_tmp Try.results34 _ _ _) rfl ⟨?_, E⟩
      unfold mayW
      simp only [e0, decide_eq_false e1]
      rfl
  · skip
    replace e0 := Bool.eq_false_iff.2 e0
    have E : Below w.heap.size w w := Below.refl _ _
    go_enter Try.func34, Try.ntmps34
    refine wq fun Q hQ => ?_
    refine st_new (fun b => .pointer (some ⟨b, 0, none⟩)) (some 1) rfl rfl (ex_box rfl rfl) ?_
    intro b1 W1 k1 g1 B
    simp only [zp]
    have ge_b1 := Nat.le_trans E.size g1
    replace E := below_next E B
    clear B
    refine sg (.bool false) 2 rfl rfl rfl rfl ?_
    simp only [zp]
    refine st_end ?_
    subst hQ
    refine wq fun Q hQ => ?_
    refine sv (.pointer (some ⟨b1, 0, none⟩)) 3 rfl rfl (ex_fa (p := (.pointer (some ⟨b1, 0, none⟩))) rfl rfl (fa32_0 _ _)) ?_
    simp only [zp]
    refine sv (.int .i64 v.fr) 4 rfl rfl (ex_load (p := (.pointer (some ⟨b1, 0, none⟩))) rfl rfl (ld3 (at_cell k1 rfl))) ?_
    simp only [zp]
    refine sv (.pointer (some ⟨b1, 1, none⟩)) 5 rfl rfl (ex_fa (p := (.pointer (some ⟨b1, 0, none⟩))) rfl rfl (fa32_1 _ _)) ?_
    simp only [zp]
    refine sv (.int .i64 v.to) 6 rfl rfl (ex_load (p := (.pointer (some ⟨b1, 1, none⟩))) rfl rfl (ld3 (at_cell k1 rfl))) ?_
    simp only [zp]
    refine st_call (some 7) rfl rfl (two_any v.fr v.to W1 e0) (ex_call (f := 72) (vs := [(.int .i64 v.fr), (.int .i64 v.to)]) rfl (cf72 _) rfl) ?_
    rintro e W2 ⟨rfl, B⟩
    refine ⟨_, rfl, ?_⟩
    simp only [zp]
    replace E := below_next E B
    replace k1 := keep B k1
    refine sm (.bool false) 8 rfl rfl rfl rfl ?_
    simp only [zp]
    refine sn 9 rfl rfl ?_
    simp only [zp]
    refine sn 10 rfl rfl ?_
    simp only [zp]
    refine sn 11 rfl rfl ?_
    simp only [zp]
    refine sv (.bool false) 12 rfl rfl (ex_pkF rfl rfl rfl) ?_
    simp only [zp]
    refine sm (.bool false) 13 rfl rfl rfl rfl ?_
    simp only [zp]
    refine sn 14 rfl rfl ?_
    simp only [zp]
    refine sn 15 rfl rfl ?_
    simp only [zp]
    refine sn 16 rfl rfl ?_
    simp only [zp]
    refine sv (.bool false) 17 rfl rfl (ex_pkF rfl rfl rfl) ?_
    simp only [zp]
    refine sm (.bool false) 18 rfl rfl rfl rfl ?_
    simp only [zp]
    refine sn 19 rfl rfl ?_
    simp only [zp]
    refine sn 20 rfl rfl ?_
    simp only [zp]
    refine sn 21 rfl rfl ?_
    simp only [zp]
    refine sv (.bool false) 22 rfl rfl (ex_pkF rfl rfl rfl) ?_
    simp only [zp]
    refine sm (.bool false) 23 rfl rfl rfl rfl ?_
    simp only [zp]
    refine sn 24 rfl rfl ?_
    simp only [zp]
    refine sn 25 rfl rfl ?_
    simp only [zp]
    refine sn 26 rfl rfl ?_
    simp only [zp]
    refine sv (.bool false) 27 rfl rfl (ex_pkF rfl rfl rfl) ?_
    simp only [zp]
    refine sm (.bool false) 28 rfl rfl rfl rfl ?_
    simp only [zp]
    refine sn 29 rfl rfl ?_
    simp only [zp]
    refine sn 30 rfl rfl ?_
    simp only [zp]
    refine sn 31 rfl rfl ?_
    simp only [zp]
    refine sv (.bool false) 32 rfl rfl (ex_pkF rfl rfl rfl) ?_
    simp only [zp]
    refine sg (.bool false) 2 rfl rfl rfl rfl ?_
    simp only [zp]
    refine st_end ?_
    subst hQ
    refine wp_ret ?_
    repeat (first | refine ret_out ?_ | refine ret_blk ?_)
    refine bodyPost_ret (results_tmp Try.results34 _ _ _) rfl ⟨?_, E⟩
    unfold mayW
    simp only [e0]
    rfl
set_option maxHeartbeats 4000000 in
theorem closed_nil (w : World) : Calls Try.prog 33 #[.pointer none] w fun e w' => e = .returned (.bool true) ∧ Below w.heap.size w w' := by
  have E : Below w.heap.size w w := Below.refl _ _
  go_enter Try.func33, Try.ntmps33
  refine wq fun Q hQ => ?_
  refine sg (.bool false) 2 rfl rfl rfl rfl ?_
  simp only [zp]
  refine st_end ?_
  subst hQ
  refine wq fun Q hQ => ?_
  refine sm (.pointer none) 3 rfl rfl rfl rfl ?_
  simp only [zp]
  refine sv (.bool true) 4 rfl rfl (ex_pnil (t := 0) rfl rfl rfl rfl) ?_
  simp only [zp]
  refine sm (.bool true) 5 rfl rfl rfl rfl ?_
  simp only [zp]
  refine sn 6 rfl rfl ?_
  simp only [zp]
  refine sn 7 rfl rfl ?_
  simp only [zp]
  refine sn 8 rfl rfl ?_
  simp only [zp]
  refine sn 9 rfl rfl ?_
  simp only [zp]
  refine sn 10 rfl rfl ?_
  simp only [zp]
  refine sv (.bool true) 11 rfl rfl (ex_pkT rfl rfl rfl) ?_
  simp only [zp]
  refine sg (.bool true) 2 rfl rfl rfl rfl ?_
  simp only [zp]
  refine st_end ?_
  subst hQ
  refine wp_ret ?_
  repeat (first | refine ret_out ?_ | refine ret_blk ?_)
  exact bodyPost_ret (results_tmp Try.results33 _ _ _) rfl ⟨rfl, E⟩
set_option maxHeartbeats 4000000 in
theorem closed_any {g : Nat} {ad : Addr} {n c : Nat} (w : World) (kg : w.heap[g]? = some (.cells #[.slice (some ad) n c] 105)) : Calls Try.prog 33 #[.pointer (some ⟨g, 0, none⟩)] w fun e w' => e = .returned (.bool false) ∧ Below w.heap.size w w' := by
  have E : Below w.heap.size w w := Below.refl _ _
  go_enter Try.func33, Try.ntmps33
  refine wq fun Q hQ => ?_
  refine sg (.bool false) 2 rfl rfl rfl rfl ?_
  simp only [zp]
  refine st_end ?_
  subst hQ
  refine wq fun Q hQ => ?_
  refine sm (.pointer (some ⟨g, 0, none⟩)) 3 rfl rfl rfl rfl ?_
  simp only [zp]
  refine sv (.bool false) 4 rfl rfl (ex_pnil (t := 0) rfl rfl rfl rfl) ?_
  simp only [zp]
  refine sm (.bool false) 5 rfl rfl rfl rfl ?_
  simp only [zp]
  refine sm (.pointer (some ⟨g, 0, none⟩)) 6 rfl rfl rfl rfl ?_
  simp only [zp]
  refine sv (.pointer (some ⟨g, 0, none⟩)) 7 rfl rfl (ex_nil (p := (.pointer (some ⟨g, 0, none⟩))) rfl rfl rfl) ?_
  simp only [zp]
  refine sv (.pointer (some ⟨g, 0, none⟩)) 8 rfl rfl (ex_fa (p := (.pointer (some ⟨g, 0, none⟩))) rfl rfl (fa105_0 _ _)) ?_
  simp only [zp]
  refine sv (.slice (some ad) n c) 9 rfl rfl (ex_load (p := (.pointer (some ⟨g, 0, none⟩))) rfl rfl (ld33 (at_cell kg rfl))) ?_
  simp only [zp]
  refine sv (.bool false) 10 rfl rfl (ex_snil (t := 0) rfl rfl rfl rfl) ?_
  simp only [zp]
  refine sv (.bool false) 11 rfl rfl (ex_pkF rfl rfl rfl) ?_
  simp only [zp]
  refine sg (.bool false) 2 rfl rfl rfl rfl ?_
  simp only [zp]
  refine st_end ?_
  subst hQ
  refine wp_ret ?_
  repeat (first | refine ret_out ?_ | refine ret_blk ?_)
  exact bodyPost_ret (results_tmp Try.results33 _ _ _) rfl ⟨rfl, E⟩
set_option maxHeartbeats 4000000 in
theorem len_nil (w : World) : Calls Try.prog 24 #[.pointer none] w fun e w' => e = .returned (.int .i64 0) ∧ Below w.heap.size w w' := by
  have E : Below w.heap.size w w := Below.refl _ _
  go_enter Try.func24, Try.ntmps24
  refine wq fun Q hQ => ?_
  refine sg (.int .i64 0) 2 rfl rfl rfl rfl ?_
  simp only [zp]
  refine st_end ?_
  subst hQ
  refine wp_seq ?_
  refine wq fun Q hQ => ?_
  refine sm (.pointer none) 3 rfl rfl rfl rfl ?_
  simp only [zp]
  refine st_call (some 4) rfl rfl (closed_nil w) (ex_call (f := 33) (vs := [(.pointer none)]) rfl (cf33 _) rfl) ?_
  rintro e W1 ⟨rfl, B⟩
  refine ⟨_, rfl, ?_⟩
  simp only [zp]
  replace E := below_next E B
  refine st_end ?_
  subst hQ
  refine wp_cond_true rfl ?_
  refine wq fun Q hQ => ?_
  refine sg (.int .i64 0) 2 rfl rfl rfl rfl ?_
  simp only [zp]
  refine st_end ?_
  subst hQ
  refine wp_ret ?_
  repeat (first | refine ret_out ?_ | refine ret_blk ?_)
  exact bodyPost_ret (results_tmp Try.results24 _ _ _) rfl ⟨rfl, E⟩
set_option maxHeartbeats 4000000 in
theorem len_any {g : Nat} {ad : Addr} {n c : Nat} (w : World) (kg : w.heap[g]? = some (.cells #[.slice (some ad) n c] 105)) : Calls Try.prog 24 #[.pointer (some ⟨g, 0, none⟩)] w fun e w' => e = .returned (.int .i64 (n : Nat)) ∧ Below w.heap.size w w' := by
  have E : Below w.heap.size w w := Below.refl _ _
  go_enter Try.func24, Try.ntmps24
  refine wq fun Q hQ => ?_
  refine sg (.int .i64 0) 2 rfl rfl rfl rfl ?_
  simp only [zp]
  refine st_end ?_
  subst hQ
  refine wp_seq ?_
  refine wq fun Q hQ => ?_
  refine sm (.pointer (some ⟨g, 0, none⟩)) 3 rfl rfl rfl rfl ?_
  simp only [zp]
  refine st_call (some 4) rfl rfl (closed_any w kg) (ex_call (f := 33) (vs := [(.pointer (some ⟨g, 0, none⟩))]) rfl (cf33 _) rfl) ?_
  rintro e W1 ⟨rfl, B⟩
  refine ⟨_, rfl, ?_⟩
  simp only [zp]
  replace E := below_next E B
  replace kg := keep B kg
  refine st_end ?_
  subst hQ
  refine wp_cond_false rfl ?_
  refine wp_skip ?_
  refine wq fun Q hQ => ?_
  refine sm (.pointer (some ⟨g, 0, none⟩)) 5 rfl rfl rfl rfl ?_
  simp only [zp]
  refine sv (.pointer (some ⟨g, 0, none⟩)) 6 rfl rfl (ex_nil (p := (.pointer (some ⟨g, 0, none⟩))) rfl rfl rfl) ?_
  simp only [zp]
  refine sv (.pointer (some ⟨g, 0, none⟩)) 7 rfl rfl (ex_fa (p := (.pointer (some ⟨g, 0, none⟩))) rfl rfl (fa105_0 _ _)) ?_
  simp only [zp]
  refine sv (.slice (some ad) n c) 8 rfl rfl (ex_load (p := (.pointer (some ⟨g, 0, none⟩))) rfl rfl (ld33 (at_cell kg rfl))) ?_
  simp only [zp]
  refine sv (.int .i64 (n : Nat)) 9 rfl rfl (ex_len rfl rfl (len33 _ _ _ _ _)) ?_
  simp only [zp]
  refine sg (.int .i64 (n : Nat)) 2 rfl rfl rfl rfl ?_
  simp only [zp]
  refine st_end ?_
  subst hQ
  refine wp_ret ?_
  repeat (first | refine ret_out ?_ | refine ret_blk ?_)
  exact bodyPost_ret (results_tmp Try.results24 _ _ _) rfl ⟨rfl, E⟩
end Go.Proofs.Ytgnkcmmpbohafaa
