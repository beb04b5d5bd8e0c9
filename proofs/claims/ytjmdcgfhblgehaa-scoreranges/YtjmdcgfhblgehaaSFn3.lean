/- Score: what is learned, sums (the document). -/
import Derived.Test.YtjmdcgfhblgehaaSFn2
namespace Go.Proofs.Ytjmdcgfhblgehaa
open Go.RowKit
set_option linter.unusedVariables false
set_option linter.unusedSimpArgs false
set_option maxRecDepth 100000

/-- what is known behind what happened -/
def lrnN (p : PV) (a t : Int) (g : Bool) : PV :=
  if a < 1 ∨ t < 1 then p
  else if g then (if p.bad ≤ a then ⟨if p.good < a then a else p.good, t, 0, 0⟩ else ⟨if p.good < a then a else p.good, t, p.bad, p.bat⟩)
  else ⟨if a ≤ p.good then a - 1 else p.good, p.gat, if p.bat = 0 ∨ a < p.bad then a else p.bad, t⟩
/-- n floats lie there -/
def Fs (w : World) (ao : Option Addr) (n : Nat) (z : Nat → Nat) : Prop := n = 0 ∨ ∃ b o, ao = some ⟨b, o, none⟩ ∧ ∀ i, i < n → w.cell? ⟨b, o + i, none⟩ = some (.float .f64 (z i))
theorem Fs.below {w W : World} {ao : Option Addr} {n : Nat} {z : Nat → Nat} (h : Fs w ao n z) (hB : Below w.heap.size w W) : Fs W ao n z := by
  rcases h with h | ⟨b, o, e, h⟩
  · exact .inl h
  · exact .inr ⟨b, o, e, fun i hi => (hB.cell (block_lt_of_cell (h i hi))).trans (h i hi)⟩
/-- their sum, m of them from i on -/
def jk (z : Nat → Nat) : Nat → Nat → Nat → Nat
  | 0, _, s => s
  | m + 1, i, s => if okJ (z i) then jk z m (i + 1) (fadd s (z i)) else 9218868437227405312
theorem jk_jn (z : Nat → Nat) : ∀ m i s, jk z m i s = jn ((List.range' i m).map z) s
  | 0, _, _ => rfl
  | m + 1, i, s => by
    rw [List.range'_succ, List.map_cons]
    unfold jk jn
    rw [jk_jn z m (i + 1)]
theorem zero23 : (Try.prog.info? 23).map (fun i => (i.zero, i.size)) = some (some (.agg #[.int .i64 0, .int .i64 0, .int .i64 0, .int .i64 0]), 4) := by kernel_rfl
theorem sto3 {W : World} {b i : Nat} {v : Value} {m : Int} (h : W.cell? ⟨b, i, none⟩ = some v) (hf : W.frozen? ⟨b, i, none⟩ = false) : (Instr.storeAt 3 (.pointer (some ⟨b, i, none⟩)) (.int .i64 m)).run Try.prog W = .ok () (W.setCell ⟨b, i, none⟩ (.int .i64 m)) := by go_simp
section
variable {o : Oper} {a : Act} {W : World}
theorem ex_ixF {x y : Operand} {b p n c k : Nat} (ho : o.op = .indexAddr 32 x y) (hx : a.eval x = .slice (some ⟨b, p, none⟩) n c) (hy : a.eval y = .int .i64 k) (hk : k < n) : (execOp a.eval o).run Try.prog W = .ok (.value (.pointer (some ⟨b, p + k, none⟩))) W := by
  have h1 : (k : Int) < (n : Int) := by omega
  unfold execOp
  simp only [ho, hx, hy]
  go_simp
end

set_option maxHeartbeats 8000000 in
theorem rlearn_any {p : PV} (a t : Int) (g : Bool) (w : World) (a1 : -9223372036854775808 ≤ a) (a2 : a ≤ 9223372036854775807) : Calls Try.prog 26 #[.agg (PL p), .int .i64 a, .int .i64 t, .bool g] w fun e w' => e = .returned (.agg (PL (lrnN p a t g))) ∧ Below w.heap.size w w' := by
  show Calls Try.prog 26 #[.agg #[.int .i64 p.good, .int .i64 p.gat, .int .i64 p.bad, .int .i64 p.bat], .int .i64 a, .int .i64 t, .bool g] w _
  cases g with
  | true =>
    by_cases e0 : a < 1
    · skip
      have E : Below w.heap.size w w := Below.refl _ _
      go_enter Try.func26, Try.ntmps26
      refine wq fun Q hQ => ?_
      refine st_new (fun b => .pointer (some ⟨b, 0, none⟩)) (some 4) rfl rfl (ex_box rfl rfl) ?_
      intro b1 W1 k1 g1 B
      simp only [zp]
      have ge_b1 := Nat.le_trans E.size g1
      replace E := below_next E B
      clear B
      refine st_new (fun b => .pointer (some ⟨b, 0, none⟩)) (some 8) rfl rfl (ex_alloc rfl zero23) ?_
      intro b2 W2 k2 g2 B
      simp only [zp]
      have ne_b2_b1 : b2 ≠ b1 := fun e => by have := lt_of k1; omega
      have ge_b2 := Nat.le_trans E.size g2
      replace E := below_next E B
      replace k1 := keep B k1
      clear B
      refine st_end ?_
      subst hQ
      refine wp_seq ?_
      refine wq fun Q hQ => ?_
      refine sm (.int .i64 a) 9 rfl rfl rfl rfl ?_
      simp only [zp]
      refine sv (.bool true) 10 rfl rfl (ex_bin (u := (.int .i64 a)) (r := (.int .i64 1)) rfl rfl rfl (eg3 _ _ _ _ _ _) (lss3 _ (decide_eq_true (by omega)))) ?_
      simp only [zp]
      refine sm (.bool true) 11 rfl rfl rfl rfl ?_
      simp only [zp]
      refine sn 12 rfl rfl ?_
      simp only [zp]
      refine sn 13 rfl rfl ?_
      simp only [zp]
      refine sv (.bool true) 14 rfl rfl (ex_pkT rfl rfl rfl) ?_
      simp only [zp]
      refine st_end ?_
      subst hQ
      refine wp_cond_true rfl ?_
      refine wq fun Q hQ => ?_
      refine sv (.agg #[.int .i64 p.good, .int .i64 p.gat, .int .i64 p.bad, .int .i64 p.bat]) 15 rfl rfl (ex_load (p := (.pointer (some ⟨b1, 0, none⟩))) rfl rfl (ld_all k1 Try.underlying23 rfl inf23)) ?_
      simp only [zp]
      obtain ⟨W3, hst, kn, K⟩ := put_all (D := #[.int .i64 p.good, .int .i64 p.gat, .int .i64 p.bad, .int .i64 p.bat]) k2 rfl inf23 (by kernel_rfl)
      refine st_sk rfl rfl (ex_store rfl rfl rfl hst) ?_
      replace E := below_put E ge_b2 K
      replace k1 := keepK K k1 (fun e => by first | exact ne_b1_b2 e | exact ne_b2_b1 e.symm)
      replace k2 := kn
      clear kn K hst
      refine st_end ?_
      subst hQ
      refine wp_ret ?_
      repeat (first | refine ret_out ?_ | refine ret_blk ?_)
      refine bodyPost_ret (results_cell_row Try.results26 _ _ b2 _ _ _ _ rfl k2 Try.underlying23 rfl inf23) rfl ⟨?_, E⟩
      show Ending.returned (.agg #[.int .i64 p.good, .int .i64 p.gat, .int .i64 p.bad, .int .i64 p.bat]) = _
      simp [lrnN, PL, e0]
    · skip
      by_cases e1 : t < 1
      · skip
        have E : Below w.heap.size w w := Below.refl _ _
        go_enter Try.func26, Try.ntmps26
        refine wq fun Q hQ => ?_
        refine st_new (fun b => .pointer (some ⟨b, 0, none⟩)) (some 4) rfl rfl (ex_box rfl rfl) ?_
        intro b1 W1 k1 g1 B
        simp only [zp]
        have ge_b1 := Nat.le_trans E.size g1
        replace E := below_next E B
        clear B
        refine st_new (fun b => .pointer (some ⟨b, 0, none⟩)) (some 8) rfl rfl (ex_alloc rfl zero23) ?_
        intro b2 W2 k2 g2 B
        simp only [zp]
        have ne_b2_b1 : b2 ≠ b1 := fun e => by have := lt_of k1; omega
        have ge_b2 := Nat.le_trans E.size g2
        replace E := below_next E B
        replace k1 := keep B k1
        clear B
        refine st_end ?_
        subst hQ
        refine wp_seq ?_
        refine wq fun Q hQ => ?_
        refine sm (.int .i64 a) 9 rfl rfl rfl rfl ?_
        simp only [zp]
        refine sv (.bool false) 10 rfl rfl (ex_bin (u := (.int .i64 a)) (r := (.int .i64 1)) rfl rfl rfl (eg3 _ _ _ _ _ _) (lss3 _ (decide_eq_false (by omega)))) ?_
        simp only [zp]
        refine sm (.bool false) 11 rfl rfl rfl rfl ?_
        simp only [zp]
        refine sm (.int .i64 t) 12 rfl rfl rfl rfl ?_
        simp only [zp]
        refine sv (.bool true) 13 rfl rfl (ex_bin (u := (.int .i64 t)) (r := (.int .i64 1)) rfl rfl rfl (eg3 _ _ _ _ _ _) (lss3 _ (decide_eq_true (by omega)))) ?_
        simp only [zp]
        refine sv (.bool true) 14 rfl rfl (ex_pkF rfl rfl rfl) ?_
        simp only [zp]
        refine st_end ?_
        subst hQ
        refine wp_cond_true rfl ?_
        refine wq fun Q hQ => ?_
        refine sv (.agg #[.int .i64 p.good, .int .i64 p.gat, .int .i64 p.bad, .int .i64 p.bat]) 15 rfl rfl (ex_load (p := (.pointer (some ⟨b1, 0, none⟩))) rfl rfl (ld_all k1 Try.underlying23 rfl inf23)) ?_
        simp only [zp]
        obtain ⟨W3, hst, kn, K⟩ := put_all (D := #[.int .i64 p.good, .int .i64 p.gat, .int .i64 p.bad, .int .i64 p.bat]) k2 rfl inf23 (by kernel_rfl)
        refine st_sk rfl rfl (ex_store rfl rfl rfl hst) ?_
        replace E := below_put E ge_b2 K
        replace k1 := keepK K k1 (fun e => by first | exact ne_b1_b2 e | exact ne_b2_b1 e.symm)
        replace k2 := kn
        clear kn K hst
        refine st_end ?_
        subst hQ
        refine wp_ret ?_
        repeat (first | refine ret_out ?_ | refine ret_blk ?_)
        refine bodyPost_ret (results_cell_row Try.results26 _ _ b2 _ _ _ _ rfl k2 Try.underlying23 rfl inf23) rfl ⟨?_, E⟩
        show Ending.returned (.agg #[.int .i64 p.good, .int .i64 p.gat, .int .i64 p.bad, .int .i64 p.bat]) = _
        simp [lrnN, PL, e0, e1]
      · skip
        by_cases e2 : p.good < a
        · skip
          by_cases e3 : p.bad ≤ a
          · skip
            have E : Below w.heap.size w w := Below.refl _ _
            go_enter Try.func26, Try.ntmps26
            refine wq fun Q hQ => ?_
            refine st_new (fun b => .pointer (some ⟨b, 0, none⟩)) (some 4) rfl rfl (ex_box rfl rfl) ?_
            intro b1 W1 k1 g1 B
            simp only [zp]
            have ge_b1 := Nat.le_trans E.size g1
            replace E := below_next E B
            clear B
            refine st_new (fun b => .pointer (some ⟨b, 0, none⟩)) (some 8) rfl rfl (ex_alloc rfl zero23) ?_
            intro b2 W2 k2 g2 B
            simp only [zp]
            have ne_b2_b1 : b2 ≠ b1 := fun e => by have := lt_of k1; omega
            have ge_b2 := Nat.le_trans E.size g2
            replace E := below_next E B
            replace k1 := keep B k1
            clear B
            refine st_end ?_
            subst hQ
            refine wp_seq ?_
            refine wq fun Q hQ => ?_
            refine sm (.int .i64 a) 9 rfl rfl rfl rfl ?_
            simp only [zp]
            refine sv (.bool false) 10 rfl rfl (ex_bin (u := (.int .i64 a)) (r := (.int .i64 1)) rfl rfl rfl (eg3 _ _ _ _ _ _) (lss3 _ (decide_eq_false (by omega)))) ?_
            simp only [zp]
            refine sm (.bool false) 11 rfl rfl rfl rfl ?_
            simp only [zp]
            refine sm (.int .i64 t) 12 rfl rfl rfl rfl ?_
            simp only [zp]
            refine sv (.bool false) 13 rfl rfl (ex_bin (u := (.int .i64 t)) (r := (.int .i64 1)) rfl rfl rfl (eg3 _ _ _ _ _ _) (lss3 _ (decide_eq_false (by omega)))) ?_
            simp only [zp]
            refine sv (.bool false) 14 rfl rfl (ex_pkF rfl rfl rfl) ?_
            simp only [zp]
            refine st_end ?_
            subst hQ
            refine wp_cond_false rfl ?_
            refine wp_skip ?_
            refine wp_seq ?_
            refine wq fun Q hQ => ?_
            refine sm (.bool true) 16 rfl rfl rfl rfl ?_
            simp only [zp]
            refine st_end ?_
            subst hQ
            refine wp_cond_true rfl ?_
            refine wp_seq ?_
            refine wq fun Q hQ => ?_
            refine sm (.int .i64 a) 17 rfl rfl rfl rfl ?_
            simp only [zp]
            refine sv (.pointer (some ⟨b1, 0, none⟩)) 18 rfl rfl (ex_fa (p := (.pointer (some ⟨b1, 0, none⟩))) rfl rfl (fa23_0 _ _)) ?_
            simp only [zp]
            refine sv (.int .i64 p.good) 19 rfl rfl (ex_load (p := (.pointer (some ⟨b1, 0, none⟩))) rfl rfl (ld3 (at_cell k1 rfl))) ?_
            simp only [zp]
            refine sv (.bool true) 20 rfl rfl (ex_bin (u := (.int .i64 a)) (r := (.int .i64 p.good)) rfl rfl rfl (eg3 _ _ _ _ _ _) (gtr3 _ (decide_eq_true (by omega)))) ?_
            simp only [zp]
            refine st_end ?_
            subst hQ
            refine wp_cond_true rfl ?_
            refine wl_in (wl_cap fun Q hQ => ?_)
            refine sm (.int .i64 a) 21 rfl rfl rfl rfl ?_
            simp only [zp]
            refine sv (.pointer (some ⟨b1, 0, none⟩)) 22 rfl rfl (ex_fa (p := (.pointer (some ⟨b1, 0, none⟩))) rfl rfl (fa23_0 _ _)) ?_
            simp only [zp]
            obtain ⟨kn, K⟩ := put_cell (i := 0) (.int .i64 a) k1
            refine st_sk rfl rfl (ex_store rfl rfl rfl (sto3 (at_cell k1 rfl) (unfrozen k1))) ?_
            obtain ⟨W3, hW2⟩ : ∃ W', W2.setCell ⟨b1, 0, none⟩ (.int .i64 a) = W' := ⟨_, rfl⟩
            rw [hW2] at kn K ⊢
            replace E := below_put E ge_b1 K
            replace k2 := keepK K k2 (fun e => by first | exact ne_b2_b1 e | exact ne_b1_b2 e.symm)
            replace k1 := kn
            clear kn K
            refine st_end ?_
            subst hQ
            refine wq fun Q hQ => ?_
            refine sm (.int .i64 t) 23 rfl rfl rfl rfl ?_
            simp only [zp]
            refine sv (.pointer (some ⟨b1, 1, none⟩)) 24 rfl rfl (ex_fa (p := (.pointer (some ⟨b1, 0, none⟩))) rfl rfl (fa23_1 _ _)) ?_
            simp only [zp]
            obtain ⟨kn, K⟩ := put_cell (i := 1) (.int .i64 t) k1
            refine st_sk rfl rfl (ex_store rfl rfl rfl (sto3 (at_cell k1 rfl) (unfrozen k1))) ?_
            obtain ⟨W4, hW2⟩ : ∃ W', W3.setCell ⟨b1, 1, none⟩ (.int .i64 t) = W' := ⟨_, rfl⟩
            rw [hW2] at kn K ⊢
            replace E := below_put E ge_b1 K
            replace k2 := keepK K k2 (fun e => by first | exact ne_b2_b1 e | exact ne_b1_b2 e.symm)
            replace k1 := kn
            clear kn K
            refine st_end ?_
            subst hQ
            refine wp_seq ?_
            refine wq fun Q hQ => ?_
            refine sv (.pointer (some ⟨b1, 2, none⟩)) 25 rfl rfl (ex_fa (p := (.pointer (some ⟨b1, 0, none⟩))) rfl rfl (fa23_2 _ _)) ?_
            simp only [zp]
            refine sv (.int .i64 p.bad) 26 rfl rfl (ex_load (p := (.pointer (some ⟨b1, 2, none⟩))) rfl rfl (ld3 (at_cell k1 rfl))) ?_
            simp only [zp]
            refine sm (.int .i64 a) 27 rfl rfl rfl rfl ?_
            simp only [zp]
            refine sv (.bool true) 28 rfl rfl (ex_bin (u := (.int .i64 p.bad)) (r := (.int .i64 a)) rfl rfl rfl (eg3 _ _ _ _ _ _) (leq3 _ (decide_eq_true (by omega)))) ?_
            simp only [zp]
            refine st_end ?_
            subst hQ
            refine wp_cond_true rfl ?_
            refine wl_in (wl_cap fun Q hQ => ?_)
            refine sv (.pointer (some ⟨b1, 2, none⟩)) 29 rfl rfl (ex_fa (p := (.pointer (some ⟨b1, 0, none⟩))) rfl rfl (fa23_2 _ _)) ?_
            simp only [zp]
            obtain ⟨kn, K⟩ := put_cell (i := 2) (.int .i64 0) k1
            refine st_sk rfl rfl (ex_store rfl rfl rfl (sto3 (at_cell k1 rfl) (unfrozen k1))) ?_
            obtain ⟨W5, hW2⟩ : ∃ W', W4.setCell ⟨b1, 2, none⟩ (.int .i64 0) = W' := ⟨_, rfl⟩
            rw [hW2] at kn K ⊢
            replace E := below_put E ge_b1 K
            replace k2 := keepK K k2 (fun e => by first | exact ne_b2_b1 e | exact ne_b1_b2 e.symm)
            replace k1 := kn
            clear kn K
            refine sv (.pointer (some ⟨b1, 3, none⟩)) 30 rfl rfl (ex_fa (p := (.pointer (some ⟨b1, 0, none⟩))) rfl rfl (fa23_3 _ _)) ?_
            simp only [zp]
            obtain ⟨kn, K⟩ := put_cell (i := 3) (.int .i64 0) k1
            refine st_sk rfl rfl (ex_store rfl rfl rfl (sto3 (at_cell k1 rfl) (unfrozen k1))) ?_
            obtain ⟨W6, hW2⟩ : ∃ W', W5.setCell ⟨b1, 3, none⟩ (.int .i64 0) = W' := ⟨_, rfl⟩
            rw [hW2] at kn K ⊢
            replace E := below_put E ge_b1 K
            replace k2 := keepK K k2 (fun e => by first | exact ne_b2_b1 e | exact ne_b1_b2 e.symm)
            replace k1 := kn
            clear kn K
            refine st_end ?_
            subst hQ
            refine wq fun Q hQ => ?_
            refine sv (.agg #[(.int .i64 a), (.int .i64 t), (.int .i64 0), (.int .i64 0)]) 31 rfl rfl (ex_load (p := (.pointer (some ⟨b1, 0, none⟩))) rfl rfl (ld_all k1 Try.underlying23 rfl inf23)) ?_
            simp only [zp]
            obtain ⟨W7, hst, kn, K⟩ := put_all (D := #[(.int .i64 a), (.int .i64 t), (.int .i64 0), (.int .i64 0)]) k2 rfl inf23 (by kernel_rfl)
            refine st_sk rfl rfl (ex_store rfl rfl rfl hst) ?_
            replace E := below_put E ge_b2 K
            replace k1 := keepK K k1 (fun e => by first | exact ne_b1_b2 e | exact ne_b2_b1 e.symm)
            replace k2 := kn
            clear kn K hst
            refine st_end ?_
            subst hQ
            refine wp_ret ?_
            repeat (first | refine ret_out ?_ | refine ret_blk ?_)
            refine bodyPost_ret (results_cell_row Try.results26 _ _ b2 _ _ _ _ rfl k2 Try.underlying23 rfl inf23) rfl ⟨?_, E⟩
            show Ending.returned (.agg #[(.int .i64 a), (.int .i64 t), (.int .i64 0), (.int .i64 0)]) = _
            simp [lrnN, PL, e0, e1, e2, e3]
          · skip
            have E : Below w.heap.size w w := Below.refl _ _
            go_enter Try.func26, Try.ntmps26
            refine wq fun Q hQ => ?_
            refine st_new (fun b => .pointer (some ⟨b, 0, none⟩)) (some 4) rfl rfl (ex_box rfl rfl) ?_
            intro b1 W1 k1 g1 B
            simp only [zp]
            have ge_b1 := Nat.le_trans E.size g1
            replace E := below_next E B
            clear B
            refine st_new (fun b => .pointer (some ⟨b, 0, none⟩)) (some 8) rfl rfl (ex_alloc rfl zero23) ?_
            intro b2 W2 k2 g2 B
            simp only [zp]
            have ne_b2_b1 : b2 ≠ b1 := fun e => by have := lt_of k1; omega
            have ge_b2 := Nat.le_trans E.size g2
            replace E := below_next E B
            replace k1 := keep B k1
            clear B
            refine st_end ?_
            subst hQ
            refine wp_seq ?_
            refine wq fun Q hQ => ?_
            refine sm (.int .i64 a) 9 rfl rfl rfl rfl ?_
            simp only [zp]
            refine sv (.bool false) 10 rfl rfl (ex_bin (u := (.int .i64 a)) (r := (.int .i64 1)) rfl rfl rfl (eg3 _ _ _ _ _ _) (lss3 _ (decide_eq_false (by omega)))) ?_
            simp only [zp]
            refine sm (.bool false) 11 rfl rfl rfl rfl ?_
            simp only [zp]
            refine sm (.int .i64 t) 12 rfl rfl rfl rfl ?_
            simp only [zp]
            refine sv (.bool false) 13 rfl rfl (ex_bin (u := (.int .i64 t)) (r := (.int .i64 1)) rfl rfl rfl (eg3 _ _ _ _ _ _) (lss3 _ (decide_eq_false (by omega)))) ?_
            simp only [zp]
            refine sv (.bool false) 14 rfl rfl (ex_pkF rfl rfl rfl) ?_
            simp only [zp]
            refine st_end ?_
            subst hQ
            refine wp_cond_false rfl ?_
            refine wp_skip ?_
            refine wp_seq ?_
            refine wq fun Q hQ => ?_
            refine sm (.bool true) 16 rfl rfl rfl rfl ?_
            simp only [zp]
            refine st_end ?_
            subst hQ
            refine wp_cond_true rfl ?_
            refine wp_seq ?_
            refine wq fun Q hQ => ?_
            refine sm (.int .i64 a) 17 rfl rfl rfl rfl ?_
            simp only [zp]
            refine sv (.pointer (some ⟨b1, 0, none⟩)) 18 rfl rfl (ex_fa (p := (.pointer (some ⟨b1, 0, none⟩))) rfl rfl (fa23_0 _ _)) ?_
            simp only [zp]
            refine sv (.int .i64 p.good) 19 rfl rfl (ex_load (p := (.pointer (some ⟨b1, 0, none⟩))) rfl rfl (ld3 (at_cell k1 rfl))) ?_
            simp only [zp]
            refine sv (.bool true) 20 rfl rfl (ex_bin (u := (.int .i64 a)) (r := (.int .i64 p.good)) rfl rfl rfl (eg3 _ _ _ _ _ _) (gtr3 _ (decide_eq_true (by omega)))) ?_
            simp only [zp]
            refine st_end ?_
            subst hQ
            refine wp_cond_true rfl ?_
            refine wl_in (wl_cap fun Q hQ => ?_)
            refine sm (.int .i64 a) 21 rfl rfl rfl rfl ?_
            simp only [zp]
            refine sv (.pointer (some ⟨b1, 0, none⟩)) 22 rfl rfl (ex_fa (p := (.pointer (some ⟨b1, 0, none⟩))) rfl rfl (fa23_0 _ _)) ?_
            simp only [zp]
            obtain ⟨kn, K⟩ := put_cell (i := 0) (.int .i64 a) k1
            refine st_sk rfl rfl (ex_store rfl rfl rfl (sto3 (at_cell k1 rfl) (unfrozen k1))) ?_
            obtain ⟨W3, hW2⟩ : ∃ W', W2.setCell ⟨b1, 0, none⟩ (.int .i64 a) = W' := ⟨_, rfl⟩
            rw [hW2] at kn K ⊢
            replace E := below_put E ge_b1 K
            replace k2 := keepK K k2 (fun e => by first | exact ne_b2_b1 e | exact ne_b1_b2 e.symm)
            replace k1 := kn
            clear kn K
            refine st_end ?_
            subst hQ
            refine wq fun Q hQ => ?_
            refine sm (.int .i64 t) 23 rfl rfl rfl rfl ?_
            simp only [zp]
            refine sv (.pointer (some ⟨b1, 1, none⟩)) 24 rfl rfl (ex_fa (p := (.pointer (some ⟨b1, 0, none⟩))) rfl rfl (fa23_1 _ _)) ?_
            simp only [zp]
            obtain ⟨kn, K⟩ := put_cell (i := 1) (.int .i64 t) k1
            refine st_sk rfl rfl (ex_store rfl rfl rfl (sto3 (at_cell k1 rfl) (unfrozen k1))) ?_
            obtain ⟨W4, hW2⟩ : ∃ W', W3.setCell ⟨b1, 1, none⟩ (.int .i64 t) = W' := ⟨_, rfl⟩
            rw [hW2] at kn K ⊢
            replace E := below_put E ge_b1 K
            replace k2 := keepK K k2 (fun e => by first | exact ne_b2_b1 e | exact ne_b1_b2 e.symm)
            replace k1 := kn
            clear kn K
            refine st_end ?_
            subst hQ
            refine wp_seq ?_
            refine wq fun Q hQ => ?_
            refine sv (.pointer (some ⟨b1, 2, none⟩)) 25 rfl rfl (ex_fa (p := (.pointer (some ⟨b1, 0, none⟩))) rfl rfl (fa23_2 _ _)) ?_
            simp only [zp]
            refine sv (.int .i64 p.bad) 26 rfl rfl (ex_load (p := (.pointer (some ⟨b1, 2, none⟩))) rfl rfl (ld3 (at_cell k1 rfl))) ?_
            simp only [zp]
            refine sm (.int .i64 a) 27 rfl rfl rfl rfl ?_
            simp only [zp]
            refine sv (.bool false) 28 rfl rfl (ex_bin (u := (.int .i64 p.bad)) (r := (.int .i64 a)) rfl rfl rfl (eg3 _ _ _ _ _ _) (leq3 _ (decide_eq_false (by omega)))) ?_
            simp only [zp]
            refine st_end ?_
            subst hQ
            refine wp_cond_false rfl ?_
            refine wp_skip ?_
            refine wq fun Q hQ => ?_
            refine sv (.agg #[(.int .i64 a), (.int .i64 t), (.int .i64 p.bad), (.int .i64 p.bat)]) 31 rfl rfl (ex_load (p := (.pointer (some ⟨b1, 0, none⟩))) rfl rfl (ld_all k1 Try.underlying23 rfl inf23)) ?_
            simp only [zp]
            obtain ⟨W5, hst, kn, K⟩ := put_all (D := #[(.int .i64 a), (.int .i64 t), (.int .i64 p.bad), (.int .i64 p.bat)]) k2 rfl inf23 (by kernel_rfl)
            refine st_sk rfl rfl (ex_store rfl rfl rfl hst) ?_
            replace E := below_put E ge_b2 K
            replace k1 := keepK K k1 (fun e => by first | exact ne_b1_b2 e | exact ne_b2_b1 e.symm)
            replace k2 := kn
            clear kn K hst
            refine st_end ?_
            subst hQ
            refine wp_ret ?_
            repeat (first | refine ret_out ?_ | refine ret_blk ?_)
            refine bodyPost_ret (results_cell_row Try.results26 _ _ b2 _ _ _ _ rfl k2 Try.underlying23 rfl inf23) rfl ⟨?_, E⟩
            show Ending.returned (.agg #[(.int .i64 a), (.int .i64 t), (.int .i64 p.bad), (.int .i64 p.bat)]) = _
            simp [lrnN, PL, e0, e1, e2, e3]
        · skip
          by_cases e3 : p.bad ≤ a
          · skip
            have E : Below w.heap.size w w := Below.refl _ _
            go_enter Try.func26, Try.ntmps26
            refine wq fun Q hQ => ?_
            refine st_new (fun b => .pointer (some ⟨b, 0, none⟩)) (some 4) rfl rfl (ex_box rfl rfl) ?_
            intro b1 W1 k1 g1 B
            simp only [zp]
            have ge_b1 := Nat.le_trans E.size g1
            replace E := below_next E B
            clear B
            refine st_new (fun b => .pointer (some ⟨b, 0, none⟩)) (some 8) rfl rfl (ex_alloc rfl zero23) ?_
            intro b2 W2 k2 g2 B
            simp only [zp]
            have ne_b2_b1 : b2 ≠ b1 := fun e => by have := lt_of k1; omega
            have ge_b2 := Nat.le_trans E.size g2
            replace E := below_next E B
            replace k1 := keep B k1
            clear B
            refine st_end ?_
            subst hQ
            refine wp_seq ?_
            refine wq fun Q hQ => ?_
            refine sm (.int .i64 a) 9 rfl rfl rfl rfl ?_
            simp only [zp]
            refine sv (.bool false) 10 rfl rfl (ex_bin (u := (.int .i64 a)) (r := (.int .i64 1)) rfl rfl rfl (eg3 _ _ _ _ _ _) (lss3 _ (decide_eq_false (by omega)))) ?_
            simp only [zp]
            refine sm (.bool false) 11 rfl rfl rfl rfl ?_
            simp only [zp]
            refine sm (.int .i64 t) 12 rfl rfl rfl rfl ?_
            simp only [zp]
            refine sv (.bool false) 13 rfl rfl (ex_bin (u := (.int .i64 t)) (r := (.int .i64 1)) rfl rfl rfl (eg3 _ _ _ _ _ _) (lss3 _ (decide_eq_false (by omega)))) ?_
            simp only [zp]
            refine sv (.bool false) 14 rfl rfl (ex_pkF rfl rfl rfl) ?_
            simp only [zp]
            refine st_end ?_
            subst hQ
            refine wp_cond_false rfl ?_
            refine wp_skip ?_
            refine wp_seq ?_
            refine wq fun Q hQ => ?_
            refine sm (.bool true) 16 rfl rfl rfl rfl ?_
            simp only [zp]
            refine st_end ?_
            subst hQ
            refine wp_cond_true rfl ?_
            refine wp_seq ?_
            refine wq fun Q hQ => ?_
            refine sm (.int .i64 a) 17 rfl rfl rfl rfl ?_
            simp only [zp]
            refine sv (.pointer (some ⟨b1, 0, none⟩)) 18 rfl rfl (ex_fa (p := (.pointer (some ⟨b1, 0, none⟩))) rfl rfl (fa23_0 _ _)) ?_
            simp only [zp]
            refine sv (.int .i64 p.good) 19 rfl rfl (ex_load (p := (.pointer (some ⟨b1, 0, none⟩))) rfl rfl (ld3 (at_cell k1 rfl))) ?_
            simp only [zp]
            refine sv (.bool false) 20 rfl rfl (ex_bin (u := (.int .i64 a)) (r := (.int .i64 p.good)) rfl rfl rfl (eg3 _ _ _ _ _ _) (gtr3 _ (decide_eq_false (by omega)))) ?_
            simp only [zp]
            refine st_end ?_
            subst hQ
            refine wp_cond_false rfl ?_
            refine wp_skip ?_
            refine wq fun Q hQ => ?_
            refine sm (.int .i64 t) 23 rfl rfl rfl rfl ?_
            simp only [zp]
            refine sv (.pointer (some ⟨b1, 1, none⟩)) 24 rfl rfl (ex_fa (p := (.pointer (some ⟨b1, 0, none⟩))) rfl rfl (fa23_1 _ _)) ?_
            simp only [zp]
            obtain ⟨kn, K⟩ := put_cell (i := 1) (.int .i64 t) k1
            refine st_sk rfl rfl (ex_store rfl rfl rfl (sto3 (at_cell k1 rfl) (unfrozen k1))) ?_
            obtain ⟨W3, hW2⟩ : ∃ W', W2.setCell ⟨b1, 1, none⟩ (.int .i64 t) = W' := ⟨_, rfl⟩
            rw [hW2] at kn K ⊢
            replace E := below_put E ge_b1 K
            replace k2 := keepK K k2 (fun e => by first | exact ne_b2_b1 e | exact ne_b1_b2 e.symm)
            replace k1 := kn
            clear kn K
            refine st_end ?_
            subst hQ
            refine wp_seq ?_
            refine wq fun Q hQ => ?_
            refine sv (.pointer (some ⟨b1, 2, none⟩)) 25 rfl rfl (ex_fa (p := (.pointer (some ⟨b1, 0, none⟩))) rfl rfl (fa23_2 _ _)) ?_
            simp only [zp]
            refine sv (.int .i64 p.bad) 26 rfl rfl (ex_load (p := (.pointer (some ⟨b1, 2, none⟩))) rfl rfl (ld3 (at_cell k1 rfl))) ?_
            simp only [zp]
            refine sm (.int .i64 a) 27 rfl rfl rfl rfl ?_
            simp only [zp]
            refine sv (.bool true) 28 rfl rfl (ex_bin (u := (.int .i64 p.bad)) (r := (.int .i64 a)) rfl rfl rfl (eg3 _ _ _ _ _ _) (leq3 _ (decide_eq_true (by omega)))) ?_
            simp only [zp]
            refine st_end ?_
            subst hQ
            refine wp_cond_true rfl ?_
            refine wl_in (wl_cap fun Q hQ => ?_)
            refine sv (.pointer (some ⟨b1, 2, none⟩)) 29 rfl rfl (ex_fa (p := (.pointer (some ⟨b1, 0, none⟩))) rfl rfl (fa23_2 _ _)) ?_
            simp only [zp]
            obtain ⟨kn, K⟩ := put_cell (i := 2) (.int .i64 0) k1
            refine st_sk rfl rfl (ex_store rfl rfl rfl (sto3 (at_cell k1 rfl) (unfrozen k1))) ?_
            obtain ⟨W4, hW2⟩ : ∃ W', W3.setCell ⟨b1, 2, none⟩ (.int .i64 0) = W' := ⟨_, rfl⟩
            rw [hW2] at kn K ⊢
            replace E := below_put E ge_b1 K
            replace k2 := keepK K k2 (fun e => by first | exact ne_b2_b1 e | exact ne_b1_b2 e.symm)
            replace k1 := kn
            clear kn K
            refine sv (.pointer (some ⟨b1, 3, none⟩)) 30 rfl rfl (ex_fa (p := (.pointer (some ⟨b1, 0, none⟩))) rfl rfl (fa23_3 _ _)) ?_
            simp only [zp]
            obtain ⟨kn, K⟩ := put_cell (i := 3) (.int .i64 0) k1
            refine st_sk rfl rfl (ex_store rfl rfl rfl (sto3 (at_cell k1 rfl) (unfrozen k1))) ?_
            obtain ⟨W5, hW2⟩ : ∃ W', W4.setCell ⟨b1, 3, none⟩ (.int .i64 0) = W' := ⟨_, rfl⟩
            rw [hW2] at kn K ⊢
            replace E := below_put E ge_b1 K
            replace k2 := keepK K k2 (fun e => by first | exact ne_b2_b1 e | exact ne_b1_b2 e.symm)
            replace k1 := kn
            clear kn K
            refine st_end ?_
            subst hQ
            refine wq fun Q hQ => ?_
            refine sv (.agg #[(.int .i64 p.good), (.int .i64 t), (.int .i64 0), (.int .i64 0)]) 31 rfl rfl (ex_load (p := (.pointer (some ⟨b1, 0, none⟩))) rfl rfl (ld_all k1 Try.underlying23 rfl inf23)) ?_
            simp only [zp]
            obtain ⟨W6, hst, kn, K⟩ := put_all (D := #[(.int .i64 p.good), (.int .i64 t), (.int .i64 0), (.int .i64 0)]) k2 rfl inf23 (by kernel_rfl)
            refine st_sk rfl rfl (ex_store rfl rfl rfl hst) ?_
            replace E := below_put E ge_b2 K
            replace k1 := keepK K k1 (fun e => by first | exact ne_b1_b2 e | exact ne_b2_b1 e.symm)
            replace k2 := kn
            clear kn K hst
            refine st_end ?_
            subst hQ
            refine wp_ret ?_
            repeat (first | refine ret_out ?_ | refine ret_blk ?_)
            refine bodyPost_ret (results_cell_row Try.results26 _ _ b2 _ _ _ _ rfl k2 Try.underlying23 rfl inf23) rfl ⟨?_, E⟩
            show Ending.returned (.agg #[(.int .i64 p.good), (.int .i64 t), (.int .i64 0), (.int .i64 0)]) = _
            simp [lrnN, PL, e0, e1, e2, e3]
          · skip
            have E : Below w.heap.size w w := Below.refl _ _
            go_enter Try.func26, Try.ntmps26
            refine wq fun Q hQ => ?_
            refine st_new (fun b => .pointer (some ⟨b, 0, none⟩)) (some 4) rfl rfl (ex_box rfl rfl) ?_
            intro b1 W1 k1 g1 B
            simp only [zp]
            have ge_b1 := Nat.le_trans E.size g1
            replace E := below_next E B
            clear B
            refine st_new (fun b => .pointer (some ⟨b, 0, none⟩)) (some 8) rfl rfl (ex_alloc rfl zero23) ?_
            intro b2 W2 k2 g2 B
            simp only [zp]
            have ne_b2_b1 : b2 ≠ b1 := fun e => by have := lt_of k1; omega
            have ge_b2 := Nat.le_trans E.size g2
            replace E := below_next E B
            replace k1 := keep B k1
            clear B
            refine st_end ?_
            subst hQ
            refine wp_seq ?_
            refine wq fun Q hQ => ?_
            refine sm (.int .i64 a) 9 rfl rfl rfl rfl ?_
            simp only [zp]
            refine sv (.bool false) 10 rfl rfl (ex_bin (u := (.int .i64 a)) (r := (.int .i64 1)) rfl rfl rfl (eg3 _ _ _ _ _ _) (lss3 _ (decide_eq_false (by omega)))) ?_
            simp only [zp]
            refine sm (.bool false) 11 rfl rfl rfl rfl ?_
            simp only [zp]
            refine sm (.int .i64 t) 12 rfl rfl rfl rfl ?_
            simp only [zp]
            refine sv (.bool false) 13 rfl rfl (ex_bin (u := (.int .i64 t)) (r := (.int .i64 1)) rfl rfl rfl (eg3 _ _ _ _ _ _) (lss3 _ (decide_eq_false (by omega)))) ?_
            simp only [zp]
            refine sv (.bool false) 14 rfl rfl (ex_pkF rfl rfl rfl) ?_
            simp only [zp]
            refine st_end ?_
            subst hQ
            refine wp_cond_false rfl ?_
            refine wp_skip ?_
            refine wp_seq ?_
            refine wq fun Q hQ => ?_
            refine sm (.bool true) 16 rfl rfl rfl rfl ?_
            simp only [zp]
            refine st_end ?_
            subst hQ
            refine wp_cond_true rfl ?_
            refine wp_seq ?_
            refine wq fun Q hQ => ?_
            refine sm (.int .i64 a) 17 rfl rfl rfl rfl ?_
            simp only [zp]
            refine sv (.pointer (some ⟨b1, 0, none⟩)) 18 rfl rfl (ex_fa (p := (.pointer (some ⟨b1, 0, none⟩))) rfl rfl (fa23_0 _ _)) ?_
            simp only [zp]
            refine sv (.int .i64 p.good) 19 rfl rfl (ex_load (p := (.pointer (some ⟨b1, 0, none⟩))) rfl rfl (ld3 (at_cell k1 rfl))) ?_
            simp only [zp]
            refine sv (.bool false) 20 rfl rfl (ex_bin (u := (.int .i64 a)) (r := (.int .i64 p.good)) rfl rfl rfl (eg3 _ _ _ _ _ _) (gtr3 _ (decide_eq_false (by omega)))) ?_
            simp only [zp]
            refine st_end ?_
            subst hQ
            refine wp_cond_false rfl ?_
            refine wp_skip ?_
            refine wq fun Q hQ => ?_
            refine sm (.int .i64 t) 23 rfl rfl rfl rfl ?_
            simp only [zp]
            refine sv (.pointer (some ⟨b1, 1, none⟩)) 24 rfl rfl (ex_fa (p := (.pointer (some ⟨b1, 0, none⟩))) rfl rfl (fa23_1 _ _)) ?_
            simp only [zp]
            obtain ⟨kn, K⟩ := put_cell (i := 1) (.int .i64 t) k1
            refine st_sk rfl rfl (ex_store rfl rfl rfl (sto3 (at_cell k1 rfl) (unfrozen k1))) ?_
            obtain ⟨W3, hW2⟩ : ∃ W', W2.setCell ⟨b1, 1, none⟩ (.int .i64 t) = W' := ⟨_, rfl⟩
            rw [hW2] at kn K ⊢
            replace E := below_put E ge_b1 K
            replace k2 := keepK K k2 (fun e => by first | exact ne_b2_b1 e | exact ne_b1_b2 e.symm)
            replace k1 := kn
            clear kn K
            refine st_end ?_
            subst hQ
            refine wp_seq ?_
            refine wq fun Q hQ => ?_
            refine sv (.pointer (some ⟨b1, 2, none⟩)) 25 rfl rfl (ex_fa (p := (.pointer (some ⟨b1, 0, none⟩))) rfl rfl (fa23_2 _ _)) ?_
            simp only [zp]
            refine sv (.int .i64 p.bad) 26 rfl rfl (ex_load (p := (.pointer (some ⟨b1, 2, none⟩))) rfl rfl (ld3 (at_cell k1 rfl))) ?_
            simp only [zp]
            refine sm (.int .i64 a) 27 rfl rfl rfl rfl ?_
            simp only [zp]
            refine sv (.bool false) 28 rfl rfl (ex_bin (u := (.int .i64 p.bad)) (r := (.int .i64 a)) rfl rfl rfl (eg3 _ _ _ _ _ _) (leq3 _ (decide_eq_false (by omega)))) ?_
            simp only [zp]
            refine st_end ?_
            subst hQ
            refine wp_cond_false rfl ?_
            refine wp_skip ?_
            refine wq fun Q hQ => ?_
            refine sv (.agg #[(.int .i64 p.good), (.int .i64 t), (.int .i64 p.bad), (.int .i64 p.bat)]) 31 rfl rfl (ex_load (p := (.pointer (some ⟨b1, 0, none⟩))) rfl rfl (ld_all k1 Try.underlying23 rfl inf23)) ?_
            simp only [zp]
            obtain ⟨W4, hst, kn, K⟩ := put_all (D := #[(.int .i64 p.good), (.int .i64 t), (.int .i64 p.bad), (.int .i64 p.bat)]) k2 rfl inf23 (by kernel_rfl)
            refine st_sk rfl rfl (ex_store rfl rfl rfl hst) ?_
            replace E := below_put E ge_b2 K
            replace k1 := keepK K k1 (fun e => by first | exact ne_b1_b2 e | exact ne_b2_b1 e.symm)
            replace k2 := kn
            clear kn K hst
            refine st_end ?_
            subst hQ
            refine wp_ret ?_
            repeat (first | refine ret_out ?_ | refine ret_blk ?_)
            refine bodyPost_ret (results_cell_row Try.results26 _ _ b2 _ _ _ _ rfl k2 Try.underlying23 rfl inf23) rfl ⟨?_, E⟩
            show Ending.returned (.agg #[(.int .i64 p.good), (.int .i64 t), (.int .i64 p.bad), (.int .i64 p.bat)]) = _
            simp [lrnN, PL, e0, e1, e2, e3]
  | false =>
    by_cases e0 : a < 1
    · skip
      have E : Below w.heap.size w w := Below.refl _ _
      go_enter Try.func26, Try.ntmps26
      refine wq fun Q hQ => ?_
      refine st_new (fun b => .pointer (some ⟨b, 0, none⟩)) (some 4) rfl rfl (ex_box rfl rfl) ?_
      intro b1 W1 k1 g1 B
      simp only [zp]
      have ge_b1 := Nat.le_trans E.size g1
      replace E := below_next E B
      clear B
      refine st_new (fun b => .pointer (some ⟨b, 0, none⟩)) (some 8) rfl rfl (ex_alloc rfl zero23) ?_
      intro b2 W2 k2 g2 B
      simp only [zp]
      have ne_b2_b1 : b2 ≠ b1 := fun e => by have := lt_of k1; omega
      have ge_b2 := Nat.le_trans E.size g2
      replace E := below_next E B
      replace k1 := keep B k1
      clear B
      refine st_end ?_
      subst hQ
      refine wp_seq ?_
      refine wq fun Q hQ => ?_
      refine sm (.int .i64 a) 9 rfl rfl rfl rfl ?_
      simp only [zp]
      refine sv (.bool true) 10 rfl rfl (ex_bin (u := (.int .i64 a)) (r := (.int .i64 1)) rfl rfl rfl (eg3 _ _ _ _ _ _) (lss3 _ (decide_eq_true (by omega)))) ?_
      simp only [zp]
      refine sm (.bool true) 11 rfl rfl rfl rfl ?_
      simp only [zp]
      refine sn 12 rfl rfl ?_
      simp only [zp]
      refine sn 13 rfl rfl ?_
      simp only [zp]
      refine sv (.bool true) 14 rfl rfl (ex_pkT rfl rfl rfl) ?_
      simp only [zp]
      refine st_end ?_
      subst hQ
      refine wp_cond_true rfl ?_
      refine wq fun Q hQ => ?_
      refine sv (.agg #[.int .i64 p.good, .int .i64 p.gat, .int .i64 p.bad, .int .i64 p.bat]) 15 rfl rfl (ex_load (p := (.pointer (some ⟨b1, 0, none⟩))) rfl rfl (ld_all k1 Try.underlying23 rfl inf23)) ?_
      simp only [zp]
      obtain ⟨W3, hst, kn, K⟩ := put_all (D := #[.int .i64 p.good, .int .i64 p.gat, .int .i64 p.bad, .int .i64 p.bat]) k2 rfl inf23 (by kernel_rfl)
      refine st_sk rfl rfl (ex_store rfl rfl rfl hst) ?_
      replace E := below_put E ge_b2 K
      replace k1 := keepK K k1 (fun e => by first | exact ne_b1_b2 e | exact ne_b2_b1 e.symm)
      replace k2 := kn
      clear kn K hst
      refine st_end ?_
      subst hQ
      refine wp_ret ?_
      repeat (first | refine ret_out ?_ | refine ret_blk ?_)
      refine bodyPost_ret (results_cell_row Try.results26 _ _ b2 _ _ _ _ rfl k2 Try.underlying23 rfl inf23) rfl ⟨?_, E⟩
      show Ending.returned (.agg #[.int .i64 p.good, .int .i64 p.gat, .int .i64 p.bad, .int .i64 p.bat]) = _
      simp [lrnN, PL, e0]
    · skip
      by_cases e1 : t < 1
      · skip
        have E : Below w.heap.size w w := Below.refl _ _
        go_enter Try.func26, Try.ntmps26
        refine wq fun Q hQ => ?_
        refine st_new (fun b => .pointer (some ⟨b, 0, none⟩)) (some 4) rfl rfl (ex_box rfl rfl) ?_
        intro b1 W1 k1 g1 B
        simp only [zp]
        have ge_b1 := Nat.le_trans E.size g1
        replace E := below_next E B
        clear B
        refine st_new (fun b => .pointer (some ⟨b, 0, none⟩)) (some 8) rfl rfl (ex_alloc rfl zero23) ?_
        intro b2 W2 k2 g2 B
        simp only [zp]
        have ne_b2_b1 : b2 ≠ b1 := fun e => by have := lt_of k1; omega
        have ge_b2 := Nat.le_trans E.size g2
        replace E := below_next E B
        replace k1 := keep B k1
        clear B
        refine st_end ?_
        subst hQ
        refine wp_seq ?_
        refine wq fun Q hQ => ?_
        refine sm (.int .i64 a) 9 rfl rfl rfl rfl ?_
        simp only [zp]
        refine sv (.bool false) 10 rfl rfl (ex_bin (u := (.int .i64 a)) (r := (.int .i64 1)) rfl rfl rfl (eg3 _ _ _ _ _ _) (lss3 _ (decide_eq_false (by omega)))) ?_
        simp only [zp]
        refine sm (.bool false) 11 rfl rfl rfl rfl ?_
        simp only [zp]
        refine sm (.int .i64 t) 12 rfl rfl rfl rfl ?_
        simp only [zp]
        refine sv (.bool true) 13 rfl rfl (ex_bin (u := (.int .i64 t)) (r := (.int .i64 1)) rfl rfl rfl (eg3 _ _ _ _ _ _) (lss3 _ (decide_eq_true (by omega)))) ?_
        simp only [zp]
        refine sv (.bool true) 14 rfl rfl (ex_pkF rfl rfl rfl) ?_
        simp only [zp]
        refine st_end ?_
        subst hQ
        refine wp_cond_true rfl ?_
        refine wq fun Q hQ => ?_
        refine sv (.agg #[.int .i64 p.good, .int .i64 p.gat, .int .i64 p.bad, .int .i64 p.bat]) 15 rfl rfl (ex_load (p := (.pointer (some ⟨b1, 0, none⟩))) rfl rfl (ld_all k1 Try.underlying23 rfl inf23)) ?_
        simp only [zp]
        obtain ⟨W3, hst, kn, K⟩ := put_all (D := #[.int .i64 p.good, .int .i64 p.gat, .int .i64 p.bad, .int .i64 p.bat]) k2 rfl inf23 (by kernel_rfl)
        refine st_sk rfl rfl (ex_store rfl rfl rfl hst) ?_
        replace E := below_put E ge_b2 K
        replace k1 := keepK K k1 (fun e => by first | exact ne_b1_b2 e | exact ne_b2_b1 e.symm)
        replace k2 := kn
        clear kn K hst
        refine st_end ?_
        subst hQ
        refine wp_ret ?_
        repeat (first | refine ret_out ?_ | refine ret_blk ?_)
        refine bodyPost_ret (results_cell_row Try.results26 _ _ b2 _ _ _ _ rfl k2 Try.underlying23 rfl inf23) rfl ⟨?_, E⟩
        show Ending.returned (.agg #[.int .i64 p.good, .int .i64 p.gat, .int .i64 p.bad, .int .i64 p.bat]) = _
        simp [lrnN, PL, e0, e1]
      · skip
        by_cases e2 : p.bat = 0
        · skip
          by_cases e3 : a < p.bad
          · skip
            by_cases e4 : a ≤ p.good
            · skip
              have E : Below w.heap.size w w := Below.refl _ _
              go_enter Try.func26, Try.ntmps26
              refine wq fun Q hQ => ?_
              refine st_new (fun b => .pointer (some ⟨b, 0, none⟩)) (some 4) rfl rfl (ex_box rfl rfl) ?_
              intro b1 W1 k1 g1 B
              simp only [zp]
              have ge_b1 := Nat.le_trans E.size g1
              replace E := below_next E B
              clear B
              refine st_new (fun b => .pointer (some ⟨b, 0, none⟩)) (some 8) rfl rfl (ex_alloc rfl zero23) ?_
              intro b2 W2 k2 g2 B
              simp only [zp]
              have ne_b2_b1 : b2 ≠ b1 := fun e => by have := lt_of k1; omega
              have ge_b2 := Nat.le_trans E.size g2
              replace E := below_next E B
              replace k1 := keep B k1
              clear B
              refine st_end ?_
              subst hQ
              refine wp_seq ?_
              refine wq fun Q hQ => ?_
              refine sm (.int .i64 a) 9 rfl rfl rfl rfl ?_
              simp only [zp]
              refine sv (.bool false) 10 rfl rfl (ex_bin (u := (.int .i64 a)) (r := (.int .i64 1)) rfl rfl rfl (eg3 _ _ _ _ _ _) (lss3 _ (decide_eq_false (by omega)))) ?_
              simp only [zp]
              refine sm (.bool false) 11 rfl rfl rfl rfl ?_
              simp only [zp]
              refine sm (.int .i64 t) 12 rfl rfl rfl rfl ?_
              simp only [zp]
              refine sv (.bool false) 13 rfl rfl (ex_bin (u := (.int .i64 t)) (r := (.int .i64 1)) rfl rfl rfl (eg3 _ _ _ _ _ _) (lss3 _ (decide_eq_false (by omega)))) ?_
              simp only [zp]
              refine sv (.bool false) 14 rfl rfl (ex_pkF rfl rfl rfl) ?_
              simp only [zp]
              refine st_end ?_
              subst hQ
              refine wp_cond_false rfl ?_
              refine wp_skip ?_
              refine wp_seq ?_
              refine wq fun Q hQ => ?_
              refine sm (.bool false) 16 rfl rfl rfl rfl ?_
              simp only [zp]
              refine st_end ?_
              subst hQ
              refine wp_cond_false rfl ?_
              refine wp_skip ?_
              refine wp_seq ?_
              refine wq fun Q hQ => ?_
              refine sv (.pointer (some ⟨b1, 3, none⟩)) 32 rfl rfl (ex_fa (p := (.pointer (some ⟨b1, 0, none⟩))) rfl rfl (fa23_3 _ _)) ?_
              simp only [zp]
              refine sv (.int .i64 p.bat) 33 rfl rfl (ex_load (p := (.pointer (some ⟨b1, 3, none⟩))) rfl rfl (ld3 (at_cell k1 rfl))) ?_
              simp only [zp]
              refine sv (.bool true) 34 rfl rfl (ex_bin (u := (.int .i64 p.bat)) (r := (.int .i64 0)) rfl rfl rfl (eg3 _ _ _ _ _ _) (eql3 _ (decide_eq_true (by omega)))) ?_
              simp only [zp]
              refine sm (.bool true) 35 rfl rfl rfl rfl ?_
              simp only [zp]
              refine sn 36 rfl rfl ?_
              simp only [zp]
              refine sn 37 rfl rfl ?_
              simp only [zp]
              refine sn 38 rfl rfl ?_
              simp only [zp]
              refine sn 39 rfl rfl ?_
              simp only [zp]
              refine sv (.bool true) 40 rfl rfl (ex_pkT rfl rfl rfl) ?_
              simp only [zp]
              refine st_end ?_
              subst hQ
              refine wp_cond_true rfl ?_
              refine wl_in (wl_cap fun Q hQ => ?_)
              refine sm (.int .i64 a) 41 rfl rfl rfl rfl ?_
              simp only [zp]
              refine sv (.pointer (some ⟨b1, 2, none⟩)) 42 rfl rfl (ex_fa (p := (.pointer (some ⟨b1, 0, none⟩))) rfl rfl (fa23_2 _ _)) ?_
              simp only [zp]
              obtain ⟨kn, K⟩ := put_cell (i := 2) (.int .i64 a) k1
              refine st_sk rfl rfl (ex_store rfl rfl rfl (sto3 (at_cell k1 rfl) (unfrozen k1))) ?_
              obtain ⟨W3, hW2⟩ : ∃ W', W2.setCell ⟨b1, 2, none⟩ (.int .i64 a) = W' := ⟨_, rfl⟩
              rw [hW2] at kn K ⊢
              replace E := below_put E ge_b1 K
              replace k2 := keepK K k2 (fun e => by first | exact ne_b2_b1 e | exact ne_b1_b2 e.symm)
              replace k1 := kn
              clear kn K
              refine st_end ?_
              subst hQ
              refine wq fun Q hQ => ?_
              refine sm (.int .i64 t) 43 rfl rfl rfl rfl ?_
              simp only [zp]
              refine sv (.pointer (some ⟨b1, 3, none⟩)) 44 rfl rfl (ex_fa (p := (.pointer (some ⟨b1, 0, none⟩))) rfl rfl (fa23_3 _ _)) ?_
              simp only [zp]
              obtain ⟨kn, K⟩ := put_cell (i := 3) (.int .i64 t) k1
              refine st_sk rfl rfl (ex_store rfl rfl rfl (sto3 (at_cell k1 rfl) (unfrozen k1))) ?_
              obtain ⟨W4, hW2⟩ : ∃ W', W3.setCell ⟨b1, 3, none⟩ (.int .i64 t) = W' := ⟨_, rfl⟩
              rw [hW2] at kn K ⊢
              replace E := below_put E ge_b1 K
              replace k2 := keepK K k2 (fun e => by first | exact ne_b2_b1 e | exact ne_b1_b2 e.symm)
              replace k1 := kn
              clear kn K
              refine st_end ?_
              subst hQ
              refine wp_seq ?_
              refine wq fun Q hQ => ?_
              refine sv (.pointer (some ⟨b1, 0, none⟩)) 45 rfl rfl (ex_fa (p := (.pointer (some ⟨b1, 0, none⟩))) rfl rfl (fa23_0 _ _)) ?_
              simp only [zp]
              refine sv (.int .i64 p.good) 46 rfl rfl (ex_load (p := (.pointer (some ⟨b1, 0, none⟩))) rfl rfl (ld3 (at_cell k1 rfl))) ?_
              simp only [zp]
              refine sm (.int .i64 a) 47 rfl rfl rfl rfl ?_
              simp only [zp]
              refine sv (.bool true) 48 rfl rfl (ex_bin (u := (.int .i64 p.good)) (r := (.int .i64 a)) rfl rfl rfl (eg3 _ _ _ _ _ _) (geq3 _ (decide_eq_true (by omega)))) ?_
              simp only [zp]
              refine st_end ?_
              subst hQ
              refine wp_cond_true rfl ?_
              refine wl_in (wl_cap fun Q hQ => ?_)
              refine sm (.int .i64 a) 49 rfl rfl rfl rfl ?_
              simp only [zp]
              refine sv (.int .i64 (a - 1)) 50 rfl rfl (ex_bin rfl rfl rfl (eg3 _ _ _ _ _ _) (sub3 _ rfl (by omega))) ?_
              simp only [zp]
              refine sv (.pointer (some ⟨b1, 0, none⟩)) 51 rfl rfl (ex_fa (p := (.pointer (some ⟨b1, 0, none⟩))) rfl rfl (fa23_0 _ _)) ?_
              simp only [zp]
              obtain ⟨kn, K⟩ := put_cell (i := 0) (.int .i64 (a - 1)) k1
              refine st_sk rfl rfl (ex_store rfl rfl rfl (sto3 (at_cell k1 rfl) (unfrozen k1))) ?_
              obtain ⟨W5, hW2⟩ : ∃ W', W4.setCell ⟨b1, 0, none⟩ (.int .i64 (a - 1)) = W' := ⟨_, rfl⟩
              rw [hW2] at kn K ⊢
              replace E := below_put E ge_b1 K
              replace k2 := keepK K k2 (fun e => by first | exact ne_b2_b1 e | exact ne_b1_b2 e.symm)
              replace k1 := kn
              clear kn K
              refine st_end ?_
              subst hQ
              refine wq fun Q hQ => ?_
              refine sv (.agg #[(.int .i64 (a - 1)), (.int .i64 p.gat), (.int .i64 a), (.int .i64 t)]) 52 rfl rfl (ex_load (p := (.pointer (some ⟨b1, 0, none⟩))) rfl rfl (ld_all k1 Try.underlying23 rfl inf23)) ?_
              simp only [zp]
              obtain ⟨W6, hst, kn, K⟩ := put_all (D := #[(.int .i64 (a - 1)), (.int .i64 p.gat), (.int .i64 a), (.int .i64 t)]) k2 rfl inf23 (by kernel_rfl)
              refine st_sk rfl rfl (ex_store rfl rfl rfl hst) ?_
              replace E := below_put E ge_b2 K
              replace k1 := keepK K k1 (fun e => by first | exact ne_b1_b2 e | exact ne_b2_b1 e.symm)
              replace k2 := kn
              clear kn K hst
              refine st_end ?_
              subst hQ
              refine wp_ret ?_
              repeat (first | refine ret_out ?_ | refine ret_blk ?_)
              refine bodyPost_ret (results_cell_row Try.results26 _ _ b2 _ _ _ _ rfl k2 Try.underlying23 rfl inf23) rfl ⟨?_, E⟩
              show Ending.returned (.agg #[(.int .i64 (a - 1)), (.int .i64 p.gat), (.int .i64 a), (.int .i64 t)]) = _
              simp [lrnN, PL, e0, e1, e2, e3, e4]
            · skip
              have E : Below w.heap.size w w := Below.refl _ _
              go_enter Try.func26, Try.ntmps26
              refine wq fun Q hQ => ?_
              refine st_new (fun b => .pointer (some ⟨b, 0, none⟩)) (some 4) rfl rfl (ex_box rfl rfl) ?_
              intro b1 W1 k1 g1 B
              simp only [zp]
              have ge_b1 := Nat.le_trans E.size g1
              replace E := below_next E B
              clear B
              refine st_new (fun b => .pointer (some ⟨b, 0, none⟩)) (some 8) rfl rfl (ex_alloc rfl zero23) ?_
              intro b2 W2 k2 g2 B
              simp only [zp]
              have ne_b2_b1 : b2 ≠ b1 := fun e => by have := lt_of k1; omega
              have ge_b2 := Nat.le_trans E.size g2
              replace E := below_next E B
              replace k1 := keep B k1
              clear B
              refine st_end ?_
              subst hQ
              refine wp_seq ?_
              refine wq fun Q hQ => ?_
              refine sm (.int .i64 a) 9 rfl rfl rfl rfl ?_
              simp only [zp]
              refine sv (.bool false) 10 rfl rfl (ex_bin (u := (.int .i64 a)) (r := (.int .i64 1)) rfl rfl rfl (eg3 _ _ _ _ _ _) (lss3 _ (decide_eq_false (by omega)))) ?_
              simp only [zp]
              refine sm (.bool false) 11 rfl rfl rfl rfl ?_
              simp only [zp]
              refine sm (.int .i64 t) 12 rfl rfl rfl rfl ?_
              simp only [zp]
              refine sv (.bool false) 13 rfl rfl (ex_bin (u := (.int .i64 t)) (r := (.int .i64 1)) rfl rfl rfl (eg3 _ _ _ _ _ _) (lss3 _ (decide_eq_false (by omega)))) ?_
              simp only [zp]
              refine sv (.bool false) 14 rfl rfl (ex_pkF rfl rfl rfl) ?_
              simp only [zp]
              refine st_end ?_
              subst hQ
              refine wp_cond_false rfl ?_
              refine wp_skip ?_
              refine wp_seq ?_
              refine wq fun Q hQ => ?_
              refine sm (.bool false) 16 rfl rfl rfl rfl ?_
              simp only [zp]
              refine st_end ?_
              subst hQ
              refine wp_cond_false rfl ?_
              refine wp_skip ?_
              refine wp_seq ?_
              refine wq fun Q hQ => ?_
              refine sv (.pointer (some ⟨b1, 3, none⟩)) 32 rfl rfl (ex_fa (p := (.pointer (some ⟨b1, 0, none⟩))) rfl rfl (fa23_3 _ _)) ?_
              simp only [zp]
              refine sv (.int .i64 p.bat) 33 rfl rfl (ex_load (p := (.pointer (some ⟨b1, 3, none⟩))) rfl rfl (ld3 (at_cell k1 rfl))) ?_
              simp only [zp]
              refine sv (.bool true) 34 rfl rfl (ex_bin (u := (.int .i64 p.bat)) (r := (.int .i64 0)) rfl rfl rfl (eg3 _ _ _ _ _ _) (eql3 _ (decide_eq_true (by omega)))) ?_
              simp only [zp]
              refine sm (.bool true) 35 rfl rfl rfl rfl ?_
              simp only [zp]
              refine sn 36 rfl rfl ?_
              simp only [zp]
              refine sn 37 rfl rfl ?_
              simp only [zp]
              refine sn 38 rfl rfl ?_
              simp only [zp]
              refine sn 39 rfl rfl ?_
              simp only [zp]
              refine sv (.bool true) 40 rfl rfl (ex_pkT rfl rfl rfl) ?_
              simp only [zp]
              refine st_end ?_
              subst hQ
              refine wp_cond_true rfl ?_
              refine wl_in (wl_cap fun Q hQ => ?_)
              refine sm (.int .i64 a) 41 rfl rfl rfl rfl ?_
              simp only [zp]
              refine sv (.pointer (some ⟨b1, 2, none⟩)) 42 rfl rfl (ex_fa (p := (.pointer (some ⟨b1, 0, none⟩))) rfl rfl (fa23_2 _ _)) ?_
              simp only [zp]
              obtain ⟨kn, K⟩ := put_cell (i := 2) (.int .i64 a) k1
              refine st_sk rfl rfl (ex_store rfl rfl rfl (sto3 (at_cell k1 rfl) (unfrozen k1))) ?_
              obtain ⟨W3, hW2⟩ : ∃ W', W2.setCell ⟨b1, 2, none⟩ (.int .i64 a) = W' := ⟨_, rfl⟩
              rw [hW2] at kn K ⊢
              replace E := below_put E ge_b1 K
              replace k2 := keepK K k2 (fun e => by first | exact ne_b2_b1 e | exact ne_b1_b2 e.symm)
              replace k1 := kn
              clear kn K
              refine st_end ?_
              subst hQ
              refine wq fun Q hQ => ?_
              refine sm (.int .i64 t) 43 rfl rfl rfl rfl ?_
              simp only [zp]
              refine sv (.pointer (some ⟨b1, 3, none⟩)) 44 rfl rfl (ex_fa (p := (.pointer (some ⟨b1, 0, none⟩))) rfl rfl (fa23_3 _ _)) ?_
              simp only [zp]
              obtain ⟨kn, K⟩ := put_cell (i := 3) (.int .i64 t) k1
              refine st_sk rfl rfl (ex_store rfl rfl rfl (sto3 (at_cell k1 rfl) (unfrozen k1))) ?_
              obtain ⟨W4, hW2⟩ : ∃ W', W3.setCell ⟨b1, 3, none⟩ (.int .i64 t) = W' := ⟨_, rfl⟩
              rw [hW2] at kn K ⊢
              replace E := below_put E ge_b1 K
              replace k2 := keepK K k2 (fun e => by first | exact ne_b2_b1 e | exact ne_b1_b2 e.symm)
              replace k1 := kn
              clear kn K
              refine st_end ?_
              subst hQ
              refine wp_seq ?_
              refine wq fun Q hQ => ?_
              refine sv (.pointer (some ⟨b1, 0, none⟩)) 45 rfl rfl (ex_fa (p := (.pointer (some ⟨b1, 0, none⟩))) rfl rfl (fa23_0 _ _)) ?_
              simp only [zp]
              refine sv (.int .i64 p.good) 46 rfl rfl (ex_load (p := (.pointer (some ⟨b1, 0, none⟩))) rfl rfl (ld3 (at_cell k1 rfl))) ?_
              simp only [zp]
              refine sm (.int .i64 a) 47 rfl rfl rfl rfl ?_
              simp only [zp]
              refine sv (.bool false) 48 rfl rfl (ex_bin (u := (.int .i64 p.good)) (r := (.int .i64 a)) rfl rfl rfl (eg3 _ _ _ _ _ _) (geq3 _ (decide_eq_false (by omega)))) ?_
              simp only [zp]
              refine st_end ?_
              subst hQ
              refine wp_cond_false rfl ?_
              refine wp_skip ?_
              refine wq fun Q hQ => ?_
              refine sv (.agg #[(.int .i64 p.good), (.int .i64 p.gat), (.int .i64 a), (.int .i64 t)]) 52 rfl rfl (ex_load (p := (.pointer (some ⟨b1, 0, none⟩))) rfl rfl (ld_all k1 Try.underlying23 rfl inf23)) ?_
              simp only [zp]
              obtain ⟨W5, hst, kn, K⟩ := put_all (D := #[(.int .i64 p.good), (.int .i64 p.gat), (.int .i64 a), (.int .i64 t)]) k2 rfl inf23 (by kernel_rfl)
              refine st_sk rfl rfl (ex_store rfl rfl rfl hst) ?_
              replace E := below_put E ge_b2 K
              replace k1 := keepK K k1 (fun e => by first | exact ne_b1_b2 e | exact ne_b2_b1 e.symm)
              replace k2 := kn
              clear kn K hst
              refine st_end ?_
              subst hQ
              refine wp_ret ?_
              repeat (first | refine ret_out ?_ | refine ret_blk ?_)
              refine bodyPost_ret (results_cell_row Try.results26 _ _ b2 _ _ _ _ rfl k2 Try.underlying23 rfl inf23) rfl ⟨?_, E⟩
              show Ending.returned (.agg #[(.int .i64 p.good), (.int .i64 p.gat), (.int .i64 a), (.int .i64 t)]) = _
              simp [lrnN, PL, e0, e1, e2, e3, e4]
          · skip
            by_cases e4 : a ≤ p.good
            · skip
              have E : Below w.heap.size w w := Below.refl _ _
              go_enter Try.func26, Try.ntmps26
              refine wq fun Q hQ => ?_
              refine st_new (fun b => .pointer (some ⟨b, 0, none⟩)) (some 4) rfl rfl (ex_box rfl rfl) ?_
              intro b1 W1 k1 g1 B
              simp only [zp]
              have ge_b1 := Nat.le_trans E.size g1
              replace E := below_next E B
              clear B
              refine st_new (fun b => .pointer (some ⟨b, 0, none⟩)) (some 8) rfl rfl (ex_alloc rfl zero23) ?_
              intro b2 W2 k2 g2 B
              simp only [zp]
              have ne_b2_b1 : b2 ≠ b1 := fun e => by have := lt_of k1; omega
              have ge_b2 := Nat.le_trans E.size g2
              replace E := below_next E B
              replace k1 := keep B k1
              clear B
              refine st_end ?_
              subst hQ
              refine wp_seq ?_
              refine wq fun Q hQ => ?_
              refine sm (.int .i64 a) 9 rfl rfl rfl rfl ?_
              simp only [zp]
              refine sv (.bool false) 10 rfl rfl (ex_bin (u := (.int .i64 a)) (r := (.int .i64 1)) rfl rfl rfl (eg3 _ _ _ _ _ _) (lss3 _ (decide_eq_false (by omega)))) ?_
              simp only [zp]
              refine sm (.bool false) 11 rfl rfl rfl rfl ?_
              simp only [zp]
              refine sm (.int .i64 t) 12 rfl rfl rfl rfl ?_
              simp only [zp]
              refine sv (.bool false) 13 rfl rfl (ex_bin (u := (.int .i64 t)) (r := (.int .i64 1)) rfl rfl rfl (eg3 _ _ _ _ _ _) (lss3 _ (decide_eq_false (by omega)))) ?_
              simp only [zp]
              refine sv (.bool false) 14 rfl rfl (ex_pkF rfl rfl rfl) ?_
              simp only [zp]
              refine st_end ?_
              subst hQ
              refine wp_cond_false rfl ?_
              refine wp_skip ?_
              refine wp_seq ?_
              refine wq fun Q hQ => ?_
              refine sm (.bool false) 16 rfl rfl rfl rfl ?_
              simp only [zp]
              refine st_end ?_
              subst hQ
              refine wp_cond_false rfl ?_
              refine wp_skip ?_
              refine wp_seq ?_
              refine wq fun Q hQ => ?_
              refine sv (.pointer (some ⟨b1, 3, none⟩)) 32 rfl rfl (ex_fa (p := (.pointer (some ⟨b1, 0, none⟩))) rfl rfl (fa23_3 _ _)) ?_
              simp only [zp]
              refine sv (.int .i64 p.bat) 33 rfl rfl (ex_load (p := (.pointer (some ⟨b1, 3, none⟩))) rfl rfl (ld3 (at_cell k1 rfl))) ?_
              simp only [zp]
              refine sv (.bool true) 34 rfl rfl (ex_bin (u := (.int .i64 p.bat)) (r := (.int .i64 0)) rfl rfl rfl (eg3 _ _ _ _ _ _) (eql3 _ (decide_eq_true (by omega)))) ?_
              simp only [zp]
              refine sm (.bool true) 35 rfl rfl rfl rfl ?_
              simp only [zp]
              refine sn 36 rfl rfl ?_
              simp only [zp]
              refine sn 37 rfl rfl ?_
              simp only [zp]
              refine sn 38 rfl rfl ?_
              simp only [zp]
              refine sn 39 rfl rfl ?_
              simp only [zp]
              refine sv (.bool true) 40 rfl rfl (ex_pkT rfl rfl rfl) ?_
              simp only [zp]
              refine st_end ?_
              subst hQ
              refine wp_cond_true rfl ?_
              refine wl_in (wl_cap fun Q hQ => ?_)
              refine sm (.int .i64 a) 41 rfl rfl rfl rfl ?_
              simp only [zp]
              refine sv (.pointer (some ⟨b1, 2, none⟩)) 42 rfl rfl (ex_fa (p := (.pointer (some ⟨b1, 0, none⟩))) rfl rfl (fa23_2 _ _)) ?_
              simp only [zp]
              obtain ⟨kn, K⟩ := put_cell (i := 2) (.int .i64 a) k1
              refine st_sk rfl rfl (ex_store rfl rfl rfl (sto3 (at_cell k1 rfl) (unfrozen k1))) ?_
              obtain ⟨W3, hW2⟩ : ∃ W', W2.setCell ⟨b1, 2, none⟩ (.int .i64 a) = W' := ⟨_, rfl⟩
              rw [hW2] at kn K ⊢
              replace E := below_put E ge_b1 K
              replace k2 := keepK K k2 (fun e => by first | exact ne_b2_b1 e | exact ne_b1_b2 e.symm)
              replace k1 := kn
              clear kn K
              refine st_end ?_
              subst hQ
              refine wq fun Q hQ => ?_
              refine sm (.int .i64 t) 43 rfl rfl rfl rfl ?_
              simp only [zp]
              refine sv (.pointer (some ⟨b1, 3, none⟩)) 44 rfl rfl (ex_fa (p := (.pointer (some ⟨b1, 0, none⟩))) rfl rfl (fa23_3 _ _)) ?_
              simp only [zp]
              obtain ⟨kn, K⟩ := put_cell (i := 3) (.int .i64 t) k1
              refine st_sk rfl rfl (ex_store rfl rfl rfl (sto3 (at_cell k1 rfl) (unfrozen k1))) ?_
              obtain ⟨W4, hW2⟩ : ∃ W', W3.setCell ⟨b1, 3, none⟩ (.int .i64 t) = W' := ⟨_, rfl⟩
              rw [hW2] at kn K ⊢
              replace E := below_put E ge_b1 K
              replace k2 := keepK K k2 (fun e => by first | exact ne_b2_b1 e | exact ne_b1_b2 e.symm)
              replace k1 := kn
              clear kn K
              refine st_end ?_
              subst hQ
              refine wp_seq ?_
              refine wq fun Q hQ => ?_
              refine sv (.pointer (some ⟨b1, 0, none⟩)) 45 rfl rfl (ex_fa (p := (.pointer (some ⟨b1, 0, none⟩))) rfl rfl (fa23_0 _ _)) ?_
              simp only [zp]
              refine sv (.int .i64 p.good) 46 rfl rfl (ex_load (p := (.pointer (some ⟨b1, 0, none⟩))) rfl rfl (ld3 (at_cell k1 rfl))) ?_
              simp only [zp]
              refine sm (.int .i64 a) 47 rfl rfl rfl rfl ?_
              simp only [zp]
              refine sv (.bool true) 48 rfl rfl (ex_bin (u := (.int .i64 p.good)) (r := (.int .i64 a)) rfl rfl rfl (eg3 _ _ _ _ _ _) (geq3 _ (decide_eq_true (by omega)))) ?_
              simp only [zp]
              refine st_end ?_
              subst hQ
              refine wp_cond_true rfl ?_
              refine wl_in (wl_cap fun Q hQ => ?_)
              refine sm (.int .i64 a) 49 rfl rfl rfl rfl ?_
              simp only [zp]
              refine sv (.int .i64 (a - 1)) 50 rfl rfl (ex_bin rfl rfl rfl (eg3 _ _ _ _ _ _) (sub3 _ rfl (by omega))) ?_
              simp only [zp]
              refine sv (.pointer (some ⟨b1, 0, none⟩)) 51 rfl rfl (ex_fa (p := (.pointer (some ⟨b1, 0, none⟩))) rfl rfl (fa23_0 _ _)) ?_
              simp only [zp]
              obtain ⟨kn, K⟩ := put_cell (i := 0) (.int .i64 (a - 1)) k1
              refine st_sk rfl rfl (ex_store rfl rfl rfl (sto3 (at_cell k1 rfl) (unfrozen k1))) ?_
              obtain ⟨W5, hW2⟩ : ∃ W', W4.setCell ⟨b1, 0, none⟩ (.int .i64 (a - 1)) = W' := ⟨_, rfl⟩
              rw [hW2] at kn K ⊢
              replace E := below_put E ge_b1 K
              replace k2 := keepK K k2 (fun e => by first | exact ne_b2_b1 e | exact ne_b1_b2 e.symm)
              replace k1 := kn
              clear kn K
              refine st_end ?_
              subst hQ
              refine wq fun Q hQ => ?_
              refine sv (.agg #[(.int .i64 (a - 1)), (.int .i64 p.gat), (.int .i64 a), (.int .i64 t)]) 52 rfl rfl (ex_load (p := (.pointer (some ⟨b1, 0, none⟩))) rfl rfl (ld_all k1 Try.underlying23 rfl inf23)) ?_
              simp only [zp]
              obtain ⟨W6, hst, kn, K⟩ := put_all (D := #[(.int .i64 (a - 1)), (.int .i64 p.gat), (.int .i64 a), (.int .i64 t)]) k2 rfl inf23 (by kernel_rfl)
              refine st_sk rfl rfl (ex_store rfl rfl rfl hst) ?_
              replace E := below_put E ge_b2 K
              replace k1 := keepK K k1 (fun e => by first | exact ne_b1_b2 e | exact ne_b2_b1 e.symm)
              replace k2 := kn
              clear kn K hst
              refine st_end ?_
              subst hQ
              refine wp_ret ?_
              repeat (first | refine ret_out ?_ | refine ret_blk ?_)
              refine bodyPost_ret (results_cell_row Try.results26 _ _ b2 _ _ _ _ rfl k2 Try.underlying23 rfl inf23) rfl ⟨?_, E⟩
              show Ending.returned (.agg #[(.int .i64 (a - 1)), (.int .i64 p.gat), (.int .i64 a), (.int .i64 t)]) = _
              simp [lrnN, PL, e0, e1, e2, e3, e4]
            · skip
              have E : Below w.heap.size w w := Below.refl _ _
              go_enter Try.func26, Try.ntmps26
              refine wq fun Q hQ => ?_
              refine st_new (fun b => .pointer (some ⟨b, 0, none⟩)) (some 4) rfl rfl (ex_box rfl rfl) ?_
              intro b1 W1 k1 g1 B
              simp only [zp]
              have ge_b1 := Nat.le_trans E.size g1
              replace E := below_next E B
              clear B
              refine st_new (fun b => .pointer (some ⟨b, 0, none⟩)) (some 8) rfl rfl (ex_alloc rfl zero23) ?_
              intro b2 W2 k2 g2 B
              simp only [zp]
              have ne_b2_b1 : b2 ≠ b1 := fun e => by have := lt_of k1; omega
              have ge_b2 := Nat.le_trans E.size g2
              replace E := below_next E B
              replace k1 := keep B k1
              clear B
              refine st_end ?_
              subst hQ
              refine wp_seq ?_
              refine wq fun Q hQ => ?_
              refine sm (.int .i64 a) 9 rfl rfl rfl rfl ?_
              simp only [zp]
              refine sv (.bool false) 10 rfl rfl (ex_bin (u := (.int .i64 a)) (r := (.int .i64 1)) rfl rfl rfl (eg3 _ _ _ _ _ _) (lss3 _ (decide_eq_false (by omega)))) ?_
              simp only [zp]
              refine sm (.bool false) 11 rfl rfl rfl rfl ?_
              simp only [zp]
              refine sm (.int .i64 t) 12 rfl rfl rfl rfl ?_
              simp only [zp]
              refine sv (.bool false) 13 rfl rfl (ex_bin (u := (.int .i64 t)) (r := (.int .i64 1)) rfl rfl rfl (eg3 _ _ _ _ _ _) (lss3 _ (decide_eq_false (by omega)))) ?_
              simp only [zp]
              refine sv (.bool false) 14 rfl rfl (ex_pkF rfl rfl rfl) ?_
              simp only [zp]
              refine st_end ?_
              subst hQ
              refine wp_cond_false rfl ?_
              refine wp_skip ?_
              refine wp_seq ?_
              refine wq fun Q hQ => ?_
              refine sm (.bool false) 16 rfl rfl rfl rfl ?_
              simp only [zp]
              refine st_end ?_
              subst hQ
              refine wp_cond_false rfl ?_
              refine wp_skip ?_
              refine wp_seq ?_
              refine wq fun Q hQ => ?_
              refine sv (.pointer (some ⟨b1, 3, none⟩)) 32 rfl rfl (ex_fa (p := (.pointer (some ⟨b1, 0, none⟩))) rfl rfl (fa23_3 _ _)) ?_
              simp only [zp]
              refine sv (.int .i64 p.bat) 33 rfl rfl (ex_load (p := (.pointer (some ⟨b1, 3, none⟩))) rfl rfl (ld3 (at_cell k1 rfl))) ?_
              simp only [zp]
              refine sv (.bool true) 34 rfl rfl (ex_bin (u := (.int .i64 p.bat)) (r := (.int .i64 0)) rfl rfl rfl (eg3 _ _ _ _ _ _) (eql3 _ (decide_eq_true (by omega)))) ?_
              simp only [zp]
              refine sm (.bool true) 35 rfl rfl rfl rfl ?_
              simp only [zp]
              refine sn 36 rfl rfl ?_
              simp only [zp]
              refine sn 37 rfl rfl ?_
              simp only [zp]
              refine sn 38 rfl rfl ?_
              simp only [zp]
              refine sn 39 rfl rfl ?_
              simp only [zp]
              refine sv (.bool true) 40 rfl rfl (ex_pkT rfl rfl rfl) ?_
              simp only [zp]
              refine st_end ?_
              subst hQ
              refine wp_cond_true rfl ?_
              refine wl_in (wl_cap fun Q hQ => ?_)
              refine sm (.int .i64 a) 41 rfl rfl rfl rfl ?_
              simp only [zp]
              refine sv (.pointer (some ⟨b1, 2, none⟩)) 42 rfl rfl (ex_fa (p := (.pointer (some ⟨b1, 0, none⟩))) rfl rfl (fa23_2 _ _)) ?_
              simp only [zp]
              obtain ⟨kn, K⟩ := put_cell (i := 2) (.int .i64 a) k1
              refine st_sk rfl rfl (ex_store rfl rfl rfl (sto3 (at_cell k1 rfl) (unfrozen k1))) ?_
              obtain ⟨W3, hW2⟩ : ∃ W', W2.setCell ⟨b1, 2, none⟩ (.int .i64 a) = W' := ⟨_, rfl⟩
              rw [hW2] at kn K ⊢
              replace E := below_put E ge_b1 K
              replace k2 := keepK K k2 (fun e => by first | exact ne_b2_b1 e | exact ne_b1_b2 e.symm)
              replace k1 := kn
              clear kn K
              refine st_end ?_
              subst hQ
              refine wq fun Q hQ => ?_
              refine sm (.int .i64 t) 43 rfl rfl rfl rfl ?_
              simp only [zp]
              refine sv (.pointer (some ⟨b1, 3, none⟩)) 44 rfl rfl (ex_fa (p := (.pointer (some ⟨b1, 0, none⟩))) rfl rfl (fa23_3 _ _)) ?_
              simp only [zp]
              obtain ⟨kn, K⟩ := put_cell (i := 3) (.int .i64 t) k1
              refine st_sk rfl rfl (ex_store rfl rfl rfl (sto3 (at_cell k1 rfl) (unfrozen k1))) ?_
              obtain ⟨W4, hW2⟩ : ∃ W', W3.setCell ⟨b1, 3, none⟩ (.int .i64 t) = W' := ⟨_, rfl⟩
              rw [hW2] at kn K ⊢
              replace E := below_put E ge_b1 K
              replace k2 := keepK K k2 (fun e => by first | exact ne_b2_b1 e | exact ne_b1_b2 e.symm)
              replace k1 := kn
              clear kn K
              refine st_end ?_
              subst hQ
              refine wp_seq ?_
              refine wq fun Q hQ => ?_
              refine sv (.pointer (some ⟨b1, 0, none⟩)) 45 rfl rfl (ex_fa (p := (.pointer (some ⟨b1, 0, none⟩))) rfl rfl (fa23_0 _ _)) ?_
              simp only [zp]
              refine sv (.int .i64 p.good) 46 rfl rfl (ex_load (p := (.pointer (some ⟨b1, 0, none⟩))) rfl rfl (ld3 (at_cell k1 rfl))) ?_
              simp only [zp]
              refine sm (.int .i64 a) 47 rfl rfl rfl rfl ?_
              simp only [zp]
              refine sv (.bool false) 48 rfl rfl (ex_bin (u := (.int .i64 p.good)) (r := (.int .i64 a)) rfl rfl rfl (eg3 _ _ _ _ _ _) (geq3 _ (decide_eq_false (by omega)))) ?_
              simp only [zp]
              refine st_end ?_
              subst hQ
              refine wp_cond_false rfl ?_
              refine wp_skip ?_
              refine wq fun Q hQ => ?_
              refine sv (.agg #[(.int .i64 p.good), (.int .i64 p.gat), (.int .i64 a), (.int .i64 t)]) 52 rfl rfl (ex_load (p := (.pointer (some ⟨b1, 0, none⟩))) rfl rfl (ld_all k1 Try.underlying23 rfl inf23)) ?_
              simp only [zp]
              obtain ⟨W5, hst, kn, K⟩ := put_all (D := #[(.int .i64 p.good), (.int .i64 p.gat), (.int .i64 a), (.int .i64 t)]) k2 rfl inf23 (by kernel_rfl)
              refine st_sk rfl rfl (ex_store rfl rfl rfl hst) ?_
              replace E := below_put E ge_b2 K
              replace k1 := keepK K k1 (fun e => by first | exact ne_b1_b2 e | exact ne_b2_b1 e.symm)
              replace k2 := kn
              clear kn K hst
              refine st_end ?_
              subst hQ
              refine wp_ret ?_
              repeat (first | refine ret_out ?_ | refine ret_blk ?_)
              refine bodyPost_ret (results_cell_row Try.results26 _ _ b2 _ _ _ _ rfl k2 Try.underlying23 rfl inf23) rfl ⟨?_, E⟩
              show Ending.returned (.agg #[(.int .i64 p.good), (.int .i64 p.gat), (.int .i64 a), (.int .i64 t)]) = _
              simp [lrnN, PL, e0, e1, e2, e3, e4]
        · skip
          by_cases e3 : a < p.bad
          · skip
            by_cases e4 : a ≤ p.good
            · skip
              have E : Below w.heap.size w w := Below.refl _ _
              go_enter Try.func26, Try.ntmps26
              refine wq fun Q hQ => ?_
              refine st_new (fun b => .pointer (some ⟨b, 0, none⟩)) (some 4) rfl rfl (ex_box rfl rfl) ?_
              intro b1 W1 k1 g1 B
              simp only [zp]
              have ge_b1 := Nat.le_trans E.size g1
              replace E := below_next E B
              clear B
              refine st_new (fun b => .pointer (some ⟨b, 0, none⟩)) (some 8) rfl rfl (ex_alloc rfl zero23) ?_
              intro b2 W2 k2 g2 B
              simp only [zp]
              have ne_b2_b1 : b2 ≠ b1 := fun e => by have := lt_of k1; omega
              have ge_b2 := Nat.le_trans E.size g2
              replace E := below_next E B
              replace k1 := keep B k1
              clear B
              refine st_end ?_
              subst hQ
              refine wp_seq ?_
              refine wq fun Q hQ => ?_
              refine sm (.int .i64 a) 9 rfl rfl rfl rfl ?_
              simp only [zp]
              refine sv (.bool false) 10 rfl rfl (ex_bin (u := (.int .i64 a)) (r := (.int .i64 1)) rfl rfl rfl (eg3 _ _ _ _ _ _) (lss3 _ (decide_eq_false (by omega)))) ?_
              simp only [zp]
              refine sm (.bool false) 11 rfl rfl rfl rfl ?_
              simp only [zp]
              refine sm (.int .i64 t) 12 rfl rfl rfl rfl ?_
              simp only [zp]
              refine sv (.bool false) 13 rfl rfl (ex_bin (u := (.int .i64 t)) (r := (.int .i64 1)) rfl rfl rfl (eg3 _ _ _ _ _ _) (lss3 _ (decide_eq_false (by omega)))) ?_
              simp only [zp]
              refine sv (.bool false) 14 rfl rfl (ex_pkF rfl rfl rfl) ?_
              simp only [zp]
              refine st_end ?_
              subst hQ
              refine wp_cond_false rfl ?_
              refine wp_skip ?_
              refine wp_seq ?_
              refine wq fun Q hQ => ?_
              refine sm (.bool false) 16 rfl rfl rfl rfl ?_
              simp only [zp]
              refine st_end ?_
              subst hQ
              refine wp_cond_false rfl ?_
              refine wp_skip ?_
              refine wp_seq ?_
              refine wq fun Q hQ => ?_
              refine sv (.pointer (some ⟨b1, 3, none⟩)) 32 rfl rfl (ex_fa (p := (.pointer (some ⟨b1, 0, none⟩))) rfl rfl (fa23_3 _ _)) ?_
              simp only [zp]
              refine sv (.int .i64 p.bat) 33 rfl rfl (ex_load (p := (.pointer (some ⟨b1, 3, none⟩))) rfl rfl (ld3 (at_cell k1 rfl))) ?_
              simp only [zp]
              refine sv (.bool false) 34 rfl rfl (ex_bin (u := (.int .i64 p.bat)) (r := (.int .i64 0)) rfl rfl rfl (eg3 _ _ _ _ _ _) (eql3 _ (decide_eq_false (by omega)))) ?_
              simp only [zp]
              refine sm (.bool false) 35 rfl rfl rfl rfl ?_
              simp only [zp]
              refine sm (.int .i64 a) 36 rfl rfl rfl rfl ?_
              simp only [zp]
              refine sv (.pointer (some ⟨b1, 2, none⟩)) 37 rfl rfl (ex_fa (p := (.pointer (some ⟨b1, 0, none⟩))) rfl rfl (fa23_2 _ _)) ?_
              simp only [zp]
              refine sv (.int .i64 p.bad) 38 rfl rfl (ex_load (p := (.pointer (some ⟨b1, 2, none⟩))) rfl rfl (ld3 (at_cell k1 rfl))) ?_
              simp only [zp]
              refine sv (.bool true) 39 rfl rfl (ex_bin (u := (.int .i64 a)) (r := (.int .i64 p.bad)) rfl rfl rfl (eg3 _ _ _ _ _ _) (lss3 _ (decide_eq_true (by omega)))) ?_
              simp only [zp]
              refine sv (.bool true) 40 rfl rfl (ex_pkF rfl rfl rfl) ?_
              simp only [zp]
              refine st_end ?_
              subst hQ
              refine wp_cond_true rfl ?_
              refine wl_in (wl_cap fun Q hQ => ?_)
              refine sm (.int .i64 a) 41 rfl rfl rfl rfl ?_
              simp only [zp]
              refine sv (.pointer (some ⟨b1, 2, none⟩)) 42 rfl rfl (ex_fa (p := (.pointer (some ⟨b1, 0, none⟩))) rfl rfl (fa23_2 _ _)) ?_
              simp only [zp]
              obtain ⟨kn, K⟩ := put_cell (i := 2) (.int .i64 a) k1
              refine st_sk rfl rfl (ex_store rfl rfl rfl (sto3 (at_cell k1 rfl) (unfrozen k1))) ?_
              obtain ⟨W3, hW2⟩ : ∃ W', W2.setCell ⟨b1, 2, none⟩ (.int .i64 a) = W' := ⟨_, rfl⟩
              rw [hW2] at kn K ⊢
              replace E := below_put E ge_b1 K
              replace k2 := keepK K k2 (fun e => by first | exact ne_b2_b1 e | exact ne_b1_b2 e.symm)
              replace k1 := kn
              clear kn K
              refine st_end ?_
              subst hQ
              refine wq fun Q hQ => ?_
              refine sm (.int .i64 t) 43 rfl rfl rfl rfl ?_
              simp only [zp]
              refine sv (.pointer (some ⟨b1, 3, none⟩)) 44 rfl rfl (ex_fa (p := (.pointer (some ⟨b1, 0, none⟩))) rfl rfl (fa23_3 _ _)) ?_
              simp only [zp]
              obtain ⟨kn, K⟩ := put_cell (i := 3) (.int .i64 t) k1
              refine st_sk rfl rfl (ex_store rfl rfl rfl (sto3 (at_cell k1 rfl) (unfrozen k1))) ?_
              obtain ⟨W4, hW2⟩ : ∃ W', W3.setCell ⟨b1, 3, none⟩ (.int .i64 t) = W' := ⟨_, rfl⟩
              rw [hW2] at kn K ⊢
              replace E := below_put E ge_b1 K
              replace k2 := keepK K k2 (fun e => by first | exact ne_b2_b1 e | exact ne_b1_b2 e.symm)
              replace k1 := kn
              clear kn K
              refine st_end ?_
              subst hQ
              refine wp_seq ?_
              refine wq fun Q hQ => ?_
              refine sv (.pointer (some ⟨b1, 0, none⟩)) 45 rfl rfl (ex_fa (p := (.pointer (some ⟨b1, 0, none⟩))) rfl rfl (fa23_0 _ _)) ?_
              simp only [zp]
              refine sv (.int .i64 p.good) 46 rfl rfl (ex_load (p := (.pointer (some ⟨b1, 0, none⟩))) rfl rfl (ld3 (at_cell k1 rfl))) ?_
              simp only [zp]
              refine sm (.int .i64 a) 47 rfl rfl rfl rfl ?_
              simp only [zp]
              refine sv (.bool true) 48 rfl rfl (ex_bin (u := (.int .i64 p.good)) (r := (.int .i64 a)) rfl rfl rfl (eg3 _ _ _ _ _ _) (geq3 _ (decide_eq_true (by omega)))) ?_
              simp only [zp]
              refine st_end ?_
              subst hQ
              refine wp_cond_true rfl ?_
              refine wl_in (wl_cap fun Q hQ => ?_)
              refine sm (.int .i64 a) 49 rfl rfl rfl rfl ?_
              simp only [zp]
              refine sv (.int .i64 (a - 1)) 50 rfl rfl (ex_bin rfl rfl rfl (eg3 _ _ _ _ _ _) (sub3 _ rfl (by omega))) ?_
              simp only [zp]
              refine sv (.pointer (some ⟨b1, 0, none⟩)) 51 rfl rfl (ex_fa (p := (.pointer (some ⟨b1, 0, none⟩))) rfl rfl (fa23_0 _ _)) ?_
              simp only [zp]
              obtain ⟨kn, K⟩ := put_cell (i := 0) (.int .i64 (a - 1)) k1
              refine st_sk rfl rfl (ex_store rfl rfl rfl (sto3 (at_cell k1 rfl) (unfrozen k1))) ?_
              obtain ⟨W5, hW2⟩ : ∃ W', W4.setCell ⟨b1, 0, none⟩ (.int .i64 (a - 1)) = W' := ⟨_, rfl⟩
              rw [hW2] at kn K ⊢
              replace E := below_put E ge_b1 K
              replace k2 := keepK K k2 (fun e => by first | exact ne_b2_b1 e | exact ne_b1_b2 e.symm)
              replace k1 := kn
              clear kn K
              refine st_end ?_
              subst hQ
              refine wq fun Q hQ => ?_
              refine sv (.agg #[(.int .i64 (a - 1)), (.int .i64 p.gat), (.int .i64 a), (.int .i64 t)]) 52 rfl rfl (ex_load (p := (.pointer (some ⟨b1, 0, none⟩))) rfl rfl (ld_all k1 Try.underlying23 rfl inf23)) ?_
              simp only [zp]
              obtain ⟨W6, hst, kn, K⟩ := put_all (D := #[(.int .i64 (a - 1)), (.int .i64 p.gat), (.int .i64 a), (.int .i64 t)]) k2 rfl inf23 (by kernel_rfl)
              refine st_sk rfl rfl (ex_store rfl rfl rfl hst) ?_
              replace E := below_put E ge_b2 K
              replace k1 := keepK K k1 (fun e => by first | exact ne_b1_b2 e | exact ne_b2_b1 e.symm)
              replace k2 := kn
              clear kn K hst
              refine st_end ?_
              subst hQ
              refine wp_ret ?_
              repeat (first | refine ret_out ?_ | refine ret_blk ?_)
              refine bodyPost_ret (results_cell_row Try.results26 _ _ b2 _ _ _ _ rfl k2 Try.underlying23 rfl inf23) rfl ⟨?_, E⟩
              show Ending.returned (.agg #[(.int .i64 (a - 1)), (.int .i64 p.gat), (.int .i64 a), (.int .i64 t)]) = _
              simp [lrnN, PL, e0, e1, e2, e3, e4]
            · skip
              have E : Below w.heap.size w w := Below.refl _ _
              go_enter Try.func26, Try.ntmps26
              refine wq fun Q hQ => ?_
              refine st_new (fun b => .pointer (some ⟨b, 0, none⟩)) (some 4) rfl rfl (ex_box rfl rfl) ?_
              intro b1 W1 k1 g1 B
              simp only [zp]
              have ge_b1 := Nat.le_trans E.size g1
              replace E := below_next E B
              clear B
              refine st_new (fun b => .pointer (some ⟨b, 0, none⟩)) (some 8) rfl rfl (ex_alloc rfl zero23) ?_
              intro b2 W2 k2 g2 B
              simp only [zp]
              have ne_b2_b1 : b2 ≠ b1 := fun e => by have := lt_of k1; omega
              have ge_b2 := Nat.le_trans E.size g2
              replace E := below_next E B
              replace k1 := keep B k1
              clear B
              refine st_end ?_
              subst hQ
              refine wp_seq ?_
              refine wq fun Q hQ => ?_
              refine sm (.int .i64 a) 9 rfl rfl rfl rfl ?_
              simp only [zp]
              refine sv (.bool false) 10 rfl rfl (ex_bin (u := (.int .i64 a)) (r := (.int .i64 1)) rfl rfl rfl (eg3 _ _ _ _ _ _) (lss3 _ (decide_eq_false (by omega)))) ?_
              simp only [zp]
              refine sm (.bool false) 11 rfl rfl rfl rfl ?_
              simp only [zp]
              refine sm (.int .i64 t) 12 rfl rfl rfl rfl ?_
              simp only [zp]
              refine sv (.bool false) 13 rfl rfl (ex_bin (u := (.int .i64 t)) (r := (.int .i64 1)) rfl rfl rfl (eg3 _ _ _ _ _ _) (lss3 _ (decide_eq_false (by omega)))) ?_
              simp only [zp]
              refine sv (.bool false) 14 rfl rfl (ex_pkF rfl rfl rfl) ?_
              simp only [zp]
              refine st_end ?_
              subst hQ
              refine wp_cond_false rfl ?_
              refine wp_skip ?_
              refine wp_seq ?_
              refine wq fun Q hQ => ?_
              refine sm (.bool false) 16 rfl rfl rfl rfl ?_
              simp only [zp]
              refine st_end ?_
              subst hQ
              refine wp_cond_false rfl ?_
              refine wp_skip ?_
              refine wp_seq ?_
              refine wq fun Q hQ => ?_
              refine sv (.pointer (some ⟨b1, 3, none⟩)) 32 rfl rfl (ex_fa (p := (.pointer (some ⟨b1, 0, none⟩))) rfl rfl (fa23_3 _ _)) ?_
              simp only [zp]
              refine sv (.int .i64 p.bat) 33 rfl rfl (ex_load (p := (.pointer (some ⟨b1, 3, none⟩))) rfl rfl (ld3 (at_cell k1 rfl))) ?_
              simp only [zp]
              refine sv (.bool false) 34 rfl rfl (ex_bin (u := (.int .i64 p.bat)) (r := (.int .i64 0)) rfl rfl rfl (eg3 _ _ _ _ _ _) (eql3 _ (decide_eq_false (by omega)))) ?_
              simp only [zp]
              refine sm (.bool false) 35 rfl rfl rfl rfl ?_
              simp only [zp]
              refine sm (.int .i64 a) 36 rfl rfl rfl rfl ?_
              simp only [zp]
              refine sv (.pointer (some ⟨b1, 2, none⟩)) 37 rfl rfl (ex_fa (p := (.pointer (some ⟨b1, 0, none⟩))) rfl rfl (fa23_2 _ _)) ?_
              simp only [zp]
              refine sv (.int .i64 p.bad) 38 rfl rfl (ex_load (p := (.pointer (some ⟨b1, 2, none⟩))) rfl rfl (ld3 (at_cell k1 rfl))) ?_
              simp only [zp]
              refine sv (.bool true) 39 rfl rfl (ex_bin (u := (.int .i64 a)) (r := (.int .i64 p.bad)) rfl rfl rfl (eg3 _ _ _ _ _ _) (lss3 _ (decide_eq_true (by omega)))) ?_
              simp only [zp]
              refine sv (.bool true) 40 rfl rfl (ex_pkF rfl rfl rfl) ?_
              simp only [zp]
              refine st_end ?_
              subst hQ
              refine wp_cond_true rfl ?_
              refine wl_in (wl_cap fun Q hQ => ?_)
              refine sm (.int .i64 a) 41 rfl rfl rfl rfl ?_
              simp only [zp]
              refine sv (.pointer (some ⟨b1, 2, none⟩)) 42 rfl rfl (ex_fa (p := (.pointer (some ⟨b1, 0, none⟩))) rfl rfl (fa23_2 _ _)) ?_
              simp only [zp]
              obtain ⟨kn, K⟩ := put_cell (i := 2) (.int .i64 a) k1
              refine st_sk rfl rfl (ex_store rfl rfl rfl (sto3 (at_cell k1 rfl) (unfrozen k1))) ?_
              obtain ⟨W3, hW2⟩ : ∃ W', W2.setCell ⟨b1, 2, none⟩ (.int .i64 a) = W' := ⟨_, rfl⟩
              rw [hW2] at kn K ⊢
              replace E := below_put E ge_b1 K
              replace k2 := keepK K k2 (fun e => by first | exact ne_b2_b1 e | exact ne_b1_b2 e.symm)
              replace k1 := kn
              clear kn K
              refine st_end ?_
              subst hQ
              refine wq fun Q hQ => ?_
              refine sm (.int .i64 t) 43 rfl rfl rfl rfl ?_
              simp only [zp]
              refine sv (.pointer (some ⟨b1, 3, none⟩)) 44 rfl rfl (ex_fa (p := (.pointer (some ⟨b1, 0, none⟩))) rfl rfl (fa23_3 _ _)) ?_
              simp only [zp]
              obtain ⟨kn, K⟩ := put_cell (i := 3) (.int .i64 t) k1
              refine st_sk rfl rfl (ex_store rfl rfl rfl (sto3 (at_cell k1 rfl) (unfrozen k1))) ?_
              obtain ⟨W4, hW2⟩ : ∃ W', W3.setCell ⟨b1, 3, none⟩ (.int .i64 t) = W' := ⟨_, rfl⟩
              rw [hW2] at kn K ⊢
              replace E := below_put E ge_b1 K
              replace k2 := keepK K k2 (fun e => by first | exact ne_b2_b1 e | exact ne_b1_b2 e.symm)
              replace k1 := kn
              clear kn K
              refine st_end ?_
              subst hQ
              refine wp_seq ?_
              refine wq fun Q hQ => ?_
              refine sv (.pointer (some ⟨b1, 0, none⟩)) 45 rfl rfl (ex_fa (p := (.pointer (some ⟨b1, 0, none⟩))) rfl rfl (fa23_0 _ _)) ?_
              simp only [zp]
              refine sv (.int .i64 p.good) 46 rfl rfl (ex_load (p := (.pointer (some ⟨b1, 0, none⟩))) rfl rfl (ld3 (at_cell k1 rfl))) ?_
              simp only [zp]
              refine sm (.int .i64 a) 47 rfl rfl rfl rfl ?_
              simp only [zp]
              refine sv (.bool false) 48 rfl rfl (ex_bin (u := (.int .i64 p.good)) (r := (.int .i64 a)) rfl rfl rfl (eg3 _ _ _ _ _ _) (geq3 _ (decide_eq_false (by omega)))) ?_
              simp only [zp]
              refine st_end ?_
              subst hQ
              refine wp_cond_false rfl ?_
              refine wp_skip ?_
              refine wq fun Q hQ => ?_
              refine sv (.agg #[(.int .i64 p.good), (.int .i64 p.gat), (.int .i64 a), (.int .i64 t)]) 52 rfl rfl (ex_load (p := (.pointer (some ⟨b1, 0, none⟩))) rfl rfl (ld_all k1 Try.underlying23 rfl inf23)) ?_
              simp only [zp]
              obtain ⟨W5, hst, kn, K⟩ := put_all (D := #[(.int .i64 p.good), (.int .i64 p.gat), (.int .i64 a), (.int .i64 t)]) k2 rfl inf23 (by kernel_rfl)
              refine st_sk rfl rfl (ex_store rfl rfl rfl hst) ?_
              replace E := below_put E ge_b2 K
              replace k1 := keepK K k1 (fun e => by first | exact ne_b1_b2 e | exact ne_b2_b1 e.symm)
              replace k2 := kn
              clear kn K hst
              refine st_end ?_
              subst hQ
              refine wp_ret ?_
              repeat (first | refine ret_out ?_ | refine ret_blk ?_)
              refine bodyPost_ret (results_cell_row Try.results26 _ _ b2 _ _ _ _ rfl k2 Try.underlying23 rfl inf23) rfl ⟨?_, E⟩
              show Ending.returned (.agg #[(.int .i64 p.good), (.int .i64 p.gat), (.int .i64 a), (.int .i64 t)]) = _
              simp [lrnN, PL, e0, e1, e2, e3, e4]
          · skip
            by_cases e4 : a ≤ p.good
            · skip
              have E : Below w.heap.size w w := Below.refl _ _
              go_enter Try.func26, Try.ntmps26
              refine wq fun Q hQ => ?_
              refine st_new (fun b => .pointer (some ⟨b, 0, none⟩)) (some 4) rfl rfl (ex_box rfl rfl) ?_
              intro b1 W1 k1 g1 B
              simp only [zp]
              have ge_b1 := Nat.le_trans E.size g1
              replace E := below_next E B
              clear B
              refine st_new (fun b => .pointer (some ⟨b, 0, none⟩)) (some 8) rfl rfl (ex_alloc rfl zero23) ?_
              intro b2 W2 k2 g2 B
              simp only [zp]
              have ne_b2_b1 : b2 ≠ b1 := fun e => by have := lt_of k1; omega
              have ge_b2 := Nat.le_trans E.size g2
              replace E := below_next E B
              replace k1 := keep B k1
              clear B
              refine st_end ?_
              subst hQ
              refine wp_seq ?_
              refine wq fun Q hQ => ?_
              refine sm (.int .i64 a) 9 rfl rfl rfl rfl ?_
              simp only [zp]
              refine sv (.bool false) 10 rfl rfl (ex_bin (u := (.int .i64 a)) (r := (.int .i64 1)) rfl rfl rfl (eg3 _ _ _ _ _ _) (lss3 _ (decide_eq_false (by omega)))) ?_
              simp only [zp]
              refine sm (.bool false) 11 rfl rfl rfl rfl ?_
              simp only [zp]
              refine sm (.int .i64 t) 12 rfl rfl rfl rfl ?_
              simp only [zp]
              refine sv (.bool false) 13 rfl rfl (ex_bin (u := (.int .i64 t)) (r := (.int .i64 1)) rfl rfl rfl (eg3 _ _ _ _ _ _) (lss3 _ (decide_eq_false (by omega)))) ?_
              simp only [zp]
              refine sv (.bool false) 14 rfl rfl (ex_pkF rfl rfl rfl) ?_
              simp only [zp]
              refine st_end ?_
              subst hQ
              refine wp_cond_false rfl ?_
              refine wp_skip ?_
              refine wp_seq ?_
              refine wq fun Q hQ => ?_
              refine sm (.bool false) 16 rfl rfl rfl rfl ?_
              simp only [zp]
              refine st_end ?_
              subst hQ
              refine wp_cond_false rfl ?_
              refine wp_skip ?_
              refine wp_seq ?_
              refine wq fun Q hQ => ?_
              refine sv (.pointer (some ⟨b1, 3, none⟩)) 32 rfl rfl (ex_fa (p := (.pointer (some ⟨b1, 0, none⟩))) rfl rfl (fa23_3 _ _)) ?_
              simp only [zp]
              refine sv (.int .i64 p.bat) 33 rfl rfl (ex_load (p := (.pointer (some ⟨b1, 3, none⟩))) rfl rfl (ld3 (at_cell k1 rfl))) ?_
              simp only [zp]
              refine sv (.bool false) 34 rfl rfl (ex_bin (u := (.int .i64 p.bat)) (r := (.int .i64 0)) rfl rfl rfl (eg3 _ _ _ _ _ _) (eql3 _ (decide_eq_false (by omega)))) ?_
              simp only [zp]
              refine sm (.bool false) 35 rfl rfl rfl rfl ?_
              simp only [zp]
              refine sm (.int .i64 a) 36 rfl rfl rfl rfl ?_
              simp only [zp]
              refine sv (.pointer (some ⟨b1, 2, none⟩)) 37 rfl rfl (ex_fa (p := (.pointer (some ⟨b1, 0, none⟩))) rfl rfl (fa23_2 _ _)) ?_
              simp only [zp]
              refine sv (.int .i64 p.bad) 38 rfl rfl (ex_load (p := (.pointer (some ⟨b1, 2, none⟩))) rfl rfl (ld3 (at_cell k1 rfl))) ?_
              simp only [zp]
              refine sv (.bool false) 39 rfl rfl (ex_bin (u := (.int .i64 a)) (r := (.int .i64 p.bad)) rfl rfl rfl (eg3 _ _ _ _ _ _) (lss3 _ (decide_eq_false (by omega)))) ?_
              simp only [zp]
              refine sv (.bool false) 40 rfl rfl (ex_pkF rfl rfl rfl) ?_
              simp only [zp]
              refine st_end ?_
              subst hQ
              refine wp_cond_false rfl ?_
              refine wp_skip ?_
              refine wq fun Q hQ => ?_
              refine sm (.int .i64 t) 43 rfl rfl rfl rfl ?_
              simp only [zp]
              refine sv (.pointer (some ⟨b1, 3, none⟩)) 44 rfl rfl (ex_fa (p := (.pointer (some ⟨b1, 0, none⟩))) rfl rfl (fa23_3 _ _)) ?_
              simp only [zp]
              obtain ⟨kn, K⟩ := put_cell (i := 3) (.int .i64 t) k1
              refine st_sk rfl rfl (ex_store rfl rfl rfl (sto3 (at_cell k1 rfl) (unfrozen k1))) ?_
              obtain ⟨W3, hW2⟩ : ∃ W', W2.setCell ⟨b1, 3, none⟩ (.int .i64 t) = W' := ⟨_, rfl⟩
              rw [hW2] at kn K ⊢
              replace E := below_put E ge_b1 K
              replace k2 := keepK K k2 (fun e => by first | exact ne_b2_b1 e | exact ne_b1_b2 e.symm)
              replace k1 := kn
              clear kn K
              refine st_end ?_
              subst hQ
              refine wp_seq ?_
              refine wq fun Q hQ => ?_
              refine sv (.pointer (some ⟨b1, 0, none⟩)) 45 rfl rfl (ex_fa (p := (.pointer (some ⟨b1, 0, none⟩))) rfl rfl (fa23_0 _ _)) ?_
              simp only [zp]
              refine sv (.int .i64 p.good) 46 rfl rfl (ex_load (p := (.pointer (some ⟨b1, 0, none⟩))) rfl rfl (ld3 (at_cell k1 rfl))) ?_
              simp only [zp]
              refine sm (.int .i64 a) 47 rfl rfl rfl rfl ?_
              simp only [zp]
              refine sv (.bool true) 48 rfl rfl (ex_bin (u := (.int .i64 p.good)) (r := (.int .i64 a)) rfl rfl rfl (eg3 _ _ _ _ _ _) (geq3 _ (decide_eq_true (by omega)))) ?_
              simp only [zp]
              refine st_end ?_
              subst hQ
              refine wp_cond_true rfl ?_
              refine wl_in (wl_cap fun Q hQ => ?_)
              refine sm (.int .i64 a) 49 rfl rfl rfl rfl ?_
              simp only [zp]
              refine sv (.int .i64 (a - 1)) 50 rfl rfl (ex_bin rfl rfl rfl (eg3 _ _ _ _ _ _) (sub3 _ rfl (by omega))) ?_
              simp only [zp]
              refine sv (.pointer (some ⟨b1, 0, none⟩)) 51 rfl rfl (ex_fa (p := (.pointer (some ⟨b1, 0, none⟩))) rfl rfl (fa23_0 _ _)) ?_
              simp only [zp]
              obtain ⟨kn, K⟩ := put_cell (i := 0) (.int .i64 (a - 1)) k1
              refine st_sk rfl rfl (ex_store rfl rfl rfl (sto3 (at_cell k1 rfl) (unfrozen k1))) ?_
              obtain ⟨W4, hW2⟩ : ∃ W', W3.setCell ⟨b1, 0, none⟩ (.int .i64 (a - 1)) = W' := ⟨_, rfl⟩
              rw [hW2] at kn K ⊢
              replace E := below_put E ge_b1 K
              replace k2 := keepK K k2 (fun e => by first | exact ne_b2_b1 e | exact ne_b1_b2 e.symm)
              replace k1 := kn
              clear kn K
              refine st_end ?_
              subst hQ
              refine wq fun Q hQ => ?_
              refine sv (.agg #[(.int .i64 (a - 1)), (.int .i64 p.gat), (.int .i64 p.bad), (.int .i64 t)]) 52 rfl rfl (ex_load (p := (.pointer (some ⟨b1, 0, none⟩))) rfl rfl (ld_all k1 Try.underlying23 rfl inf23)) ?_
              simp only [zp]
              obtain ⟨W5, hst, kn, K⟩ := put_all (D := #[(.int .i64 (a - 1)), (.int .i64 p.gat), (.int .i64 p.bad), (.int .i64 t)]) k2 rfl inf23 (by kernel_rfl)
              refine st_sk rfl rfl (ex_store rfl rfl rfl hst) ?_
              replace E := below_put E ge_b2 K
              replace k1 := keepK K k1 (fun e => by first | exact ne_b1_b2 e | exact ne_b2_b1 e.symm)
              replace k2 := kn
              clear kn K hst
              refine st_end ?_
              subst hQ
              refine wp_ret ?_
              repeat (first | refine ret_out ?_ | refine ret_blk ?_)
              refine bodyPost_ret (results_cell_row Try.results26 _ _ b2 _ _ _ _ rfl k2 Try.underlying23 rfl inf23) rfl ⟨?_, E⟩
              show Ending.returned (.agg #[(.int .i64 (a - 1)), (.int .i64 p.gat), (.int .i64 p.bad), (.int .i64 t)]) = _
              simp [lrnN, PL, e0, e1, e2, e3, e4]
            · skip
              have E : Below w.heap.size w w := Below.refl _ _
              go_enter Try.func26, Try.ntmps26
              refine wq fun Q hQ => ?_
              refine st_new (fun b => .pointer (some ⟨b, 0, none⟩)) (some 4) rfl rfl (ex_box rfl rfl) ?_
              intro b1 W1 k1 g1 B
              simp only [zp]
              have ge_b1 := Nat.le_trans E.size g1
              replace E := below_next E B
              clear B
              refine st_new (fun b => .pointer (some ⟨b, 0, none⟩)) (some 8) rfl rfl (ex_alloc rfl zero23) ?_
              intro b2 W2 k2 g2 B
              simp only [zp]
              have ne_b2_b1 : b2 ≠ b1 := fun e => by have := lt_of k1; omega
              have ge_b2 := Nat.le_trans E.size g2
              replace E := below_next E B
              replace k1 := keep B k1
              clear B
              refine st_end ?_
              subst hQ
              refine wp_seq ?_
              refine wq fun Q hQ => ?_
              refine sm (.int .i64 a) 9 rfl rfl rfl rfl ?_
              simp only [zp]
              refine sv (.bool false) 10 rfl rfl (ex_bin (u := (.int .i64 a)) (r := (.int .i64 1)) rfl rfl rfl (eg3 _ _ _ _ _ _) (lss3 _ (decide_eq_false (by omega)))) ?_
              simp only [zp]
              refine sm (.bool false) 11 rfl rfl rfl rfl ?_
              simp only [zp]
              refine sm (.int .i64 t) 12 rfl rfl rfl rfl ?_
              simp only [zp]
              refine sv (.bool false) 13 rfl rfl (ex_bin (u := (.int .i64 t)) (r := (.int .i64 1)) rfl rfl rfl (eg3 _ _ _ _ _ _) (lss3 _ (decide_eq_false (by omega)))) ?_
              simp only [zp]
              refine sv (.bool false) 14 rfl rfl (ex_pkF rfl rfl rfl) ?_
              simp only [zp]
              refine st_end ?_
              subst hQ
              refine wp_cond_false rfl ?_
              refine wp_skip ?_
              refine wp_seq ?_
              refine wq fun Q hQ => ?_
              refine sm (.bool false) 16 rfl rfl rfl rfl ?_
              simp only [zp]
              refine st_end ?_
              subst hQ
              refine wp_cond_false rfl ?_
              refine wp_skip ?_
              refine wp_seq ?_
              refine wq fun Q hQ => ?_
              refine sv (.pointer (some ⟨b1, 3, none⟩)) 32 rfl rfl (ex_fa (p := (.pointer (some ⟨b1, 0, none⟩))) rfl rfl (fa23_3 _ _)) ?_
              simp only [zp]
              refine sv (.int .i64 p.bat) 33 rfl rfl (ex_load (p := (.pointer (some ⟨b1, 3, none⟩))) rfl rfl (ld3 (at_cell k1 rfl))) ?_
              simp only [zp]
              refine sv (.bool false) 34 rfl rfl (ex_bin (u := (.int .i64 p.bat)) (r := (.int .i64 0)) rfl rfl rfl (eg3 _ _ _ _ _ _) (eql3 _ (decide_eq_false (by omega)))) ?_
              simp only [zp]
              refine sm (.bool false) 35 rfl rfl rfl rfl ?_
              simp only [zp]
              refine sm (.int .i64 a) 36 rfl rfl rfl rfl ?_
              simp only [zp]
              refine sv (.pointer (some ⟨b1, 2, none⟩)) 37 rfl rfl (ex_fa (p := (.pointer (some ⟨b1, 0, none⟩))) rfl rfl (fa23_2 _ _)) ?_
              simp only [zp]
              refine sv (.int .i64 p.bad) 38 rfl rfl (ex_load (p := (.pointer (some ⟨b1, 2, none⟩))) rfl rfl (ld3 (at_cell k1 rfl))) ?_
              simp only [zp]
              refine sv (.bool false) 39 rfl rfl (ex_bin (u := (.int .i64 a)) (r := (.int .i64 p.bad)) rfl rfl rfl (eg3 _ _ _ _ _ _) (lss3 _ (decide_eq_false (by omega)))) ?_
              simp only [zp]
              refine sv (.bool false) 40 rfl rfl (ex_pkF rfl rfl rfl) ?_
              simp only [zp]
              refine st_end ?_
              subst hQ
              refine wp_cond_false rfl ?_
              refine wp_skip ?_
              refine wq fun Q hQ => ?_
              refine sm (.int .i64 t) 43 rfl rfl rfl rfl ?_
              simp only [zp]
              refine sv (.pointer (some ⟨b1, 3, none⟩)) 44 rfl rfl (ex_fa (p := (.pointer (some ⟨b1, 0, none⟩))) rfl rfl (fa23_3 _ _)) ?_
              simp only [zp]
              obtain ⟨kn, K⟩ := put_cell (i := 3) (.int .i64 t) k1
              refine st_sk rfl rfl (ex_store rfl rfl rfl (sto3 (at_cell k1 rfl) (unfrozen k1))) ?_
              obtain ⟨W3, hW2⟩ : ∃ W', W2.setCell ⟨b1, 3, none⟩ (.int .i64 t) = W' := ⟨_, rfl⟩
              rw [hW2] at kn K ⊢
              replace E := below_put E ge_b1 K
              replace k2 := keepK K k2 (fun e => by first | exact ne_b2_b1 e | exact ne_b1_b2 e.symm)
              replace k1 := kn
              clear kn K
              refine st_end ?_
              subst hQ
              refine wp_seq ?_
              refine wq fun Q hQ => ?_
              refine sv (.pointer (some ⟨b1, 0, none⟩)) 45 rfl rfl (ex_fa (p := (.pointer (some ⟨b1, 0, none⟩))) rfl rfl (fa23_0 _ _)) ?_
              simp only [zp]
              refine sv (.int .i64 p.good) 46 rfl rfl (ex_load (p := (.pointer (some ⟨b1, 0, none⟩))) rfl rfl (ld3 (at_cell k1 rfl))) ?_
              simp only [zp]
              refine sm (.int .i64 a) 47 rfl rfl rfl rfl ?_
              simp only [zp]
              refine sv (.bool false) 48 rfl rfl (ex_bin (u := (.int .i64 p.good)) (r := (.int .i64 a)) rfl rfl rfl (eg3 _ _ _ _ _ _) (geq3 _ (decide_eq_false (by omega)))) ?_
              simp only [zp]
              refine st_end ?_
              subst hQ
              refine wp_cond_false rfl ?_
              refine wp_skip ?_
              refine wq fun Q hQ => ?_
              refine sv (.agg #[(.int .i64 p.good), (.int .i64 p.gat), (.int .i64 p.bad), (.int .i64 t)]) 52 rfl rfl (ex_load (p := (.pointer (some ⟨b1, 0, none⟩))) rfl rfl (ld_all k1 Try.underlying23 rfl inf23)) ?_
              simp only [zp]
              obtain ⟨W4, hst, kn, K⟩ := put_all (D := #[(.int .i64 p.good), (.int .i64 p.gat), (.int .i64 p.bad), (.int .i64 t)]) k2 rfl inf23 (by kernel_rfl)
              refine st_sk rfl rfl (ex_store rfl rfl rfl hst) ?_
              replace E := below_put E ge_b2 K
              replace k1 := keepK K k1 (fun e => by first | exact ne_b1_b2 e | exact ne_b2_b1 e.symm)
              replace k2 := kn
              clear kn K hst
              refine st_end ?_
              subst hQ
              refine wp_ret ?_
              repeat (first | refine ret_out ?_ | refine ret_blk ?_)
              refine bodyPost_ret (results_cell_row Try.results26 _ _ b2 _ _ _ _ rfl k2 Try.underlying23 rfl inf23) rfl ⟨?_, E⟩
              show Ending.returned (.agg #[(.int .i64 p.good), (.int .i64 p.gat), (.int .i64 p.bad), (.int .i64 t)]) = _
              simp [lrnN, PL, e0, e1, e2, e3, e4]
set_option maxHeartbeats 8000000 in
theorem rjoin_any {ao : Option Addr} {n c : Nat} {z : Nat → Nat} (w : World) (hF : Fs w ao n z) (hn : n ≤ 140737488355328) (hz : ∀ i, i < n → z i < 18446744073709551616) : Calls Try.prog 22 #[.slice ao n c] w fun e w' => e = .returned (.float .f64 (jk z n 0 0)) ∧ Below w.heap.size w w' := by
  have E : Below w.heap.size w w := Below.refl _ _
  go_enter Try.func22, Try.ntmps22
  refine wq fun Q hQ => ?_
  refine sg (.float .f64 0) 2 rfl rfl rfl rfl ?_
  simp only [zp]
  refine st_end ?_
  subst hQ
  refine wq fun Q hQ => ?_
  refine sg (.float .f64 0) 3 rfl rfl rfl rfl ?_
  simp only [zp]
  refine st_end ?_
  subst hQ
  refine wp_seq ?_
  refine wq fun Q hQ => ?_
  refine sg (.int .i64 0) 4 rfl rfl rfl rfl ?_
  simp only [zp]
  refine st_end ?_
  subst hQ
  refine wp_block ?_
  go_loopw [3, 4] (fun v3 v4 wr => ∃ i s : Nat, i ≤ n ∧ v4 = .int .i64 i ∧ v3 = .float .f64 s ∧ s ≤ 9218868437227405312 ∧ jk z (n - i) i s = jk z n 0 0 ∧ Below w.heap.size w wr) (fun _ v4 _ => n - (intOf v4).toNat)
  case atStart => exact ⟨0, 0, Nat.zero_le _, rfl, rfl, Nat.zero_le _, rfl, E⟩
  case round =>
    obtain ⟨i, s, hi, rfl, rfl, hs, hj, E⟩ := hrel
    by_cases hlt : i < n
    · rcases hF with h | ⟨b, off, rfl, h⟩
      · omega
      have hx := hz i hlt
      have hcell := h i hlt
      obtain ⟨m, hm⟩ : ∃ m, n - i = m + 1 := ⟨n - i - 1, by omega⟩
      rw [hm] at hj
      have hj2 : (if okJ (z i) then jk z m (i + 1) (fadd s (z i)) else 9218868437227405312) = jk z n 0 0 := hj
      by_cases e0 : isN (z i) = true
      · skip
        have hk : okJ (z i) = false := by unfold okJ; rw [e0]; rfl
        rw [hk] at hj2
        refine wp_seq ?_
        refine wq fun Q hQ => ?_
        refine sm (.int .i64 (i : Nat)) 5 rfl rfl rfl rfl ?_
        simp only [zp]
        refine sm (.slice (some ⟨b, off, none⟩) n c) 6 rfl rfl rfl rfl ?_
        simp only [zp]
        refine sv (.int .i64 (n : Nat)) 7 rfl rfl (ex_len rfl rfl (len32 _ _ _ _ _)) ?_
        simp only [zp]
        refine sv (.bool true) 8 rfl rfl (ex_bin (u := (.int .i64 (i : Nat))) (r := (.int .i64 (n : Nat))) rfl rfl rfl (eg3 _ _ _ _ _ _) (lss3 _ (decide_eq_true (by omega)))) ?_
        simp only [zp]
        refine st_end ?_
        subst hQ
        refine wp_cond_true rfl ?_
        refine wp_skip ?_
        refine wp_seq ?_
        refine wp_block ?_
        refine wp_seq ?_
        refine wq fun Q hQ => ?_
        refine sm (.slice (some ⟨b, off, none⟩) n c) 11 rfl rfl rfl rfl ?_
        simp only [zp]
        refine sm (.int .i64 (i : Nat)) 12 rfl rfl rfl rfl ?_
        simp only [zp]
        refine sv (.pointer (some ⟨b, (off + i), none⟩)) 13 rfl rfl (ex_ixF rfl rfl rfl hlt) ?_
        simp only [zp]
        refine sv (.float .f64 (z i)) 14 rfl rfl (ex_load rfl rfl (ld24 ((E.cell (block_lt_of_cell hcell)).trans hcell))) ?_
        simp only [zp]
        refine sv (.bool false) 15 rfl rfl (ex_bin rfl rfl rfl (egF _ _ _ _ _ _) (geqF _ (no_ge (.inl e0)))) ?_
        simp only [zp]
        refine sv (.bool true) 16 rfl rfl (ex_not rfl rfl rfl) ?_
        simp only [zp]
        refine sm (.bool true) 17 rfl rfl rfl rfl ?_
        simp only [zp]
        refine sn 18 rfl rfl ?_
        simp only [zp]
        refine sn 19 rfl rfl ?_
        simp only [zp]
        refine sn 20 rfl rfl ?_
        simp only [zp]
        refine sn 21 rfl rfl ?_
        simp only [zp]
        refine sn 22 rfl rfl ?_
        simp only [zp]
        refine sv (.bool true) 23 rfl rfl (ex_pkT rfl rfl rfl) ?_
        simp only [zp]
        refine st_end ?_
        subst hQ
        refine wp_cond_true rfl ?_
        refine wq fun Q hQ => ?_
        refine st_call (some 24) rfl rfl (inf_any wr) (ex_call (f := 34) (vs := [(.int .i64 1)]) rfl (cf34 _) rfl) ?_
        rintro e W1 ⟨rfl, B⟩
        refine ⟨_, rfl, ?_⟩
        simp only [zp]
        replace E := below_next E B
        refine sg (.float .f64 9218868437227405312) 2 rfl rfl rfl rfl ?_
        simp only [zp]
        refine st_end ?_
        subst hQ
        refine wp_ret ?_
        repeat (first | refine ret_out ?_ | refine ret_blk ?_)
        refine bodyPost_ret (results_tmp Try.results22 _ _ _) rfl ⟨?_, E⟩
        rw [← hj2]
        rfl
      replace e0 := Bool.eq_false_iff.2 e0
      by_cases e1 : 0 ≤ key (z i)
      · by_cases e2 : z i = 9218868437227405312
        · skip
          have hk : okJ (z i) = false := by unfold okJ; rw [e2]; rfl
          rw [hk] at hj2
          refine wp_seq ?_
          refine wq fun Q hQ => ?_
          refine sm (.int .i64 (i : Nat)) 5 rfl rfl rfl rfl ?_
          simp only [zp]
          refine sm (.slice (some ⟨b, off, none⟩) n c) 6 rfl rfl rfl rfl ?_
          simp only [zp]
          refine sv (.int .i64 (n : Nat)) 7 rfl rfl (ex_len rfl rfl (len32 _ _ _ _ _)) ?_
          simp only [zp]
          refine sv (.bool true) 8 rfl rfl (ex_bin (u := (.int .i64 (i : Nat))) (r := (.int .i64 (n : Nat))) rfl rfl rfl (eg3 _ _ _ _ _ _) (lss3 _ (decide_eq_true (by omega)))) ?_
          simp only [zp]
          refine st_end ?_
          subst hQ
          refine wp_cond_true rfl ?_
          refine wp_skip ?_
          refine wp_seq ?_
          refine wp_block ?_
          refine wp_seq ?_
          refine wq fun Q hQ => ?_
          refine sm (.slice (some ⟨b, off, none⟩) n c) 11 rfl rfl rfl rfl ?_
          simp only [zp]
          refine sm (.int .i64 (i : Nat)) 12 rfl rfl rfl rfl ?_
          simp only [zp]
          refine sv (.pointer (some ⟨b, (off + i), none⟩)) 13 rfl rfl (ex_ixF rfl rfl rfl hlt) ?_
          simp only [zp]
          refine sv (.float .f64 (z i)) 14 rfl rfl (ex_load rfl rfl (ld24 ((E.cell (block_lt_of_cell hcell)).trans hcell))) ?_
          simp only [zp]
          refine sv (.bool true) 15 rfl rfl (ex_bin rfl rfl rfl (egF _ _ _ _ _ _) (geqF _ (is_ge e0 N0 (decide_eq_true (by rw [key_zero]; omega))))) ?_
          simp only [zp]
          refine sv (.bool false) 16 rfl rfl (ex_not rfl rfl rfl) ?_
          simp only [zp]
          refine sm (.bool false) 17 rfl rfl rfl rfl ?_
          simp only [zp]
          refine sm (.slice (some ⟨b, off, none⟩) n c) 18 rfl rfl rfl rfl ?_
          simp only [zp]
          refine sm (.int .i64 (i : Nat)) 19 rfl rfl rfl rfl ?_
          simp only [zp]
          refine sv (.pointer (some ⟨b, (off + i), none⟩)) 20 rfl rfl (ex_ixF rfl rfl rfl hlt) ?_
          simp only [zp]
          refine sv (.float .f64 (z i)) 21 rfl rfl (ex_load rfl rfl (ld24 ((E.cell (block_lt_of_cell hcell)).trans hcell))) ?_
          simp only [zp]
          refine st_call (some 22) rfl rfl (isinf_any (z i) wr hx (beq_iff_eq.2 e2)) (ex_call (f := 28) (vs := [(.float .f64 (z i)), (.int .i64 1)]) rfl (cf28 _) rfl) ?_
          rintro e W2 ⟨rfl, B⟩
          refine ⟨_, rfl, ?_⟩
          simp only [zp]
          replace E := below_next E B
          refine sv (.bool true) 23 rfl rfl (ex_pkF rfl rfl rfl) ?_
          simp only [zp]
          refine st_end ?_
          subst hQ
          refine wp_cond_true rfl ?_
          refine wq fun Q hQ => ?_
          refine st_call (some 24) rfl rfl (inf_any W2) (ex_call (f := 34) (vs := [(.int .i64 1)]) rfl (cf34 _) rfl) ?_
          rintro e W3 ⟨rfl, B⟩
          refine ⟨_, rfl, ?_⟩
          simp only [zp]
          replace E := below_next E B
          refine sg (.float .f64 9218868437227405312) 2 rfl rfl rfl rfl ?_
          simp only [zp]
          refine st_end ?_
          subst hQ
          refine wp_ret ?_
          repeat (first | refine ret_out ?_ | refine ret_blk ?_)
          refine bodyPost_ret (results_tmp Try.results22 _ _ _) rfl ⟨?_, E⟩
          rw [← hj2]
          rfl
        · skip
          have hb : (z i == 9218868437227405312) = false := by simpa using e2
          have hk : okJ (z i) = true := by unfold okJ; rw [e0, hb, decide_eq_true e1]; rfl
          rw [hk] at hj2
          have JS := jn_step hs hx hk
          refine wp_seq ?_
          refine wq fun Q hQ => ?_
          refine sm (.int .i64 (i : Nat)) 5 rfl rfl rfl rfl ?_
          simp only [zp]
          refine sm (.slice (some ⟨b, off, none⟩) n c) 6 rfl rfl rfl rfl ?_
          simp only [zp]
          refine sv (.int .i64 (n : Nat)) 7 rfl rfl (ex_len rfl rfl (len32 _ _ _ _ _)) ?_
          simp only [zp]
          refine sv (.bool true) 8 rfl rfl (ex_bin (u := (.int .i64 (i : Nat))) (r := (.int .i64 (n : Nat))) rfl rfl rfl (eg3 _ _ _ _ _ _) (lss3 _ (decide_eq_true (by omega)))) ?_
          simp only [zp]
          refine st_end ?_
          subst hQ
          refine wp_cond_true rfl ?_
          refine wp_skip ?_
          refine wp_seq ?_
          refine wp_block ?_
          refine wp_seq ?_
          refine wq fun Q hQ => ?_
          refine sm (.slice (some ⟨b, off, none⟩) n c) 11 rfl rfl rfl rfl ?_
          simp only [zp]
          refine sm (.int .i64 (i : Nat)) 12 rfl rfl rfl rfl ?_
          simp only [zp]
          refine sv (.pointer (some ⟨b, (off + i), none⟩)) 13 rfl rfl (ex_ixF rfl rfl rfl hlt) ?_
          simp only [zp]
          refine sv (.float .f64 (z i)) 14 rfl rfl (ex_load rfl rfl (ld24 ((E.cell (block_lt_of_cell hcell)).trans hcell))) ?_
          simp only [zp]
          refine sv (.bool true) 15 rfl rfl (ex_bin rfl rfl rfl (egF _ _ _ _ _ _) (geqF _ (is_ge e0 N0 (decide_eq_true (by rw [key_zero]; omega))))) ?_
          simp only [zp]
          refine sv (.bool false) 16 rfl rfl (ex_not rfl rfl rfl) ?_
          simp only [zp]
          refine sm (.bool false) 17 rfl rfl rfl rfl ?_
          simp only [zp]
          refine sm (.slice (some ⟨b, off, none⟩) n c) 18 rfl rfl rfl rfl ?_
          simp only [zp]
          refine sm (.int .i64 (i : Nat)) 19 rfl rfl rfl rfl ?_
          simp only [zp]
          refine sv (.pointer (some ⟨b, (off + i), none⟩)) 20 rfl rfl (ex_ixF rfl rfl rfl hlt) ?_
          simp only [zp]
          refine sv (.float .f64 (z i)) 21 rfl rfl (ex_load rfl rfl (ld24 ((E.cell (block_lt_of_cell hcell)).trans hcell))) ?_
          simp only [zp]
          refine st_call (some 22) rfl rfl (isinf_any (z i) wr hx hb) (ex_call (f := 28) (vs := [(.float .f64 (z i)), (.int .i64 1)]) rfl (cf28 _) rfl) ?_
          rintro e W4 ⟨rfl, B⟩
          refine ⟨_, rfl, ?_⟩
          simp only [zp]
          replace E := below_next E B
          refine sv (.bool false) 23 rfl rfl (ex_pkF rfl rfl rfl) ?_
          simp only [zp]
          refine st_end ?_
          subst hQ
          refine wp_cond_false rfl ?_
          refine wp_skip ?_
          refine wl_in (wl_cap fun Q hQ => ?_)
          refine sm (.float .f64 s) 25 rfl rfl rfl rfl ?_
          simp only [zp]
          refine sm (.slice (some ⟨b, off, none⟩) n c) 26 rfl rfl rfl rfl ?_
          simp only [zp]
          refine sm (.int .i64 (i : Nat)) 27 rfl rfl rfl rfl ?_
          simp only [zp]
          refine sv (.pointer (some ⟨b, (off + i), none⟩)) 28 rfl rfl (ex_ixF rfl rfl rfl hlt) ?_
          simp only [zp]
          refine sv (.float .f64 (z i)) 29 rfl rfl (ex_load rfl rfl (ld24 ((E.cell (block_lt_of_cell hcell)).trans hcell))) ?_
          simp only [zp]
          refine sv (.float .f64 (fadd s (z i))) 30 rfl rfl (ex_bin rfl rfl rfl (egF _ _ _ _ _ _) (fadd_run _ (JS.1))) ?_
          simp only [zp]
          refine sg (.float .f64 (fadd s (z i))) 3 rfl rfl rfl rfl ?_
          simp only [zp]
          refine st_end ?_
          subst hQ
          refine wl_in (wl_cap fun Q hQ => ?_)
          refine sm (.int .i64 (i : Nat)) 9 rfl rfl rfl rfl ?_
          simp only [zp]
          refine sv (.int .i64 ((i + 1 : Nat) : Int)) 10 rfl rfl (ex_bin rfl rfl rfl (eg3 _ _ _ _ _ _) (add3 _ (by omega) (by omega))) ?_
          simp only [zp]
          refine sg (.int .i64 ((i + 1 : Nat) : Int)) 4 rfl rfl rfl rfl ?_
          simp only [zp]
          refine st_end ?_
          subst hQ
          refine then_go ?_
          go_roundw
          case rel => exact ⟨i + 1, fadd s (z i), by omega, rfl, rfl, JS.2.1, by rw [show n - (i + 1) = m by omega]; exact hj2, E⟩
          case measure => simp [intOf]; omega
      · skip
        have hk : okJ (z i) = false := by unfold okJ; rw [decide_eq_false e1]; simp
        rw [hk] at hj2
        refine wp_seq ?_
        refine wq fun Q hQ => ?_
        refine sm (.int .i64 (i : Nat)) 5 rfl rfl rfl rfl ?_
        simp only [zp]
        refine sm (.slice (some ⟨b, off, none⟩) n c) 6 rfl rfl rfl rfl ?_
        simp only [zp]
        refine sv (.int .i64 (n : Nat)) 7 rfl rfl (ex_len rfl rfl (len32 _ _ _ _ _)) ?_
        simp only [zp]
        refine sv (.bool true) 8 rfl rfl (ex_bin (u := (.int .i64 (i : Nat))) (r := (.int .i64 (n : Nat))) rfl rfl rfl (eg3 _ _ _ _ _ _) (lss3 _ (decide_eq_true (by omega)))) ?_
        simp only [zp]
        refine st_end ?_
        subst hQ
        refine wp_cond_true rfl ?_
        refine wp_skip ?_
        refine wp_seq ?_
        refine wp_block ?_
        refine wp_seq ?_
        refine wq fun Q hQ => ?_
        refine sm (.slice (some ⟨b, off, none⟩) n c) 11 rfl rfl rfl rfl ?_
        simp only [zp]
        refine sm (.int .i64 (i : Nat)) 12 rfl rfl rfl rfl ?_
        simp only [zp]
        refine sv (.pointer (some ⟨b, (off + i), none⟩)) 13 rfl rfl (ex_ixF rfl rfl rfl hlt) ?_
        simp only [zp]
        refine sv (.float .f64 (z i)) 14 rfl rfl (ex_load rfl rfl (ld24 ((E.cell (block_lt_of_cell hcell)).trans hcell))) ?_
        simp only [zp]
        refine sv (.bool false) 15 rfl rfl (ex_bin rfl rfl rfl (egF _ _ _ _ _ _) (geqF _ (is_ge e0 N0 (decide_eq_false (by rw [key_zero]; omega))))) ?_
        simp only [zp]
        refine sv (.bool true) 16 rfl rfl (ex_not rfl rfl rfl) ?_
        simp only [zp]
        refine sm (.bool true) 17 rfl rfl rfl rfl ?_
        simp only [zp]
        refine sn 18 rfl rfl ?_
        simp only [zp]
        refine sn 19 rfl rfl ?_
        simp only [zp]
        refine sn 20 rfl rfl ?_
        simp only [zp]
        refine sn 21 rfl rfl ?_
        simp only [zp]
        refine sn 22 rfl rfl ?_
        simp only [zp]
        refine sv (.bool true) 23 rfl rfl (ex_pkT rfl rfl rfl) ?_
        simp only [zp]
        refine st_end ?_
        subst hQ
        refine wp_cond_true rfl ?_
        refine wq fun Q hQ => ?_
        refine st_call (some 24) rfl rfl (inf_any wr) (ex_call (f := 34) (vs := [(.int .i64 1)]) rfl (cf34 _) rfl) ?_
        rintro e W5 ⟨rfl, B⟩
        refine ⟨_, rfl, ?_⟩
        simp only [zp]
        replace E := below_next E B
        refine sg (.float .f64 9218868437227405312) 2 rfl rfl rfl rfl ?_
        simp only [zp]
        refine st_end ?_
        subst hQ
        refine wp_ret ?_
        repeat (first | refine ret_out ?_ | refine ret_blk ?_)
        refine bodyPost_ret (results_tmp Try.results22 _ _ _) rfl ⟨?_, E⟩
        rw [← hj2]
        rfl
    · have hin : i = n := by omega
      subst i
      rw [Nat.sub_self] at hj
      refine wp_seq ?_
      refine wq fun Q hQ => ?_
      refine sm (.int .i64 (n : Nat)) 5 rfl rfl rfl rfl ?_
      simp only [zp]
      refine sm (.slice ao n c) 6 rfl rfl rfl rfl ?_
      simp only [zp]
      refine sv (.int .i64 (n : Nat)) 7 rfl rfl (ex_len rfl rfl (len32 _ _ _ _ _)) ?_
      simp only [zp]
      refine sv (.bool false) 8 rfl rfl (ex_bin (u := (.int .i64 (n : Nat))) (r := (.int .i64 (n : Nat))) rfl rfl rfl (eg3 _ _ _ _ _ _) (lss3 _ (decide_eq_false (by omega)))) ?_
      simp only [zp]
      refine st_end ?_
      subst hQ
      refine wp_cond_false rfl ?_
      refine wp_exit ?_
      refine ex_then ?_
      refine ex_then ?_
      refine ex_blk ?_
      refine wq fun Q hQ => ?_
      refine sm (.float .f64 s) 31 rfl rfl rfl rfl ?_
      simp only [zp]
      refine sg (.float .f64 s) 2 rfl rfl rfl rfl ?_
      simp only [zp]
      refine st_end ?_
      subst hQ
      refine wp_ret ?_
      refine bodyPost_ret (results_tmp Try.results22 _ _ _) rfl ⟨?_, E⟩
      rw [← hj]
      rfl
end Go.Proofs.Ytjmdcgfhblgehaa
