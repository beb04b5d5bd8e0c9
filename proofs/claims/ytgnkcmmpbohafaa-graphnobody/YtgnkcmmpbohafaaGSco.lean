/- Score over this seat: what the document learns; what is asked of the library. -/
import Derived.Test.YtgnkcmmpbohafaaSOps
import Derived.Test.YtgnkcmmpbohafaaFltP
namespace Go.Proofs.Ytgnkcmmpbohafaa
open Go.RowKit
set_option linter.unusedVariables false
set_option linter.unusedSimpArgs false
set_option maxRecDepth 100000

/-- a past, as cells -/
def PL (p : PV) : Array Value := #[.int .i64 p.good, .int .i64 p.gat, .int .i64 p.bad, .int .i64 p.bat]
theorem quo3 {x z : Int} (W : World) (hx : 0 ≤ x) (hx2 : x ≤ 9223372036854775807) (hz : x / 64 = z) : (binOp .quo 3 (.int .i64 x) (.int .i64 64)).run Try.prog W = .ok (.int .i64 z) W := by
  subst hz
  have h1 : Int.tdiv x 64 = x / 64 := Int.tdiv_eq_ediv_of_nonneg hx
  have h2 := IntKind.wrap_i64 (x / 64)
  go_simp
  all_goals omega
theorem rem3 {x z : Int} (W : World) (hx : 0 ≤ x) (hx2 : x ≤ 9223372036854775807) (hz : x % 64 = z) : (binOp .rem 3 (.int .i64 x) (.int .i64 64)).run Try.prog W = .ok (.int .i64 z) W := by
  subst hz
  have h1 : Int.tmod x 64 = x % 64 := Int.tmod_eq_emod_of_nonneg hx
  have h2 := IntKind.wrap_i64 (x % 64)
  go_simp
  all_goals omega
theorem sub3w {x y : Int} (W : World) : (binOp .sub 3 (.int .i64 x) (.int .i64 y)).run Try.prog W = .ok (.int .i64 (IntKind.i64.wrap (x - y))) W := by go_simp

theorem inf_any (w : World) : Calls Try.prog 54 #[.int .i64 1] w fun e w' => e = .returned (.float .f64 9218868437227405312) ∧ Below w.heap.size w w' := by
  have E : Below w.heap.size w w := Below.refl _ _
  go_enter Try.func54, Try.ntmps54
  refine wq fun Q hQ => ?_
  refine sg (.float .f64 0) 2 rfl rfl rfl rfl ?_
  simp only [zp]
  refine st_end ?_
  subst hQ
  refine wq fun Q hQ => ?_
  refine sg (.int .u64 0) 3 rfl rfl rfl rfl ?_
  simp only [zp]
  refine st_end ?_
  subst hQ
  refine wp_seq ?_
  refine wq fun Q hQ => ?_
  refine sm (.int .i64 1) 4 rfl rfl rfl rfl ?_
  simp only [zp]
  refine sv (.bool true) 5 rfl rfl (ex_bin (u := (.int .i64 1)) (r := (.int .i64 0)) rfl rfl rfl (eg3 _ _ _ _ _ _) (geq3 _ (by decide))) ?_
  simp only [zp]
  refine st_end ?_
  subst hQ
  refine wp_cond_true rfl ?_
  refine wl_in (wl_cap fun Q hQ => ?_)
  refine sg (.int .u64 9218868437227405312) 3 rfl rfl rfl rfl ?_
  simp only [zp]
  refine st_end ?_
  subst hQ
  refine wq fun Q hQ => ?_
  refine sm (.int .u64 9218868437227405312) 6 rfl rfl rfl rfl ?_
  simp only [zp]
  refine sv (.float .f64 9218868437227405312) 7 rfl rfl (ex_ext1 rfl rfl (call_frombits 9218868437227405312 _)) ?_
  simp only [zp]
  refine sg (.float .f64 9218868437227405312) 2 rfl rfl rfl rfl ?_
  simp only [zp]
  refine st_end ?_
  subst hQ
  refine wp_ret ?_
  repeat (first | refine ret_out ?_ | refine ret_blk ?_)
  exact bodyPost_ret (results_tmp Try.results54 _ _ _) rfl ⟨rfl, E⟩
theorem age_le {x y : Int} (x1 : -9223372036854775808 ≤ x) (x2 : x ≤ 9223372036854775807) (y1 : -9223372036854775808 ≤ y) (y2 : y ≤ 9223372036854775807) : ageN x y ≤ 9223372036854775807 := by
  unfold ageN
  split
  · decide
  · split
    · decide
    · omega
/-- what is known behind what happened -/
def lrnN (p : PV) (a t : Int) (g : Bool) : PV :=
  if a < 1 ∨ t < 1 then p
  else if g then (if p.bad ≤ a then ⟨if p.good < a then a else p.good, t, 0, 0⟩ else ⟨if p.good < a then a else p.good, t, p.bad, p.bat⟩)
  else ⟨if a ≤ p.good then a - 1 else p.good, p.gat, if p.bat = 0 ∨ a < p.bad then a else p.bad, t⟩
/-- n floats lie there -/
def Fs (w : World) (ao : Option Addr) (n : Nat) (z : Nat → Nat) : Prop := n = 0 ∨ ∃ b o, ao = some ⟨b, o, none⟩ ∧ ∀ i, i < n → w.cell? ⟨b, o + i, none⟩ = some (.float .f64 (z i))
theorem Fs.below {w W : World} {ao : Option Addr} {n : Nat} {z : Nat → Nat} (h : Fs w ao n z) (hB : Below w.heap.size w W) : Fs W ao n z := by
  rcases h with h | ⟨b, o, e, h⟩
  · exact .inl h
  · exact .inr ⟨b, o, e, fun i hi => (hB.cell (block_lt_of_cell (h i hi))).trans (h i hi)⟩
/-- their sum, m of them from i on -/
def jk (z : Nat → Nat) : Nat → Nat → Nat → Nat
  | 0, _, s => s
  | m + 1, i, s => if okJ (z i) then jk z m (i + 1) (fadd s (z i)) else 9218868437227405312
theorem jk_jn (z : Nat → Nat) : ∀ m i s, jk z m i s = jn ((List.range' i m).map z) s
  | 0, _, _ => rfl
  | m + 1, i, s => by
    rw [List.range'_succ, List.map_cons]
    unfold jk jn
    rw [jk_jn z m (i + 1)]
section
variable {o : Oper} {a : Act} {W : World}
theorem ex_ixF {x y : Operand} {b p n c k : Nat} (ho : o.op = .indexAddr 50 x y) (hx : a.eval x = .slice (some ⟨b, p, none⟩) n c) (hy : a.eval y = .int .i64 k) (hk : k < n) : (execOp a.eval o).run Try.prog W = .ok (.value (.pointer (some ⟨b, p + k, none⟩))) W := by
  have h1 : (k : Int) < (n : Int) := by omega
  unfold execOp
  simp only [ho, hx, hy]
  go_simp
end

set_option maxHeartbeats 8000000 in
theorem rlearn_any {p : PV} (a t : Int) (g : Bool) (w : World) (a1 : -9223372036854775808 ≤ a) (a2 : a ≤ 9223372036854775807) : Calls Try.prog 70 #[.agg (PL p), .int .i64 a, .int .i64 t, .bool g] w fun e w' => e = .returned (.agg (PL (lrnN p a t g))) ∧ Below w.heap.size w w' := by
  show Calls Try.prog 70 #[.agg #[.int .i64 p.good, .int .i64 p.gat, .int .i64 p.bad, .int .i64 p.bat], .int .i64 a, .int .i64 t, .bool g] w _
  cases g with
  | true =>
    by_cases e0 : a < 1
    · skip
      have E : Below w.heap.size w w := Below.refl _ _
      go_enter Try.func70, Try.ntmps70
      refine wq fun Q hQ => ?_
      refine st_new (fun b => .pointer (some ⟨b, 0, none⟩)) (some 4) rfl rfl (ex_box rfl rfl) ?_
      intro b1 W1 k1 g1 B
      simp only [zp]
      have ge_b1 := Nat.le_trans E.size g1
      replace E := below_next E B
      clear B
      refine st_new (fun b => .pointer (some ⟨b, 0, none⟩)) (some 8) rfl rfl (ex_alloc rfl zero47) ?_
      intro b2 W2 k2 g2 B
      simp only [zp]
      have ne_b2_b1 : b2 ≠ b1 := fun e => by have := lt_of k1; omega
      have ge_b2 := Nat.le_trans E.size g2
      replace E := below_next E B
      replace k1 := keep B k1
      clear B
      refine st_end ?_
      subst hQ
      refine wp_seq ?_
      refine wq fun Q hQ => ?_
      refine sm (.int .i64 a) 9 rfl rfl rfl rfl ?_
      simp only [zp]
      refine sv (.bool true) 10 rfl rfl (ex_bin (u := (.int .i64 a)) (r := (.int .i64 1)) rfl rfl rfl (eg3 _ _ _ _ _ _) (lss3 _ (decide_eq_true (by omega)))) ?_
      simp only [zp]
      refine sm (.bool true) 11 rfl rfl rfl rfl ?_
      simp only [zp]
      refine sn 12 rfl rfl ?_
      simp only [zp]
      refine sn 13 rfl rfl ?_
      simp only [zp]
      refine sv (.bool true) 14 rfl rfl (ex_pkT rfl rfl rfl) ?_
      simp only [zp]
      refine st_end ?_
      subst hQ
      refine wp_cond_true rfl ?_
      refine wq fun Q hQ => ?_
      refine sv (.agg #[.int .i64 p.good, .int .i64 p.gat, .int .i64 p.bad, .int .i64 p.bat]) 15 rfl rfl (ex_load (p := (.pointer (some ⟨b1, 0, none⟩))) rfl rfl (ld_all k1 Try.underlying47 rfl inf47)) ?_
      simp only [zp]
      obtain ⟨W3, hst, kn, K⟩ := put_all (D := #[.int .i64 p.good, .int .i64 p.gat, .int .i64 p.bad, .int .i64 p.bat]) k2 rfl inf47 (by kernel_rfl)
      refine st_sk rfl rfl (ex_store rfl rfl rfl hst) ?_
      replace E := below_put E ge_b2 K
      replace k1 := keepK K k1 (fun e => by first | exact ne_b1_b2 e | exact ne_b2_b1 e.symm)
      replace k2 := kn
      clear kn K hst
      refine st_end ?_
      subst hQ
      refine wp_ret ?_
      repeat (first | refine ret_out ?_ | refine ret_blk ?_)
      refine bodyPost_ret (results_cell_row Try.results70 _ _ b2 _ _ _ _ rfl k2 Try.underlying47 rfl inf47) rfl ⟨?_, E⟩
      show Ending.returned (.agg #[.int .i64 p.good, .int .i64 p.gat, .int .i64 p.bad, .int .i64 p.bat]) = _
      simp [lrnN, PL, e0]
    · skip
      by_cases e1 : t < 1
      · skip
        have E : Below w.heap.size w w := Below.refl _ _
        go_enter Try.func70, Try.ntmps70
        refine wq fun Q hQ => ?_
        refine st_new (fun b => .pointer (some ⟨b, 0, none⟩)) (some 4) rfl rfl (ex_box rfl rfl) ?_
        intro b1 W1 k1 g1 B
        simp only [zp]
        have ge_b1 := Nat.le_trans E.size g1
        replace E := below_next E B
        clear B
        refine st_new (fun b => .pointer (some ⟨b, 0, none⟩)) (some 8) rfl rfl (ex_alloc rfl zero47) ?_
        intro b2 W2 k2 g2 B
        simp only [zp]
        have ne_b2_b1 : b2 ≠ b1 := fun e => by have := lt_of k1; omega
        have ge_b2 := Nat.le_trans E.size g2
        replace E := below_next E B
        replace k1 := keep B k1
        clear B
        refine st_end ?_
        subst hQ
        refine wp_seq ?_
        refine wq fun Q hQ => ?_
        refine sm (.int .i64 a) 9 rfl rfl rfl rfl ?_
        simp only [zp]
        refine sv (.bool false) 10 rfl rfl (ex_bin (u := (.int .i64 a)) (r := (.int .i64 1)) rfl rfl rfl (eg3 _ _ _ _ _ _) (lss3 _ (decide_eq_false (by omega)))) ?_
        simp only [zp]
        refine sm (.bool false) 11 rfl rfl rfl rfl ?_
        simp only [zp]
        refine sm (.int .i64 t) 12 rfl rfl rfl rfl ?_
        simp only [zp]
        refine sv (.bool true) 13 rfl rfl (ex_bin (u := (.int .i64 t)) (r := (.int .i64 1)) rfl rfl rfl (eg3 _ _ _ _ _ _) (lss3 _ (decide_eq_true (by omega)))) ?_
        simp only [zp]
        refine sv (.bool true) 14 rfl rfl (ex_pkF rfl rfl rfl) ?_
        simp only [zp]
        refine st_end ?_
        subst hQ
        refine wp_cond_true rfl ?_
        refine wq fun Q hQ => ?_
        refine sv (.agg #[.int .i64 p.good, .int .i64 p.gat, .int .i64 p.bad, .int .i64 p.bat]) 15 rfl rfl (ex_load (p := (.pointer (some ⟨b1, 0, none⟩))) rfl rfl (ld_all k1 Try.underlying47 rfl inf47)) ?_
        simp only [zp]
        obtain ⟨W3, hst, kn, K⟩ := put_all (D := #[.int .i64 p.good, .int .i64 p.gat, .int .i64 p.bad, .int .i64 p.bat]) k2 rfl inf47 (by kernel_rfl)
        refine st_sk rfl rfl (ex_store rfl rfl rfl hst) ?_
        replace E := below_put E ge_b2 K
        replace k1 := keepK K k1 (fun e => by first | exact ne_b1_b2 e | exact ne_b2_b1 e.symm)
        replace k2 := kn
        clear kn K hst
        refine st_end ?_
        subst hQ
        refine wp_ret ?_
        repeat (first | refine ret_out ?_ | refine ret_blk ?_)
        refine bodyPost_ret (results_cell_row Try.results70 _ _ b2 _ _ _ _ rfl k2 Try.underlying47 rfl inf47) rfl ⟨?_, E⟩
        show Ending.returned (.agg #[.int .i64 p.good, .int .i64 p.gat, .int .i64 p.bad, .int .i64 p.bat]) = _
        simp [lrnN, PL, e0, e1]
      · skip
        by_cases e2 : p.good < a
        · skip
          by_cases e3 : p.bad ≤ a
          · skip
            have E : Below w.heap.size w w := Below.refl _ _
            go_enter Try.func70, Try.ntmps70
            refine wq fun Q hQ => ?_
            refine st_new (fun b => .pointer (some ⟨b, 0, none⟩)) (some 4) rfl rfl (ex_box rfl rfl) ?_
            intro b1 W1 k1 g1 B
            simp only [zp]
            have ge_b1 := Nat.le_trans E.size g1
            replace E := below_next E B
            clear B
            refine st_new (fun b => .pointer (some ⟨b, 0, none⟩)) (some 8) rfl rfl (ex_alloc rfl zero47) ?_
            intro b2 W2 k2 g2 B
            simp only [zp]
            have ne_b2_b1 : b2 ≠ b1 := fun e => by have := lt_of k1; omega
            have ge_b2 := Nat.le_trans E.size g2
            replace E := below_next E B
            replace k1 := keep B k1
            clear B
            refine st_end ?_
            subst hQ
            refine wp_seq ?_
            refine wq fun Q hQ => ?_
            refine sm (.int .i64 a) 9 rfl rfl rfl rfl ?_
            simp only [zp]
            refine sv (.bool false) 10 rfl rfl (ex_bin (u := (.int .i64 a)) (r := (.int .i64 1)) rfl rfl rfl (eg3 _ _ _ _ _ _) (lss3 _ (decide_eq_false (by omega)))) ?_
            simp only [zp]
            refine sm (.bool false) 11 rfl rfl rfl rfl ?_
            simp only [zp]
            refine sm (.int .i64 t) 12 rfl rfl rfl rfl ?_
            simp only [zp]
            refine sv (.bool false) 13 rfl rfl (ex_bin (u := (.int .i64 t)) (r := (.int .i64 1)) rfl rfl rfl (eg3 _ _ _ _ _ _) (lss3 _ (decide_eq_false (by omega)))) ?_
            simp only [zp]
            refine sv (.bool false) 14 rfl rfl (ex_pkF rfl rfl rfl) ?_
            simp only [zp]
            refine st_end ?_
            subst hQ
            refine wp_cond_false rfl ?_
            refine wp_skip ?_
            refine wp_seq ?_
            refine wq fun Q hQ => ?_
            refine sm (.bool true) 16 rfl rfl rfl rfl ?_
            simp only [zp]
            refine st_end ?_
            subst hQ
            refine wp_cond_true rfl ?_
            refine wp_seq ?_
            refine wq fun Q hQ => ?_
            refine sm (.int .i64 a) 17 rfl rfl rfl rfl ?_
            simp only [zp]
            refine sv (.pointer (some ⟨b1, 0, none⟩)) 18 rfl rfl (ex_fa (p := (.pointer (some ⟨b1, 0, none⟩))) rfl rfl (fa47_0 _ _)) ?_
            simp only [zp]
            refine sv (.int .i64 p.good) 19 rfl rfl (ex_load (p := (.pointer (some ⟨b1, 0, none⟩))) rfl rfl (ld3 (at_cell k1 rfl))) ?_
            simp only [zp]
            refine sv (.bool true) 20 rfl rfl (ex_bin (u := (.int .i64 a)) (r := (.int .i64 p.good)) rfl rfl rfl (eg3 _ _ _ _ _ _) (gtr3 _ (decide_eq_true (by omega)))) ?_
            simp only [zp]
            refine st_end ?_
            subst hQ
            refine wp_cond_true rfl ?_
            refine wl_in (wl_cap fun Q hQ => ?_)
            refine sm (.int .i64 a) 21 rfl rfl rfl rfl ?_
            simp only [zp]
            refine sv (.pointer (some ⟨b1, 0, none⟩)) 22 rfl rfl (ex_fa (p := (.pointer (some ⟨b1, 0, none⟩))) rfl rfl (fa47_0 _ _)) ?_
            simp only [zp]
            obtain ⟨kn, K⟩ := put_cell (i := 0) (.int .i64 a) k1
            refine st_sk rfl rfl (ex_store rfl rfl rfl (sto3 (at_cell k1 rfl) (unfrozen k1))) ?_
            obtain ⟨W3, hW2⟩ : ∃ W', W2.setCell ⟨b1, 0, none⟩ (.int .i64 a) = W' := ⟨_, rfl⟩
            rw [hW2] at kn K ⊢
            replace E := below_put E ge_b1 K
            replace k2 := keepK K k2 (fun e => by first | exact ne_b2_b1 e | exact ne_b1_b2 e.symm)
            replace k1 := kn
            clear kn K
            refine st_end ?_
            subst hQ
            refine wq fun Q hQ => ?_
            refine sm (.int .i64 t) 23 rfl rfl rfl rfl ?_
            simp only [zp]
            refine sv (.pointer (some ⟨b1, 1, none⟩)) 24 rfl rfl (ex_fa (p := (.pointer (some ⟨b1, 0, none⟩))) rfl rfl (fa47_1 _ _)) ?_
            simp only [zp]
            obtain ⟨kn, K⟩ := put_cell (i := 1) (.int .i64 t) k1
            refine st_sk rfl rfl (ex_store rfl rfl rfl (sto3 (at_cell k1 rfl) (unfrozen k1))) ?_
            obtain ⟨W4, hW2⟩ : ∃ W', W3.setCell ⟨b1, 1, none⟩ (.int .i64 t) = W' := ⟨_, rfl⟩
            rw [hW2] at kn K ⊢
            replace E := below_put E ge_b1 K
            replace k2 := keepK K k2 (fun e => by first | exact ne_b2_b1 e | exact ne_b1_b2 e.symm)
            replace k1 := kn
            clear kn K
            refine st_end ?_
            subst hQ
            refine wp_seq ?_
            refine wq fun Q hQ => ?_
            refine sv (.pointer (some ⟨b1, 2, none⟩)) 25 rfl rfl (ex_fa (p := (.pointer (some ⟨b1, 0, none⟩))) rfl rfl (fa47_2 _ _)) ?_
            simp only [zp]
            refine sv (.int .i64 p.bad) 26 rfl rfl (ex_load (p := (.pointer (some ⟨b1, 2, none⟩))) rfl rfl (ld3 (at_cell k1 rfl))) ?_
            simp only [zp]
            refine sm (.int .i64 a) 27 rfl rfl rfl rfl ?_
            simp only [zp]
            refine sv (.bool true) 28 rfl rfl (ex_bin (u := (.int .i64 p.bad)) (r := (.int .i64 a)) rfl rfl rfl (eg3 _ _ _ _ _ _) (leq3 _ (decide_eq_true (by omega)))) ?_
            simp only [zp]
            refine st_end ?_
            subst hQ
            refine wp_cond_true rfl ?_
            refine wl_in (wl_cap fun Q hQ => ?_)
            refine sv (.pointer (some ⟨b1, 2, none⟩)) 29 rfl rfl (ex_fa (p := (.pointer (some ⟨b1, 0, none⟩))) rfl rfl (fa47_2 _ _)) ?_
            simp only [zp]
            obtain ⟨kn, K⟩ := put_cell (i := 2) (.int .i64 0) k1
            refine st_sk rfl rfl (ex_store rfl rfl rfl (sto3 (at_cell k1 rfl) (unfrozen k1))) ?_
            obtain ⟨W5, hW2⟩ : ∃ W', W4.setCell ⟨b1, 2, none⟩ (.int .i64 0) = W' := ⟨_, rfl⟩
            rw [hW2] at kn K ⊢
            replace E := below_put E ge_b1 K
            replace k2 := keepK K k2 (fun e => by first | exact ne_b2_b1 e | exact ne_b1_b2 e.symm)
            replace k1 := kn
            clear kn K
            refine sv (.pointer (some ⟨b1, 3, none⟩)) 30 rfl rfl (ex_fa (p := (.pointer (some ⟨b1, 0, none⟩))) rfl rfl (fa47_3 _ _)) ?_
            simp only [zp]
            obtain ⟨kn, K⟩ := put_cell (i := 3) (.int .i64 0) k1
            refine st_sk rfl rfl (ex_store rfl rfl rfl (sto3 (at_cell k1 rfl) (unfrozen k1))) ?_
            obtain ⟨W6, hW2⟩ : ∃ W', W5.setCell ⟨b1, 3, none⟩ (.int .i64 0) = W' := ⟨_, rfl⟩
            rw [hW2] at kn K ⊢
            replace E := below_put E ge_b1 K
            replace k2 := keepK K k2 (fun e => by first | exact ne_b2_b1 e | exact ne_b1_b2 e.symm)
            replace k1 := kn
            clear kn K
            refine st_end ?_
            subst hQ
            refine wq fun Q hQ => ?_
            refine sv (.agg #[(.int .i64 a), (.int .i64 t), (.int .i64 0), (.int .i64 0)]) 31 rfl rfl (ex_load (p := (.pointer (some ⟨b1, 0, none⟩))) rfl rfl (ld_all k1 Try.underlying47 rfl inf47)) ?_
            simp only [zp]
            obtain ⟨W7, hst, kn, K⟩ := put_all (D := #[(.int .i64 a), (.int .i64 t), (.int .i64 0), (.int .i64 0)]) k2 rfl inf47 (by kernel_rfl)
            refine st_sk rfl rfl (ex_store rfl rfl rfl hst) ?_
            replace E := below_put E ge_b2 K
            replace k1 := keepK K k1 (fun e => by first | exact ne_b1_b2 e | exact ne_b2_b1 e.symm)
            replace k2 := kn
            clear kn K hst
            refine st_end ?_
            subst hQ
            refine wp_ret ?_
            repeat (first | refine ret_out ?_ | refine ret_blk ?_)
            refine bodyPost_ret (results_cell_row Try.results70 _ _ b2 _ _ _ _ rfl k2 Try.underlying47 rfl inf47) rfl ⟨?_, E⟩
            show Ending.returned (.agg #[(.int .i64 a), (.int .i64 t), (.int .i64 0), (.int .i64 0)]) = _
            simp [lrnN, PL, e0, e1, e2, e3]
          · skip
            have E : Below w.heap.size w w := Below.refl _ _
            go_enter Try.func70, Try.ntmps70
            refine wq fun Q hQ => ?_
            refine st_new (fun b => .pointer (some ⟨b, 0, none⟩)) (some 4) rfl rfl (ex_box rfl rfl) ?_
            intro b1 W1 k1 g1 B
            simp only [zp]
            have ge_b1 := Nat.le_trans E.size g1
            replace E := below_next E B
            clear B
            refine st_new (fun b => .pointer (some ⟨b, 0, none⟩)) (some 8) rfl rfl (ex_alloc rfl zero47) ?_
            intro b2 W2 k2 g2 B
            simp only [zp]
            have ne_b2_b1 : b2 ≠ b1 := fun e => by have := lt_of k1; omega
            have ge_b2 := Nat.le_trans E.size g2
            replace E := below_next E B
            replace k1 := keep B k1
            clear B
            refine st_end ?_
            subst hQ
            refine wp_seq ?_
            refine wq fun Q hQ => ?_
            refine sm (.int .i64 a) 9 rfl rfl rfl rfl ?_
            simp only [zp]
            refine sv (.bool false) 10 rfl rfl (ex_bin (u := (.int .i64 a)) (r := (.int .i64 1)) rfl rfl rfl (eg3 _ _ _ _ _ _) (lss3 _ (decide_eq_false (by omega)))) ?_
            simp only [zp]
            refine sm (.bool false) 11 rfl rfl rfl rfl ?_
            simp only [zp]
            refine sm (.int .i64 t) 12 rfl rfl rfl rfl ?_
            simp only [zp]
            refine sv (.bool false) 13 rfl rfl (ex_bin (u := (.int .i64 t)) (r := (.int .i64 1)) rfl rfl rfl (eg3 _ _ _ _ _ _) (lss3 _ (decide_eq_false (by omega)))) ?_
            simp only [zp]
            refine sv (.bool false) 14 rfl rfl (ex_pkF rfl rfl rfl) ?_
            simp only [zp]
            refine st_end ?_
            subst hQ
            refine wp_cond_false rfl ?_
            refine wp_skip ?_
            refine wp_seq ?_
            refine wq fun Q hQ => ?_
            refine sm (.bool true) 16 rfl rfl rfl rfl ?_
            simp only [zp]
            refine st_end ?_
            subst hQ
            refine wp_cond_true rfl ?_
            refine wp_seq ?_
            refine wq fun Q hQ => ?_
            refine sm (.int .i64 a) 17 rfl rfl rfl rfl ?_
            simp only [zp]
            refine sv (.pointer (some ⟨b1, 0, none⟩)) 18 rfl rfl (ex_fa (p := (.pointer (some ⟨b1, 0, none⟩))) rfl rfl (fa47_0 _ _)) ?_
            simp only [zp]
            refine sv (.int .i64 p.good) 19 rfl rfl (ex_load (p := (.pointer (some ⟨b1, 0, none⟩))) rfl rfl (ld3 (at_cell k1 rfl))) ?_
            simp only [zp]
            refine sv (.bool true) 20 rfl rfl (ex_bin (u := (.int .i64 a)) (r := (.int .i64 p.good)) rfl rfl rfl (eg3 _ _ _ _ _ _) (gtr3 _ (decide_eq_true (by omega)))) ?_
            simp only [zp]
            refine st_end ?_
            subst hQ
            refine wp_cond_true rfl ?_
            refine wl_in (wl_cap fun Q hQ => ?_)
            refine sm (.int .i64 a) 21 rfl rfl rfl rfl ?_
            simp only [zp]
            refine sv (.pointer (some ⟨b1, 0, none⟩)) 22 rfl rfl (ex_fa (p := (.pointer (some ⟨b1, 0, none⟩))) rfl rfl (fa47_0 _ _)) ?_
            simp only [zp]
            obtain ⟨kn, K⟩ := put_cell (i := 0) (.int .i64 a) k1
            refine st_sk rfl rfl (ex_store rfl rfl rfl (sto3 (at_cell k1 rfl) (unfrozen k1))) ?_
            obtain ⟨W3, hW2⟩ : ∃ W', W2.setCell ⟨b1, 0, none⟩ (.int .i64 a) = W' := ⟨_, rfl⟩
            rw [hW2] at kn K ⊢
            replace E := below_put E ge_b1 K
            replace k2 := keepK K k2 (fun e => by first | exact ne_b2_b1 e | exact ne_b1_b2 e.symm)
            replace k1 := kn
            clear kn K
            refine st_end ?_
            subst hQ
            refine wq fun Q hQ => ?_
            refine sm (.int .i64 t) 23 rfl rfl rfl rfl ?_
            simp only [zp]
            refine sv (.pointer (some ⟨b1, 1, none⟩)) 24 rfl rfl (ex_fa (p := (.pointer (some ⟨b1, 0, none⟩))) rfl rfl (fa47_1 _ _)) ?_
            simp only [zp]
            obtain ⟨kn, K⟩ := put_cell (i := 1) (.int .i64 t) k1
            refine st_sk rfl rfl (ex_store rfl rfl rfl (sto3 (at_cell k1 rfl) (unfrozen k1))) ?_
            obtain ⟨W4, hW2⟩ : ∃ W', W3.setCell ⟨b1, 1, none⟩ (.int .i64 t) = W' := ⟨_, rfl⟩
            rw [hW2] at kn K ⊢
            replace E := below_put E ge_b1 K
            replace k2 := keepK K k2 (fun e => by first | exact ne_b2_b1 e | exact ne_b1_b2 e.symm)
            replace k1 := kn
            clear kn K
            refine st_end ?_
            subst hQ
            refine wp_seq ?_
            refine wq fun Q hQ => ?_
            refine sv (.pointer (some ⟨b1, 2, none⟩)) 25 rfl rfl (ex_fa (p := (.pointer (some ⟨b1, 0, none⟩))) rfl rfl (fa47_2 _ _)) ?_
            simp only [zp]
            refine sv (.int .i64 p.bad) 26 rfl rfl (ex_load (p := (.pointer (some ⟨b1, 2, none⟩))) rfl rfl (ld3 (at_cell k1 rfl))) ?_
            simp only [zp]
            refine sm (.int .i64 a) 27 rfl rfl rfl rfl ?_
            simp only [zp]
            refine sv (.bool false) 28 rfl rfl (ex_bin (u := (.int .i64 p.bad)) (r := (.int .i64 a)) rfl rfl rfl (eg3 _ _ _ _ _ _) (leq3 _ (decide_eq_false (by omega)))) ?_
            simp only [zp]
            refine st_end ?_
            subst hQ
            refine wp_cond_false rfl ?_
            refine wp_skip ?_
            refine wq fun Q hQ => ?_
            refine sv (.agg #[(.int .i64 a), (.int .i64 t), (.int .i64 p.bad), (.int .i64 p.bat)]) 31 rfl rfl (ex_load (p := (.pointer (some ⟨b1, 0, none⟩))) rfl rfl (ld_all k1 Try.underlying47 rfl inf47)) ?_
            simp only [zp]
            obtain ⟨W5, hst, kn, K⟩ := put_all (D := #[(.int .i64 a), (.int .i64 t), (.int .i64 p.bad), (.int .i64 p.bat)]) k2 rfl inf47 (by kernel_rfl)
            refine st_sk rfl rfl (ex_store rfl rfl rfl hst) ?_
            replace E := below_put E ge_b2 K
            replace k1 := keepK K k1 (fun e => by first | exact ne_b1_b2 e | exact ne_b2_b1 e.symm)
            replace k2 := kn
            clear kn K hst
            refine st_end ?_
            subst hQ
            refine wp_ret ?_
            repeat (first | refine ret_out ?_ | refine ret_blk ?_)
            refine bodyPost_ret (results_cell_row Try.results70 _ _ b2 _ _ _ _ rfl k2 Try.underlying47 rfl inf47) rfl ⟨?_, E⟩
            show Ending.returned (.agg #[(.int .i64 a), (.int .i64 t), (.int .i64 p.bad), (.int .i64 p.bat)]) = _
            simp [lrnN, PL, e0, e1, e2, e3]
        · skip
          by_cases e3 : p.bad ≤ a
          · skip
            have E : Below w.heap.size w w := Below.refl _ _
            go_enter Try.func70, Try.ntmps70
            refine wq fun Q hQ => ?_
            refine st_new (fun b => .pointer (some ⟨b, 0, none⟩)) (some 4) rfl rfl (ex_box rfl rfl) ?_
            intro b1 W1 k1 g1 B
            simp only [zp]
            have ge_b1 := Nat.le_trans E.size g1
            replace E := below_next E B
            clear B
            refine st_new (fun b => .pointer (some ⟨b, 0, none⟩)) (some 8) rfl rfl (ex_alloc rfl zero47) ?_
            intro b2 W2 k2 g2 B
            simp only [zp]
            have ne_b2_b1 : b2 ≠ b1 := fun e => by have := lt_of k1; omega
            have ge_b2 := Nat.le_trans E.size g2
            replace E := below_next E B
            replace k1 := keep B k1
            clear B
            refine st_end ?_
            subst hQ
            refine wp_seq ?_
            refine wq fun Q hQ => ?_
            refine sm (.int .i64 a) 9 rfl rfl rfl rfl ?_
            simp only [zp]
            refine sv (.bool false) 10 rfl rfl (ex_bin (u := (.int .i64 a)) (r := (.int .i64 1)) rfl rfl rfl (eg3 _ _ _ _ _ _) (lss3 _ (decide_eq_false (by omega)))) ?_
            simp only [zp]
            refine sm (.bool false) 11 rfl rfl rfl rfl ?_
            simp only [zp]
            refine sm (.int .i64 t) 12 rfl rfl rfl rfl ?_
            simp only [zp]
            refine sv (.bool false) 13 rfl rfl (ex_bin (u := (.int .i64 t)) (r := (.int .i64 1)) rfl rfl rfl (eg3 _ _ _ _ _ _) (lss3 _ (decide_eq_false (by omega)))) ?_
            simp only [zp]
            refine sv (.bool false) 14 rfl rfl (ex_pkF rfl rfl rfl) ?_
            simp only [zp]
            refine st_end ?_
            subst hQ
            refine wp_cond_false rfl ?_
            refine wp_skip ?_
            refine wp_seq ?_
            refine wq fun Q hQ => ?_
            refine sm (.bool true) 16 rfl rfl rfl rfl ?_
            simp only [zp]
            refine st_end ?_
            subst hQ
            refine wp_cond_true rfl ?_
            refine wp_seq ?_
            refine wq fun Q hQ => ?_
            refine sm (.int .i64 a) 17 rfl rfl rfl rfl ?_
            simp only [zp]
            refine sv (.pointer (some ⟨b1, 0, none⟩)) 18 rfl rfl (ex_fa (p := (.pointer (some ⟨b1, 0, none⟩))) rfl rfl (fa47_0 _ _)) ?_
            simp only [zp]
            refine sv (.int .i64 p.good) 19 rfl rfl (ex_load (p := (.pointer (some ⟨b1, 0, none⟩))) rfl rfl (ld3 (at_cell k1 rfl))) ?_
            simp only [zp]
            refine sv (.bool false) 20 rfl rfl (ex_bin (u := (.int .i64 a)) (r := (.int .i64 p.good)) rfl rfl rfl (eg3 _ _ _ _ _ _) (gtr3 _ (decide_eq_false (by omega)))) ?_
            simp only [zp]
            refine st_end ?_
            subst hQ
            refine wp_cond_false rfl ?_
            refine wp_skip ?_
            refine wq fun Q hQ => ?_
            refine sm (.int .i64 t) 23 rfl rfl rfl rfl ?_
            simp only [zp]
            refine sv (.pointer (some ⟨b1, 1, none⟩)) 24 rfl rfl (ex_fa (p := (.pointer (some ⟨b1, 0, none⟩))) rfl rfl (fa47_1 _ _)) ?_
            simp only [zp]
            obtain ⟨kn, K⟩ := put_cell (i := 1) (.int .i64 t) k1
            refine st_sk rfl rfl (ex_store rfl rfl rfl (sto3 (at_cell k1 rfl) (unfrozen k1))) ?_
            obtain ⟨W3, hW2⟩ : ∃ W', W2.setCell ⟨b1, 1, none⟩ (.int .i64 t) = W' := ⟨_, rfl⟩
            rw [hW2] at kn K ⊢
            replace E := below_put E ge_b1 K
            replace k2 := keepK K k2 (fun e => by first | exact ne_b2_b1 e | exact ne_b1_b2 e.symm)
            replace k1 := kn
            clear kn K
            refine st_end ?_
            subst hQ
            refine wp_seq ?_
            refine wq fun Q hQ => ?_
            refine sv (.pointer (some ⟨b1, 2, none⟩)) 25 rfl rfl (ex_fa (p := (.pointer (some ⟨b1, 0, none⟩))) rfl rfl (fa47_2 _ _)) ?_
            simp only [zp]
            refine sv (.int .i64 p.bad) 26 rfl rfl (ex_load (p := (.pointer (some ⟨b1, 2, none⟩))) rfl rfl (ld3 (at_cell k1 rfl))) ?_
            simp only [zp]
            refine sm (.int .i64 a) 27 rfl rfl rfl rfl ?_
            simp only [zp]
            refine sv (.bool true) 28 rfl rfl (ex_bin (u := (.int .i64 p.bad)) (r := (.int .i64 a)) rfl rfl rfl (eg3 _ _ _ _ _ _) (leq3 _ (decide_eq_true (by omega)))) ?_
            simp only [zp]
            refine st_end ?_
            subst hQ
            refine wp_cond_true rfl ?_
            refine wl_in (wl_cap fun Q hQ => ?_)
            refine sv (.pointer (some ⟨b1, 2, none⟩)) 29 rfl rfl (ex_fa (p := (.pointer (some ⟨b1, 0, none⟩))) rfl rfl (fa47_2 _ _)) ?_
            simp only [zp]
            obtain ⟨kn, K⟩ := put_cell (i := 2) (.int .i64 0) k1
            refine st_sk rfl rfl (ex_store rfl rfl rfl (sto3 (at_cell k1 rfl) (unfrozen k1))) ?_
            obtain ⟨W4, hW2⟩ : ∃ W', W3.setCell ⟨b1, 2, none⟩ (.int .i64 0) = W' := ⟨_, rfl⟩
            rw [hW2] at kn K ⊢
            replace E := below_put E ge_b1 K
            replace k2 := keepK K k2 (fun e => by first | exact ne_b2_b1 e | exact ne_b1_b2 e.symm)
            replace k1 := kn
            clear kn K
            refine sv (.pointer (some ⟨b1, 3, none⟩)) 30 rfl rfl (ex_fa (p := (.pointer (some ⟨b1, 0, none⟩))) rfl rfl (fa47_3 _ _)) ?_
            simp only [zp]
            obtain ⟨kn, K⟩ := put_cell (i := 3) (.int .i64 0) k1
            refine st_sk rfl rfl (ex_store rfl rfl rfl (sto3 (at_cell k1 rfl) (unfrozen k1))) ?_
            obtain ⟨W5, hW2⟩ : ∃ W', W4.setCell ⟨b1, 3, none⟩ (.int .i64 0) = W' := ⟨_, rfl⟩
            rw [hW2] at kn K ⊢
            replace E := below_put E ge_b1 K
            replace k2 := keepK K k2 (fun e => by first | exact ne_b2_b1 e | exact ne_b1_b2 e.symm)
            replace k1 := kn
            clear kn K
            refine st_end ?_
            subst hQ
            refine wq fun Q hQ => ?_
            refine sv (.agg #[(.int .i64 p.good), (.int .i64 t), (.int .i64 0), (.int .i64 0)]) 31 rfl rfl (ex_load (p := (.pointer (some ⟨b1, 0, none⟩))) rfl rfl (ld_all k1 Try.underlying47 rfl inf47)) ?_
            simp only [zp]
            obtain ⟨W6, hst, kn, K⟩ := put_all (D := #[(.int .i64 p.good), (.int .i64 t), (.int .i64 0), (.int .i64 0)]) k2 rfl inf47 (by kernel_rfl)
            refine st_sk rfl rfl (ex_store rfl rfl rfl hst) ?_
            replace E := below_put E ge_b2 K
            replace k1 := keepK K k1 (fun e => by first | exact ne_b1_b2 e | exact ne_b2_b1 e.symm)
            replace k2 := kn
            clear kn K hst
            refine st_end ?_
            subst hQ
            refine wp_ret ?_
            repeat (first | refine ret_out ?_ | refine ret_blk ?_)
            refine bodyPost_ret (results_cell_row Try.results70 _ _ b2 _ _ _ _ rfl k2 Try.underlying47 rfl inf47) rfl ⟨?_, E⟩
            show Ending.returned (.agg #[(.int .i64 p.good), (.int .i64 t), (.int .i64 0), (.int .i64 0)]) = _
            simp [lrnN, PL, e0, e1, e2, e3]
          · skip
            have E : Below w.heap.size w w := Below.refl _ _
            go_enter Try.func70, Try.ntmps70
            refine wq fun Q hQ => ?_
            refine st_new (fun b => .pointer (some ⟨b, 0, none⟩)) (some 4) rfl rfl (ex_box rfl rfl) ?_
            intro b1 W1 k1 g1 B
            simp only [zp]
            have ge_b1 := Nat.le_trans E.size g1
            replace E := below_next E B
            clear B
            refine st_new (fun b => .pointer (some ⟨b, 0, none⟩)) (some 8) rfl rfl (ex_alloc rfl zero47) ?_
            intro b2 W2 k2 g2 B
            simp only [zp]
            have ne_b2_b1 : b2 ≠ b1 := fun e => by have := lt_of k1; omega
            have ge_b2 := Nat.le_trans E.size g2
            replace E := below_next E B
            replace k1 := keep B k1
            clear B
            refine st_end ?_
            subst hQ
            refine wp_seq ?_
            refine wq fun Q hQ => ?_
            refine sm (.int .i64 a) 9 rfl rfl rfl rfl ?_
            simp only [zp]
            refine sv (.bool false) 10 rfl rfl (ex_bin (u := (.int .i64 a)) (r := (.int .i64 1)) rfl rfl rfl (eg3 _ _ _ _ _ _) (lss3 _ (decide_eq_false (by omega)))) ?_
            simp only [zp]
            refine sm (.bool false) 11 rfl rfl rfl rfl ?_
            simp only [zp]
            refine sm (.int .i64 t) 12 rfl rfl rfl rfl ?_
            simp only [zp]
            refine sv (.bool false) 13 rfl rfl (ex_bin (u := (.int .i64 t)) (r := (.int .i64 1)) rfl rfl rfl (eg3 _ _ _ _ _ _) (lss3 _ (decide_eq_false (by omega)))) ?_
            simp only [zp]
            refine sv (.bool false) 14 rfl rfl (ex_pkF rfl rfl rfl) ?_
            simp only [zp]
            refine st_end ?_
            subst hQ
            refine wp_cond_false rfl ?_
            refine wp_skip ?_
            refine wp_seq ?_
            refine wq fun Q hQ => ?_
            refine sm (.bool true) 16 rfl rfl rfl rfl ?_
            simp only [zp]
            refine st_end ?_
            subst hQ
            refine wp_cond_true rfl ?_
            refine wp_seq ?_
            refine wq fun Q hQ => ?_
            refine sm (.int .i64 a) 17 rfl rfl rfl rfl ?_
            simp only [zp]
            refine sv (.pointer (some ⟨b1, 0, none⟩)) 18 rfl rfl (ex_fa (p := (.pointer (some ⟨b1, 0, none⟩))) rfl rfl (fa47_0 _ _)) ?_
            simp only [zp]
            refine sv (.int .i64 p.good) 19 rfl rfl (ex_load (p := (.pointer (some ⟨b1, 0, none⟩))) rfl rfl (ld3 (at_cell k1 rfl))) ?_
            simp only [zp]
            refine sv (.bool false) 20 rfl rfl (ex_bin (u := (.int .i64 a)) (r := (.int .i64 p.good)) rfl rfl rfl (eg3 _ _ _ _ _ _) (gtr3 _ (decide_eq_false (by omega)))) ?_
            simp only [zp]
            refine st_end ?_
            subst hQ
            refine wp_cond_false rfl ?_
            refine wp_skip ?_
            refine wq fun Q hQ => ?_
            refine sm (.int .i64 t) 23 rfl rfl rfl rfl ?_
            simp only [zp]
            refine sv (.pointer (some ⟨b1, 1, none⟩)) 24 rfl rfl (ex_fa (p := (.pointer (some ⟨b1, 0, none⟩))) rfl rfl (fa47_1 _ _)) ?_
            simp only [zp]
            obtain ⟨kn, K⟩ := put_cell (i := 1) (.int .i64 t) k1
            refine st_sk rfl rfl (ex_store rfl rfl rfl (sto3 (at_cell k1 rfl) (unfrozen k1))) ?_
            obtain ⟨W3, hW2⟩ : ∃ W', W2.setCell ⟨b1, 1, none⟩ (.int .i64 t) = W' := ⟨_, rfl⟩
            rw [hW2] at kn K ⊢
            replace E := below_put E ge_b1 K
            replace k2 := keepK K k2 (fun e => by first | exact ne_b2_b1 e | exact ne_b1_b2 e.symm)
            replace k1 := kn
            clear kn K
            refine st_end ?_
            subst hQ
            refine wp_seq ?_
            refine wq fun Q hQ => ?_
            refine sv (.pointer (some ⟨b1, 2, none⟩)) 25 rfl rfl (ex_fa (p := (.pointer (some ⟨b1, 0, none⟩))) rfl rfl (fa47_2 _ _)) ?_
            simp only [zp]
            refine sv (.int .i64 p.bad) 26 rfl rfl (ex_load (p := (.pointer (some ⟨b1, 2, none⟩))) rfl rfl (ld3 (at_cell k1 rfl))) ?_
            simp only [zp]
            refine sm (.int .i64 a) 27 rfl rfl rfl rfl ?_
            simp only [zp]
            refine sv (.bool false) 28 rfl rfl (ex_bin (u := (.int .i64 p.bad)) (r := (.int .i64 a)) rfl rfl rfl (eg3 _ _ _ _ _ _) (leq3 _ (decide_eq_false (by omega)))) ?_
            simp only [zp]
            refine st_end ?_
            subst hQ
            refine wp_cond_false rfl ?_
            refine wp_skip ?_
            refine wq fun Q hQ => ?_
            refine sv (.agg #[(.int .i64 p.good), (.int .i64 t), (.int .i64 p.bad), (.int .i64 p.bat)]) 31 rfl rfl (ex_load (p := (.pointer (some ⟨b1, 0, none⟩))) rfl rfl (ld_all k1 Try.underlying47 rfl inf47)) ?_
            simp only [zp]
            obtain ⟨W4, hst, kn, K⟩ := put_all (D := #[(.int .i64 p.good), (.int .i64 t), (.int .i64 p.bad), (.int .i64 p.bat)]) k2 rfl inf47 (by kernel_rfl)
            refine st_sk rfl rfl (ex_store rfl rfl rfl hst) ?_
            replace E := below_put E ge_b2 K
            replace k1 := keepK K k1 (fun e => by first | exact ne_b1_b2 e | exact ne_b2_b1 e.symm)
            replace k2 := kn
            clear kn K hst
            refine st_end ?_
            subst hQ
            refine wp_ret ?_
            repeat (first | refine ret_out ?_ | refine ret_blk ?_)
            refine bodyPost_ret (results_cell_row Try.results70 _ _ b2 _ _ _ _ rfl k2 Try.underlying47 rfl inf47) rfl ⟨?_, E⟩
            show Ending.returned (.agg #[(.int .i64 p.good), (.int .i64 t), (.int .i64 p.bad), (.int .i64 p.bat)]) = _
            simp [lrnN, PL, e0, e1, e2, e3]
  | false =>
    by_cases e0 : a < 1
    · skip
      have E : Below w.heap.size w w := Below.refl _ _
      go_enter Try.func70, Try.ntmps70
      refine wq fun Q hQ => ?_
      refine st_new (fun b => .pointer (some ⟨b, 0, none⟩)) (some 4) rfl rfl (ex_box rfl rfl) ?_
      intro b1 W1 k1 g1 B
      simp only [zp]
      have ge_b1 := Nat.le_trans E.size g1
      replace E := below_next E B
      clear B
      refine st_new (fun b => .pointer (some ⟨b, 0, none⟩)) (some 8) rfl rfl (ex_alloc rfl zero47) ?_
      intro b2 W2 k2 g2 B
      simp only [zp]
      have ne_b2_b1 : b2 ≠ b1 := fun e => by have := lt_of k1; omega
      have ge_b2 := Nat.le_trans E.size g2
      replace E := below_next E B
      replace k1 := keep B k1
      clear B
      refine st_end ?_
      subst hQ
      refine wp_seq ?_
      refine wq fun Q hQ => ?_
      refine sm (.int .i64 a) 9 rfl rfl rfl rfl ?_
      simp only [zp]
      refine sv (.bool true) 10 rfl rfl (ex_bin (u := (.int .i64 a)) (r := (.int .i64 1)) rfl rfl rfl (eg3 _ _ _ _ _ _) (lss3 _ (decide_eq_true (by omega)))) ?_
      simp only [zp]
      refine sm (.bool true) 11 rfl rfl rfl rfl ?_
      simp only [zp]
      refine sn 12 rfl rfl ?_
      simp only [zp]
      refine sn 13 rfl rfl ?_
      simp only [zp]
      refine sv (.bool true) 14 rfl rfl (ex_pkT rfl rfl rfl) ?_
      simp only [zp]
      refine st_end ?_
      subst hQ
      refine wp_cond_true rfl ?_
      refine wq fun Q hQ => ?_
      refine sv (.agg #[.int .i64 p.good, .int .i64 p.gat, .int .i64 p.bad, .int .i64 p.bat]) 15 rfl rfl (ex_load (p := (.pointer (some ⟨b1, 0, none⟩))) rfl rfl (ld_all k1 Try.underlying47 rfl inf47)) ?_
      simp only [zp]
      obtain ⟨W3, hst, kn, K⟩ := put_all (D := #[.int .i64 p.good, .int .i64 p.gat, .int .i64 p.bad, .int .i64 p.bat]) k2 rfl inf47 (by kernel_rfl)
      refine st_sk rfl rfl (ex_store rfl rfl rfl hst) ?_
      replace E := below_put E ge_b2 K
      replace k1 := keepK K k1 (fun e => by first | exact ne_b1_b2 e | exact ne_b2_b1 e.symm)
      replace k2 := kn
      clear kn K hst
      refine st_end ?_
      subst hQ
      refine wp_ret ?_
      repeat (first | refine ret_out ?_ | refine ret_blk ?_)
      refine bodyPost_ret (results_cell_row Try.results70 _ _ b2 _ _ _ _ rfl k2 Try.underlying47 rfl inf47) rfl ⟨?_, E⟩
      show Ending.returned (.agg #[.int .i64 p.good, .int .i64 p.gat, .int .i64 p.bad, .int .i64 p.bat]) = _
      simp [lrnN, PL, e0]
    · skip
      by_cases e1 : t < 1
      · skip
        have E : Below w.heap.size w w := Below.refl _ _
        go_enter Try.func70, Try.ntmps70
        refine wq fun Q hQ => ?_
        refine st_new (fun b => .pointer (some ⟨b, 0, none⟩)) (some 4) rfl rfl (ex_box rfl rfl) ?_
        intro b1 W1 k1 g1 B
        simp only [zp]
        have ge_b1 := Nat.le_trans E.size g1
        replace E := below_next E B
        clear B
        refine st_new (fun b => .pointer (some ⟨b, 0, none⟩)) (some 8) rfl rfl (ex_alloc rfl zero47) ?_
        intro b2 W2 k2 g2 B
        simp only [zp]
        have ne_b2_b1 : b2 ≠ b1 := fun e => by have := lt_of k1; omega
        have ge_b2 := Nat.le_trans E.size g2
        replace E := below_next E B
        replace k1 := keep B k1
        clear B
        refine st_end ?_
        subst hQ
        refine wp_seq ?_
        refine wq fun Q hQ => ?_
        refine sm (.int .i64 a) 9 rfl rfl rfl rfl ?_
        simp only [zp]
        refine sv (.bool false) 10 rfl rfl (ex_bin (u := (.int .i64 a)) (r := (.int .i64 1)) rfl rfl rfl (eg3 _ _ _ _ _ _) (lss3 _ (decide_eq_false (by omega)))) ?_
        simp only [zp]
        refine sm (.bool false) 11 rfl rfl rfl rfl ?_
        simp only [zp]
        refine sm (.int .i64 t) 12 rfl rfl rfl rfl ?_
        simp only [zp]
        refine sv (.bool true) 13 rfl rfl (ex_bin (u := (.int .i64 t)) (r := (.int .i64 1)) rfl rfl rfl (eg3 _ _ _ _ _ _) (lss3 _ (decide_eq_true (by omega)))) ?_
        simp only [zp]
        refine sv (.bool true) 14 rfl rfl (ex_pkF rfl rfl rfl) ?_
        simp only [zp]
        refine st_end ?_
        subst hQ
        refine wp_cond_true rfl ?_
        refine wq fun Q hQ => ?_
        refine sv (.agg #[.int .i64 p.good, .int .i64 p.gat, .int .i64 p.bad, .int .i64 p.bat]) 15 rfl rfl (ex_load (p := (.pointer (some ⟨b1, 0, none⟩))) rfl rfl (ld_all k1 Try.underlying47 rfl inf47)) ?_
        simp only [zp]
        obtain ⟨W3, hst, kn, K⟩ := put_all (D := #[.int .i64 p.good, .int .i64 p.gat, .int .i64 p.bad, .int .i64 p.bat]) k2 rfl inf47 (by kernel_rfl)
        refine st_sk rfl rfl (ex_store rfl rfl rfl hst) ?_
        replace E := below_put E ge_b2 K
        replace k1 := keepK K k1 (fun e => by first | exact ne_b1_b2 e | exact ne_b2_b1 e.symm)
        replace k2 := kn
        clear kn K hst
        refine st_end ?_
        subst hQ
        refine wp_ret ?_
        repeat (first | refine ret_out ?_ | refine ret_blk ?_)
        refine bodyPost_ret (results_cell_row Try.results70 _ _ b2 _ _ _ _ rfl k2 Try.underlying47 rfl inf47) rfl ⟨?_, E⟩
        show Ending.returned (.agg #[.int .i64 p.good, .int .i64 p.gat, .int .i64 p.bad, .int .i64 p.bat]) = _
        simp [lrnN, PL, e0, e1]
      · skip
        by_cases e2 : p.bat = 0
        · skip
          by_cases e3 : a < p.bad
          · skip
            by_cases e4 : a ≤ p.good
            · skip
              have E : Below w.heap.size w w := Below.refl _ _
              go_enter Try.func70, Try.ntmps70
              refine wq fun Q hQ => ?_
              refine st_new (fun b => .pointer (some ⟨b, 0, none⟩)) (some 4) rfl rfl (ex_box rfl rfl) ?_
              intro b1 W1 k1 g1 B
              simp only [zp]
              have ge_b1 := Nat.le_trans E.size g1
              replace E := below_next E B
              clear B
              refine st_new (fun b => .pointer (some ⟨b, 0, none⟩)) (some 8) rfl rfl (ex_alloc rfl zero47) ?_
              intro b2 W2 k2 g2 B
              simp only [zp]
              have ne_b2_b1 : b2 ≠ b1 := fun e => by have := lt_of k1; omega
              have ge_b2 := Nat.le_trans E.size g2
              replace E := below_next E B
              replace k1 := keep B k1
              clear B
              refine st_end ?_
              subst hQ
              refine wp_seq ?_
              refine wq fun Q hQ => ?_
              refine sm (.int .i64 a) 9 rfl rfl rfl rfl ?_
              simp only [zp]
              refine sv (.bool false) 10 rfl rfl (ex_bin (u := (.int .i64 a)) (r := (.int .i64 1)) rfl rfl rfl (eg3 _ _ _ _ _ _) (lss3 _ (decide_eq_false (by omega)))) ?_
              simp only [zp]
              refine sm (.bool false) 11 rfl rfl rfl rfl ?_
              simp only [zp]
              refine sm (.int .i64 t) 12 rfl rfl rfl rfl ?_
              simp only [zp]
              refine sv (.bool false) 13 rfl rfl (ex_bin (u := (.int .i64 t)) (r := (.int .i64 1)) rfl rfl rfl (eg3 _ _ _ _ _ _) (lss3 _ (decide_eq_false (by omega)))) ?_
              simp only [zp]
              refine sv (.bool false) 14 rfl rfl (ex_pkF rfl rfl rfl) ?_
              simp only [zp]
              refine st_end ?_
              subst hQ
              refine wp_cond_false rfl ?_
              refine wp_skip ?_
              refine wp_seq ?_
              refine wq fun Q hQ => ?_
              refine sm (.bool false) 16 rfl rfl rfl rfl ?_
              simp only [zp]
              refine st_end ?_
              subst hQ
              refine wp_cond_false rfl ?_
              refine wp_skip ?_
              refine wp_seq ?_
              refine wq fun Q hQ => ?_
              refine sv (.pointer (some ⟨b1, 3, none⟩)) 32 rfl rfl (ex_fa (p := (.pointer (some ⟨b1, 0, none⟩))) rfl rfl (fa47_3 _ _)) ?_
              simp only [zp]
              refine sv (.int .i64 p.bat) 33 rfl rfl (ex_load (p := (.pointer (some ⟨b1, 3, none⟩))) rfl rfl (ld3 (at_cell k1 rfl))) ?_
              simp only [zp]
              refine sv (.bool true) 34 rfl rfl (ex_bin (u := (.int .i64 p.bat)) (r := (.int .i64 0)) rfl rfl rfl (eg3 _ _ _ _ _ _) (eql3 _ (decide_eq_true (by omega)))) ?_
              simp only [zp]
              refine sm (.bool true) 35 rfl rfl rfl rfl ?_
              simp only [zp]
              refine sn 36 rfl rfl ?_
              simp only [zp]
              refine sn 37 rfl rfl ?_
              simp only [zp]
              refine sn 38 rfl rfl ?_
              simp only [zp]
              refine sn 39 rfl rfl ?_
              simp only [zp]
              refine sv (.bool true) 40 rfl rfl (ex_pkT rfl rfl rfl) ?_
              simp only [zp]
              refine st_end ?_
              subst hQ
              refine wp_cond_true rfl ?_
              refine wl_in (wl_cap fun Q hQ => ?_)
              refine sm (.int .i64 a) 41 rfl rfl rfl rfl ?_
              simp only [zp]
              refine sv (.pointer (some ⟨b1, 2, none⟩)) 42 rfl rfl (ex_fa (p := (.pointer (some ⟨b1, 0, none⟩))) rfl rfl (fa47_2 _ _)) ?_
              simp only [zp]
              obtain ⟨kn, K⟩ := put_cell (i := 2) (.int .i64 a) k1
              refine st_sk rfl rfl (ex_store rfl rfl rfl (sto3 (at_cell k1 rfl) (unfrozen k1))) ?_
              obtain ⟨W3, hW2⟩ : ∃ W', W2.setCell ⟨b1, 2, none⟩ (.int .i64 a) = W' := ⟨_, rfl⟩
              rw [hW2] at kn K ⊢
              replace E := below_put E ge_b1 K
              replace k2 := keepK K k2 (fun e => by first | exact ne_b2_b1 e | exact ne_b1_b2 e.symm)
              replace k1 := kn
              clear kn K
              refine st_end ?_
              subst hQ
              refine wq fun Q hQ => ?_
              refine sm (.int .i64 t) 43 rfl rfl rfl rfl ?_
              simp only [zp]
              refine sv (.pointer (some ⟨b1, 3, none⟩)) 44 rfl rfl (ex_fa (p := (.pointer (some ⟨b1, 0, none⟩))) rfl rfl (fa47_3 _ _)) ?_
              simp only [zp]
              obtain ⟨kn, K⟩ := put_cell (i := 3) (.int .i64 t) k1
              refine st_sk rfl rfl (ex_store rfl rfl rfl (sto3 (at_cell k1 rfl) (unfrozen k1))) ?_
              obtain ⟨W4, hW2⟩ : ∃ W', W3.setCell ⟨b1, 3, none⟩ (.int .i64 t) = W' := ⟨_, rfl⟩
              rw [hW2] at kn K ⊢
              replace E := below_put E ge_b1 K
              replace k2 := keepK K k2 (fun e => by first | exact ne_b2_b1 e | exact ne_b1_b2 e.symm)
              replace k1 := kn
              clear kn K
              refine st_end ?_
              subst hQ
              refine wp_seq ?_
              refine wq fun Q hQ => ?_
              refine sv (.pointer (some ⟨b1, 0, none⟩)) 45 rfl rfl (ex_fa (p := (.pointer (some ⟨b1, 0, none⟩))) rfl rfl (fa47_0 _ _)) ?_
              simp only [zp]
              refine sv (.int .i64 p.good) 46 rfl rfl (ex_load (p := (.pointer (some ⟨b1, 0, none⟩))) rfl rfl (ld3 (at_cell k1 rfl))) ?_
              simp only [zp]
              refine sm (.int .i64 a) 47 rfl rfl rfl rfl ?_
              simp only [zp]
              refine sv (.bool true) 48 rfl rfl (ex_bin (u := (.int .i64 p.good)) (r := (.int .i64 a)) rfl rfl rfl (eg3 _ _ _ _ _ _) (geq3 _ (decide_eq_true (by omega)))) ?_
              simp only [zp]
              refine st_end ?_
              subst hQ
              refine wp_cond_true rfl ?_
              refine wl_in (wl_cap fun Q hQ => ?_)
              refine sm (.int .i64 a) 49 rfl rfl rfl rfl ?_
              simp only [zp]
              refine sv (.int .i64 (a - 1)) 50 rfl rfl (ex_bin rfl rfl rfl (eg3 _ _ _ _ _ _) (sub3 _ rfl (by omega))) ?_
              simp only [zp]
              refine sv (.pointer (some ⟨b1, 0, none⟩)) 51 rfl rfl (ex_fa (p := (.pointer (some ⟨b1, 0, none⟩))) rfl rfl (fa47_0 _ _)) ?_
              simp only [zp]
              obtain ⟨kn, K⟩ := put_cell (i := 0) (.int .i64 (a - 1)) k1
              refine st_sk rfl rfl (ex_store rfl rfl rfl (sto3 (at_cell k1 rfl) (unfrozen k1))) ?_
              obtain ⟨W5, hW2⟩ : ∃ W', W4.setCell ⟨b1, 0, none⟩ (.int .i64 (a - 1)) = W' := ⟨_, rfl⟩
              rw [hW2] at kn K ⊢
              replace E := below_put E ge_b1 K
              replace k2 := keepK K k2 (fun e => by first | exact ne_b2_b1 e | exact ne_b1_b2 e.symm)
              replace k1 := kn
              clear kn K
              refine st_end ?_
              subst hQ
              refine wq fun Q hQ => ?_
              refine sv (.agg #[(.int .i64 (a - 1)), (.int .i64 p.gat), (.int .i64 a), (.int .i64 t)]) 52 rfl rfl (ex_load (p := (.pointer (some ⟨b1, 0, none⟩))) rfl rfl (ld_all k1 Try.underlying47 rfl inf47)) ?_
              simp only [zp]
              obtain ⟨W6, hst, kn, K⟩ := put_all (D := #[(.int .i64 (a - 1)), (.int .i64 p.gat), (.int .i64 a), (.int .i64 t)]) k2 rfl inf47 (by kernel_rfl)
              refine st_sk rfl rfl (ex_store rfl rfl rfl hst) ?_
              replace E := below_put E ge_b2 K
              replace k1 := keepK K k1 (fun e => by first | exact ne_b1_b2 e | exact ne_b2_b1 e.symm)
              replace k2 := kn
              clear kn K hst
              refine st_end ?_
              subst hQ
              refine wp_ret ?_
              repeat (first | refine ret_out ?_ | refine ret_blk ?_)
              refine bodyPost_ret (results_cell_row Try.results70 _ _ b2 _ _ _ _ rfl k2 Try.underlying47 rfl inf47) rfl ⟨?_, E⟩
              show Ending.returned (.agg #[(.int .i64 (a - 1)), (.int .i64 p.gat), (.int .i64 a), (.int .i64 t)]) = _
              simp [lrnN, PL, e0, e1, e2, e3, e4]
            · skip
              have E : Below w.heap.size w w := Below.refl _ _
              go_enter Try.func70, Try.ntmps70
              refine wq fun Q hQ => ?_
              refine st_new (fun b => .pointer (some ⟨b, 0, none⟩)) (some 4) rfl rfl (ex_box rfl rfl) ?_
              intro b1 W1 k1 g1 B
              simp only [zp]
              have ge_b1 := Nat.le_trans E.size g1
              replace E := below_next E B
              clear B
              refine st_new (fun b => .pointer (some ⟨b, 0, none⟩)) (some 8) rfl rfl (ex_alloc rfl zero47) ?_
              intro b2 W2 k2 g2 B
              simp only [zp]
              have ne_b2_b1 : b2 ≠ b1 := fun e => by have := lt_of k1; omega
              have ge_b2 := Nat.le_trans E.size g2
              replace E := below_next E B
              replace k1 := keep B k1
              clear B
              refine st_end ?_
              subst hQ
              refine wp_seq ?_
              refine wq fun Q hQ => ?_
              refine sm (.int .i64 a) 9 rfl rfl rfl rfl ?_
              simp only [zp]
              refine sv (.bool false) 10 rfl rfl (ex_bin (u := (.int .i64 a)) (r := (.int .i64 1)) rfl rfl rfl (eg3 _ _ _ _ _ _) (lss3 _ (decide_eq_false (by omega)))) ?_
              simp only [zp]
              refine sm (.bool false) 11 rfl rfl rfl rfl ?_
              simp only [zp]
              refine sm (.int .i64 t) 12 rfl rfl rfl rfl ?_
              simp only [zp]
              refine sv (.bool false) 13 rfl rfl (ex_bin (u := (.int .i64 t)) (r := (.int .i64 1)) rfl rfl rfl (eg3 _ _ _ _ _ _) (lss3 _ (decide_eq_false (by omega)))) ?_
              simp only [zp]
              refine sv (.bool false) 14 rfl rfl (ex_pkF rfl rfl rfl) ?_
              simp only [zp]
              refine st_end ?_
              subst hQ
              refine wp_cond_false rfl ?_
              refine wp_skip ?_
              refine wp_seq ?_
              refine wq fun Q hQ => ?_
              refine sm (.bool false) 16 rfl rfl rfl rfl ?_
              simp only [zp]
              refine st_end ?_
              subst hQ
              refine wp_cond_false rfl ?_
              refine wp_skip ?_
              refine wp_seq ?_
              refine wq fun Q hQ => ?_
              refine sv (.pointer (some ⟨b1, 3, none⟩)) 32 rfl rfl (ex_fa (p := (.pointer (some ⟨b1, 0, none⟩))) rfl rfl (fa47_3 _ _)) ?_
              simp only [zp]
              refine sv (.int .i64 p.bat) 33 rfl rfl (ex_load (p := (.pointer (some ⟨b1, 3, none⟩))) rfl rfl (ld3 (at_cell k1 rfl))) ?_
              simp only [zp]
              refine sv (.bool true) 34 rfl rfl (ex_bin (u := (.int .i64 p.bat)) (r := (.int .i64 0)) rfl rfl rfl (eg3 _ _ _ _ _ _) (eql3 _ (decide_eq_true (by omega)))) ?_
              simp only [zp]
              refine sm (.bool true) 35 rfl rfl rfl rfl ?_
              simp only [zp]
              refine sn 36 rfl rfl ?_
              simp only [zp]
              refine sn 37 rfl rfl ?_
              simp only [zp]
              refine sn 38 rfl rfl ?_
              simp only [zp]
              refine sn 39 rfl rfl ?_
              simp only [zp]
              refine sv (.bool true) 40 rfl rfl (ex_pkT rfl rfl rfl) ?_
              simp only [zp]
              refine st_end ?_
              subst hQ
              refine wp_cond_true rfl ?_
              refine wl_in (wl_cap fun Q hQ => ?_)
              refine sm (.int .i64 a) 41 rfl rfl rfl rfl ?_
              simp only [zp]
              refine sv (.pointer (some ⟨b1, 2, none⟩)) 42 rfl rfl (ex_fa (p := (.pointer (some ⟨b1, 0, none⟩))) rfl rfl (fa47_2 _ _)) ?_
              simp only [zp]
              obtain ⟨kn, K⟩ := put_cell (i := 2) (.int .i64 a) k1
              refine st_sk rfl rfl (ex_store rfl rfl rfl (sto3 (at_cell k1 rfl) (unfrozen k1))) ?_
              obtain ⟨W3, hW2⟩ : ∃ W', W2.setCell ⟨b1, 2, none⟩ (.int .i64 a) = W' := ⟨_, rfl⟩
              rw [hW2] at kn K ⊢
              replace E := below_put E ge_b1 K
              replace k2 := keepK K k2 (fun e => by first | exact ne_b2_b1 e | exact ne_b1_b2 e.symm)
              replace k1 := kn
              clear kn K
              refine st_end ?_
              subst hQ
              refine wq fun Q hQ => ?_
              refine sm (.int .i64 t) 43 rfl rfl rfl rfl ?_
              simp only [zp]
              refine sv (.pointer (some ⟨b1, 3, none⟩)) 44 rfl rfl (ex_fa (p := (.pointer (some ⟨b1, 0, none⟩))) rfl rfl (fa47_3 _ _)) ?_
              simp only [zp]
              obtain ⟨kn, K⟩ := put_cell (i := 3) (.int .i64 t) k1
              refine st_sk rfl rfl (ex_store rfl rfl rfl (sto3 (at_cell k1 rfl) (unfrozen k1))) ?_
              obtain ⟨W4, hW2⟩ : ∃ W', W3.setCell ⟨b1, 3, none⟩ (.int .i64 t) = W' := ⟨_, rfl⟩
              rw [hW2] at kn K ⊢
              replace E := below_put E ge_b1 K
              replace k2 := keepK K k2 (fun e => by first | exact ne_b2_b1 e | exact ne_b1_b2 e.symm)
              replace k1 := kn
              clear kn K
              refine st_end ?_
              subst hQ
              refine wp_seq ?_
              refine wq fun Q hQ => ?_
              refine sv (.pointer (some ⟨b1, 0, none⟩)) 45 rfl rfl (ex_fa (p := (.pointer (some ⟨b1, 0, none⟩))) rfl rfl (fa47_0 _ _)) ?_
              simp only [zp]
              refine sv (.int .i64 p.good) 46 rfl rfl (ex_load (p := (.pointer (some ⟨b1, 0, none⟩))) rfl rfl (ld3 (at_cell k1 rfl))) ?_
              simp only [zp]
              refine sm (.int .i64 a) 47 rfl rfl rfl rfl ?_
              simp only [zp]
              refine sv (.bool false) 48 rfl rfl (ex_bin (u := (.int .i64 p.good)) (r := (.int .i64 a)) rfl rfl rfl (eg3 _ _ _ _ _ _) (geq3 _ (decide_eq_false (by omega)))) ?_
              simp only [zp]
              refine st_end ?_
              subst hQ
              refine wp_cond_false rfl ?_
              refine wp_skip ?_
              refine wq fun Q hQ => ?_
              refine sv (.agg #[(.int .i64 p.good), (.int .i64 p.gat), (.int .i64 a), (.int .i64 t)]) 52 rfl rfl (ex_load (p := (.pointer (some ⟨b1, 0, none⟩))) rfl rfl (ld_all k1 Try.underlying47 rfl inf47)) ?_
              simp only [zp]
              obtain ⟨W5, hst, kn, K⟩ := put_all (D := #[(.int .i64 p.good), (.int .i64 p.gat), (.int .i64 a), (.int .i64 t)]) k2 rfl inf47 (by kernel_rfl)
              refine st_sk rfl rfl (ex_store rfl rfl rfl hst) ?_
              replace E := below_put E ge_b2 K
              replace k1 := keepK K k1 (fun e => by first | exact ne_b1_b2 e | exact ne_b2_b1 e.symm)
              replace k2 := kn
              clear kn K hst
              refine st_end ?_
              subst hQ
              refine wp_ret ?_
              repeat (first | refine ret_out ?_ | refine ret_blk ?_)
              refine bodyPost_ret (results_cell_row Try.results70 _ _ b2 _ _ _ _ rfl k2 Try.underlying47 rfl inf47) rfl ⟨?_, E⟩
              show Ending.returned (.agg #[(.int .i64 p.good), (.int .i64 p.gat), (.int .i64 a), (.int .i64 t)]) = _
              simp [lrnN, PL, e0, e1, e2, e3, e4]
          · skip
            by_cases e4 : a ≤ p.good
            · skip
              have E : Below w.heap.size w w := Below.refl _ _
              go_enter Try.func70, Try.ntmps70
              refine wq fun Q hQ => ?_
              refine st_new (fun b => .pointer (some ⟨b, 0, none⟩)) (some 4) rfl rfl (ex_box rfl rfl) ?_
              intro b1 W1 k1 g1 B
              simp only [zp]
              have ge_b1 := Nat.le_trans E.size g1
              replace E := below_next E B
              clear B
              refine st_new (fun b => .pointer (some ⟨b, 0, none⟩)) (some 8) rfl rfl (ex_alloc rfl zero47) ?_
              intro b2 W2 k2 g2 B
              simp only [zp]
              have ne_b2_b1 : b2 ≠ b1 := fun e => by have := lt_of k1; omega
              have ge_b2 := Nat.le_trans E.size g2
              replace E := below_next E B
              replace k1 := keep B k1
              clear B
              refine st_end ?_
              subst hQ
              refine wp_seq ?_
              refine wq fun Q hQ => ?_
              refine sm (.int .i64 a) 9 rfl rfl rfl rfl ?_
              simp only [zp]
              refine sv (.bool false) 10 rfl rfl (ex_bin (u := (.int .i64 a)) (r := (.int .i64 1)) rfl rfl rfl (eg3 _ _ _ _ _ _) (lss3 _ (decide_eq_false (by omega)))) ?_
              simp only [zp]
              refine sm (.bool false) 11 rfl rfl rfl rfl ?_
              simp only [zp]
              refine sm (.int .i64 t) 12 rfl rfl rfl rfl ?_
              simp only [zp]
              refine sv (.bool false) 13 rfl rfl (ex_bin (u := (.int .i64 t)) (r := (.int .i64 1)) rfl rfl rfl (eg3 _ _ _ _ _ _) (lss3 _ (decide_eq_false (by omega)))) ?_
              simp only [zp]
              refine sv (.bool false) 14 rfl rfl (ex_pkF rfl rfl rfl) ?_
              simp only [zp]
              refine st_end ?_
              subst hQ
              refine wp_cond_false rfl ?_
              refine wp_skip ?_
              refine wp_seq ?_
              refine wq fun Q hQ => ?_
              refine sm (.bool false) 16 rfl rfl rfl rfl ?_
              simp only [zp]
              refine st_end ?_
              subst hQ
              refine wp_cond_false rfl ?_
              refine wp_skip ?_
              refine wp_seq ?_
              refine wq fun Q hQ => ?_
              refine sv (.pointer (some ⟨b1, 3, none⟩)) 32 rfl rfl (ex_fa (p := (.pointer (some ⟨b1, 0, none⟩))) rfl rfl (fa47_3 _ _)) ?_
              simp only [zp]
              refine sv (.int .i64 p.bat) 33 rfl rfl (ex_load (p := (.pointer (some ⟨b1, 3, none⟩))) rfl rfl (ld3 (at_cell k1 rfl))) ?_
              simp only [zp]
              refine sv (.bool true) 34 rfl rfl (ex_bin (u := (.int .i64 p.bat)) (r := (.int .i64 0)) rfl rfl rfl (eg3 _ _ _ _ _ _) (eql3 _ (decide_eq_true (by omega)))) ?_
              simp only [zp]
              refine sm (.bool true) 35 rfl rfl rfl rfl ?_
              simp only [zp]
              refine sn 36 rfl rfl ?_
              simp only [zp]
              refine sn 37 rfl rfl ?_
              simp only [zp]
              refine sn 38 rfl rfl ?_
              simp only [zp]
              refine sn 39 rfl rfl ?_
              simp only [zp]
              refine sv (.bool true) 40 rfl rfl (ex_pkT rfl rfl rfl) ?_
              simp only [zp]
              refine st_end ?_
              subst hQ
              refine wp_cond_true rfl ?_
              refine wl_in (wl_cap fun Q hQ => ?_)
              refine sm (.int .i64 a) 41 rfl rfl rfl rfl ?_
              simp only [zp]
              refine sv (.pointer (some ⟨b1, 2, none⟩)) 42 rfl rfl (ex_fa (p := (.pointer (some ⟨b1, 0, none⟩))) rfl rfl (fa47_2 _ _)) ?_
              simp only [zp]
              obtain ⟨kn, K⟩ := put_cell (i := 2) (.int .i64 a) k1
              refine st_sk rfl rfl (ex_store rfl rfl rfl (sto3 (at_cell k1 rfl) (unfrozen k1))) ?_
              obtain ⟨W3, hW2⟩ : ∃ W', W2.setCell ⟨b1, 2, none⟩ (.int .i64 a) = W' := ⟨_, rfl⟩
              rw [hW2] at kn K ⊢
              replace E := below_put E ge_b1 K
              replace k2 := keepK K k2 (fun e => by first | exact ne_b2_b1 e | exact ne_b1_b2 e.symm)
              replace k1 := kn
              clear kn K
              refine st_end ?_
              subst hQ
              refine wq fun Q hQ => ?_
              refine sm (.int .i64 t) 43 rfl rfl rfl rfl ?_
              simp only [zp]
              refine sv (.pointer (some ⟨b1, 3, none⟩)) 44 rfl rfl (ex_fa (p := (.pointer (some ⟨b1, 0, none⟩))) rfl rfl (fa47_3 _ _)) ?_
              simp only [zp]
              obtain ⟨kn, K⟩ := put_cell (i := 3) (.int .i64 t) k1
              refine st_sk rfl rfl (ex_store rfl rfl rfl (sto3 (at_cell k1 rfl) (unfrozen k1))) ?_
              obtain ⟨W4, hW2⟩ : ∃ W', W3.setCell ⟨b1, 3, none⟩ (.int .i64 t) = W' := ⟨_, rfl⟩
              rw [hW2] at kn K ⊢
              replace E := below_put E ge_b1 K
              replace k2 := keepK K k2 (fun e => by first | exact ne_b2_b1 e | exact ne_b1_b2 e.symm)
              replace k1 := kn
              clear kn K
              refine st_end ?_
              subst hQ
              refine wp_seq ?_
              refine wq fun Q hQ => ?_
              refine sv (.pointer (some ⟨b1, 0, none⟩)) 45 rfl rfl (ex_fa (p := (.pointer (some ⟨b1, 0, none⟩))) rfl rfl (fa47_0 _ _)) ?_
              simp only [zp]
              refine sv (.int .i64 p.good) 46 rfl rfl (ex_load (p := (.pointer (some ⟨b1, 0, none⟩))) rfl rfl (ld3 (at_cell k1 rfl))) ?_
              simp only [zp]
              refine sm (.int .i64 a) 47 rfl rfl rfl rfl ?_
              simp only [zp]
              refine sv (.bool true) 48 rfl rfl (ex_bin (u := (.int .i64 p.good)) (r := (.int .i64 a)) rfl rfl rfl (eg3 _ _ _ _ _ _) (geq3 _ (decide_eq_true (by omega)))) ?_
              simp only [zp]
              refine st_end ?_
              subst hQ
              refine wp_cond_true rfl ?_
              refine wl_in (wl_cap fun Q hQ => ?_)
              refine sm (.int .i64 a) 49 rfl rfl rfl rfl ?_
              simp only [zp]
              refine sv (.int .i64 (a - 1)) 50 rfl rfl (ex_bin rfl rfl rfl (eg3 _ _ _ _ _ _) (sub3 _ rfl (by omega))) ?_
              simp only [zp]
              refine sv (.pointer (some ⟨b1, 0, none⟩)) 51 rfl rfl (ex_fa (p := (.pointer (some ⟨b1, 0, none⟩))) rfl rfl (fa47_0 _ _)) ?_
              simp only [zp]
              obtain ⟨kn, K⟩ := put_cell (i := 0) (.int .i64 (a - 1)) k1
              refine st_sk rfl rfl (ex_store rfl rfl rfl (sto3 (at_cell k1 rfl) (unfrozen k1))) ?_
              obtain ⟨W5, hW2⟩ : ∃ W', W4.setCell ⟨b1, 0, none⟩ (.int .i64 (a - 1)) = W' := ⟨_, rfl⟩
              rw [hW2] at kn K ⊢
              replace E := below_put E ge_b1 K
              replace k2 := keepK K k2 (fun e => by first | exact ne_b2_b1 e | exact ne_b1_b2 e.symm)
              replace k1 := kn
              clear kn K
              refine st_end ?_
              subst hQ
              refine wq fun Q hQ => ?_
              refine sv (.agg #[(.int .i64 (a - 1)), (.int .i64 p.gat), (.int .i64 a), (.int .i64 t)]) 52 rfl rfl (ex_load (p := (.pointer (some ⟨b1, 0, none⟩))) rfl rfl (ld_all k1 Try.underlying47 rfl inf47)) ?_
              simp only [zp]
              obtain ⟨W6, hst, kn, K⟩ := put_all (D := #[(.int .i64 (a - 1)), (.int .i64 p.gat), (.int .i64 a), (.int .i64 t)]) k2 rfl inf47 (by kernel_rfl)
              refine st_sk rfl rfl (ex_store rfl rfl rfl hst) ?_
              replace E := below_put E ge_b2 K
              replace k1 := keepK K k1 (fun e => by first | exact ne_b1_b2 e | exact ne_b2_b1 e.symm)
              replace k2 := kn
              clear kn K hst
              refine st_end ?_
              subst hQ
              refine wp_ret ?_
              repeat (first | refine ret_out ?_ | refine ret_blk ?_)
              refine bodyPost_ret (results_cell_row Try.results70 _ _ b2 _ _ _ _ rfl k2 Try.underlying47 rfl inf47) rfl ⟨?_, E⟩
              show Ending.returned (.agg #[(.int .i64 (a - 1)), (.int .i64 p.gat), (.int .i64 a), (.int .i64 t)]) = _
              simp [lrnN, PL, e0, e1, e2, e3, e4]
            · skip
              have E : Below w.heap.size w w := Below.refl _ _
              go_enter Try.func70, Try.ntmps70
              refine wq fun Q hQ => ?_
              refine st_new (fun b => .pointer (some ⟨b, 0, none⟩)) (some 4) rfl rfl (ex_box rfl rfl) ?_
              intro b1 W1 k1 g1 B
              simp only [zp]
              have ge_b1 := Nat.le_trans E.size g1
              replace E := below_next E B
              clear B
              refine st_new (fun b => .pointer (some ⟨b, 0, none⟩)) (some 8) rfl rfl (ex_alloc rfl zero47) ?_
              intro b2 W2 k2 g2 B
              simp only [zp]
              have ne_b2_b1 : b2 ≠ b1 := fun e => by have := lt_of k1; omega
              have ge_b2 := Nat.le_trans E.size g2
              replace E := below_next E B
              replace k1 := keep B k1
              clear B
              refine st_end ?_
              subst hQ
              refine wp_seq ?_
              refine wq fun Q hQ => ?_
              refine sm (.int .i64 a) 9 rfl rfl rfl rfl ?_
              simp only [zp]
              refine sv (.bool false) 10 rfl rfl (ex_bin (u := (.int .i64 a)) (r := (.int .i64 1)) rfl rfl rfl (eg3 _ _ _ _ _ _) (lss3 _ (decide_eq_false (by omega)))) ?_
              simp only [zp]
              refine sm (.bool false) 11 rfl rfl rfl rfl ?_
              simp only [zp]
              refine sm (.int .i64 t) 12 rfl rfl rfl rfl ?_
              simp only [zp]
              refine sv (.bool false) 13 rfl rfl (ex_bin (u := (.int .i64 t)) (r := (.int .i64 1)) rfl rfl rfl (eg3 _ _ _ _ _ _) (lss3 _ (decide_eq_false (by omega)))) ?_
              simp only [zp]
              refine sv (.bool false) 14 rfl rfl (ex_pkF rfl rfl rfl) ?_
              simp only [zp]
              refine st_end ?_
              subst hQ
              refine wp_cond_false rfl ?_
              refine wp_skip ?_
              refine wp_seq ?_
              refine wq fun Q hQ => ?_
              refine sm (.bool false) 16 rfl rfl rfl rfl ?_
              simp only [zp]
              refine st_end ?_
              subst hQ
              refine wp_cond_false rfl ?_
              refine wp_skip ?_
              refine wp_seq ?_
              refine wq fun Q hQ => ?_
              refine sv (.pointer (some ⟨b1, 3, none⟩)) 32 rfl rfl (ex_fa (p := (.pointer (some ⟨b1, 0, none⟩))) rfl rfl (fa47_3 _ _)) ?_
              simp only [zp]
              refine sv (.int .i64 p.bat) 33 rfl rfl (ex_load (p := (.pointer (some ⟨b1, 3, none⟩))) rfl rfl (ld3 (at_cell k1 rfl))) ?_
              simp only [zp]
              refine sv (.bool true) 34 rfl rfl (ex_bin (u := (.int .i64 p.bat)) (r := (.int .i64 0)) rfl rfl rfl (eg3 _ _ _ _ _ _) (eql3 _ (decide_eq_true (by omega)))) ?_
              simp only [zp]
              refine sm (.bool true) 35 rfl rfl rfl rfl ?_
              simp only [zp]
              refine sn 36 rfl rfl ?_
              simp only [zp]
              refine sn 37 rfl rfl ?_
              simp only [zp]
              refine sn 38 rfl rfl ?_
              simp only [zp]
              refine sn 39 rfl rfl ?_
              simp only [zp]
              refine sv (.bool true) 40 rfl rfl (ex_pkT rfl rfl rfl) ?_
              simp only [zp]
              refine st_end ?_
              subst hQ
              refine wp_cond_true rfl ?_
              refine wl_in (wl_cap fun Q hQ => ?_)
              refine sm (.int .i64 a) 41 rfl rfl rfl rfl ?_
              simp only [zp]
              refine sv (.pointer (some ⟨b1, 2, none⟩)) 42 rfl rfl (ex_fa (p := (.pointer (some ⟨b1, 0, none⟩))) rfl rfl (fa47_2 _ _)) ?_
              simp only [zp]
              obtain ⟨kn, K⟩ := put_cell (i := 2) (.int .i64 a) k1
              refine st_sk rfl rfl (ex_store rfl rfl rfl (sto3 (at_cell k1 rfl) (unfrozen k1))) ?_
              obtain ⟨W3, hW2⟩ : ∃ W', W2.setCell ⟨b1, 2, none⟩ (.int .i64 a) = W' := ⟨_, rfl⟩
              rw [hW2] at kn K ⊢
              replace E := below_put E ge_b1 K
              replace k2 := keepK K k2 (fun e => by first | exact ne_b2_b1 e | exact ne_b1_b2 e.symm)
              replace k1 := kn
              clear kn K
              refine st_end ?_
              subst hQ
              refine wq fun Q hQ => ?_
              refine sm (.int .i64 t) 43 rfl rfl rfl rfl ?_
              simp only [zp]
              refine sv (.pointer (some ⟨b1, 3, none⟩)) 44 rfl rfl (ex_fa (p := (.pointer (some ⟨b1, 0, none⟩))) rfl rfl (fa47_3 _ _)) ?_
              simp only [zp]
              obtain ⟨kn, K⟩ := put_cell (i := 3) (.int .i64 t) k1
              refine st_sk rfl rfl (ex_store rfl rfl rfl (sto3 (at_cell k1 rfl) (unfrozen k1))) ?_
              obtain ⟨W4, hW2⟩ : ∃ W', W3.setCell ⟨b1, 3, none⟩ (.int .i64 t) = W' := ⟨_, rfl⟩
              rw [hW2] at kn K ⊢
              replace E := below_put E ge_b1 K
              replace k2 := keepK K k2 (fun e => by first | exact ne_b2_b1 e | exact ne_b1_b2 e.symm)
              replace k1 := kn
              clear kn K
              refine st_end ?_
              subst hQ
              refine wp_seq ?_
              refine wq fun Q hQ => ?_
              refine sv (.pointer (some ⟨b1, 0, none⟩)) 45 rfl rfl (ex_fa (p := (.pointer (some ⟨b1, 0, none⟩))) rfl rfl (fa47_0 _ _)) ?_
              simp only [zp]
              refine sv (.int .i64 p.good) 46 rfl rfl (ex_load (p := (.pointer (some ⟨b1, 0, none⟩))) rfl rfl (ld3 (at_cell k1 rfl))) ?_
              simp only [zp]
              refine sm (.int .i64 a) 47 rfl rfl rfl rfl ?_
              simp only [zp]
              refine sv (.bool false) 48 rfl rfl (ex_bin (u := (.int .i64 p.good)) (r := (.int .i64 a)) rfl rfl rfl (eg3 _ _ _ _ _ _) (geq3 _ (decide_eq_false (by omega)))) ?_
              simp only [zp]
              refine st_end ?_
              subst hQ
              refine wp_cond_false rfl ?_
              refine wp_skip ?_
              refine wq fun Q hQ => ?_
              refine sv (.agg #[(.int .i64 p.good), (.int .i64 p.gat), (.int .i64 a), (.int .i64 t)]) 52 rfl rfl (ex_load (p := (.pointer (some ⟨b1, 0, none⟩))) rfl rfl (ld_all k1 Try.underlying47 rfl inf47)) ?_
              simp only [zp]
              obtain ⟨W5, hst, kn, K⟩ := put_all (D := #[(.int .i64 p.good), (.int .i64 p.gat), (.int .i64 a), (.int .i64 t)]) k2 rfl inf47 (by kernel_rfl)
              refine st_sk rfl rfl (ex_store rfl rfl rfl hst) ?_
              replace E := below_put E ge_b2 K
              replace k1 := keepK K k1 (fun e => by first | exact ne_b1_b2 e | exact ne_b2_b1 e.symm)
              replace k2 := kn
              clear kn K hst
              refine st_end ?_
              subst hQ
              refine wp_ret ?_
              repeat (first | refine ret_out ?_ | refine ret_blk ?_)
              refine bodyPost_ret (results_cell_row Try.results70 _ _ b2 _ _ _ _ rfl k2 Try.underlying47 rfl inf47) rfl ⟨?_, E⟩
              show Ending.returned (.agg #[(.int .i64 p.good), (.int .i64 p.gat), (.int .i64 a), (.int .i64 t)]) = _
              simp [lrnN, PL, e0, e1, e2, e3, e4]
        · skip
          by_cases e3 : a < p.bad
          · skip
            by_cases e4 : a ≤ p.good
            · skip
              have E : Below w.heap.size w w := Below.refl _ _
              go_enter Try.func70, Try.ntmps70
              refine wq fun Q hQ => ?_
              refine st_new (fun b => .pointer (some ⟨b, 0, none⟩)) (some 4) rfl rfl (ex_box rfl rfl) ?_
              intro b1 W1 k1 g1 B
              simp only [zp]
              have ge_b1 := Nat.le_trans E.size g1
              replace E := below_next E B
              clear B
              refine st_new (fun b => .pointer (some ⟨b, 0, none⟩)) (some 8) rfl rfl (ex_alloc rfl zero47) ?_
              intro b2 W2 k2 g2 B
              simp only [zp]
              have ne_b2_b1 : b2 ≠ b1 := fun e => by have := lt_of k1; omega
              have ge_b2 := Nat.le_trans E.size g2
              replace E := below_next E B
              replace k1 := keep B k1
              clear B
              refine st_end ?_
              subst hQ
              refine wp_seq ?_
              refine wq fun Q hQ => ?_
              refine sm (.int .i64 a) 9 rfl rfl rfl rfl ?_
              simp only [zp]
              refine sv (.bool false) 10 rfl rfl (ex_bin (u := (.int .i64 a)) (r := (.int .i64 1)) rfl rfl rfl (eg3 _ _ _ _ _ _) (lss3 _ (decide_eq_false (by omega)))) ?_
              simp only [zp]
              refine sm (.bool false) 11 rfl rfl rfl rfl ?_
              simp only [zp]
              refine sm (.int .i64 t) 12 rfl rfl rfl rfl ?_
              simp only [zp]
              refine sv (.bool false) 13 rfl rfl (ex_bin (u := (.int .i64 t)) (r := (.int .i64 1)) rfl rfl rfl (eg3 _ _ _ _ _ _) (lss3 _ (decide_eq_false (by omega)))) ?_
              simp only [zp]
              refine sv (.bool false) 14 rfl rfl (ex_pkF rfl rfl rfl) ?_
              simp only [zp]
              refine st_end ?_
              subst hQ
              refine wp_cond_false rfl ?_
              refine wp_skip ?_
              refine wp_seq ?_
              refine wq fun Q hQ => ?_
              refine sm (.bool false) 16 rfl rfl rfl rfl ?_
              simp only [zp]
              refine st_end ?_
              subst hQ
              refine wp_cond_false rfl ?_
              refine wp_skip ?_
              refine wp_seq ?_
              refine wq fun Q hQ => ?_
              refine sv (.pointer (some ⟨b1, 3, none⟩)) 32 rfl rfl (ex_fa (p := (.pointer (some ⟨b1, 0, none⟩))) rfl rfl (fa47_3 _ _)) ?_
              simp only [zp]
              refine sv (.int .i64 p.bat) 33 rfl rfl (ex_load (p := (.pointer (some ⟨b1, 3, none⟩))) rfl rfl (ld3 (at_cell k1 rfl))) ?_
              simp only [zp]
              refine sv (.bool false) 34 rfl rfl (ex_bin (u := (.int .i64 p.bat)) (r := (.int .i64 0)) rfl rfl rfl (eg3 _ _ _ _ _ _) (eql3 _ (decide_eq_false (by omega)))) ?_
              simp only [zp]
              refine sm (.bool false) 35 rfl rfl rfl rfl ?_
              simp only [zp]
              refine sm (.int .i64 a) 36 rfl rfl rfl rfl ?_
              simp only [zp]
              refine sv (.pointer (some ⟨b1, 2, none⟩)) 37 rfl rfl (ex_fa (p := (.pointer (some ⟨b1, 0, none⟩))) rfl rfl (fa47_2 _ _)) ?_
              simp only [zp]
              refine sv (.int .i64 p.bad) 38 rfl rfl (ex_load (p := (.pointer (some ⟨b1, 2, none⟩))) rfl rfl (ld3 (at_cell k1 rfl))) ?_
              simp only [zp]
              refine sv (.bool true) 39 rfl rfl (ex_bin (u := (.int .i64 a)) (r := (.int .i64 p.bad)) rfl rfl rfl (eg3 _ _ _ _ _ _) (lss3 _ (decide_eq_true (by omega)))) ?_
              simp only [zp]
              refine sv (.bool true) 40 rfl rfl (ex_pkF rfl rfl rfl) ?_
              simp only [zp]
              refine st_end ?_
              subst hQ
              refine wp_cond_true rfl ?_
              refine wl_in (wl_cap fun Q hQ => ?_)
              refine sm (.int .i64 a) 41 rfl rfl rfl rfl ?_
              simp only [zp]
              refine sv (.pointer (some ⟨b1, 2, none⟩)) 42 rfl rfl (ex_fa (p := (.pointer (some ⟨b1, 0, none⟩))) rfl rfl (fa47_2 _ _)) ?_
              simp only [zp]
              obtain ⟨kn, K⟩ := put_cell (i := 2) (.int .i64 a) k1
              refine st_sk rfl rfl (ex_store rfl rfl rfl (sto3 (at_cell k1 rfl) (unfrozen k1))) ?_
              obtain ⟨W3, hW2⟩ : ∃ W', W2.setCell ⟨b1, 2, none⟩ (.int .i64 a) = W' := ⟨_, rfl⟩
              rw [hW2] at kn K ⊢
              replace E := below_put E ge_b1 K
              replace k2 := keepK K k2 (fun e => by first | exact ne_b2_b1 e | exact ne_b1_b2 e.symm)
              replace k1 := kn
              clear kn K
              refine st_end ?_
              subst hQ
              refine wq fun Q hQ => ?_
              refine sm (.int .i64 t) 43 rfl rfl rfl rfl ?_
              simp only [zp]
              refine sv (.pointer (some ⟨b1, 3, none⟩)) 44 rfl rfl (ex_fa (p := (.pointer (some ⟨b1, 0, none⟩))) rfl rfl (fa47_3 _ _)) ?_
              simp only [zp]
              obtain ⟨kn, K⟩ := put_cell (i := 3) (.int .i64 t) k1
              refine st_sk rfl rfl (ex_store rfl rfl rfl (sto3 (at_cell k1 rfl) (unfrozen k1))) ?_
              obtain ⟨W4, hW2⟩ : ∃ W', W3.setCell ⟨b1, 3, none⟩ (.int .i64 t) = W' := ⟨_, rfl⟩
              rw [hW2] at kn K ⊢
              replace E := below_put E ge_b1 K
              replace k2 := keepK K k2 (fun e => by first | exact ne_b2_b1 e | exact ne_b1_b2 e.symm)
              replace k1 := kn
              clear kn K
              refine st_end ?_
              subst hQ
              refine wp_seq ?_
              refine wq fun Q hQ => ?_
              refine sv (.pointer (some ⟨b1, 0, none⟩)) 45 rfl rfl (ex_fa (p := (.pointer (some ⟨b1, 0, none⟩))) rfl rfl (fa47_0 _ _)) ?_
              simp only [zp]
              refine sv (.int .i64 p.good) 46 rfl rfl (ex_load (p := (.pointer (some ⟨b1, 0, none⟩))) rfl rfl (ld3 (at_cell k1 rfl))) ?_
              simp only [zp]
              refine sm (.int .i64 a) 47 rfl rfl rfl rfl ?_
              simp only [zp]
              refine sv (.bool true) 48 rfl rfl (ex_bin (u := (.int .i64 p.good)) (r := (.int .i64 a)) rfl rfl rfl (eg3 _ _ _ _ _ _) (geq3 _ (decide_eq_true (by omega)))) ?_
              simp only [zp]
              refine st_end ?_
              subst hQ
              refine wp_cond_true rfl ?_
              refine wl_in (wl_cap fun Q hQ => ?_)
              refine sm (.int .i64 a) 49 rfl rfl rfl rfl ?_
              simp only [zp]
              refine sv (.int .i64 (a - 1)) 50 rfl rfl (ex_bin rfl rfl rfl (eg3 _ _ _ _ _ _) (sub3 _ rfl (by omega))) ?_
              simp only [zp]
              refine sv (.pointer (some ⟨b1, 0, none⟩)) 51 rfl rfl (ex_fa (p := (.pointer (some ⟨b1, 0, none⟩))) rfl rfl (fa47_0 _ _)) ?_
              simp only [zp]
              obtain ⟨kn, K⟩ := put_cell (i := 0) (.int .i64 (a - 1)) k1
              refine st_sk rfl rfl (ex_store rfl rfl rfl (sto3 (at_cell k1 rfl) (unfrozen k1))) ?_
              obtain ⟨W5, hW2⟩ : ∃ W', W4.setCell ⟨b1, 0, none⟩ (.int .i64 (a - 1)) = W' := ⟨_, rfl⟩
              rw [hW2] at kn K ⊢
              replace E := below_put E ge_b1 K
              replace k2 := keepK K k2 (fun e => by first | exact ne_b2_b1 e | exact ne_b1_b2 e.symm)
              replace k1 := kn
              clear kn K
              refine st_end ?_
              subst hQ
              refine wq fun Q hQ => ?_
              refine sv (.agg #[(.int .i64 (a - 1)), (.int .i64 p.gat), (.int .i64 a), (.int .i64 t)]) 52 rfl rfl (ex_load (p := (.pointer (some ⟨b1, 0, none⟩))) rfl rfl (ld_all k1 Try.underlying47 rfl inf47)) ?_
              simp only [zp]
              obtain ⟨W6, hst, kn, K⟩ := put_all (D := #[(.int .i64 (a - 1)), (.int .i64 p.gat), (.int .i64 a), (.int .i64 t)]) k2 rfl inf47 (by kernel_rfl)
              refine st_sk rfl rfl (ex_store rfl rfl rfl hst) ?_
              replace E := below_put E ge_b2 K
              replace k1 := keepK K k1 (fun e => by first | exact ne_b1_b2 e | exact ne_b2_b1 e.symm)
              replace k2 := kn
              clear kn K hst
              refine st_end ?_
              subst hQ
              refine wp_ret ?_
              repeat (first | refine ret_out ?_ | refine ret_blk ?_)
              refine bodyPost_ret (results_cell_row Try.results70 _ _ b2 _ _ _ _ rfl k2 Try.underlying47 rfl inf47) rfl ⟨?_, E⟩
              show Ending.returned (.agg #[(.int .i64 (a - 1)), (.int .i64 p.gat), (.int .i64 a), (.int .i64 t)]) = _
              simp [lrnN, PL, e0, e1, e2, e3, e4]
            · skip
              have E : Below w.heap.size w w := Below.refl _ _
              go_enter Try.func70, Try.ntmps70
              refine wq fun Q hQ => ?_
              refine st_new (fun b => .pointer (some ⟨b, 0, none⟩)) (some 4) rfl rfl (ex_box rfl rfl) ?_
              intro b1 W1 k1 g1 B
              simp only [zp]
              have ge_b1 := Nat.le_trans E.size g1
              replace E := below_next E B
              clear B
              refine st_new (fun b => .pointer (some ⟨b, 0, none⟩)) (some 8) rfl rfl (ex_alloc rfl zero47) ?_
              intro b2 W2 k2 g2 B
              simp only [zp]
              have ne_b2_b1 : b2 ≠ b1 := fun e => by have := lt_of k1; omega
              have ge_b2 := Nat.le_trans E.size g2
              replace E := below_next E B
              replace k1 := keep B k1
              clear B
              refine st_end ?_
              subst hQ
              refine wp_seq ?_
              refine wq fun Q hQ => ?_
              refine sm (.int .i64 a) 9 rfl rfl rfl rfl ?_
              simp only [zp]
              refine sv (.bool false) 10 rfl rfl (ex_bin (u := (.int .i64 a)) (r := (.int .i64 1)) rfl rfl rfl (eg3 _ _ _ _ _ _) (lss3 _ (decide_eq_false (by omega)))) ?_
              simp only [zp]
              refine sm (.bool false) 11 rfl rfl rfl rfl ?_
              simp only [zp]
              refine sm (.int .i64 t) 12 rfl rfl rfl rfl ?_
              simp only [zp]
              refine sv (.bool false) 13 rfl rfl (ex_bin (u := (.int .i64 t)) (r := (.int .i64 1)) rfl rfl rfl (eg3 _ _ _ _ _ _) (lss3 _ (decide_eq_false (by omega)))) ?_
              simp only [zp]
              refine sv (.bool false) 14 rfl rfl (ex_pkF rfl rfl rfl) ?_
              simp only [zp]
              refine st_end ?_
              subst hQ
              refine wp_cond_false rfl ?_
              refine wp_skip ?_
              refine wp_seq ?_
              refine wq fun Q hQ => ?_
              refine sm (.bool false) 16 rfl rfl rfl rfl ?_
              simp only [zp]
              refine st_end ?_
              subst hQ
              refine wp_cond_false rfl ?_
              refine wp_skip ?_
              refine wp_seq ?_
              refine wq fun Q hQ => ?_
              refine sv (.pointer (some ⟨b1, 3, none⟩)) 32 rfl rfl (ex_fa (p := (.pointer (some ⟨b1, 0, none⟩))) rfl rfl (fa47_3 _ _)) ?_
              simp only [zp]
              refine sv (.int .i64 p.bat) 33 rfl rfl (ex_load (p := (.pointer (some ⟨b1, 3, none⟩))) rfl rfl (ld3 (at_cell k1 rfl))) ?_
              simp only [zp]
              refine sv (.bool false) 34 rfl rfl (ex_bin (u := (.int .i64 p.bat)) (r := (.int .i64 0)) rfl rfl rfl (eg3 _ _ _ _ _ _) (eql3 _ (decide_eq_false (by omega)))) ?_
              simp only [zp]
              refine sm (.bool false) 35 rfl rfl rfl rfl ?_
              simp only [zp]
              refine sm (.int .i64 a) 36 rfl rfl rfl rfl ?_
              simp only [zp]
              refine sv (.pointer (some ⟨b1, 2, none⟩)) 37 rfl rfl (ex_fa (p := (.pointer (some ⟨b1, 0, none⟩))) rfl rfl (fa47_2 _ _)) ?_
              simp only [zp]
              refine sv (.int .i64 p.bad) 38 rfl rfl (ex_load (p := (.pointer (some ⟨b1, 2, none⟩))) rfl rfl (ld3 (at_cell k1 rfl))) ?_
              simp only [zp]
              refine sv (.bool true) 39 rfl rfl (ex_bin (u := (.int .i64 a)) (r := (.int .i64 p.bad)) rfl rfl rfl (eg3 _ _ _ _ _ _) (lss3 _ (decide_eq_true (by omega)))) ?_
              simp only [zp]
              refine sv (.bool true) 40 rfl rfl (ex_pkF rfl rfl rfl) ?_
              simp only [zp]
              refine st_end ?_
              subst hQ
              refine wp_cond_true rfl ?_
              refine wl_in (wl_cap fun Q hQ => ?_)
              refine sm (.int .i64 a) 41 rfl rfl rfl rfl ?_
              simp only [zp]
              refine sv (.pointer (some ⟨b1, 2, none⟩)) 42 rfl rfl (ex_fa (p := (.pointer (some ⟨b1, 0, none⟩))) rfl rfl (fa47_2 _ _)) ?_
              simp only [zp]
              obtain ⟨kn, K⟩ := put_cell (i := 2) (.int .i64 a) k1
              refine st_sk rfl rfl (ex_store rfl rfl rfl (sto3 (at_cell k1 rfl) (unfrozen k1))) ?_
              obtain ⟨W3, hW2⟩ : ∃ W', W2.setCell ⟨b1, 2, none⟩ (.int .i64 a) = W' := ⟨_, rfl⟩
              rw [hW2] at kn K ⊢
              replace E := below_put E ge_b1 K
              replace k2 := keepK K k2 (fun e => by first | exact ne_b2_b1 e | exact ne_b1_b2 e.symm)
              replace k1 := kn
              clear kn K
              refine st_end ?_
              subst hQ
              refine wq fun Q hQ => ?_
              refine sm (.int .i64 t) 43 rfl rfl rfl rfl ?_
              simp only [zp]
              refine sv (.pointer (some ⟨b1, 3, none⟩)) 44 rfl rfl (ex_fa (p := (.pointer (some ⟨b1, 0, none⟩))) rfl rfl (fa47_3 _ _)) ?_
              simp only [zp]
              obtain ⟨kn, K⟩ := put_cell (i := 3) (.int .i64 t) k1
              refine st_sk rfl rfl (ex_store rfl rfl rfl (sto3 (at_cell k1 rfl) (unfrozen k1))) ?_
              obtain ⟨W4, hW2⟩ : ∃ W', W3.setCell ⟨b1, 3, none⟩ (.int .i64 t) = W' := ⟨_, rfl⟩
              rw [hW2] at kn K ⊢
              replace E := below_put E ge_b1 K
              replace k2 := keepK K k2 (fun e => by first | exact ne_b2_b1 e | exact ne_b1_b2 e.symm)
              replace k1 := kn
              clear kn K
              refine st_end ?_
              subst hQ
              refine wp_seq ?_
              refine wq fun Q hQ => ?_
              refine sv (.pointer (some ⟨b1, 0, none⟩)) 45 rfl rfl (ex_fa (p := (.pointer (some ⟨b1, 0, none⟩))) rfl rfl (fa47_0 _ _)) ?_
              simp only [zp]
              refine sv (.int .i64 p.good) 46 rfl rfl (ex_load (p := (.pointer (some ⟨b1, 0, none⟩))) rfl rfl (ld3 (at_cell k1 rfl))) ?_
              simp only [zp]
              refine sm (.int .i64 a) 47 rfl rfl rfl rfl ?_
              simp only [zp]
              refine sv (.bool false) 48 rfl rfl (ex_bin (u := (.int .i64 p.good)) (r := (.int .i64 a)) rfl rfl rfl (eg3 _ _ _ _ _ _) (geq3 _ (decide_eq_false (by omega)))) ?_
              simp only [zp]
              refine st_end ?_
              subst hQ
              refine wp_cond_false rfl ?_
              refine wp_skip ?_
              refine wq fun Q hQ => ?_
              refine sv (.agg #[(.int .i64 p.good), (.int .i64 p.gat), (.int .i64 a), (.int .i64 t)]) 52 rfl rfl (ex_load (p := (.pointer (some ⟨b1, 0, none⟩))) rfl rfl (ld_all k1 Try.underlying47 rfl inf47)) ?_
              simp only [zp]
              obtain ⟨W5, hst, kn, K⟩ := put_all (D := #[(.int .i64 p.good), (.int .i64 p.gat), (.int .i64 a), (.int .i64 t)]) k2 rfl inf47 (by kernel_rfl)
              refine st_sk rfl rfl (ex_store rfl rfl rfl hst) ?_
              replace E := below_put E ge_b2 K
              replace k1 := keepK K k1 (fun e => by first | exact ne_b1_b2 e | exact ne_b2_b1 e.symm)
              replace k2 := kn
              clear kn K hst
              refine st_end ?_
              subst hQ
              refine wp_ret ?_
              repeat (first | refine ret_out ?_ | refine ret_blk ?_)
              refine bodyPost_ret (results_cell_row Try.results70 _ _ b2 _ _ _ _ rfl k2 Try.underlying47 rfl inf47) rfl ⟨?_, E⟩
              show Ending.returned (.agg #[(.int .i64 p.good), (.int .i64 p.gat), (.int .i64 a), (.int .i64 t)]) = _
              simp [lrnN, PL, e0, e1, e2, e3, e4]
          · skip
            by_cases e4 : a ≤ p.good
            · skip
              have E : Below w.heap.size w w := Below.refl _ _
              go_enter Try.func70, Try.ntmps70
              refine wq fun Q hQ => ?_
              refine st_new (fun b => .pointer (some ⟨b, 0, none⟩)) (some 4) rfl rfl (ex_box rfl rfl) ?_
              intro b1 W1 k1 g1 B
              simp only [zp]
              have ge_b1 := Nat.le_trans E.size g1
              replace E := below_next E B
              clear B
              refine st_new (fun b => .pointer (some ⟨b, 0, none⟩)) (some 8) rfl rfl (ex_alloc rfl zero47) ?_
              intro b2 W2 k2 g2 B
              simp only [zp]
              have ne_b2_b1 : b2 ≠ b1 := fun e => by have := lt_of k1; omega
              have ge_b2 := Nat.le_trans E.size g2
              replace E := below_next E B
              replace k1 := keep B k1
              clear B
              refine st_end ?_
              subst hQ
              refine wp_seq ?_
              refine wq fun Q hQ => ?_
              refine sm (.int .i64 a) 9 rfl rfl rfl rfl ?_
              simp only [zp]
              refine sv (.bool false) 10 rfl rfl (ex_bin (u := (.int .i64 a)) (r := (.int .i64 1)) rfl rfl rfl (eg3 _ _ _ _ _ _) (lss3 _ (decide_eq_false (by omega)))) ?_
              simp only [zp]
              refine sm (.bool false) 11 rfl rfl rfl rfl ?_
              simp only [zp]
              refine sm (.int .i64 t) 12 rfl rfl rfl rfl ?_
              simp only [zp]
              refine sv (.bool false) 13 rfl rfl (ex_bin (u := (.int .i64 t)) (r := (.int .i64 1)) rfl rfl rfl (eg3 _ _ _ _ _ _) (lss3 _ (decide_eq_false (by omega)))) ?_
              simp only [zp]
              refine sv (.bool false) 14 rfl rfl (ex_pkF rfl rfl rfl) ?_
              simp only [zp]
              refine st_end ?_
              subst hQ
              refine wp_cond_false rfl ?_
              refine wp_skip ?_
              refine wp_seq ?_
              refine wq fun Q hQ => ?_
              refine sm (.bool false) 16 rfl rfl rfl rfl ?_
              simp only [zp]
              refine st_end ?_
              subst hQ
              refine wp_cond_false rfl ?_
              refine wp_skip ?_
              refine wp_seq ?_
              refine wq fun Q hQ => ?_
              refine sv (.pointer (some ⟨b1, 3, none⟩)) 32 rfl rfl (ex_fa (p := (.pointer (some ⟨b1, 0, none⟩))) rfl rfl (fa47_3 _ _)) ?_
              simp only [zp]
              refine sv (.int .i64 p.bat) 33 rfl rfl (ex_load (p := (.pointer (some ⟨b1, 3, none⟩))) rfl rfl (ld3 (at_cell k1 rfl))) ?_
              simp only [zp]
              refine sv (.bool false) 34 rfl rfl (ex_bin (u := (.int .i64 p.bat)) (r := (.int .i64 0)) rfl rfl rfl (eg3 _ _ _ _ _ _) (eql3 _ (decide_eq_false (by omega)))) ?_
              simp only [zp]
              refine sm (.bool false) 35 rfl rfl rfl rfl ?_
              simp only [zp]
              refine sm (.int .i64 a) 36 rfl rfl rfl rfl ?_
              simp only [zp]
              refine sv (.pointer (some ⟨b1, 2, none⟩)) 37 rfl rfl (ex_fa (p := (.pointer (some ⟨b1, 0, none⟩))) rfl rfl (fa47_2 _ _)) ?_
              simp only [zp]
              refine sv (.int .i64 p.bad) 38 rfl rfl (ex_load (p := (.pointer (some ⟨b1, 2, none⟩))) rfl rfl (ld3 (at_cell k1 rfl))) ?_
              simp only [zp]
              refine sv (.bool false) 39 rfl rfl (ex_bin (u := (.int .i64 a)) (r := (.int .i64 p.bad)) rfl rfl rfl (eg3 _ _ _ _ _ _) (lss3 _ (decide_eq_false (by omega)))) ?_
              simp only [zp]
              refine sv (.bool false) 40 rfl rfl (ex_pkF rfl rfl rfl) ?_
              simp only [zp]
              refine st_end ?_
              subst hQ
              refine wp_cond_false rfl ?_
              refine wp_skip ?_
              refine wq fun Q hQ => ?_
              refine sm (.int .i64 t) 43 rfl rfl rfl rfl ?_
              simp only [zp]
              refine sv (.pointer (some ⟨b1, 3, none⟩)) 44 rfl rfl (ex_fa (p := (.pointer (some ⟨b1, 0, none⟩))) rfl rfl (fa47_3 _ _)) ?_
              simp only [zp]
              obtain ⟨kn, K⟩ := put_cell (i := 3) (.int .i64 t) k1
              refine st_sk rfl rfl (ex_store rfl rfl rfl (sto3 (at_cell k1 rfl) (unfrozen k1))) ?_
              obtain ⟨W3, hW2⟩ : ∃ W', W2.setCell ⟨b1, 3, none⟩ (.int .i64 t) = W' := ⟨_, rfl⟩
              rw [hW2] at kn K ⊢
              replace E := below_put E ge_b1 K
              replace k2 := keepK K k2 (fun e => by first | exact ne_b2_b1 e | exact ne_b1_b2 e.symm)
              replace k1 := kn
              clear kn K
              refine st_end ?_
              subst hQ
              refine wp_seq ?_
              refine wq fun Q hQ => ?_
              refine sv (.pointer (some ⟨b1, 0, none⟩)) 45 rfl rfl (ex_fa (p := (.pointer (some ⟨b1, 0, none⟩))) rfl rfl (fa47_0 _ _)) ?_
              simp only [zp]
              refine sv (.int .i64 p.good) 46 rfl rfl (ex_load (p := (.pointer (some ⟨b1, 0, none⟩))) rfl rfl (ld3 (at_cell k1 rfl))) ?_
              simp only [zp]
              refine sm (.int .i64 a) 47 rfl rfl rfl rfl ?_
              simp only [zp]
              refine sv (.bool true) 48 rfl rfl (ex_bin (u := (.int .i64 p.good)) (r := (.int .i64 a)) rfl rfl rfl (eg3 _ _ _ _ _ _) (geq3 _ (decide_eq_true (by omega)))) ?_
              simp only [zp]
              refine st_end ?_
              subst hQ
              refine wp_cond_true rfl ?_
              refine wl_in (wl_cap fun Q hQ => ?_)
              refine sm (.int .i64 a) 49 rfl rfl rfl rfl ?_
              simp only [zp]
              refine sv (.int .i64 (a - 1)) 50 rfl rfl (ex_bin rfl rfl rfl (eg3 _ _ _ _ _ _) (sub3 _ rfl (by omega))) ?_
              simp only [zp]
              refine sv (.pointer (some ⟨b1, 0, none⟩)) 51 rfl rfl (ex_fa (p := (.pointer (some ⟨b1, 0, none⟩))) rfl rfl (fa47_0 _ _)) ?_
              simp only [zp]
              obtain ⟨kn, K⟩ := put_cell (i := 0) (.int .i64 (a - 1)) k1
              refine st_sk rfl rfl (ex_store rfl rfl rfl (sto3 (at_cell k1 rfl) (unfrozen k1))) ?_
              obtain ⟨W4, hW2⟩ : ∃ W', W3.setCell ⟨b1, 0, none⟩ (.int .i64 (a - 1)) = W' := ⟨_, rfl⟩
              rw [hW2] at kn K ⊢
              replace E := below_put E ge_b1 K
              replace k2 := keepK K k2 (fun e => by first | exact ne_b2_b1 e | exact ne_b1_b2 e.symm)
              replace k1 := kn
              clear kn K
              refine st_end ?_
              subst hQ
              refine wq fun Q hQ => ?_
              refine sv (.agg #[(.int .i64 (a - 1)), (.int .i64 p.gat), (.int .i64 p.bad), (.int .i64 t)]) 52 rfl rfl (ex_load (p := (.pointer (some ⟨b1, 0, none⟩))) rfl rfl (ld_all k1 Try.underlying47 rfl inf47)) ?_
              simp only [zp]
              obtain ⟨W5, hst, kn, K⟩ := put_all (D := #[(.int .i64 (a - 1)), (.int .i64 p.gat), (.int .i64 p.bad), (.int .i64 t)]) k2 rfl inf47 (by kernel_rfl)
              refine st_sk rfl rfl (ex_store rfl rfl rfl hst) ?_
              replace E := below_put E ge_b2 K
              replace k1 := keepK K k1 (fun e => by first | exact ne_b1_b2 e | exact ne_b2_b1 e.symm)
              replace k2 := kn
              clear kn K hst
              refine st_end ?_
              subst hQ
              refine wp_ret ?_
              repeat (first | refine ret_out ?_ | refine ret_blk ?_)
              refine bodyPost_ret (results_cell_row Try.results70 _ _ b2 _ _ _ _ rfl k2 Try.underlying47 rfl inf47) rfl ⟨?_, E⟩
              show Ending.returned (.agg #[(.int .i64 (a - 1)), (.int .i64 p.gat), (.int .i64 p.bad), (.int .i64 t)]) = _
              simp [lrnN, PL, e0, e1, e2, e3, e4]
            · skip
              have E : Below w.heap.size w w := Below.refl _ _
              go_enter Try.func70, Try.ntmps70
              refine wq fun Q hQ => ?_
              refine st_new (fun b => .pointer (some ⟨b, 0, none⟩)) (some 4) rfl rfl (ex_box rfl rfl) ?_
              intro b1 W1 k1 g1 B
              simp only [zp]
              have ge_b1 := Nat.le_trans E.size g1
              replace E := below_next E B
              clear B
              refine st_new (fun b => .pointer (some ⟨b, 0, none⟩)) (some 8) rfl rfl (ex_alloc rfl zero47) ?_
              intro b2 W2 k2 g2 B
              simp only [zp]
              have ne_b2_b1 : b2 ≠ b1 := fun e => by have := lt_of k1; omega
              have ge_b2 := Nat.le_trans E.size g2
              replace E := below_next E B
              replace k1 := keep B k1
              clear B
              refine st_end ?_
              subst hQ
              refine wp_seq ?_
              refine wq fun Q hQ => ?_
              refine sm (.int .i64 a) 9 rfl rfl rfl rfl ?_
              simp only [zp]
              refine sv (.bool false) 10 rfl rfl (ex_bin (u := (.int .i64 a)) (r := (.int .i64 1)) rfl rfl rfl (eg3 _ _ _ _ _ _) (lss3 _ (decide_eq_false (by omega)))) ?_
              simp only [zp]
              refine sm (.bool false) 11 rfl rfl rfl rfl ?_
              simp only [zp]
              refine sm (.int .i64 t) 12 rfl rfl rfl rfl ?_
              simp only [zp]
              refine sv (.bool false) 13 rfl rfl (ex_bin (u := (.int .i64 t)) (r := (.int .i64 1)) rfl rfl rfl (eg3 _ _ _ _ _ _) (lss3 _ (decide_eq_false (by omega)))) ?_
              simp only [zp]
              refine sv (.bool false) 14 rfl rfl (ex_pkF rfl rfl rfl) ?_
              simp only [zp]
              refine st_end ?_
              subst hQ
              refine wp_cond_false rfl ?_
              refine wp_skip ?_
              refine wp_seq ?_
              refine wq fun Q hQ => ?_
              refine sm (.bool false) 16 rfl rfl rfl rfl ?_
              simp only [zp]
              refine st_end ?_
              subst hQ
              refine wp_cond_false rfl ?_
              refine wp_skip ?_
              refine wp_seq ?_
              refine wq fun Q hQ => ?_
              refine sv (.pointer (some ⟨b1, 3, none⟩)) 32 rfl rfl (ex_fa (p := (.pointer (some ⟨b1, 0, none⟩))) rfl rfl (fa47_3 _ _)) ?_
              simp only [zp]
              refine sv (.int .i64 p.bat) 33 rfl rfl (ex_load (p := (.pointer (some ⟨b1, 3, none⟩))) rfl rfl (ld3 (at_cell k1 rfl))) ?_
              simp only [zp]
              refine sv (.bool false) 34 rfl rfl (ex_bin (u := (.int .i64 p.bat)) (r := (.int .i64 0)) rfl rfl rfl (eg3 _ _ _ _ _ _) (eql3 _ (decide_eq_false (by omega)))) ?_
              simp only [zp]
              refine sm (.bool false) 35 rfl rfl rfl rfl ?_
              simp only [zp]
              refine sm (.int .i64 a) 36 rfl rfl rfl rfl ?_
              simp only [zp]
              refine sv (.pointer (some ⟨b1, 2, none⟩)) 37 rfl rfl (ex_fa (p := (.pointer (some ⟨b1, 0, none⟩))) rfl rfl (fa47_2 _ _)) ?_
              simp only [zp]
              refine sv (.int .i64 p.bad) 38 rfl rfl (ex_load (p := (.pointer (some ⟨b1, 2, none⟩))) rfl rfl (ld3 (at_cell k1 rfl))) ?_
              simp only [zp]
              refine sv (.bool false) 39 rfl rfl (ex_bin (u := (.int .i64 a)) (r := (.int .i64 p.bad)) rfl rfl rfl (eg3 _ _ _ _ _ _) (lss3 _ (decide_eq_false (by omega)))) ?_
              simp only [zp]
              refine sv (.bool false) 40 rfl rfl (ex_pkF rfl rfl rfl) ?_
              simp only [zp]
              refine st_end ?_
              subst hQ
              refine wp_cond_false rfl ?_
              refine wp_skip ?_
              refine wq fun Q hQ => ?_
              refine sm (.int .i64 t) 43 rfl rfl rfl rfl ?_
              simp only [zp]
              refine sv (.pointer (some ⟨b1, 3, none⟩)) 44 rfl rfl (ex_fa (p := (.pointer (some ⟨b1, 0, none⟩))) rfl rfl (fa47_3 _ _)) ?_
              simp only [zp]
              obtain ⟨kn, K⟩ := put_cell (i := 3) (.int .i64 t) k1
              refine st_sk rfl rfl (ex_store rfl rfl rfl (sto3 (at_cell k1 rfl) (unfrozen k1))) ?_
              obtain ⟨W3, hW2⟩ : ∃ W', W2.setCell ⟨b1, 3, none⟩ (.int .i64 t) = W' := ⟨_, rfl⟩
              rw [hW2] at kn K ⊢
              replace E := below_put E ge_b1 K
              replace k2 := keepK K k2 (fun e => by first | exact ne_b2_b1 e | exact ne_b1_b2 e.symm)
              replace k1 := kn
              clear kn K
              refine st_end ?_
              subst hQ
              refine wp_seq ?_
              refine wq fun Q hQ => ?_
              refine sv (.pointer (some ⟨b1, 0, none⟩)) 45 rfl rfl (ex_fa (p := (.pointer (some ⟨b1, 0, none⟩))) rfl rfl (fa47_0 _ _)) ?_
              simp only [zp]
              refine sv (.int .i64 p.good) 46 rfl rfl (ex_load (p := (.pointer (some ⟨b1, 0, none⟩))) rfl rfl (ld3 (at_cell k1 rfl))) ?_
              simp only [zp]
              refine sm (.int .i64 a) 47 rfl rfl rfl rfl ?_
              simp only [zp]
              refine sv (.bool false) 48 rfl rfl (ex_bin (u := (.int .i64 p.good)) (r := (.int .i64 a)) rfl rfl rfl (eg3 _ _ _ _ _ _) (geq3 _ (decide_eq_false (by omega)))) ?_
              simp only [zp]
              refine st_end ?_
              subst hQ
              refine wp_cond_false rfl ?_
              refine wp_skip ?_
              refine wq fun Q hQ => ?_
              refine sv (.agg #[(.int .i64 p.good), (.int .i64 p.gat), (.int .i64 p.bad), (.int .i64 t)]) 52 rfl rfl (ex_load (p := (.pointer (some ⟨b1, 0, none⟩))) rfl rfl (ld_all k1 Try.underlying47 rfl inf47)) ?_
              simp only [zp]
              obtain ⟨W4, hst, kn, K⟩ := put_all (D := #[(.int .i64 p.good), (.int .i64 p.gat), (.int .i64 p.bad), (.int .i64 t)]) k2 rfl inf47 (by kernel_rfl)
              refine st_sk rfl rfl (ex_store rfl rfl rfl hst) ?_
              replace E := below_put E ge_b2 K
              replace k1 := keepK K k1 (fun e => by first | exact ne_b1_b2 e | exact ne_b2_b1 e.symm)
              replace k2 := kn
              clear kn K hst
              refine st_end ?_
              subst hQ
              refine wp_ret ?_
              repeat (first | refine ret_out ?_ | refine ret_blk ?_)
              refine bodyPost_ret (results_cell_row Try.results70 _ _ b2 _ _ _ _ rfl k2 Try.underlying47 rfl inf47) rfl ⟨?_, E⟩
              show Ending.returned (.agg #[(.int .i64 p.good), (.int .i64 p.gat), (.int .i64 p.bad), (.int .i64 t)]) = _
              simp [lrnN, PL, e0, e1, e2, e3, e4]
end Go.Proofs.Ytgnkcmmpbohafaa
