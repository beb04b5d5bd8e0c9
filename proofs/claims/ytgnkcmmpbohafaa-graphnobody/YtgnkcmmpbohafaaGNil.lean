/- A nil graph. -/
import Derived.Test.YtgnkcmmpbohafaaGLiv
namespace Go.Proofs.Ytgnkcmmpbohafaa
open Go.RowKit
set_option linter.unusedVariables false
set_option linter.unusedSimpArgs false
set_option maxRecDepth 100000

set_option maxHeartbeats 4000000 in
theorem find_nil {v : WV} {ao : Option Addr} {nw cw : Nat} (w : World) : Calls Try.prog 12 #[.pointer none, .agg (WL_ v ao nw cw)] w fun e w' => e = .returned (.tuple #[.agg #[.slice none 0 0, .slice none 0 0, .slice none 0 0, .int .i64 0, .float .f64 0], .int .i64 6]) ∧ Below w.heap.size w w' := by
  have E : Below w.heap.size w w := Below.refl _ _
  go_enter Try.func12, Try.ntmps12
  refine wq fun Q hQ => ?_
  refine st_new (fun b => .pointer (some ⟨b, 0, none⟩)) (some 3) rfl rfl (ex_box rfl rfl) ?_
  intro b21 W1 k21 g21 B
  simp only [zp]
  have ge_b21 := Nat.le_trans E.size g21
  replace E := below_next E B
  clear B
  refine st_new (fun b => .pointer (some ⟨b, 0, none⟩)) (some 4) rfl rfl (ex_alloc rfl zero36) ?_
  intro b22 W2 k22 g22 B
  simp only [zp]
  have ne_b22_b21 : b22 ≠ b21 := fun e => by have := lt_of k21; omega
  have ge_b22 := Nat.le_trans E.size g22
  replace E := below_next E B
  replace k21 := keep B k21
  clear B
  refine sg (.int .i64 0) 5 rfl rfl rfl rfl ?_
  simp only [zp]
  refine st_end ?_
  subst hQ
  refine wp_seq ?_
  refine wp_block ?_
  refine wq fun Q hQ => ?_
  refine sm (.pointer none) 9 rfl rfl rfl rfl ?_
  simp only [zp]
  refine st_call (some 10) rfl rfl (closed_nil W2) (ex_call (f := 33) (vs := [(.pointer none)]) rfl (cf33 _) rfl) ?_
  rintro e W3 ⟨rfl, B⟩
  refine ⟨_, rfl, ?_⟩
  simp only [zp]
  replace E := below_next E B
  replace k21 := keep B k21
  replace k22 := keep B k22
  refine sg (.bool true) 8 rfl rfl rfl rfl ?_
  simp only [zp]
  refine st_end ?_
  subst hQ
  refine wp_cond_true rfl ?_
  refine wq fun Q hQ => ?_
  refine sv (.agg #[.slice none 0 0, .slice none 0 0, .slice none 0 0, .int .i64 0, .float .f64 0]) 11 rfl rfl (ex_build0  rfl (bWay0 _)) ?_
  simp only [zp]
  obtain ⟨W4, hst, kn, K⟩ := put_all (D := #[.slice none 0 0, .slice none 0 0, .slice none 0 0, .int .i64 0, .float .f64 0]) k22 rfl inf36 (by kernel_rfl)
  refine st_sk rfl rfl (ex_store rfl rfl rfl hst) ?_
  replace E := below_put E ge_b22 K
  replace k21 := keepK K k21 (fun e => ne_tag k21 k22 (by decide) e)
  replace k22 := kn
  clear kn K hst
  refine sg (.int .i64 6) 5 rfl rfl rfl rfl ?_
  simp only [zp]
  refine st_end ?_
  subst hQ
  refine wp_ret ?_
  repeat (first | refine ret_out ?_ | refine ret_blk ?_)
  exact bodyPost_ret (res_ct Try.results12 _ _ _ _ rfl k22 Try.underlying36 rfl inf36) rfl ⟨rfl, E⟩
set_option maxHeartbeats 4000000 in
theorem fnd_nil {ch fr : Int} (w : World) : Calls Try.prog 61 #[.pointer none, .int .i64 ch, .int .i64 fr] w fun e w' => e = .returned (.tuple #[.int .i64 0, .int .i64 6]) ∧ Below w.heap.size w w' := by
  have E : Below w.heap.size w w := Below.refl _ _
  go_enter Try.func61, Try.ntmps61
  refine wq fun Q hQ => ?_
  refine sg (.int .i64 0) 6 rfl rfl rfl rfl ?_
  simp only [zp]
  refine sg (.int .i64 0) 7 rfl rfl rfl rfl ?_
  simp only [zp]
  refine st_end ?_
  subst hQ
  refine wp_seq ?_
  refine wq fun Q hQ => ?_
  refine sm (.pointer none) 10 rfl rfl rfl rfl ?_
  simp only [zp]
  refine st_call (some 11) rfl rfl (closed_nil w) (ex_call (f := 33) (vs := [(.pointer none)]) rfl (cf33 _) rfl) ?_
  rintro e W1 ⟨rfl, B⟩
  refine ⟨_, rfl, ?_⟩
  simp only [zp]
  replace E := below_next E B
  refine st_end ?_
  subst hQ
  refine wp_cond_true rfl ?_
  refine wq fun Q hQ => ?_
  refine sg (.int .i64 0) 6 rfl rfl rfl rfl ?_
  simp only [zp]
  refine sg (.int .i64 6) 7 rfl rfl rfl rfl ?_
  simp only [zp]
  refine st_end ?_
  subst hQ
  refine wp_ret ?_
  repeat (first | refine ret_out ?_ | refine ret_blk ?_)
  exact bodyPost_ret (results_tmp2 Try.results61 _ _ _) rfl ⟨rfl, E⟩
theorem bEd0 (W : World) : (Instr.build 49 #[]).run Try.prog W = .ok (.agg #[.int .i64 0, .int .i64 0, .int .i64 0, .int .i64 0, .int .i64 0, .int .i64 0, .int .i64 0, .int .i64 0, .int .i64 0, .int .i64 0, .int .i64 0, .int .i64 0, .int .i64 0]) W := run_build W 49 _ _ (by kernel_rfl)
set_option maxHeartbeats 4000000 in
theorem get_nil {ch fr : Int} (w : World) : Calls Try.prog 20 #[.pointer none, .int .i64 ch, .int .i64 fr] w fun e w' => e = .returned (.tuple #[.agg #[.int .i64 0, .int .i64 0, .int .i64 0, .int .i64 0, .int .i64 0, .int .i64 0, .int .i64 0, .int .i64 0, .int .i64 0, .int .i64 0, .int .i64 0, .int .i64 0, .int .i64 0], .bool false]) ∧ Below w.heap.size w w' := by
  have E : Below w.heap.size w w := Below.refl _ _
  go_enter Try.func20, Try.ntmps20
  refine wq fun Q hQ => ?_
  refine st_new (fun b => .pointer (some ⟨b, 0, none⟩)) (some 6) rfl rfl (ex_alloc rfl zero49) ?_
  intro b21 W1 k21 g21 B
  simp only [zp]
  have ge_b21 := Nat.le_trans E.size g21
  replace E := below_next E B
  clear B
  refine sg (.bool false) 7 rfl rfl rfl rfl ?_
  simp only [zp]
  refine st_end ?_
  subst hQ
  refine wq fun Q hQ => ?_
  refine sm (.pointer none) 11 rfl rfl rfl rfl ?_
  simp only [zp]
  refine sm (.int .i64 ch) 12 rfl rfl rfl rfl ?_
  simp only [zp]
  refine sm (.int .i64 fr) 13 rfl rfl rfl rfl ?_
  simp only [zp]
  refine st_call (some 14) rfl rfl (fnd_nil W1) (ex_call (f := 61) (vs := [(.pointer none), (.int .i64 ch), (.int .i64 fr)]) rfl (cf61 _) rfl) ?_
  rintro e W2 ⟨rfl, B⟩
  refine ⟨_, rfl, ?_⟩
  simp only [zp]
  replace E := below_next E B
  replace k21 := keep B k21
  refine sm (.tuple #[(.int .i64 0), (.int .i64 6)]) 10 rfl rfl rfl rfl ?_
  simp only [zp]
  refine sv (.int .i64 0) 15 rfl rfl (ex_ext rfl rfl rfl) ?_
  simp only [zp]
  refine sv (.int .i64 6) 16 rfl rfl (ex_ext rfl rfl rfl) ?_
  simp only [zp]
  refine sg (.int .i64 0) 8 rfl rfl rfl rfl ?_
  simp only [zp]
  refine sg (.int .i64 6) 9 rfl rfl rfl rfl ?_
  simp only [zp]
  refine st_end ?_
  subst hQ
  refine wp_seq ?_
  refine wq fun Q hQ => ?_
  refine sm (.int .i64 6) 17 rfl rfl rfl rfl ?_
  simp only [zp]
  refine sv (.bool true) 18 rfl rfl (ex_bin (u := (.int .i64 6)) (r := (.int .i64 0)) rfl rfl rfl (eg37 _ _ _ _ _ _) (neq37 _ (by decide))) ?_
  simp only [zp]
  refine st_end ?_
  subst hQ
  refine wp_cond_true rfl ?_
  refine wq fun Q hQ => ?_
  refine sv (.agg #[.int .i64 0, .int .i64 0, .int .i64 0, .int .i64 0, .int .i64 0, .int .i64 0, .int .i64 0, .int .i64 0, .int .i64 0, .int .i64 0, .int .i64 0, .int .i64 0, .int .i64 0]) 19 rfl rfl (ex_build0  rfl (bEd0 _)) ?_
  simp only [zp]
  obtain ⟨W3, hst, kn, K⟩ := put_all (D := #[.int .i64 0, .int .i64 0, .int .i64 0, .int .i64 0, .int .i64 0, .int .i64 0, .int .i64 0, .int .i64 0, .int .i64 0, .int .i64 0, .int .i64 0, .int .i64 0, .int .i64 0]) k21 rfl inf49 (by kernel_rfl)
  refine st_sk rfl rfl (ex_store rfl rfl rfl hst) ?_
  replace E := below_put E ge_b21 K
  replace k21 := kn
  clear kn K hst
  refine sg (.bool false) 7 rfl rfl rfl rfl ?_
  simp only [zp]
  refine st_end ?_
  subst hQ
  refine wp_ret ?_
  repeat (first | refine ret_out ?_ | refine ret_blk ?_)
  exact bodyPost_ret (res_ct Try.results20 _ _ _ _ rfl k21 Try.underlying49 rfl inf49) rfl ⟨rfl, E⟩
set_option maxHeartbeats 4000000 in
theorem set_nil {e : EV} (w : World) : Calls Try.prog 21 #[.pointer none, .agg (EL e)] w fun e w' => e = .returned (.int .i64 6) ∧ Below w.heap.size w w' := by
  have E : Below w.heap.size w w := Below.refl _ _
  go_enter Try.func21, Try.ntmps21
  refine wq fun Q hQ => ?_
  refine st_new (fun b => .pointer (some ⟨b, 0, none⟩)) (some 3) rfl rfl (ex_box rfl rfl) ?_
  intro b21 W1 k21 g21 B
  simp only [zp]
  have ge_b21 := Nat.le_trans E.size g21
  replace E := below_next E B
  clear B
  refine sg (.int .i64 0) 4 rfl rfl rfl rfl ?_
  simp only [zp]
  refine st_end ?_
  subst hQ
  refine wp_seq ?_
  refine wp_block ?_
  refine wq fun Q hQ => ?_
  refine sm (.pointer none) 8 rfl rfl rfl rfl ?_
  simp only [zp]
  refine st_call (some 9) rfl rfl (closed_nil W1) (ex_call (f := 33) (vs := [(.pointer none)]) rfl (cf33 _) rfl) ?_
  rintro e W2 ⟨rfl, B⟩
  refine ⟨_, rfl, ?_⟩
  simp only [zp]
  replace E := below_next E B
  replace k21 := keep B k21
  refine sg (.bool true) 7 rfl rfl rfl rfl ?_
  simp only [zp]
  refine st_end ?_
  subst hQ
  refine wp_cond_true rfl ?_
  refine wq fun Q hQ => ?_
  refine sg (.int .i64 6) 4 rfl rfl rfl rfl ?_
  simp only [zp]
  refine st_end ?_
  subst hQ
  refine wp_ret ?_
  repeat (first | refine ret_out ?_ | refine ret_blk ?_)
  exact bodyPost_ret (results_tmp Try.results21 _ _ _) rfl ⟨rfl, E⟩
set_option maxHeartbeats 4000000 in
theorem rem_nil {ch fr : Int} (w : World) : Calls Try.prog 22 #[.pointer none, .int .i64 ch, .int .i64 fr] w fun e w' => e = .returned (.int .i64 6) ∧ Below w.heap.size w w' := by
  have E : Below w.heap.size w w := Below.refl _ _
  go_enter Try.func22, Try.ntmps22
  refine wq fun Q hQ => ?_
  refine sg (.int .i64 0) 6 rfl rfl rfl rfl ?_
  simp only [zp]
  refine st_end ?_
  subst hQ
  refine wq fun Q hQ => ?_
  refine sm (.pointer none) 10 rfl rfl rfl rfl ?_
  simp only [zp]
  refine sm (.int .i64 ch) 11 rfl rfl rfl rfl ?_
  simp only [zp]
  refine sm (.int .i64 fr) 12 rfl rfl rfl rfl ?_
  simp only [zp]
  refine st_call (some 13) rfl rfl (fnd_nil w) (ex_call (f := 61) (vs := [(.pointer none), (.int .i64 ch), (.int .i64 fr)]) rfl (cf61 _) rfl) ?_
  rintro e W1 ⟨rfl, B⟩
  refine ⟨_, rfl, ?_⟩
  simp only [zp]
  replace E := below_next E B
  refine sm (.tuple #[(.int .i64 0), (.int .i64 6)]) 9 rfl rfl rfl rfl ?_
  simp only [zp]
  refine sv (.int .i64 0) 14 rfl rfl (ex_ext rfl rfl rfl) ?_
  simp only [zp]
  refine sv (.int .i64 6) 15 rfl rfl (ex_ext rfl rfl rfl) ?_
  simp only [zp]
  refine sg (.int .i64 0) 7 rfl rfl rfl rfl ?_
  simp only [zp]
  refine sg (.int .i64 6) 8 rfl rfl rfl rfl ?_
  simp only [zp]
  refine st_end ?_
  subst hQ
  refine wp_seq ?_
  refine wq fun Q hQ => ?_
  refine sm (.int .i64 6) 16 rfl rfl rfl rfl ?_
  simp only [zp]
  refine sv (.bool true) 17 rfl rfl (ex_bin (u := (.int .i64 6)) (r := (.int .i64 0)) rfl rfl rfl (eg37 _ _ _ _ _ _) (neq37 _ (by decide))) ?_
  simp only [zp]
  refine st_end ?_
  subst hQ
  refine wp_cond_true rfl ?_
  refine wq fun Q hQ => ?_
  refine sm (.int .i64 6) 18 rfl rfl rfl rfl ?_
  simp only [zp]
  refine sg (.int .i64 6) 6 rfl rfl rfl rfl ?_
  simp only [zp]
  refine st_end ?_
  subst hQ
  refine wp_ret ?_
  repeat (first | refine ret_out ?_ | refine ret_blk ?_)
  exact bodyPost_ret (results_tmp Try.results22 _ _ _) rfl ⟨rfl, E⟩
set_option maxHeartbeats 4000000 in
theorem lrn_nil {ch fr a t : Int} {gd : Bool} (w : World) : Calls Try.prog 23 #[.pointer none, .int .i64 ch, .int .i64 fr, .int .i64 a, .int .i64 t, .bool gd] w fun e w' => e = .returned (.int .i64 6) ∧ Below w.heap.size w w' := by
  have E : Below w.heap.size w w := Below.refl _ _
  go_enter Try.func23, Try.ntmps23
  refine wq fun Q hQ => ?_
  refine sg (.int .i64 0) 12 rfl rfl rfl rfl ?_
  simp only [zp]
  refine st_end ?_
  subst hQ
  refine wq fun Q hQ => ?_
  refine sm (.pointer none) 16 rfl rfl rfl rfl ?_
  simp only [zp]
  refine sm (.int .i64 ch) 17 rfl rfl rfl rfl ?_
  simp only [zp]
  refine sm (.int .i64 fr) 18 rfl rfl rfl rfl ?_
  simp only [zp]
  refine st_call (some 19) rfl rfl (fnd_nil w) (ex_call (f := 61) (vs := [(.pointer none), (.int .i64 ch), (.int .i64 fr)]) rfl (cf61 _) rfl) ?_
  rintro e W1 ⟨rfl, B⟩
  refine ⟨_, rfl, ?_⟩
  simp only [zp]
  replace E := below_next E B
  refine sm (.tuple #[(.int .i64 0), (.int .i64 6)]) 15 rfl rfl rfl rfl ?_
  simp only [zp]
  refine sv (.int .i64 0) 20 rfl rfl (ex_ext rfl rfl rfl) ?_
  simp only [zp]
  refine sv (.int .i64 6) 21 rfl rfl (ex_ext rfl rfl rfl) ?_
  simp only [zp]
  refine sg (.int .i64 0) 13 rfl rfl rfl rfl ?_
  simp only [zp]
  refine sg (.int .i64 6) 14 rfl rfl rfl rfl ?_
  simp only [zp]
  refine st_end ?_
  subst hQ
  refine wp_seq ?_
  refine wq fun Q hQ => ?_
  refine sm (.int .i64 6) 22 rfl rfl rfl rfl ?_
  simp only [zp]
  refine sv (.bool true) 23 rfl rfl (ex_bin (u := (.int .i64 6)) (r := (.int .i64 0)) rfl rfl rfl (eg37 _ _ _ _ _ _) (neq37 _ (by decide))) ?_
  simp only [zp]
  refine st_end ?_
  subst hQ
  refine wp_cond_true rfl ?_
  refine wq fun Q hQ => ?_
  refine sm (.int .i64 6) 24 rfl rfl rfl rfl ?_
  simp only [zp]
  refine sg (.int .i64 6) 12 rfl rfl rfl rfl ?_
  simp only [zp]
  refine st_end ?_
  subst hQ
  refine wp_ret ?_
  repeat (first | refine ret_out ?_ | refine ret_blk ?_)
  exact bodyPost_ret (results_tmp Try.results23 _ _ _) rfl ⟨rfl, E⟩
set_option maxHeartbeats 4000000 in
theorem fork_nil (w : World) : Calls Try.prog 25 #[.pointer none] w fun e w' => e = .returned (.pointer none) ∧ Below w.heap.size w w' := by
  have E : Below w.heap.size w w := Below.refl _ _
  go_enter Try.func25, Try.ntmps25
  refine wq fun Q hQ => ?_
  refine sg (.pointer none) 2 rfl rfl rfl rfl ?_
  simp only [zp]
  refine st_end ?_
  subst hQ
  refine wp_seq ?_
  refine wq fun Q hQ => ?_
  refine sm (.pointer none) 3 rfl rfl rfl rfl ?_
  simp only [zp]
  refine st_call (some 4) rfl rfl (closed_nil w) (ex_call (f := 33) (vs := [(.pointer none)]) rfl (cf33 _) rfl) ?_
  rintro e W1 ⟨rfl, B⟩
  refine ⟨_, rfl, ?_⟩
  simp only [zp]
  replace E := below_next E B
  refine st_end ?_
  subst hQ
  refine wp_cond_true rfl ?_
  refine wq fun Q hQ => ?_
  refine sg (.pointer none) 2 rfl rfl rfl rfl ?_
  simp only [zp]
  refine st_end ?_
  subst hQ
  refine wp_ret ?_
  repeat (first | refine ret_out ?_ | refine ret_blk ?_)
  exact bodyPost_ret (results_tmp Try.results25 _ _ _) rfl ⟨rfl, E⟩
set_option maxHeartbeats 4000000 in
theorem frm_nil {x : Int} (w : World) : Calls Try.prog 60 #[.pointer none, .int .i64 x] w fun e w' => e = .returned (.slice none 0 0) ∧ Below w.heap.size w w' := by
  have E : Below w.heap.size w w := Below.refl _ _
  go_enter Try.func60, Try.ntmps60
  refine wq fun Q hQ => ?_
  refine sg (.slice none 0 0) 4 rfl rfl rfl rfl ?_
  simp only [zp]
  refine st_end ?_
  subst hQ
  refine wp_seq ?_
  refine wq fun Q hQ => ?_
  refine sm (.pointer none) 8 rfl rfl rfl rfl ?_
  simp only [zp]
  refine st_call (some 9) rfl rfl (closed_nil w) (ex_call (f := 33) (vs := [(.pointer none)]) rfl (cf33 _) rfl) ?_
  rintro e W1 ⟨rfl, B⟩
  refine ⟨_, rfl, ?_⟩
  simp only [zp]
  replace E := below_next E B
  refine st_end ?_
  subst hQ
  refine wp_cond_true rfl ?_
  refine wq fun Q hQ => ?_
  refine sg (.slice none 0 0) 4 rfl rfl rfl rfl ?_
  simp only [zp]
  refine st_end ?_
  subst hQ
  refine wp_ret ?_
  repeat (first | refine ret_out ?_ | refine ret_blk ?_)
  exact bodyPost_ret (results_tmp Try.results60 _ _ _) rfl ⟨rfl, E⟩
end Go.Proofs.Ytgnkcmmpbohafaa
