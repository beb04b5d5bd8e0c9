/- Policy: the walk of PolicyExpiries. -/
import Derived.Test.YtfbaidmnnkcaeaaPExR
namespace Go.Proofs.Ytfbaidmnnkcaeaa
open Go.RowKit
set_option linter.unusedVariables false
set_option linter.unusedSimpArgs false
set_option maxRecDepth 100000

/-- rules as cells, one by one -/
def rcell (q : RV) : Nat → Value
  | 0 => .int .i64 q.b
  | 1 => .int .i64 q.r
  | 2 => .int .i64 q.d
  | 3 => .int .i64 q.g
  | _ => .int .i64 q.f
theorem RL_at (q : RV) : ∀ j, j < 5 → (RL q).toList[j]? = some (rcell q j)
  | 0, _ => rfl
  | 1, _ => rfl
  | 2, _ => rfl
  | 3, _ => rfl
  | 4, _ => rfl
  | j + 5, h => by omega
def rlL (qs : Nat → RV) (n : Nat) : List Value := (List.range (n * 5)).map fun j => rcell (qs (j / 5)) (j % 5)
theorem rlL_length (qs : Nat → RV) (n : Nat) : (rlL qs n).length = n * 5 := by simp [rlL]
theorem rlL_at (qs : Nat → RV) (n i j : Nat) (hi : i < n) (hj : j < 5) : (rlL qs n)[i * 5 + j]? = some (rcell (qs i) j) := by
  unfold rlL
  rw [List.getElem?_map, List.getElem?_range (by omega)]
  simp [show (i * 5 + j) / 5 = i by omega, show (i * 5 + j) % 5 = j by omega]
theorem rlL_one (qs : Nat → RV) (n : Nat) : ∀ u ∈ rlL qs n, u.oneCell' = true := by
  intro u hu
  simp only [rlL, List.mem_map] at hu
  obtain ⟨j, _, rfl⟩ := hu
  unfold rcell
  split <;> rfl
theorem Try.info25 : (Try.prog.info? 25).map (fun i => (i.zero, i.size, i.bytes)) = some (some (.agg (RL R0)), 5, 40) := by kernel_rfl
theorem Rls.cell {w : World} {b off n : Nat} {qs : Nat → RV} (h : Rls w b off n qs) {i j : Nat} (hi : i < n) (hj : j < 5) : w.cell? ⟨b, off + i * 5 + j, none⟩ = some (rcell (qs i) j) := h i hi j _ (RL_at _ j hj)
/-- a copy of rules -/
theorem app_rls {W : World} {base g0 : Nat} {ao : Option Addr} {n c : Nat} {qs : Nat → RV} (h0 : Rw W base 25 5 g0 0 0 []) (hS : ao = none → n = 0 ∧ c = 0) (hR : n = 0 ∨ ∃ b off, ao = some ⟨b, off, none⟩ ∧ Rls W b off n qs) (hcap : n * 40 ≤ 140737488351232) (hbase : base ≤ W.heap.size) :
    ∃ g cp W', (Builtin.append_ #[35, 35] 35 #[.slice (some ⟨g0, 0, none⟩) 0 0, .slice ao n c]).run Try.prog W = .ok (.slice (some ⟨g, 0, none⟩) n cp) W' ∧ Rls W' g 0 n qs ∧ Kept (· = g0) W W' := by
  obtain ⟨i0, hi, hz0, hz1, hz2⟩ := info_parts Try.info25
  cases ao with
  | none =>
    obtain ⟨rfl, rfl⟩ := hS rfl
    exact ⟨g0, 0, W, run_append_owned_none (P := Try.prog) W base 35 35 25 i0 5 Try.underlying35 hi _ 0 [] h0, fun i hi => by omega, Kept.refl _ _⟩
  | some ad =>
    obtain ⟨v', w', hrun, hown, hg, hiff⟩ := run_append_own (P := Try.prog) W base 35 35 25 i0 (.agg (RL R0)) 5 40 Try.underlying35 hi hz0 hz1 hz2 rfl (by decide) _ 0 _ h0 ad n c (rlL qs n) (rlL_length ..) (fun j u hu => by
      have hj : j < n * 5 := by rw [← rlL_length qs]; exact (List.getElem?_eq_some_iff.1 hu).1
      rcases hR with h | ⟨b, off, e, h⟩
      · omega
      · cases e
        have e1 : j = (j / 5) * 5 + j % 5 := by omega
        obtain ⟨i, r, ei, hr, hir⟩ : ∃ i r, j = i * 5 + r ∧ r < 5 ∧ i < n := ⟨j / 5, j % 5, e1, by omega, by omega⟩
        clear e1 hj
        subst ei
        rw [rlL_at _ _ _ _ hir hr] at hu
        cases hu
        rw [addr_add, ← Nat.add_assoc]
        exact h.cell hir hr) (rlL_one _ _) (by unfold maxLen; omega) (by omega) hbase
    rw [Nat.zero_add, List.nil_append] at hown
    rcases hown.2 with ⟨hn, _⟩ | ⟨g', cp', cur, rfl, hb, r⟩
    · have := (hiff.1 hn).1
      cases this
    · refine ⟨g', cp', w', hrun, fun i hi j v hv => ?_, ?_⟩
      · have hj : j < 5 := (List.getElem?_eq_some_iff.1 hv).1
        rw [RL_at _ _ hj] at hv
        cases hv
        rw [Nat.zero_add]
        exact Rw.cell hown (rlL_at _ _ _ _ hi hj)
      · have := Kept.ofGrown hg
        exact ⟨this.os, this.tape, this.output, this.size, fun j hj hn => this.block j hj (fun e => hn (by simpa [Value.ownBlock, eq_comm] using e))⟩
theorem bs35_0 (W : World) : (Instr.buildSlice 35 0 #[]).run Try.prog W = .ok (.slice (some ⟨W.heap.size, 0, none⟩) 0 0) (W.alloc (.cells #[] 25)) := by go_simp
theorem no_rules {W : World} {g : Nat} {base : Nat} (k : W.heap[g]? = some (.cells #[] 25)) (hb : base ≤ g) : Rw W base 25 5 g 0 0 [] := Rw.ofBlock k rfl hb (by unfold maxLen; omega)
theorem kept_up {ao : Option Addr} {n : Nat} {qs : Nat → RV} {w W : World} (hR : n = 0 ∨ ∃ b off, ao = some ⟨b, off, none⟩ ∧ Rls w b off n qs) (E : Below w.heap.size w W) : n = 0 ∨ ∃ b off, ao = some ⟨b, off, none⟩ ∧ Rls W b off n qs :=
  hR.imp id fun ⟨b, off, e, h⟩ => ⟨b, off, e, h.below E⟩
set_option maxHeartbeats 8000000 in
theorem expl_no {ao : Option Addr} {n c : Nat} {qs : Nat → RV} {y : Int} (w : World) (hS : ao = none → n = 0 ∧ c = 0) (hR : n = 0 ∨ ∃ b off, ao = some ⟨b, off, none⟩ ∧ Rls w b off n qs) (hcap : n * 40 ≤ 140737488351232) (hqb : ∀ i, i < n → (qs i).b ≤ 9223372036854775807) (F : Int)
    (hA : ∀ (W : World) (g cp : Nat), Rls W g 0 n qs → Calls Try.prog 19 #[.slice (some ⟨g, 0, none⟩) n cp, .int .i64 y] W fun e w' => e = .returned (.tuple #[.slice none 0 0, .int .i64 F]) ∧ Below W.heap.size W w')
    (hB : ∀ W : World, Below w.heap.size w W → Calls Try.prog 20 #[.slice ao n c, .int .i64 y] W fun e w' => e = .returned (.tuple #[.slice none 0 0, .int .i64 F]) ∧ Below W.heap.size W w') :
    Calls Try.prog 5 #[.slice ao n c, .int .i64 y] w fun e w' => e = .returned (.bool true) ∧ Below w.heap.size w w' := by
  have E : Below w.heap.size w w := Below.refl _ _
  go_enter Try.func5, Try.ntmps5
  refine wq fun Q hQ => ?_
  refine sg (.bool false) 4 rfl rfl rfl rfl ?_
  simp only [zp]
  refine st_end ?_
  subst hQ
  refine wq fun Q hQ => ?_
  refine st_new (fun b => .slice (some ⟨b, 0, none⟩) 0 0) (some 11) rfl rfl (ex_bsl0  rfl (bs35_0 _)) ?_
  intro b1 W1 k1 g1 B
  simp only [zp]
  have ge_b1 := Nat.le_trans E.size g1
  replace E := below_next E B
  clear B
  refine sm (.slice ao n c) 12 rfl rfl rfl rfl ?_
  simp only [zp]
  obtain ⟨gc, cpc, W9, happ, HC, K⟩ := app_rls (no_rules k1 ge_b1) hS (kept_up hR E) hcap E.size
  refine st_to (v := .slice (some ⟨gc, 0, none⟩) n cpc) (some 13) rfl rfl (ex_app rfl rfl rfl happ) ?_
  simp only [zp]
  replace E := below_put E ge_b1 K
  clear k1 K happ
  refine sm (.int .i64 y) 14 rfl rfl rfl rfl ?_
  simp only [zp]
  refine st_call (some 15) rfl rfl (hA W9 gc cpc HC) (ex_call (f := 19) (vs := [(.slice (some ⟨gc, 0, none⟩) n cpc), (.int .i64 y)]) rfl (cf19 _) rfl) ?_
  rintro e W2 ⟨rfl, B⟩
  refine ⟨_, rfl, ?_⟩
  simp only [zp]
  replace E := below_next E B
  refine sm (.tuple #[(.slice none 0 0), (.int .i64 F)]) 10 rfl rfl rfl rfl ?_
  simp only [zp]
  refine sv (.slice none 0 0) 16 rfl rfl (ex_ext rfl rfl rfl) ?_
  simp only [zp]
  refine sv (.int .i64 F) 17 rfl rfl (ex_ext rfl rfl rfl) ?_
  simp only [zp]
  refine sg (.slice none 0 0) 5 rfl rfl rfl rfl ?_
  simp only [zp]
  refine sg (.int .i64 F) 6 rfl rfl rfl rfl ?_
  simp only [zp]
  refine st_end ?_
  subst hQ
  refine wq fun Q hQ => ?_
  refine sm (.slice ao n c) 19 rfl rfl rfl rfl ?_
  simp only [zp]
  refine sm (.int .i64 y) 20 rfl rfl rfl rfl ?_
  simp only [zp]
  refine st_call (some 21) rfl rfl (hB W2 E) (ex_call (f := 20) (vs := [(.slice ao n c), (.int .i64 y)]) rfl (cf20 _) rfl) ?_
  rintro e W3 ⟨rfl, B⟩
  refine ⟨_, rfl, ?_⟩
  simp only [zp]
  replace E := below_next E B
  refine sm (.tuple #[(.slice none 0 0), (.int .i64 F)]) 18 rfl rfl rfl rfl ?_
  simp only [zp]
  refine sv (.slice none 0 0) 22 rfl rfl (ex_ext rfl rfl rfl) ?_
  simp only [zp]
  refine sv (.int .i64 F) 23 rfl rfl (ex_ext rfl rfl rfl) ?_
  simp only [zp]
  refine sg (.slice none 0 0) 7 rfl rfl rfl rfl ?_
  simp only [zp]
  refine sg (.int .i64 F) 8 rfl rfl rfl rfl ?_
  simp only [zp]
  refine st_end ?_
  subst hQ
  refine wp_seq ?_
  refine wq fun Q hQ => ?_
  refine st_call (some 24) rfl rfl (lives_any W3) (ex_call (f := 8) (vs := []) rfl (cf8 _) rfl) ?_
  rintro e W4 ⟨rfl, B⟩
  refine ⟨_, rfl, ?_⟩
  simp only [zp]
  replace E := below_next E B
  refine sv (.bool false) 25 rfl rfl (ex_not rfl rfl rfl) ?_
  simp only [zp]
  refine sm (.bool false) 26 rfl rfl rfl rfl ?_
  simp only [zp]
  refine sm (.int .i64 F) 27 rfl rfl rfl rfl ?_
  simp only [zp]
  refine sm (.int .i64 F) 28 rfl rfl rfl rfl ?_
  simp only [zp]
  refine sv (.bool false) 29 rfl rfl (ex_bin (u := (.int .i64 F)) (r := (.int .i64 F)) rfl rfl rfl (eg37 _ _ _ _ _ _) (neq37 _ (decide_eq_false (fun h => h rfl)))) ?_
  simp only [zp]
  refine sv (.bool false) 30 rfl rfl (ex_pkF rfl rfl rfl) ?_
  simp only [zp]
  refine sm (.bool false) 31 rfl rfl rfl rfl ?_
  simp only [zp]
  refine sm (.slice none 0 0) 32 rfl rfl rfl rfl ?_
  simp only [zp]
  refine sv (.int .i64 (0 : Nat)) 33 rfl rfl (ex_len rfl rfl (len36 _ _ _ _ _)) ?_
  simp only [zp]
  refine sm (.slice none 0 0) 34 rfl rfl rfl rfl ?_
  simp only [zp]
  refine sv (.int .i64 (0 : Nat)) 35 rfl rfl (ex_len rfl rfl (len36 _ _ _ _ _)) ?_
  simp only [zp]
  refine sv (.bool false) 36 rfl rfl (ex_bin (u := (.int .i64 (0 : Nat))) (r := (.int .i64 (0 : Nat))) rfl rfl rfl (eg3 _ _ _ _ _ _) (neq3 _ (decide_eq_false (fun h => h rfl)))) ?_
  simp only [zp]
  refine sv (.bool false) 37 rfl rfl (ex_pkF rfl rfl rfl) ?_
  simp only [zp]
  refine st_end ?_
  subst hQ
  refine wp_cond_false rfl ?_
  refine wp_skip ?_
  refine wp_seq ?_
  refine wq fun Q hQ => ?_
  refine sg (.int .i64 0) 9 rfl rfl rfl rfl ?_
  simp only [zp]
  refine st_end ?_
  subst hQ
  refine wp_block ?_
  go_loopw [9] (fun v9 wr => ∃ i : Nat, i ≤ 0 ∧ v9 = .int .i64 i ∧ Below w.heap.size w wr) (fun v9 _ => 0 - (intOf v9).toNat)
  case atStart => exact ⟨0, Nat.zero_le _, rfl, E⟩
  case round =>
    obtain ⟨i, hi, rfl, E⟩ := hrel
    refine wp_seq ?_
    refine wq fun Q hQ => ?_
    refine sm (.int .i64 (i : Nat)) 38 rfl rfl rfl rfl ?_
    simp only [zp]
    refine sm (.slice none 0 0) 39 rfl rfl rfl rfl ?_
    simp only [zp]
    refine sv (.int .i64 (0 : Nat)) 40 rfl rfl (ex_len rfl rfl (len36 _ _ _ _ _)) ?_
    simp only [zp]
    refine sv (.bool false) 41 rfl rfl (ex_bin (u := (.int .i64 (i : Nat))) (r := (.int .i64 (0 : Nat))) rfl rfl rfl (eg3 _ _ _ _ _ _) (lss3 _ (decide_eq_false (by omega)))) ?_
    simp only [zp]
    refine st_end ?_
    subst hQ
    refine wp_cond_false rfl ?_
    refine wp_exit ?_
    refine ex_then ?_
    refine ex_then ?_
    refine ex_blk ?_
    refine wq fun Q hQ => ?_
    refine sg (.bool true) 4 rfl rfl rfl rfl ?_
    simp only [zp]
    refine st_end ?_
    subst hQ
    refine wp_ret ?_
    repeat (first | refine ret_out ?_ | refine ret_blk ?_)
    exact bodyPost_ret (results_tmp Try.results5 _ _ _) rfl ⟨rfl, E⟩
set_option maxHeartbeats 8000000 in
theorem expl_ok {ao : Option Addr} {n c : Nat} {qs : Nat → RV} {y : Int} (w : World) (hS : ao = none → n = 0 ∧ c = 0) (hR : n = 0 ∨ ∃ b off, ao = some ⟨b, off, none⟩ ∧ Rls w b off n qs) (hcap : n * 40 ≤ 140737488351232) (hqb : ∀ i, i < n → (qs i).b ≤ 9223372036854775807) (z : Nat → Int)
    (hA : ∀ (W : World) (g cp : Nat), Rls W g 0 n qs → Calls Try.prog 19 #[.slice (some ⟨g, 0, none⟩) n cp, .int .i64 y] W fun e w' => ∃ g, e = .returned (.tuple #[.slice (some ⟨g, 0, none⟩) (n + 1) (n + 1), .int .i64 0]) ∧ RowX w' W.heap.size g n z ∧ Below W.heap.size W w')
    (hB : ∀ W : World, Below w.heap.size w W → Calls Try.prog 20 #[.slice ao n c, .int .i64 y] W fun e w' => ∃ g cp, e = .returned (.tuple #[.slice (some ⟨g, 0, none⟩) (n + 1) cp, .int .i64 0]) ∧ RowX w' W.heap.size g n z ∧ Below W.heap.size W w') :
    Calls Try.prog 5 #[.slice ao n c, .int .i64 y] w fun e w' => e = .returned (.bool true) ∧ Below w.heap.size w w' := by
  have E : Below w.heap.size w w := Below.refl _ _
  go_enter Try.func5, Try.ntmps5
  refine wq fun Q hQ => ?_
  refine sg (.bool false) 4 rfl rfl rfl rfl ?_
  simp only [zp]
  refine st_end ?_
  subst hQ
  refine wq fun Q hQ => ?_
  refine st_new (fun b => .slice (some ⟨b, 0, none⟩) 0 0) (some 11) rfl rfl (ex_bsl0  rfl (bs35_0 _)) ?_
  intro b1 W1 k1 g1 B
  simp only [zp]
  have ge_b1 := Nat.le_trans E.size g1
  replace E := below_next E B
  clear B
  refine sm (.slice ao n c) 12 rfl rfl rfl rfl ?_
  simp only [zp]
  obtain ⟨gc, cpc, W9, happ, HC, K⟩ := app_rls (no_rules k1 ge_b1) hS (kept_up hR E) hcap E.size
  refine st_to (v := .slice (some ⟨gc, 0, none⟩) n cpc) (some 13) rfl rfl (ex_app rfl rfl rfl happ) ?_
  simp only [zp]
  replace E := below_put E ge_b1 K
  clear k1 K happ
  refine sm (.int .i64 y) 14 rfl rfl rfl rfl ?_
  simp only [zp]
  refine st_call (some 15) rfl rfl (hA W9 gc cpc HC) (ex_call (f := 19) (vs := [(.slice (some ⟨gc, 0, none⟩) n cpc), (.int .i64 y)]) rfl (cf19 _) rfl) ?_
  rintro e W2 ⟨ga, rfl, Ra, B⟩
  refine ⟨_, rfl, ?_⟩
  simp only [zp]
  replace E := below_next E B
  refine sm (.tuple #[(.slice (some ⟨ga, 0, none⟩) (n + 1) (n + 1)), (.int .i64 0)]) 10 rfl rfl rfl rfl ?_
  simp only [zp]
  refine sv (.slice (some ⟨ga, 0, none⟩) (n + 1) (n + 1)) 16 rfl rfl (ex_ext rfl rfl rfl) ?_
  simp only [zp]
  refine sv (.int .i64 0) 17 rfl rfl (ex_ext rfl rfl rfl) ?_
  simp only [zp]
  refine sg (.slice (some ⟨ga, 0, none⟩) (n + 1) (n + 1)) 5 rfl rfl rfl rfl ?_
  simp only [zp]
  refine sg (.int .i64 0) 6 rfl rfl rfl rfl ?_
  simp only [zp]
  refine st_end ?_
  subst hQ
  refine wq fun Q hQ => ?_
  refine sm (.slice ao n c) 19 rfl rfl rfl rfl ?_
  simp only [zp]
  refine sm (.int .i64 y) 20 rfl rfl rfl rfl ?_
  simp only [zp]
  refine st_call (some 21) rfl rfl (hB W2 E) (ex_call (f := 20) (vs := [(.slice ao n c), (.int .i64 y)]) rfl (cf20 _) rfl) ?_
  rintro e W3 ⟨gb, cpb, rfl, Rb, B⟩
  refine ⟨_, rfl, ?_⟩
  simp only [zp]
  replace E := below_next E B
  replace Ra := Ra.below B
  refine sm (.tuple #[(.slice (some ⟨gb, 0, none⟩) (n + 1) cpb), (.int .i64 0)]) 18 rfl rfl rfl rfl ?_
  simp only [zp]
  refine sv (.slice (some ⟨gb, 0, none⟩) (n + 1) cpb) 22 rfl rfl (ex_ext rfl rfl rfl) ?_
  simp only [zp]
  refine sv (.int .i64 0) 23 rfl rfl (ex_ext rfl rfl rfl) ?_
  simp only [zp]
  refine sg (.slice (some ⟨gb, 0, none⟩) (n + 1) cpb) 7 rfl rfl rfl rfl ?_
  simp only [zp]
  refine sg (.int .i64 0) 8 rfl rfl rfl rfl ?_
  simp only [zp]
  refine st_end ?_
  subst hQ
  refine wp_seq ?_
  refine wq fun Q hQ => ?_
  refine st_call (some 24) rfl rfl (lives_any W3) (ex_call (f := 8) (vs := []) rfl (cf8 _) rfl) ?_
  rintro e W4 ⟨rfl, B⟩
  refine ⟨_, rfl, ?_⟩
  simp only [zp]
  replace E := below_next E B
  replace Ra := Ra.below B
  replace Rb := Rb.below B
  refine sv (.bool false) 25 rfl rfl (ex_not rfl rfl rfl) ?_
  simp only [zp]
  refine sm (.bool false) 26 rfl rfl rfl rfl ?_
  simp only [zp]
  refine sm (.int .i64 0) 27 rfl rfl rfl rfl ?_
  simp only [zp]
  refine sm (.int .i64 0) 28 rfl rfl rfl rfl ?_
  simp only [zp]
  refine sv (.bool false) 29 rfl rfl (ex_bin (u := (.int .i64 0)) (r := (.int .i64 0)) rfl rfl rfl (eg37 _ _ _ _ _ _) (neq37 _ (decide_eq_false (fun h => h rfl)))) ?_
  simp only [zp]
  refine sv (.bool false) 30 rfl rfl (ex_pkF rfl rfl rfl) ?_
  simp only [zp]
  refine sm (.bool false) 31 rfl rfl rfl rfl ?_
  simp only [zp]
  refine sm (.slice (some ⟨ga, 0, none⟩) (n + 1) (n + 1)) 32 rfl rfl rfl rfl ?_
  simp only [zp]
  refine sv (.int .i64 ((n + 1) : Nat)) 33 rfl rfl (ex_len rfl rfl (len36 _ _ _ _ _)) ?_
  simp only [zp]
  refine sm (.slice (some ⟨gb, 0, none⟩) (n + 1) cpb) 34 rfl rfl rfl rfl ?_
  simp only [zp]
  refine sv (.int .i64 ((n + 1) : Nat)) 35 rfl rfl (ex_len rfl rfl (len36 _ _ _ _ _)) ?_
  simp only [zp]
  refine sv (.bool false) 36 rfl rfl (ex_bin (u := (.int .i64 ((n + 1) : Nat))) (r := (.int .i64 ((n + 1) : Nat))) rfl rfl rfl (eg3 _ _ _ _ _ _) (neq3 _ (decide_eq_false (fun h => h rfl)))) ?_
  simp only [zp]
  refine sv (.bool false) 37 rfl rfl (ex_pkF rfl rfl rfl) ?_
  simp only [zp]
  refine st_end ?_
  subst hQ
  refine wp_cond_false rfl ?_
  refine wp_skip ?_
  refine wp_seq ?_
  refine wq fun Q hQ => ?_
  refine sg (.int .i64 0) 9 rfl rfl rfl rfl ?_
  simp only [zp]
  refine st_end ?_
  subst hQ
  refine wp_block ?_
  go_loopw [9] (fun v9 wr => ∃ i : Nat, i ≤ n + 1 ∧ v9 = .int .i64 i ∧ Below w.heap.size w wr ∧ RowX wr 0 ga n z ∧ RowX wr 0 gb n z) (fun v9 _ => n + 1 - (intOf v9).toNat)
  case atStart => exact ⟨0, Nat.zero_le _, rfl, E, ⟨Nat.zero_le _, Ra.2⟩, ⟨Nat.zero_le _, Rb.2⟩⟩
  case round =>
    obtain ⟨i, hi, rfl, E, Ra, Rb⟩ := hrel
    by_cases hlt : i < n + 1
    · skip
      refine wp_seq ?_
      refine wq fun Q hQ => ?_
      refine sm (.int .i64 (i : Nat)) 38 rfl rfl rfl rfl ?_
      simp only [zp]
      refine sm (.slice (some ⟨ga, 0, none⟩) (n + 1) (n + 1)) 39 rfl rfl rfl rfl ?_
      simp only [zp]
      refine sv (.int .i64 ((n + 1) : Nat)) 40 rfl rfl (ex_len rfl rfl (len36 _ _ _ _ _)) ?_
      simp only [zp]
      refine sv (.bool true) 41 rfl rfl (ex_bin (u := (.int .i64 (i : Nat))) (r := (.int .i64 ((n + 1) : Nat))) rfl rfl rfl (eg3 _ _ _ _ _ _) (lss3 _ (decide_eq_true (by omega)))) ?_
      simp only [zp]
      refine st_end ?_
      subst hQ
      refine wp_cond_true rfl ?_
      refine wp_skip ?_
      refine wp_seq ?_
      refine wp_block ?_
      refine wp_seq ?_
      obtain ⟨W5, hwd⟩ : ∃ wd, wr.drew = wd := ⟨_, rfl⟩
      refine wp_region_held (S := fun W => Kept Nil W5 W) (by kernel_rfl) ?_
      show wpAnyH _ _ _ _ _ _ _ _ wr.drew
      rw [hwd]
      refine capQ fun Q hQ => ?_
      have hQP : ∀ c (a : Act) (d : Nat) v w, Q (.panic c) (a.put (some d) v) w → Q (.panic c) a w := by
        subst hQ
        exact fun _ _ _ _ _ h => h
      have BD : Below wr.heap.size wr W5 := by rw [← hwd]; exact below_drewB (Below.refl _ _)
      clear hwd
      replace E := below_next E BD
      replace Ra := Ra.below BD
      replace Rb := Rb.below BD
      clear BD
      have S : Kept Nil W5 W5 := Kept.refl _ _
      have d_Ra := Ra
      have d_Rb := Rb
      have ha := Ra.2 i (by omega)
      have hb := Rb.2 i (by omega)
      refine ah_take (v := (.slice (some ⟨ga, 0, none⟩) (n + 1) (n + 1))) (i := 0) (some 44) rfl rfl (by kernel_rfl) (by kernel_rfl) (by kernel_rfl) rfl (fun W hK => ex_mv rfl rfl) S (fun c a w h => hQP c a _ _ w h) ?_
      simp only [zp]
      refine ah_take (v := (.int .i64 (i : Nat))) (i := 1) (some 45) rfl rfl (by kernel_rfl) (by kernel_rfl) (by kernel_rfl) rfl (fun W hK => ex_mv rfl rfl) S (fun c a w h => hQP c a _ _ w h) ?_
      simp only [zp]
      refine ah_take (v := (.pointer (some ⟨ga, i, none⟩))) (i := 2) (some 46) rfl rfl (by kernel_rfl) (by kernel_rfl) (by kernel_rfl) rfl (fun W hK => ex_ix36 (k := i) rfl rfl rfl rfl hlt) S (fun c a w h => hQP c a _ _ w h) ?_
      simp only [zp]
      refine ah_take (v := (.int .i64 (z i))) (i := 3) (some 47) rfl rfl (by kernel_rfl) (by kernel_rfl) (by kernel_rfl) rfl (fun W hK => ex_load rfl rfl (ld3 (cell_kept hK ha (nilN _)))) S (fun c a w h => hQP c a _ _ w h) ?_
      simp only [zp]
      refine ah_take (v := (.slice (some ⟨gb, 0, none⟩) (n + 1) cpb)) (i := 4) (some 48) rfl rfl (by kernel_rfl) (by kernel_rfl) (by kernel_rfl) rfl (fun W hK => ex_mv rfl rfl) S (fun c a w h => hQP c a _ _ w h) ?_
      simp only [zp]
      refine ah_take (v := (.int .i64 (i : Nat))) (i := 5) (some 49) rfl rfl (by kernel_rfl) (by kernel_rfl) (by kernel_rfl) rfl (fun W hK => ex_mv rfl rfl) S (fun c a w h => hQP c a _ _ w h) ?_
      simp only [zp]
      refine ah_take (v := (.pointer (some ⟨gb, i, none⟩))) (i := 6) (some 50) rfl rfl (by kernel_rfl) (by kernel_rfl) (by kernel_rfl) rfl (fun W hK => ex_ix36 (k := i) rfl rfl rfl rfl hlt) S (fun c a w h => hQP c a _ _ w h) ?_
      simp only [zp]
      refine ah_take (v := (.int .i64 (z i))) (i := 7) (some 51) rfl rfl (by kernel_rfl) (by kernel_rfl) (by kernel_rfl) rfl (fun W hK => ex_load rfl rfl (ld3 (cell_kept hK hb (nilN _)))) S (fun c a w h => hQP c a _ _ w h) ?_
      simp only [zp]
      refine ah_take (v := (.bool false)) (i := 8) (some 52) rfl rfl (by kernel_rfl) (by kernel_rfl) (by kernel_rfl) rfl (fun W hK => ex_bin (u := (.int .i64 (z i))) (r := (.int .i64 (z i))) rfl rfl rfl (eg3 _ _ _ _ _ _) (neq3 _ (decide_eq_false (fun h => h rfl)))) S (fun c a w h => hQP c a _ _ w h) ?_
      simp only [zp]
      refine ah_done (by kernel_rfl) ?_
      clear hQP
      subst hQ
      clear S  d_Ra d_Rb
      refine wp_cond_false rfl ?_
      refine wp_skip ?_
      refine wl_in (wl_cap fun Q hQ => ?_)
      refine sm (.int .i64 (i : Nat)) 42 rfl rfl rfl rfl ?_
      simp only [zp]
      refine sv (.int .i64 ((i + 1 : Nat) : Int)) 43 rfl rfl (ex_bin rfl rfl rfl (eg3 _ _ _ _ _ _) (add3 _ (by omega) (by omega))) ?_
      simp only [zp]
      refine sg (.int .i64 ((i + 1 : Nat) : Int)) 9 rfl rfl rfl rfl ?_
      simp only [zp]
      refine st_end ?_
      subst hQ
      refine then_go ?_
      go_roundw
      case rel => exact ⟨i + 1, by omega, rfl, E, Ra, Rb⟩
      case measure => simp [intOf]; omega
    · skip
      refine wp_seq ?_
      refine wq fun Q hQ => ?_
      refine sm (.int .i64 (i : Nat)) 38 rfl rfl rfl rfl ?_
      simp only [zp]
      refine sm (.slice (some ⟨ga, 0, none⟩) (n + 1) (n + 1)) 39 rfl rfl rfl rfl ?_
      simp only [zp]
      refine sv (.int .i64 ((n + 1) : Nat)) 40 rfl rfl (ex_len rfl rfl (len36 _ _ _ _ _)) ?_
      simp only [zp]
      refine sv (.bool false) 41 rfl rfl (ex_bin (u := (.int .i64 (i : Nat))) (r := (.int .i64 ((n + 1) : Nat))) rfl rfl rfl (eg3 _ _ _ _ _ _) (lss3 _ (decide_eq_false (by omega)))) ?_
      simp only [zp]
      refine st_end ?_
      subst hQ
      refine wp_cond_false rfl ?_
      refine wp_exit ?_
      refine ex_then ?_
      refine ex_then ?_
      refine ex_blk ?_
      refine wq fun Q hQ => ?_
      refine sg (.bool true) 4 rfl rfl rfl rfl ?_
      simp only [zp]
      refine st_end ?_
      subst hQ
      refine wp_ret ?_
      repeat (first | refine ret_out ?_ | refine ret_blk ?_)
      exact bodyPost_ret (results_tmp Try.results5 _ _ _) rfl ⟨rfl, E⟩
theorem first_not {p : Nat → Bool} : ∀ {len : Nat}, (∀ k, k < len → p k = true) ∨ ∃ k0, k0 < len ∧ p k0 = false ∧ ∀ k, k < k0 → p k = true
  | 0 => .inl fun k hk => absurd hk (Nat.not_lt_zero _)
  | n + 1 => by
    rcases first_not (p := p) (len := n) with h | ⟨k0, h1, h2, h3⟩
    · cases e : p n with
      | true =>
        refine .inl fun k hk => ?_
        by_cases ek : k = n
        · rw [ek]; exact e
        · exact h k (by omega)
      | false => exact .inr ⟨n, by omega, e, h⟩
    · exact .inr ⟨k0, by omega, h2, h3⟩
/-- how the expiries of a way come out -/
theorem exp_cases (qs : Nat → RV) (n : Nat) (y : Int) : (∃ k0, k0 < n ∧ (∀ i, i < k0 → mayR (qs i) = true) ∧ mayR (qs k0) = false) ∨ ((∀ i, i < n → mayR (qs i) = true) ∧ (okH y = false ∨ (∃ m0, m0 < n ∧ (∀ j, j ≤ m0 → okH (ev qs n y j) = true) ∧ okH (ev qs n y (m0 + 1)) = false) ∨ ∀ j, j ≤ n → okH (ev qs n y j) = true)) := by
  rcases first_not (p := fun i => mayR (qs i)) (len := n) with hG | ⟨k0, h1, h2, h3⟩
  · refine .inr ⟨hG, ?_⟩
    rcases first_not (p := fun j => okH (ev qs n y j)) (len := n + 1) with h | ⟨k0, h1, h2, h3⟩
    · exact .inr (.inr fun j hj => h j (by omega))
    · cases k0 with
      | zero => exact .inl h2
      | succ m0 => exact .inr (.inl ⟨m0, by omega, fun j hj => h3 j (by omega), h2⟩)
  · exact .inl ⟨k0, h1, h3, h2⟩
theorem expiries_any {ao : Option Addr} {n c : Nat} {y : Int} (w : World) (h : IsRules w ao n c) :
    Calls Try.prog 5 #[.slice ao n c, .int .i64 y] w fun e w' => e = .returned (.bool true) ∧ Below w.heap.size w w' := by
  obtain ⟨hcap, hnc, hS, qs, hR, hqb⟩ := h
  have here : ∀ {W : World} {g : Nat}, Rls W g 0 n qs → n = 0 ∨ ∃ b off, some (⟨g, 0, none⟩ : Addr) = some ⟨b, off, none⟩ ∧ Rls W b off n qs := fun h => .inr ⟨_, 0, rfl, h⟩
  rcases exp_cases qs n y with ⟨k0, h1, h2, h3⟩ | ⟨hG, hy | ⟨m0, h1, h2, h3⟩ | hO⟩
  · refine expl_no w hS hR hcap hqb 1 (fun W g cp HC => exp_bad W (here HC) hcap hqb k0 h1 h2 h3) (fun W B => ?_)
    cases hy : okH y with
    | true => exact rexp_bad W (kept_up hR B) hcap hqb hy k0 h1 h2 h3
    | false => exact rexp_last W (kept_up hR B) hcap hqb hy
  · exact expl_no w hS hR hcap hqb 1 (fun W g cp HC => exp_last W (here HC) hcap hqb hG hy) (fun W B => rexp_last W (kept_up hR B) hcap hqb hy)
  · exact expl_no w hS hR hcap hqb 20 (fun W g cp HC => exp_over W (here HC) hcap hqb hG m0 h1 h2 h3) (fun W B => rexp_over W (kept_up hR B) hcap hqb hG m0 h1 h2 h3)
  · exact expl_ok w hS hR hcap hqb _ (fun W g cp HC => exp_ok W (here HC) hcap hqb hG hO) (fun W B => rexp_ok W (kept_up hR B) hcap hqb hG hO)
end Go.Proofs.Ytfbaidmnnkcaeaa
