/- Policy: the expiries of a way, by the document. -/
import Derived.Test.YtfbaidmnnkcaeaaPExp
namespace Go.Proofs.Ytfbaidmnnkcaeaa
open Go.RowKit
set_option linter.unusedVariables false
set_option linter.unusedSimpArgs false
set_option maxRecDepth 100000

/-- a row of one's own -/
def Rw (W : World) (base T sz g n cap : Nat) (xs : List Value) : Prop := W.ownsRow base T sz (.slice (some ⟨g, 0, none⟩) n cap) n xs
section
variable {W W' : World} {base T sz g n cap : Nat} {xs : List Value}
theorem Rw.block (h : Rw W base T sz g n cap xs) : ∃ cur : Array Value, W.heap[g]? = some (.cells cur T) ∧ base ≤ g ∧ cur.toList.take (n * sz) = xs ∧ cur.size = cap * sz ∧ n ≤ cap ∧ cap ≤ maxLen := by
  rcases h.2 with ⟨e, _⟩ | ⟨g', cap', cur, e, hb, hh, h1, h2, h3, h4⟩
  · cases e
  · cases e
    exact ⟨cur, hh, hb, h4, h3, h1, h2⟩
theorem Rw.lt (h : Rw W base T sz g n cap xs) : g < W.heap.size := by obtain ⟨cur, hh, _⟩ := h.block; exact lt_of hh
theorem Rw.ge (h : Rw W base T sz g n cap xs) : base ≤ g := by obtain ⟨cur, hh, hb, _⟩ := h.block; exact hb
/-- blocks of another type are others -/
theorem Rw.ne (h : Rw W base T sz g n cap xs) {b U : Nat} {C : Array Value} (k : W.heap[b]? = some (.cells C U)) (hU : T ≠ U) : g ≠ b := fun e => by
  obtain ⟨cur, hh, _⟩ := h.block
  rw [e, k] at hh
  cases hh
  exact hU rfl
theorem Rw.keep (h : Rw W base T sz g n cap xs) (hB : Below W.heap.size W W') : Rw W' base T sz g n cap xs := by
  refine ⟨h.1, ?_⟩
  rcases h.2 with e | ⟨g', cap', cur, e, hb, hh, r⟩
  · exact .inl e
  · exact .inr ⟨g', cap', cur, e, hb, Proofs.Ytfbaidmnnkcaeaa.keep hB hh, r⟩
theorem Rw.keepK {F : Nat → Prop} (h : Rw W base T sz g n cap xs) (hB : Kept F W W') (hn : ¬ F g) : Rw W' base T sz g n cap xs := by
  refine ⟨h.1, ?_⟩
  rcases h.2 with e | ⟨g', cap', cur, e, hb, hh, r⟩
  · exact .inl e
  · cases e
    exact .inr ⟨g, cap, cur, rfl, hb, Proofs.Ytfbaidmnnkcaeaa.keepK hB hh hn, r⟩
theorem Rw.cell (h : Rw W base T sz g n cap xs) {j : Nat} {u : Value} (hu : xs[j]? = some u) : W.cell? ⟨g, j, none⟩ = some u := by
  have := World.ownsRow.cells h (g := g) rfl j u hu
  rw [Addr.add_mid, Nat.zero_add] at this
  exact this
theorem Rw.length (h : Rw W base T sz g n cap xs) : xs.length = n * sz := h.1
theorem Rw.ofBlock {b : Nat} {C : Array Value} (k : W.heap[b]? = some (.cells C T)) (hs : C.size = n * sz) (hb : base ≤ b) (hm : n ≤ maxLen) : Rw W base T sz b n n C.toList :=
  ⟨by simpa using hs, .inr ⟨b, n, C, rfl, hb, k, Nat.le_refl _, hm, hs, by rw [List.take_of_length_le (by rw [Array.length_toList, hs]; exact Nat.le_refl _)]⟩⟩
end
theorem okH_no {x : Int} (h : okH x = false) (h0 : 0 ≤ x) : 2147483647 < x := by
  unfold okH at h
  simp [h0] at h
  omega
theorem app_two {W : World} {base g1 g k cp : Nat} {x : Int} {L : List Int} (h1 : Rw W base 3 1 g1 1 1 (I64 [x])) (h2 : Rw W base 3 1 g k cp (I64 L)) (hk : (k + 1) * 8 ≤ 140737488355328) (hbase : base ≤ W.heap.size) :
    ∃ g' cp' W', (Builtin.append_ #[36, 36] 36 #[.slice (some ⟨g1, 0, none⟩) 1 1, .slice (some ⟨g, 0, none⟩) k cp]).run Try.prog W = .ok (.slice (some ⟨g', 0, none⟩) (k + 1) cp') W' ∧ Rw W' base 3 1 g' (k + 1) cp' (I64 (x :: L)) ∧ Kept (· = g1) W W' := by
  obtain ⟨i0, hi, hz0, hz1, hz2⟩ := info_parts Try.info3
  obtain ⟨v', w', hrun, hown, hg, hiff⟩ := run_append_own (P := Try.prog) W base 36 36 3 i0 (.int .i64 0) 1 8 Try.underlying36 hi hz0 hz1 hz2 rfl (by decide) _ 1 _ h1 ⟨g, 0, none⟩ k cp (I64 L) h2.1 (fun j u hu => by rw [addr_add, Nat.zero_add]; exact h2.cell hu) (one_i64 _) (by unfold maxLen; omega) (by omega) hbase
  have hlt := hown.lt
  rcases hown.2 with ⟨hn, _⟩ | ⟨g', cp', cur, rfl, hb, r⟩
  · have := (hiff.1 hn).1
    cases this
  · refine ⟨g', cp', w', ?_, ?_, ?_⟩
    · rw [hrun, Nat.add_comm 1 k]
    · rw [Nat.add_comm 1 k] at hown
      exact hown
    · have := Kept.ofGrown hg
      exact ⟨this.os, this.tape, this.output, this.size, fun j hj hn => this.block j hj (fun e => hn (by simpa [Value.ownBlock, eq_comm] using e))⟩
theorem bs36_1 (x : Int) (W : World) : (Instr.buildSlice 36 1 #[(0, .int .i64 x)]).run Try.prog W = .ok (.slice (some ⟨W.heap.size, 0, none⟩) 1 1) (W.alloc (.cells #[.int .i64 x] 3)) :=
  bslice W 36 3 1 _ _ (.int .i64 0) 1 Try.underlying36 (by kernel_rfl) (by decide) (by decide) (by kernel_rfl)
set_option maxHeartbeats 8000000 in
theorem rexp_last {ao : Option Addr} {n c : Nat} {qs : Nat → RV} {y : Int} (w : World) (hR : n = 0 ∨ ∃ b off, ao = some ⟨b, off, none⟩ ∧ Rls w b off n qs) (hcap : n * 40 ≤ 140737488351232) (hqb : ∀ i, i < n → (qs i).b ≤ 9223372036854775807) (hy : okH y = false) :
    Calls Try.prog 20 #[.slice ao n c, .int .i64 y] w fun e w' => e = .returned (.tuple #[.slice none 0 0, .int .i64 1]) ∧ Below w.heap.size w w' := by
  by_cases e0 : y < 0
  · skip
    have E : Below w.heap.size w w := Below.refl _ _
    go_enter Try.func20, Try.ntmps20
    refine wq fun Q hQ => ?_
    refine sg (.slice none 0 0) 4 rfl rfl rfl rfl ?_
    simp only [zp]
    refine sg (.int .i64 0) 5 rfl rfl rfl rfl ?_
    simp only [zp]
    refine st_end ?_
    subst hQ
    refine wp_seq ?_
    refine wq fun Q hQ => ?_
    refine sm (.int .i64 y) 10 rfl rfl rfl rfl ?_
    simp only [zp]
    refine sv (.bool true) 11 rfl rfl (ex_bin (u := (.int .i64 y)) (r := (.int .i64 0)) rfl rfl rfl (eg3 _ _ _ _ _ _) (lss3 _ (decide_eq_true (by omega)))) ?_
    simp only [zp]
    refine sm (.bool true) 12 rfl rfl rfl rfl ?_
    simp only [zp]
    refine sn 13 rfl rfl ?_
    simp only [zp]
    refine sn 14 rfl rfl ?_
    simp only [zp]
    refine sv (.bool true) 15 rfl rfl (ex_pkT rfl rfl rfl) ?_
    simp only [zp]
    refine st_end ?_
    subst hQ
    refine wp_cond_true rfl ?_
    refine wq fun Q hQ => ?_
    refine sg (.slice none 0 0) 4 rfl rfl rfl rfl ?_
    simp only [zp]
    refine sg (.int .i64 1) 5 rfl rfl rfl rfl ?_
    simp only [zp]
    refine st_end ?_
    subst hQ
    refine wp_ret ?_
    repeat (first | refine ret_out ?_ | refine ret_blk ?_)
    exact bodyPost_ret (results_tmp2 Try.results20 _ _ _) rfl ⟨rfl, E⟩
  · skip
    have E : Below w.heap.size w w := Below.refl _ _
    go_enter Try.func20, Try.ntmps20
    refine wq fun Q hQ => ?_
    refine sg (.slice none 0 0) 4 rfl rfl rfl rfl ?_
    simp only [zp]
    refine sg (.int .i64 0) 5 rfl rfl rfl rfl ?_
    simp only [zp]
    refine st_end ?_
    subst hQ
    refine wp_seq ?_
    refine wq fun Q hQ => ?_
    refine sm (.int .i64 y) 10 rfl rfl rfl rfl ?_
    simp only [zp]
    refine sv (.bool false) 11 rfl rfl (ex_bin (u := (.int .i64 y)) (r := (.int .i64 0)) rfl rfl rfl (eg3 _ _ _ _ _ _) (lss3 _ (decide_eq_false (by omega)))) ?_
    simp only [zp]
    refine sm (.bool false) 12 rfl rfl rfl rfl ?_
    simp only [zp]
    refine sm (.int .i64 y) 13 rfl rfl rfl rfl ?_
    simp only [zp]
    refine sv (.bool true) 14 rfl rfl (ex_bin (u := (.int .i64 y)) (r := (.int .i64 2147483647)) rfl rfl rfl (eg3 _ _ _ _ _ _) (gtr3 _ (decide_eq_true (okH_no hy (by omega))))) ?_
    simp only [zp]
    refine sv (.bool true) 15 rfl rfl (ex_pkF rfl rfl rfl) ?_
    simp only [zp]
    refine st_end ?_
    subst hQ
    refine wp_cond_true rfl ?_
    refine wq fun Q hQ => ?_
    refine sg (.slice none 0 0) 4 rfl rfl rfl rfl ?_
    simp only [zp]
    refine sg (.int .i64 1) 5 rfl rfl rfl rfl ?_
    simp only [zp]
    refine st_end ?_
    subst hQ
    refine wp_ret ?_
    repeat (first | refine ret_out ?_ | refine ret_blk ?_)
    exact bodyPost_ret (results_tmp2 Try.results20 _ _ _) rfl ⟨rfl, E⟩
set_option maxHeartbeats 8000000 in
theorem rexp_bad {ao : Option Addr} {n c : Nat} {qs : Nat → RV} {y : Int} (w : World) (hR : n = 0 ∨ ∃ b off, ao = some ⟨b, off, none⟩ ∧ Rls w b off n qs) (hcap : n * 40 ≤ 140737488351232) (hqb : ∀ i, i < n → (qs i).b ≤ 9223372036854775807) (hy : okH y = true) (k0 : Nat) (hk0 : k0 < n) (hG : ∀ i, i < k0 → mayR (qs i) = true) (hno : mayR (qs k0) = false) :
    Calls Try.prog 20 #[.slice ao n c, .int .i64 y] w fun e w' => e = .returned (.tuple #[.slice none 0 0, .int .i64 1]) ∧ Below w.heap.size w w' := by
  have hyy := okH_of hy
  have E : Below w.heap.size w w := Below.refl _ _
  go_enter Try.func20, Try.ntmps20
  refine wq fun Q hQ => ?_
  refine sg (.slice none 0 0) 4 rfl rfl rfl rfl ?_
  simp only [zp]
  refine sg (.int .i64 0) 5 rfl rfl rfl rfl ?_
  simp only [zp]
  refine st_end ?_
  subst hQ
  refine wp_seq ?_
  refine wq fun Q hQ => ?_
  refine sm (.int .i64 y) 10 rfl rfl rfl rfl ?_
  simp only [zp]
  refine sv (.bool false) 11 rfl rfl (ex_bin (u := (.int .i64 y)) (r := (.int .i64 0)) rfl rfl rfl (eg3 _ _ _ _ _ _) (lss3 _ (decide_eq_false (by omega)))) ?_
  simp only [zp]
  refine sm (.bool false) 12 rfl rfl rfl rfl ?_
  simp only [zp]
  refine sm (.int .i64 y) 13 rfl rfl rfl rfl ?_
  simp only [zp]
  refine sv (.bool false) 14 rfl rfl (ex_bin (u := (.int .i64 y)) (r := (.int .i64 2147483647)) rfl rfl rfl (eg3 _ _ _ _ _ _) (gtr3 _ (decide_eq_false (by omega)))) ?_
  simp only [zp]
  refine sv (.bool false) 15 rfl rfl (ex_pkF rfl rfl rfl) ?_
  simp only [zp]
  refine st_end ?_
  subst hQ
  refine wp_cond_false rfl ?_
  refine wp_skip ?_
  refine wp_seq ?_
  refine wq fun Q hQ => ?_
  refine sg (.int .i64 0) 6 rfl rfl rfl rfl ?_
  simp only [zp]
  refine st_end ?_
  subst hQ
  refine wp_block ?_
  go_loopw [6] (fun v6 wr => ∃ i : Nat, i ≤ k0 ∧ v6 = .int .i64 i ∧ Below w.heap.size w wr) (fun v6 _ => n - (intOf v6).toNat)
  case atStart => exact ⟨0, Nat.zero_le _, rfl, E⟩
  case round =>
    obtain ⟨i, hi, rfl, E⟩ := hrel
    have hlt : i < n := by omega
    by_cases hb : i < k0
    · rcases hR with h | ⟨b, off, rfl, h⟩
      · omega
      refine wp_seq ?_
      refine wq fun Q hQ => ?_
      refine sm (.int .i64 (i : Nat)) 16 rfl rfl rfl rfl ?_
      simp only [zp]
      refine sm (.slice (some ⟨b, off, none⟩) n c) 17 rfl rfl rfl rfl ?_
      simp only [zp]
      refine sv (.int .i64 (n : Nat)) 18 rfl rfl (ex_len rfl rfl (len35 _ _ _ _ _)) ?_
      simp only [zp]
      refine sv (.bool true) 19 rfl rfl (ex_bin (u := (.int .i64 (i : Nat))) (r := (.int .i64 (n : Nat))) rfl rfl rfl (eg3 _ _ _ _ _ _) (lss3 _ (decide_eq_true (by omega)))) ?_
      simp only [zp]
      refine st_end ?_
      subst hQ
      refine wp_cond_true rfl ?_
      refine wp_skip ?_
      refine wp_seq ?_
      refine wp_block ?_
      refine wq fun Q hQ => ?_
      refine sm (.slice (some ⟨b, off, none⟩) n c) 22 rfl rfl rfl rfl ?_
      simp only [zp]
      refine sm (.int .i64 (i : Nat)) 23 rfl rfl rfl rfl ?_
      simp only [zp]
      refine sv (.pointer (some ⟨b, (off + i * 5), none⟩)) 24 rfl rfl (ex_ix35 rfl rfl rfl hlt) ?_
      simp only [zp]
      refine sv (.agg (RL (qs i))) 25 rfl rfl (ex_load rfl rfl (ld_range (range_below (h i hlt) E) Try.underlying25 rfl inf25)) ?_
      simp only [zp]
      refine st_call (some 26) rfl rfl (rmay_any wr (hG i hb)) (ex_call (f := 10) (vs := [(.agg (RL (qs i)))]) rfl (cf10 _) rfl) ?_
      rintro e W1 ⟨rfl, B⟩
      refine ⟨_, rfl, ?_⟩
      simp only [zp]
      replace E := below_next E B
      refine sv (.bool false) 27 rfl rfl (ex_not rfl rfl rfl) ?_
      simp only [zp]
      refine st_end ?_
      subst hQ
      refine wp_cond_false rfl ?_
      refine wp_skip ?_
      refine wl_in (wl_cap fun Q hQ => ?_)
      refine sm (.int .i64 (i : Nat)) 20 rfl rfl rfl rfl ?_
      simp only [zp]
      refine sv (.int .i64 ((i + 1 : Nat) : Int)) 21 rfl rfl (ex_bin rfl rfl rfl (eg3 _ _ _ _ _ _) (add3 _ (by omega) (by omega))) ?_
      simp only [zp]
      refine sg (.int .i64 ((i + 1 : Nat) : Int)) 6 rfl rfl rfl rfl ?_
      simp only [zp]
      refine st_end ?_
      subst hQ
      refine then_go ?_
      go_roundw
      case rel => exact ⟨i + 1, by omega, rfl, E⟩
      case measure => simp [intOf]; omega
    · rcases hR with h | ⟨b, off, rfl, h⟩
      · omega
      have hik : k0 = i := by omega
      subst k0
      refine wp_seq ?_
      refine wq fun Q hQ => ?_
      refine sm (.int .i64 (i : Nat)) 16 rfl rfl rfl rfl ?_
      simp only [zp]
      refine sm (.slice (some ⟨b, off, none⟩) n c) 17 rfl rfl rfl rfl ?_
      simp only [zp]
      refine sv (.int .i64 (n : Nat)) 18 rfl rfl (ex_len rfl rfl (len35 _ _ _ _ _)) ?_
      simp only [zp]
      refine sv (.bool true) 19 rfl rfl (ex_bin (u := (.int .i64 (i : Nat))) (r := (.int .i64 (n : Nat))) rfl rfl rfl (eg3 _ _ _ _ _ _) (lss3 _ (decide_eq_true (by omega)))) ?_
      simp only [zp]
      refine st_end ?_
      subst hQ
      refine wp_cond_true rfl ?_
      refine wp_skip ?_
      refine wp_seq ?_
      refine wp_block ?_
      refine wq fun Q hQ => ?_
      refine sm (.slice (some ⟨b, off, none⟩) n c) 22 rfl rfl rfl rfl ?_
      simp only [zp]
      refine sm (.int .i64 (i : Nat)) 23 rfl rfl rfl rfl ?_
      simp only [zp]
      refine sv (.pointer (some ⟨b, (off + i * 5), none⟩)) 24 rfl rfl (ex_ix35 rfl rfl rfl hlt) ?_
      simp only [zp]
      refine sv (.agg (RL (qs i))) 25 rfl rfl (ex_load rfl rfl (ld_range (range_below (h i hlt) E) Try.underlying25 rfl inf25)) ?_
      simp only [zp]
      refine st_call (some 26) rfl rfl (rmay_any wr hno) (ex_call (f := 10) (vs := [(.agg (RL (qs i)))]) rfl (cf10 _) rfl) ?_
      rintro e W2 ⟨rfl, B⟩
      refine ⟨_, rfl, ?_⟩
      simp only [zp]
      replace E := below_next E B
      refine sv (.bool true) 27 rfl rfl (ex_not rfl rfl rfl) ?_
      simp only [zp]
      refine st_end ?_
      subst hQ
      refine wp_cond_true rfl ?_
      refine wq fun Q hQ => ?_
      refine sg (.slice none 0 0) 4 rfl rfl rfl rfl ?_
      simp only [zp]
      refine sg (.int .i64 1) 5 rfl rfl rfl rfl ?_
      simp only [zp]
      refine st_end ?_
      subst hQ
      refine wp_ret ?_
      repeat (first | refine ret_out ?_ | refine ret_blk ?_)
      exact bodyPost_ret (results_tmp2 Try.results20 _ _ _) rfl ⟨rfl, E⟩
set_option maxHeartbeats 8000000 in
theorem rexp_over {ao : Option Addr} {n c : Nat} {qs : Nat → RV} {y : Int} (w : World) (hR : n = 0 ∨ ∃ b off, ao = some ⟨b, off, none⟩ ∧ Rls w b off n qs) (hcap : n * 40 ≤ 140737488351232) (hqb : ∀ i, i < n → (qs i).b ≤ 9223372036854775807) (hG : ∀ i, i < n → mayR (qs i) = true) (m0 : Nat) (hm0 : m0 < n) (hO : ∀ j, j ≤ m0 → okH (ev qs n y j) = true) (hX : okH (ev qs n y (m0 + 1)) = false) :
    Calls Try.prog 20 #[.slice ao n c, .int .i64 y] w fun e w' => e = .returned (.tuple #[.slice none 0 0, .int .i64 20]) ∧ Below w.heap.size w w' := by
  have hyy := okH_of (show okH y = true from hO 0 (Nat.zero_le _))
  have E : Below w.heap.size w w := Below.refl _ _
  go_enter Try.func20, Try.ntmps20
  refine wq fun Q hQ => ?_
  refine sg (.slice none 0 0) 4 rfl rfl rfl rfl ?_
  simp only [zp]
  refine sg (.int .i64 0) 5 rfl rfl rfl rfl ?_
  simp only [zp]
  refine st_end ?_
  subst hQ
  refine wp_seq ?_
  refine wq fun Q hQ => ?_
  refine sm (.int .i64 y) 10 rfl rfl rfl rfl ?_
  simp only [zp]
  refine sv (.bool false) 11 rfl rfl (ex_bin (u := (.int .i64 y)) (r := (.int .i64 0)) rfl rfl rfl (eg3 _ _ _ _ _ _) (lss3 _ (decide_eq_false (by omega)))) ?_
  simp only [zp]
  refine sm (.bool false) 12 rfl rfl rfl rfl ?_
  simp only [zp]
  refine sm (.int .i64 y) 13 rfl rfl rfl rfl ?_
  simp only [zp]
  refine sv (.bool false) 14 rfl rfl (ex_bin (u := (.int .i64 y)) (r := (.int .i64 2147483647)) rfl rfl rfl (eg3 _ _ _ _ _ _) (gtr3 _ (decide_eq_false (by omega)))) ?_
  simp only [zp]
  refine sv (.bool false) 15 rfl rfl (ex_pkF rfl rfl rfl) ?_
  simp only [zp]
  refine st_end ?_
  subst hQ
  refine wp_cond_false rfl ?_
  refine wp_skip ?_
  refine wp_seq ?_
  refine wq fun Q hQ => ?_
  refine sg (.int .i64 0) 6 rfl rfl rfl rfl ?_
  simp only [zp]
  refine st_end ?_
  subst hQ
  refine wp_block ?_
  go_loopw [6] (fun v6 wr => ∃ i : Nat, i ≤ n ∧ v6 = .int .i64 i ∧ Below w.heap.size w wr) (fun v6 _ => n - (intOf v6).toNat)
  case atStart => exact ⟨0, Nat.zero_le _, rfl, E⟩
  case round =>
    obtain ⟨i, hi, rfl, E⟩ := hrel
    by_cases hlt : i < n
    · rcases hR with h | ⟨b, off, rfl, h⟩
      · omega
      refine wp_seq ?_
      refine wq fun Q hQ => ?_
      refine sm (.int .i64 (i : Nat)) 16 rfl rfl rfl rfl ?_
      simp only [zp]
      refine sm (.slice (some ⟨b, off, none⟩) n c) 17 rfl rfl rfl rfl ?_
      simp only [zp]
      refine sv (.int .i64 (n : Nat)) 18 rfl rfl (ex_len rfl rfl (len35 _ _ _ _ _)) ?_
      simp only [zp]
      refine sv (.bool true) 19 rfl rfl (ex_bin (u := (.int .i64 (i : Nat))) (r := (.int .i64 (n : Nat))) rfl rfl rfl (eg3 _ _ _ _ _ _) (lss3 _ (decide_eq_true (by omega)))) ?_
      simp only [zp]
      refine st_end ?_
      subst hQ
      refine wp_cond_true rfl ?_
      refine wp_skip ?_
      refine wp_seq ?_
      refine wp_block ?_
      refine wq fun Q hQ => ?_
      refine sm (.slice (some ⟨b, off, none⟩) n c) 22 rfl rfl rfl rfl ?_
      simp only [zp]
      refine sm (.int .i64 (i : Nat)) 23 rfl rfl rfl rfl ?_
      simp only [zp]
      refine sv (.pointer (some ⟨b, (off + i * 5), none⟩)) 24 rfl rfl (ex_ix35 rfl rfl rfl hlt) ?_
      simp only [zp]
      refine sv (.agg (RL (qs i))) 25 rfl rfl (ex_load rfl rfl (ld_range (range_below (h i hlt) E) Try.underlying25 rfl inf25)) ?_
      simp only [zp]
      refine st_call (some 26) rfl rfl (rmay_any wr (hG i hlt)) (ex_call (f := 10) (vs := [(.agg (RL (qs i)))]) rfl (cf10 _) rfl) ?_
      rintro e W1 ⟨rfl, B⟩
      refine ⟨_, rfl, ?_⟩
      simp only [zp]
      replace E := below_next E B
      refine sv (.bool false) 27 rfl rfl (ex_not rfl rfl rfl) ?_
      simp only [zp]
      refine st_end ?_
      subst hQ
      refine wp_cond_false rfl ?_
      refine wp_skip ?_
      refine wl_in (wl_cap fun Q hQ => ?_)
      refine sm (.int .i64 (i : Nat)) 20 rfl rfl rfl rfl ?_
      simp only [zp]
      refine sv (.int .i64 ((i + 1 : Nat) : Int)) 21 rfl rfl (ex_bin rfl rfl rfl (eg3 _ _ _ _ _ _) (add3 _ (by omega) (by omega))) ?_
      simp only [zp]
      refine sg (.int .i64 ((i + 1 : Nat) : Int)) 6 rfl rfl rfl rfl ?_
      simp only [zp]
      refine st_end ?_
      subst hQ
      refine then_go ?_
      go_roundw
      case rel => exact ⟨i + 1, by omega, rfl, E⟩
      case measure => simp [intOf]; omega
    · have hin : i = n := by omega
      subst i
      refine wp_seq ?_
      refine wq fun Q hQ => ?_
      refine sm (.int .i64 (n : Nat)) 16 rfl rfl rfl rfl ?_
      simp only [zp]
      refine sm (.slice ao n c) 17 rfl rfl rfl rfl ?_
      simp only [zp]
      refine sv (.int .i64 (n : Nat)) 18 rfl rfl (ex_len rfl rfl (len35 _ _ _ _ _)) ?_
      simp only [zp]
      refine sv (.bool false) 19 rfl rfl (ex_bin (u := (.int .i64 (n : Nat))) (r := (.int .i64 (n : Nat))) rfl rfl rfl (eg3 _ _ _ _ _ _) (lss3 _ (decide_eq_false (by omega)))) ?_
      simp only [zp]
      refine st_end ?_
      subst hQ
      refine wp_cond_false rfl ?_
      refine wp_exit ?_
      refine ex_then ?_
      refine ex_then ?_
      refine ex_blk ?_
      refine wq fun Q hQ => ?_
      refine sm (.int .i64 y) 28 rfl rfl rfl rfl ?_
      simp only [zp]
      refine st_new (fun b => .slice (some ⟨b, 0, none⟩) 1 1) (some 29) rfl rfl (ex_bsl1 (u := (.int .i64 y)) rfl rfl (bs36_1 _ _)) ?_
      intro b1 W2 k1 g1 B
      simp only [zp]
      have ge_b1 := Nat.le_trans E.size g1
      replace E := below_next E B
      clear B
      refine sg (.slice (some ⟨b1, 0, none⟩) 1 1) 7 rfl rfl rfl rfl ?_
      simp only [zp]
      refine st_end ?_
      subst hQ
      refine wp_seq ?_
      refine wq fun Q hQ => ?_
      refine sm (.slice ao n c) 30 rfl rfl rfl rfl ?_
      simp only [zp]
      refine sv (.int .i64 (n : Nat)) 31 rfl rfl (ex_len rfl rfl (len35 _ _ _ _ _)) ?_
      simp only [zp]
      refine sv (.int .i64 ((n : Nat) - 1 : Int)) 32 rfl rfl (ex_bin rfl rfl rfl (eg3 _ _ _ _ _ _) (sub3 _ rfl (by omega))) ?_
      simp only [zp]
      refine sg (.int .i64 ((n : Nat) - 1 : Int)) 8 rfl rfl rfl rfl ?_
      simp only [zp]
      refine st_end ?_
      subst hQ
      refine wp_block ?_
      go_loopw [7, 8] (fun v7 v8 wr => ∃ p m g cp : Nat, p + m = n ∧ v8 = .int .i64 ((p : Int) - 1) ∧ v7 = .slice (some ⟨g, 0, none⟩) (m + 1) cp ∧ Below w.heap.size w wr ∧ Rw wr w.heap.size 3 1 g (m + 1) cp (I64 (el qs n y m)) ∧ m ≤ m0) (fun _ v8 _ => (intOf v8 + 1).toNat)
      case atStart => exact ⟨n, 0, b1, 1, rfl, rfl, rfl, E, Rw.ofBlock k1 rfl ge_b1 (by unfold maxLen; omega), Nat.zero_le _⟩
      case round =>
        clear k1 E
        obtain ⟨p, m, g, cp, hpm, rfl, rfl, E, RW, hmm⟩ := hrel
        by_cases hp : 0 < p
        · obtain ⟨p, rfl⟩ : ∃ q, p = q + 1 := ⟨p - 1, by omega⟩
          rw [show ((p + 1 : Nat) : Int) - 1 = (p : Int) by omega]
          rcases hR with h | ⟨b, off, rfl, h⟩
          · omega
          have hpl : p < n := by omega
          have MP := (mayR_of (hG p hpl)).2
          have hv := okH_of (hO m (by omega))
          have en : ev qs n y (m + 1) = ev qs n y m + (qs p).d := by
            subst hpm
            exact ev_next qs y p m
          by_cases hmo : m < m0
          · skip
            have hx := okH_of (hO (m + 1) (by omega))
            refine wp_seq ?_
            refine wq fun Q hQ => ?_
            refine sm (.int .i64 (p : Nat)) 33 rfl rfl rfl rfl ?_
            simp only [zp]
            refine sv (.bool true) 34 rfl rfl (ex_bin (u := (.int .i64 (p : Nat))) (r := (.int .i64 0)) rfl rfl rfl (eg3 _ _ _ _ _ _) (geq3 _ (decide_eq_true (by omega)))) ?_
            simp only [zp]
            refine st_end ?_
            subst hQ
            refine wp_cond_true rfl ?_
            refine wp_skip ?_
            refine wp_seq ?_
            refine wp_block ?_
            refine wp_seq ?_
            obtain ⟨W3, hwd⟩ : ∃ wd, wr.drew = wd := ⟨_, rfl⟩
            refine wp_region_held (S := fun W => Kept Nil W3 W) (by kernel_rfl) ?_
            show wpAnyH _ _ _ _ _ _ _ _ wr.drew
            rw [hwd]
            refine capQ fun Q hQ => ?_
            have hQP : ∀ c (a : Act) (d : Nat) v w, Q (.panic c) (a.put (some d) v) w → Q (.panic c) a w := by
              subst hQ
              exact fun _ _ _ _ _ h => h
            have BD : Below wr.heap.size wr W3 := by rw [← hwd]; exact below_drewB (Below.refl _ _)
            clear hwd
            replace E := below_next E BD
            replace RW := RW.keep BD
            clear BD
            have S : Kept Nil W3 W3 := Kept.refl _ _
            have d_RW := RW
            have hcd : W3.cell? ⟨b, off + p * 5 + 2, none⟩ = some (.int .i64 (qs p).d) := range_below (h p hpl) E 2 _ rfl
            have hc0 : W3.cell? ⟨g, 0, none⟩ = some (.int .i64 (ev qs n y m)) := RW.cell (I64_el qs n y m 0 (Nat.zero_le _))
            refine ah_take (v := (.slice (some ⟨g, 0, none⟩) (m + 1) cp)) (i := 0) (some 37) rfl rfl (by kernel_rfl) (by kernel_rfl) (by kernel_rfl) rfl (fun W hK => ex_mv rfl rfl) S (fun c a w h => hQP c a _ _ w h) ?_
            simp only [zp]
            refine ah_take (v := (.pointer (some ⟨g, 0, none⟩))) (i := 1) (some 38) rfl rfl (by kernel_rfl) (by kernel_rfl) (by kernel_rfl) rfl (fun W hK => ex_ix36 (k := 0) rfl rfl rfl rfl (by omega)) S (fun c a w h => hQP c a _ _ w h) ?_
            simp only [zp]
            refine ah_take (v := (.int .i64 (ev qs n y m))) (i := 2) (some 39) rfl rfl (by kernel_rfl) (by kernel_rfl) (by kernel_rfl) rfl (fun W hK => ex_load rfl rfl (ld3 (cell_kept hK hc0 (nilN _)))) S (fun c a w h => hQP c a _ _ w h) ?_
            simp only [zp]
            refine ah_take (v := (.slice (some ⟨b, off, none⟩) n c)) (i := 3) (some 40) rfl rfl (by kernel_rfl) (by kernel_rfl) (by kernel_rfl) rfl (fun W hK => ex_mv rfl rfl) S (fun c a w h => hQP c a _ _ w h) ?_
            simp only [zp]
            refine ah_take (v := (.int .i64 (p : Nat))) (i := 4) (some 41) rfl rfl (by kernel_rfl) (by kernel_rfl) (by kernel_rfl) rfl (fun W hK => ex_mv rfl rfl) S (fun c a w h => hQP c a _ _ w h) ?_
            simp only [zp]
            refine ah_take (v := (.pointer (some ⟨b, (off + p * 5), none⟩))) (i := 5) (some 42) rfl rfl (by kernel_rfl) (by kernel_rfl) (by kernel_rfl) rfl (fun W hK => ex_ix35 rfl rfl rfl hpl) S (fun c a w h => hQP c a _ _ w h) ?_
            simp only [zp]
            refine ah_take (v := (.pointer (some ⟨b, (off + p * 5 + 2), none⟩))) (i := 6) (some 43) rfl rfl (by kernel_rfl) (by kernel_rfl) (by kernel_rfl) rfl (fun W hK => ex_fa rfl rfl (faD _ _ _)) S (fun c a w h => hQP c a _ _ w h) ?_
            simp only [zp]
            refine ah_take (v := (.int .i64 (qs p).d)) (i := 7) (some 44) rfl rfl (by kernel_rfl) (by kernel_rfl) (by kernel_rfl) rfl (fun W hK => ex_load rfl rfl (ld3 (cell_kept hK hcd (nilN _)))) S (fun c a w h => hQP c a _ _ w h) ?_
            simp only [zp]
            refine ah_take (v := (.int .i64 (ev qs n y (m + 1)))) (i := 8) (some 45) rfl rfl (by kernel_rfl) (by kernel_rfl) (by kernel_rfl) rfl (fun W hK => ex_bin (u := (.int .i64 (ev qs n y m))) (r := (.int .i64 (qs p).d)) rfl rfl rfl (eg3 _ _ _ _ _ _) (add3 _ en.symm (by omega))) S (fun c a w h => hQP c a _ _ w h) ?_
            simp only [zp]
            refine ah_take (v := (.int .i64 (ev qs n y (m + 1)))) (i := 9) (some 9) rfl rfl (by kernel_rfl) (by kernel_rfl) (by kernel_rfl) rfl (fun W hK => ex_asg rfl rfl) S (fun c a w h => hQP c a _ _ w h) ?_
            simp only [zp]
            refine ah_done (by kernel_rfl) ?_
            clear hQP
            subst hQ
            clear S  d_RW
            refine wp_seq ?_
            refine wq fun Q hQ => ?_
            refine sm (.int .i64 (ev qs n y (m + 1))) 46 rfl rfl rfl rfl ?_
            simp only [zp]
            refine sv (.bool false) 47 rfl rfl (ex_bin (u := (.int .i64 (ev qs n y (m + 1)))) (r := (.int .i64 2147483647)) rfl rfl rfl (eg3 _ _ _ _ _ _) (gtr3 _ (decide_eq_false (by omega)))) ?_
            simp only [zp]
            refine st_end ?_
            subst hQ
            refine wp_cond_false rfl ?_
            refine wp_skip ?_
            refine wl_in (wl_cap fun Q hQ => ?_)
            refine sm (.int .i64 (ev qs n y (m + 1))) 48 rfl rfl rfl rfl ?_
            simp only [zp]
            refine st_new (fun b => .slice (some ⟨b, 0, none⟩) 1 1) (some 49) rfl rfl (ex_bsl1 (u := (.int .i64 (ev qs n y (m + 1)))) rfl rfl (bs36_1 _ _)) ?_
            intro b2 W4 k2 g2 B
            simp only [zp]
            have ge_b2 := Nat.le_trans E.size g2
            replace E := below_next E B
            replace RW := RW.keep B
            clear B
            refine sm (.slice (some ⟨g, 0, none⟩) (m + 1) cp) 50 rfl rfl rfl rfl ?_
            simp only [zp]
            obtain ⟨g', cp', W9, happ, RW', K⟩ := app_two (x := ev qs n y (m + 1)) (Rw.ofBlock k2 rfl ge_b2 (by unfold maxLen; omega)) RW (by omega) E.size
            refine st_to (v := .slice (some ⟨g', 0, none⟩) (m + 1 + 1) cp') (some 51) rfl rfl (ex_app rfl rfl rfl happ) ?_
            simp only [zp]
            replace E := below_put E ge_b2 K
            clear RW k2 K happ
            refine sg (.slice (some ⟨g', 0, none⟩) (m + 1 + 1) cp') 7 rfl rfl rfl rfl ?_
            simp only [zp]
            refine st_end ?_
            subst hQ
            refine wl_in (wl_cap fun Q hQ => ?_)
            refine sm (.int .i64 (p : Nat)) 35 rfl rfl rfl rfl ?_
            simp only [zp]
            refine sv (.int .i64 ((p : Int) - 1)) 36 rfl rfl (ex_bin (u := (.int .i64 (p : Nat))) (r := (.int .i64 1)) rfl rfl rfl (eg3 _ _ _ _ _ _) (sub3 _ rfl (by omega))) ?_
            simp only [zp]
            refine sg (.int .i64 ((p : Int) - 1)) 8 rfl rfl rfl rfl ?_
            simp only [zp]
            refine st_end ?_
            subst hQ
            refine then_go ?_
            go_roundw
            case rel => exact ⟨p, m + 1, g', cp', by omega, rfl, rfl, E, RW', by omega⟩
            case measure => simp [intOf]
          · have hme : m0 = m := by omega
            subst m0
            have hx := okH_no hX (by omega)
            refine wp_seq ?_
            refine wq fun Q hQ => ?_
            refine sm (.int .i64 (p : Nat)) 33 rfl rfl rfl rfl ?_
            simp only [zp]
            refine sv (.bool true) 34 rfl rfl (ex_bin (u := (.int .i64 (p : Nat))) (r := (.int .i64 0)) rfl rfl rfl (eg3 _ _ _ _ _ _) (geq3 _ (decide_eq_true (by omega)))) ?_
            simp only [zp]
            refine st_end ?_
            subst hQ
            refine wp_cond_true rfl ?_
            refine wp_skip ?_
            refine wp_seq ?_
            refine wp_block ?_
            refine wp_seq ?_
            obtain ⟨W5, hwd⟩ : ∃ wd, wr.drew = wd := ⟨_, rfl⟩
            refine wp_region_held (S := fun W => Kept Nil W5 W) (by kernel_rfl) ?_
            show wpAnyH _ _ _ _ _ _ _ _ wr.drew
            rw [hwd]
            refine capQ fun Q hQ => ?_
            have hQP : ∀ c (a : Act) (d : Nat) v w, Q (.panic c) (a.put (some d) v) w → Q (.panic c) a w := by
              subst hQ
              exact fun _ _ _ _ _ h => h
            have BD : Below wr.heap.size wr W5 := by rw [← hwd]; exact below_drewB (Below.refl _ _)
            clear hwd
            replace E := below_next E BD
            replace RW := RW.keep BD
            clear BD
            have S : Kept Nil W5 W5 := Kept.refl _ _
            have d_RW := RW
            have hcd : W5.cell? ⟨b, off + p * 5 + 2, none⟩ = some (.int .i64 (qs p).d) := range_below (h p hpl) E 2 _ rfl
            have hc0 : W5.cell? ⟨g, 0, none⟩ = some (.int .i64 (ev qs n y m)) := RW.cell (I64_el qs n y m 0 (Nat.zero_le _))
            refine ah_take (v := (.slice (some ⟨g, 0, none⟩) (m + 1) cp)) (i := 0) (some 37) rfl rfl (by kernel_rfl) (by kernel_rfl) (by kernel_rfl) rfl (fun W hK => ex_mv rfl rfl) S (fun c a w h => hQP c a _ _ w h) ?_
            simp only [zp]
            refine ah_take (v := (.pointer (some ⟨g, 0, none⟩))) (i := 1) (some 38) rfl rfl (by kernel_rfl) (by kernel_rfl) (by kernel_rfl) rfl (fun W hK => ex_ix36 (k := 0) rfl rfl rfl rfl (by omega)) S (fun c a w h => hQP c a _ _ w h) ?_
            simp only [zp]
            refine ah_take (v := (.int .i64 (ev qs n y m))) (i := 2) (some 39) rfl rfl (by kernel_rfl) (by kernel_rfl) (by kernel_rfl) rfl (fun W hK => ex_load rfl rfl (ld3 (cell_kept hK hc0 (nilN _)))) S (fun c a w h => hQP c a _ _ w h) ?_
            simp only [zp]
            refine ah_take (v := (.slice (some ⟨b, off, none⟩) n c)) (i := 3) (some 40) rfl rfl (by kernel_rfl) (by kernel_rfl) (by kernel_rfl) rfl (fun W hK => ex_mv rfl rfl) S (fun c a w h => hQP c a _ _ w h) ?_
            simp only [zp]
            refine ah_take (v := (.int .i64 (p : Nat))) (i := 4) (some 41) rfl rfl (by kernel_rfl) (by kernel_rfl) (by kernel_rfl) rfl (fun W hK => ex_mv rfl rfl) S (fun c a w h => hQP c a _ _ w h) ?_
            simp only [zp]
            refine ah_take (v := (.pointer (some ⟨b, (off + p * 5), none⟩))) (i := 5) (some 42) rfl rfl (by kernel_rfl) (by kernel_rfl) (by kernel_rfl) rfl (fun W hK => ex_ix35 rfl rfl rfl hpl) S (fun c a w h => hQP c a _ _ w h) ?_
            simp only [zp]
            refine ah_take (v := (.pointer (some ⟨b, (off + p * 5 + 2), none⟩))) (i := 6) (some 43) rfl rfl (by kernel_rfl) (by kernel_rfl) (by kernel_rfl) rfl (fun W hK => ex_fa rfl rfl (faD _ _ _)) S (fun c a w h => hQP c a _ _ w h) ?_
            simp only [zp]
            refine ah_take (v := (.int .i64 (qs p).d)) (i := 7) (some 44) rfl rfl (by kernel_rfl) (by kernel_rfl) (by kernel_rfl) rfl (fun W hK => ex_load rfl rfl (ld3 (cell_kept hK hcd (nilN _)))) S (fun c a w h => hQP c a _ _ w h) ?_
            simp only [zp]
            refine ah_take (v := (.int .i64 (ev qs n y (m + 1)))) (i := 8) (some 45) rfl rfl (by kernel_rfl) (by kernel_rfl) (by kernel_rfl) rfl (fun W hK => ex_bin (u := (.int .i64 (ev qs n y m))) (r := (.int .i64 (qs p).d)) rfl rfl rfl (eg3 _ _ _ _ _ _) (add3 _ en.symm (by omega))) S (fun c a w h => hQP c a _ _ w h) ?_
            simp only [zp]
            refine ah_take (v := (.int .i64 (ev qs n y (m + 1)))) (i := 9) (some 9) rfl rfl (by kernel_rfl) (by kernel_rfl) (by kernel_rfl) rfl (fun W hK => ex_asg rfl rfl) S (fun c a w h => hQP c a _ _ w h) ?_
            simp only [zp]
            refine ah_done (by kernel_rfl) ?_
            clear hQP
            subst hQ
            clear S  d_RW
            refine wp_seq ?_
            refine wq fun Q hQ => ?_
            refine sm (.int .i64 (ev qs n y (m + 1))) 46 rfl rfl rfl rfl ?_
            simp only [zp]
            refine sv (.bool true) 47 rfl rfl (ex_bin (u := (.int .i64 (ev qs n y (m + 1)))) (r := (.int .i64 2147483647)) rfl rfl rfl (eg3 _ _ _ _ _ _) (gtr3 _ (decide_eq_true (by omega)))) ?_
            simp only [zp]
            refine st_end ?_
            subst hQ
            refine wp_cond_true rfl ?_
            refine wq fun Q hQ => ?_
            refine sg (.slice none 0 0) 4 rfl rfl rfl rfl ?_
            simp only [zp]
            refine sg (.int .i64 20) 5 rfl rfl rfl rfl ?_
            simp only [zp]
            refine st_end ?_
            subst hQ
            refine wp_ret ?_
            repeat (first | refine ret_out ?_ | refine ret_blk ?_)
            exact bodyPost_ret (results_tmp2 Try.results20 _ _ _) rfl ⟨rfl, E⟩
        · obtain rfl : p = 0 := by omega
          omega
set_option maxHeartbeats 8000000 in
theorem rexp_ok {ao : Option Addr} {n c : Nat} {qs : Nat → RV} {y : Int} (w : World) (hR : n = 0 ∨ ∃ b off, ao = some ⟨b, off, none⟩ ∧ Rls w b off n qs) (hcap : n * 40 ≤ 140737488351232) (hqb : ∀ i, i < n → (qs i).b ≤ 9223372036854775807) (hG : ∀ i, i < n → mayR (qs i) = true) (hO : ∀ j, j ≤ n → okH (ev qs n y j) = true) :
    Calls Try.prog 20 #[.slice ao n c, .int .i64 y] w fun e w' => ∃ g cp, e = .returned (.tuple #[.slice (some ⟨g, 0, none⟩) (n + 1) cp, .int .i64 0]) ∧ RowX w' w.heap.size g n (fun k => ev qs n y (n - k)) ∧ Below w.heap.size w w' := by
  have hyy := okH_of (show okH y = true from hO 0 (Nat.zero_le _))
  have E : Below w.heap.size w w := Below.refl _ _
  go_enter Try.func20, Try.ntmps20
  refine wq fun Q hQ => ?_
  refine sg (.slice none 0 0) 4 rfl rfl rfl rfl ?_
  simp only [zp]
  refine sg (.int .i64 0) 5 rfl rfl rfl rfl ?_
  simp only [zp]
  refine st_end ?_
  subst hQ
  refine wp_seq ?_
  refine wq fun Q hQ => ?_
  refine sm (.int .i64 y) 10 rfl rfl rfl rfl ?_
  simp only [zp]
  refine sv (.bool false) 11 rfl rfl (ex_bin (u := (.int .i64 y)) (r := (.int .i64 0)) rfl rfl rfl (eg3 _ _ _ _ _ _) (lss3 _ (decide_eq_false (by omega)))) ?_
  simp only [zp]
  refine sm (.bool false) 12 rfl rfl rfl rfl ?_
  simp only [zp]
  refine sm (.int .i64 y) 13 rfl rfl rfl rfl ?_
  simp only [zp]
  refine sv (.bool false) 14 rfl rfl (ex_bin (u := (.int .i64 y)) (r := (.int .i64 2147483647)) rfl rfl rfl (eg3 _ _ _ _ _ _) (gtr3 _ (decide_eq_false (by omega)))) ?_
  simp only [zp]
  refine sv (.bool false) 15 rfl rfl (ex_pkF rfl rfl rfl) ?_
  simp only [zp]
  refine st_end ?_
  subst hQ
  refine wp_cond_false rfl ?_
  refine wp_skip ?_
  refine wp_seq ?_
  refine wq fun Q hQ => ?_
  refine sg (.int .i64 0) 6 rfl rfl rfl rfl ?_
  simp only [zp]
  refine st_end ?_
  subst hQ
  refine wp_block ?_
  go_loopw [6] (fun v6 wr => ∃ i : Nat, i ≤ n ∧ v6 = .int .i64 i ∧ Below w.heap.size w wr) (fun v6 _ => n - (intOf v6).toNat)
  case atStart => exact ⟨0, Nat.zero_le _, rfl, E⟩
  case round =>
    obtain ⟨i, hi, rfl, E⟩ := hrel
    by_cases hlt : i < n
    · rcases hR with h | ⟨b, off, rfl, h⟩
      · omega
      refine wp_seq ?_
      refine wq fun Q hQ => ?_
      refine sm (.int .i64 (i : Nat)) 16 rfl rfl rfl rfl ?_
      simp only [zp]
      refine sm (.slice (some ⟨b, off, none⟩) n c) 17 rfl rfl rfl rfl ?_
      simp only [zp]
      refine sv (.int .i64 (n : Nat)) 18 rfl rfl (ex_len rfl rfl (len35 _ _ _ _ _)) ?_
      simp only [zp]
      refine sv (.bool true) 19 rfl rfl (ex_bin (u := (.int .i64 (i : Nat))) (r := (.int .i64 (n : Nat))) rfl rfl rfl (eg3 _ _ _ _ _ _) (lss3 _ (decide_eq_true (by omega)))) ?_
      simp only [zp]
      refine st_end ?_
      subst hQ
      refine wp_cond_true rfl ?_
      refine wp_skip ?_
      refine wp_seq ?_
      refine wp_block ?_
      refine wq fun Q hQ => ?_
      refine sm (.slice (some ⟨b, off, none⟩) n c) 22 rfl rfl rfl rfl ?_
      simp only [zp]
      refine sm (.int .i64 (i : Nat)) 23 rfl rfl rfl rfl ?_
      simp only [zp]
      refine sv (.pointer (some ⟨b, (off + i * 5), none⟩)) 24 rfl rfl (ex_ix35 rfl rfl rfl hlt) ?_
      simp only [zp]
      refine sv (.agg (RL (qs i))) 25 rfl rfl (ex_load rfl rfl (ld_range (range_below (h i hlt) E) Try.underlying25 rfl inf25)) ?_
      simp only [zp]
      refine st_call (some 26) rfl rfl (rmay_any wr (hG i hlt)) (ex_call (f := 10) (vs := [(.agg (RL (qs i)))]) rfl (cf10 _) rfl) ?_
      rintro e W1 ⟨rfl, B⟩
      refine ⟨_, rfl, ?_⟩
      simp only [zp]
      replace E := below_next E B
      refine sv (.bool false) 27 rfl rfl (ex_not rfl rfl rfl) ?_
      simp only [zp]
      refine st_end ?_
      subst hQ
      refine wp_cond_false rfl ?_
      refine wp_skip ?_
      refine wl_in (wl_cap fun Q hQ => ?_)
      refine sm (.int .i64 (i : Nat)) 20 rfl rfl rfl rfl ?_
      simp only [zp]
      refine sv (.int .i64 ((i + 1 : Nat) : Int)) 21 rfl rfl (ex_bin rfl rfl rfl (eg3 _ _ _ _ _ _) (add3 _ (by omega) (by omega))) ?_
      simp only [zp]
      refine sg (.int .i64 ((i + 1 : Nat) : Int)) 6 rfl rfl rfl rfl ?_
      simp only [zp]
      refine st_end ?_
      subst hQ
      refine then_go ?_
      go_roundw
      case rel => exact ⟨i + 1, by omega, rfl, E⟩
      case measure => simp [intOf]; omega
    · have hin : i = n := by omega
      subst i
      refine wp_seq ?_
      refine wq fun Q hQ => ?_
      refine sm (.int .i64 (n : Nat)) 16 rfl rfl rfl rfl ?_
      simp only [zp]
      refine sm (.slice ao n c) 17 rfl rfl rfl rfl ?_
      simp only [zp]
      refine sv (.int .i64 (n : Nat)) 18 rfl rfl (ex_len rfl rfl (len35 _ _ _ _ _)) ?_
      simp only [zp]
      refine sv (.bool false) 19 rfl rfl (ex_bin (u := (.int .i64 (n : Nat))) (r := (.int .i64 (n : Nat))) rfl rfl rfl (eg3 _ _ _ _ _ _) (lss3 _ (decide_eq_false (by omega)))) ?_
      simp only [zp]
      refine st_end ?_
      subst hQ
      refine wp_cond_false rfl ?_
      refine wp_exit ?_
      refine ex_then ?_
      refine ex_then ?_
      refine ex_blk ?_
      refine wq fun Q hQ => ?_
      refine sm (.int .i64 y) 28 rfl rfl rfl rfl ?_
      simp only [zp]
      refine st_new (fun b => .slice (some ⟨b, 0, none⟩) 1 1) (some 29) rfl rfl (ex_bsl1 (u := (.int .i64 y)) rfl rfl (bs36_1 _ _)) ?_
      intro b1 W2 k1 g1 B
      simp only [zp]
      have ge_b1 := Nat.le_trans E.size g1
      replace E := below_next E B
      clear B
      refine sg (.slice (some ⟨b1, 0, none⟩) 1 1) 7 rfl rfl rfl rfl ?_
      simp only [zp]
      refine st_end ?_
      subst hQ
      refine wp_seq ?_
      refine wq fun Q hQ => ?_
      refine sm (.slice ao n c) 30 rfl rfl rfl rfl ?_
      simp only [zp]
      refine sv (.int .i64 (n : Nat)) 31 rfl rfl (ex_len rfl rfl (len35 _ _ _ _ _)) ?_
      simp only [zp]
      refine sv (.int .i64 ((n : Nat) - 1 : Int)) 32 rfl rfl (ex_bin rfl rfl rfl (eg3 _ _ _ _ _ _) (sub3 _ rfl (by omega))) ?_
      simp only [zp]
      refine sg (.int .i64 ((n : Nat) - 1 : Int)) 8 rfl rfl rfl rfl ?_
      simp only [zp]
      refine st_end ?_
      subst hQ
      refine wp_block ?_
      go_loopw [7, 8] (fun v7 v8 wr => ∃ p m g cp : Nat, p + m = n ∧ v8 = .int .i64 ((p : Int) - 1) ∧ v7 = .slice (some ⟨g, 0, none⟩) (m + 1) cp ∧ Below w.heap.size w wr ∧ Rw wr w.heap.size 3 1 g (m + 1) cp (I64 (el qs n y m)) ) (fun _ v8 _ => (intOf v8 + 1).toNat)
      case atStart => exact ⟨n, 0, b1, 1, rfl, rfl, rfl, E, Rw.ofBlock k1 rfl ge_b1 (by unfold maxLen; omega)⟩
      case round =>
        clear k1 E
        obtain ⟨p, m, g, cp, hpm, rfl, rfl, E, RW⟩ := hrel
        by_cases hp : 0 < p
        · obtain ⟨p, rfl⟩ : ∃ q, p = q + 1 := ⟨p - 1, by omega⟩
          rw [show ((p + 1 : Nat) : Int) - 1 = (p : Int) by omega]
          rcases hR with h | ⟨b, off, rfl, h⟩
          · omega
          have hpl : p < n := by omega
          have MP := (mayR_of (hG p hpl)).2
          have hv := okH_of (hO m (by omega))
          have en : ev qs n y (m + 1) = ev qs n y m + (qs p).d := by
            subst hpm
            exact ev_next qs y p m
          have hx := okH_of (hO (m + 1) (by omega))
          refine wp_seq ?_
          refine wq fun Q hQ => ?_
          refine sm (.int .i64 (p : Nat)) 33 rfl rfl rfl rfl ?_
          simp only [zp]
          refine sv (.bool true) 34 rfl rfl (ex_bin (u := (.int .i64 (p : Nat))) (r := (.int .i64 0)) rfl rfl rfl (eg3 _ _ _ _ _ _) (geq3 _ (decide_eq_true (by omega)))) ?_
          simp only [zp]
          refine st_end ?_
          subst hQ
          refine wp_cond_true rfl ?_
          refine wp_skip ?_
          refine wp_seq ?_
          refine wp_block ?_
          refine wp_seq ?_
          obtain ⟨W3, hwd⟩ : ∃ wd, wr.drew = wd := ⟨_, rfl⟩
          refine wp_region_held (S := fun W => Kept Nil W3 W) (by kernel_rfl) ?_
          show wpAnyH _ _ _ _ _ _ _ _ wr.drew
          rw [hwd]
          refine capQ fun Q hQ => ?_
          have hQP : ∀ c (a : Act) (d : Nat) v w, Q (.panic c) (a.put (some d) v) w → Q (.panic c) a w := by
            subst hQ
            exact fun _ _ _ _ _ h => h
          have BD : Below wr.heap.size wr W3 := by rw [← hwd]; exact below_drewB (Below.refl _ _)
          clear hwd
          replace E := below_next E BD
          replace RW := RW.keep BD
          clear BD
          have S : Kept Nil W3 W3 := Kept.refl _ _
          have d_RW := RW
          have hcd : W3.cell? ⟨b, off + p * 5 + 2, none⟩ = some (.int .i64 (qs p).d) := range_below (h p hpl) E 2 _ rfl
          have hc0 : W3.cell? ⟨g, 0, none⟩ = some (.int .i64 (ev qs n y m)) := RW.cell (I64_el qs n y m 0 (Nat.zero_le _))
          refine ah_take (v := (.slice (some ⟨g, 0, none⟩) (m + 1) cp)) (i := 0) (some 37) rfl rfl (by kernel_rfl) (by kernel_rfl) (by kernel_rfl) rfl (fun W hK => ex_mv rfl rfl) S (fun c a w h => hQP c a _ _ w h) ?_
          simp only [zp]
          refine ah_take (v := (.pointer (some ⟨g, 0, none⟩))) (i := 1) (some 38) rfl rfl (by kernel_rfl) (by kernel_rfl) (by kernel_rfl) rfl (fun W hK => ex_ix36 (k := 0) rfl rfl rfl rfl (by omega)) S (fun c a w h => hQP c a _ _ w h) ?_
          simp only [zp]
          refine ah_take (v := (.int .i64 (ev qs n y m))) (i := 2) (some 39) rfl rfl (by kernel_rfl) (by kernel_rfl) (by kernel_rfl) rfl (fun W hK => ex_load rfl rfl (ld3 (cell_kept hK hc0 (nilN _)))) S (fun c a w h => hQP c a _ _ w h) ?_
          simp only [zp]
          refine ah_take (v := (.slice (some ⟨b, off, none⟩) n c)) (i := 3) (some 40) rfl rfl (by kernel_rfl) (by kernel_rfl) (by kernel_rfl) rfl (fun W hK => ex_mv rfl rfl) S (fun c a w h => hQP c a _ _ w h) ?_
          simp only [zp]
          refine ah_take (v := (.int .i64 (p : Nat))) (i := 4) (some 41) rfl rfl (by kernel_rfl) (by kernel_rfl) (by kernel_rfl) rfl (fun W hK => ex_mv rfl rfl) S (fun c a w h => hQP c a _ _ w h) ?_
          simp only [zp]
          refine ah_take (v := (.pointer (some ⟨b, (off + p * 5), none⟩))) (i := 5) (some 42) rfl rfl (by kernel_rfl) (by kernel_rfl) (by kernel_rfl) rfl (fun W hK => ex_ix35 rfl rfl rfl hpl) S (fun c a w h => hQP c a _ _ w h) ?_
          simp only [zp]
          refine ah_take (v := (.pointer (some ⟨b, (off + p * 5 + 2), none⟩))) (i := 6) (some 43) rfl rfl (by kernel_rfl) (by kernel_rfl) (by kernel_rfl) rfl (fun W hK => ex_fa rfl rfl (faD _ _ _)) S (fun c a w h => hQP c a _ _ w h) ?_
          simp only [zp]
          refine ah_take (v := (.int .i64 (qs p).d)) (i := 7) (some 44) rfl rfl (by kernel_rfl) (by kernel_rfl) (by kernel_rfl) rfl (fun W hK => ex_load rfl rfl (ld3 (cell_kept hK hcd (nilN _)))) S (fun c a w h => hQP c a _ _ w h) ?_
          simp only [zp]
          refine ah_take (v := (.int .i64 (ev qs n y (m + 1)))) (i := 8) (some 45) rfl rfl (by kernel_rfl) (by kernel_rfl) (by kernel_rfl) rfl (fun W hK => ex_bin (u := (.int .i64 (ev qs n y m))) (r := (.int .i64 (qs p).d)) rfl rfl rfl (eg3 _ _ _ _ _ _) (add3 _ en.symm (by omega))) S (fun c a w h => hQP c a _ _ w h) ?_
          simp only [zp]
          refine ah_take (v := (.int .i64 (ev qs n y (m + 1)))) (i := 9) (some 9) rfl rfl (by kernel_rfl) (by kernel_rfl) (by kernel_rfl) rfl (fun W hK => ex_asg rfl rfl) S (fun c a w h => hQP c a _ _ w h) ?_
          simp only [zp]
          refine ah_done (by kernel_rfl) ?_
          clear hQP
          subst hQ
          clear S  d_RW
          refine wp_seq ?_
          refine wq fun Q hQ => ?_
          refine sm (.int .i64 (ev qs n y (m + 1))) 46 rfl rfl rfl rfl ?_
          simp only [zp]
          refine sv (.bool false) 47 rfl rfl (ex_bin (u := (.int .i64 (ev qs n y (m + 1)))) (r := (.int .i64 2147483647)) rfl rfl rfl (eg3 _ _ _ _ _ _) (gtr3 _ (decide_eq_false (by omega)))) ?_
          simp only [zp]
          refine st_end ?_
          subst hQ
          refine wp_cond_false rfl ?_
          refine wp_skip ?_
          refine wl_in (wl_cap fun Q hQ => ?_)
          refine sm (.int .i64 (ev qs n y (m + 1))) 48 rfl rfl rfl rfl ?_
          simp only [zp]
          refine st_new (fun b => .slice (some ⟨b, 0, none⟩) 1 1) (some 49) rfl rfl (ex_bsl1 (u := (.int .i64 (ev qs n y (m + 1)))) rfl rfl (bs36_1 _ _)) ?_
          intro b2 W4 k2 g2 B
          simp only [zp]
          have ge_b2 := Nat.le_trans E.size g2
          replace E := below_next E B
          replace RW := RW.keep B
          clear B
          refine sm (.slice (some ⟨g, 0, none⟩) (m + 1) cp) 50 rfl rfl rfl rfl ?_
          simp only [zp]
          obtain ⟨g', cp', W9, happ, RW', K⟩ := app_two (x := ev qs n y (m + 1)) (Rw.ofBlock k2 rfl ge_b2 (by unfold maxLen; omega)) RW (by omega) E.size
          refine st_to (v := .slice (some ⟨g', 0, none⟩) (m + 1 + 1) cp') (some 51) rfl rfl (ex_app rfl rfl rfl happ) ?_
          simp only [zp]
          replace E := below_put E ge_b2 K
          clear RW k2 K happ
          refine sg (.slice (some ⟨g', 0, none⟩) (m + 1 + 1) cp') 7 rfl rfl rfl rfl ?_
          simp only [zp]
          refine st_end ?_
          subst hQ
          refine wl_in (wl_cap fun Q hQ => ?_)
          refine sm (.int .i64 (p : Nat)) 35 rfl rfl rfl rfl ?_
          simp only [zp]
          refine sv (.int .i64 ((p : Int) - 1)) 36 rfl rfl (ex_bin (u := (.int .i64 (p : Nat))) (r := (.int .i64 1)) rfl rfl rfl (eg3 _ _ _ _ _ _) (sub3 _ rfl (by omega))) ?_
          simp only [zp]
          refine sg (.int .i64 ((p : Int) - 1)) 8 rfl rfl rfl rfl ?_
          simp only [zp]
          refine st_end ?_
          subst hQ
          refine then_go ?_
          go_roundw
          case rel => exact ⟨p, m + 1, g', cp', by omega, rfl, rfl, E, RW'⟩
          case measure => simp [intOf]
        · obtain rfl : p = 0 := by omega
          refine wp_seq ?_
          refine wq fun Q hQ => ?_
          refine sm (.int .i64 (((0 : Nat) : Int) - 1)) 33 rfl rfl rfl rfl ?_
          simp only [zp]
          refine sv (.bool false) 34 rfl rfl (ex_bin (u := (.int .i64 (((0 : Nat) : Int) - 1))) (r := (.int .i64 0)) rfl rfl rfl (eg3 _ _ _ _ _ _) (geq3 _ (decide_eq_false (by omega)))) ?_
          simp only [zp]
          refine st_end ?_
          subst hQ
          refine wp_cond_false rfl ?_
          refine wp_exit ?_
          refine ex_then ?_
          refine ex_then ?_
          refine ex_blk ?_
          refine wq fun Q hQ => ?_
          refine sm (.slice (some ⟨g, 0, none⟩) (m + 1) cp) 52 rfl rfl rfl rfl ?_
          simp only [zp]
          refine sg (.slice (some ⟨g, 0, none⟩) (m + 1) cp) 4 rfl rfl rfl rfl ?_
          simp only [zp]
          refine sg (.int .i64 0) 5 rfl rfl rfl rfl ?_
          simp only [zp]
          refine st_end ?_
          subst hQ
          refine wp_ret ?_
          have hm : m = n := by omega
          subst m
          repeat (first | refine ret_out ?_ | refine ret_blk ?_)
          exact bodyPost_ret (results_tmp2 Try.results20 _ _ _) rfl ⟨g, cp, rfl, ⟨RW.ge, fun k hk => RW.cell (I64_el qs n y n k hk)⟩, E⟩
end Go.Proofs.Ytfbaidmnnkcaeaa
