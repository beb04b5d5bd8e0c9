/- What is avoided, as a set. -/
import Derived.Test.YtgnkcmmpbohafaaGMap
namespace Go.Proofs.Ytgnkcmmpbohafaa
open Go.RowKit
set_option linter.unusedVariables false
set_option linter.unusedSimpArgs false
set_option maxRecDepth 100000

theorem mem_take {l : List Int} {i : Nat} {y : Int} (h : l[i]? = some y) (x : Int) : x ∈ l.take (i + 1) ↔ x ∈ l.take i ∨ x = y := by
  rw [List.take_add_one, h]
  simp
theorem st_sk' {ops : Array Oper} {Q : Exit → Act → World → Prop} {o : Oper} {rest : List Oper} {a : Act} {W W' : World} (hd : o.dst = none) (hw : Region.wanted o (yielded ops a.tmps) = true) (hr : (execOp a.eval o).run Try.prog W = .ok .skip W') (h : WL ops Q rest a W') : WL ops Q (o :: rest) a W := st_sk hd hw hr h
set_option maxHeartbeats 8000000 in
theorem channels_any {ao : Option Addr} {n c : Nat} {av : List Int} (w : World) (hA : Is w ao av) (hn : n = av.length) (hn2 : n ≤ 140737488355328) : Calls Try.prog 75 #[.slice ao n c] w fun e w' => ∃ r S, e = .returned (.map (some r)) ∧ Mp w' r S ∧ (∀ x, x ∈ S ↔ x ∈ av ∧ chanB x = true) ∧ Below w.heap.size w w' := by
  have E : Below w.heap.size w w := Below.refl _ _
  go_enter Try.func75, Try.ntmps75
  refine wq fun Q hQ => ?_
  refine sg (.map none) 2 rfl rfl rfl rfl ?_
  simp only [zp]
  refine st_end ?_
  subst hQ
  refine wq fun Q hQ => ?_
  obtain ⟨r, W1, hr, hW2, hM, hge, B⟩ : ∃ r W', w.heap.size = r ∧ w.alloc (.map #[] 0) = W' ∧ Mp W' r [] ∧ w.heap.size ≤ r ∧ Below w.heap.size w W' := ⟨_, _, rfl, rfl, ⟨#[], 0, heap_alloc_last _ _, rfl⟩, E.size, (Below.refl _ _).alloc (Nat.le_refl _) _⟩
  refine st_to (v := (.map (some r))) (W' := W1) (some 6) rfl rfl (by rw [← hr, ← hW2]; exact ex_mm rfl) ?_
  simp only [zp]
  replace E := below_next E B
  refine sg (.map (some r)) 3 rfl rfl rfl rfl ?_
  simp only [zp]
  refine st_end ?_
  subst hQ
  refine wp_seq ?_
  refine wq fun Q hQ => ?_
  refine sm (.slice ao n c) 7 rfl rfl rfl rfl ?_
  simp only [zp]
  refine sv (.int .i64 (n : Nat)) 8 rfl rfl (ex_len rfl rfl (len30 _ _ _ _ _)) ?_
  simp only [zp]
  refine sm (.int .i64 0) 9 rfl rfl rfl rfl ?_
  simp only [zp]
  refine st_end ?_
  subst hQ
  refine wp_block ?_
  go_loopw [9] (fun v9 wr => ∃ (i : Nat) (S : List Int), i ≤ n ∧ v9 = .int .i64 i ∧ Below w.heap.size w wr ∧ Mp wr r S ∧ ∀ x, x ∈ S ↔ x ∈ av.take i ∧ chanB x = true) (fun v9 _ => n - (intOf v9).toNat)
  case atStart => exact ⟨0, [], Nat.zero_le _, rfl, E, hM, fun x => by simp⟩
  case round =>
    clear E hM
    obtain ⟨i, S, hi, rfl, E, hM, hS⟩ := hrel
    by_cases hlt : i < n
    · obtain ⟨y, hy⟩ : ∃ y, av[i]? = some y := ⟨av[i]'(by omega), List.getElem?_eq_getElem (by omega)⟩
      have hT := mem_take hy
      rcases hA with q | ⟨b, off, rfl, hr⟩
      · rw [q] at hy; simp at hy
      have hcell : w.cell? ⟨b, off + i, none⟩ = some (.int .i64 y) := hr i _ (by simp [hy])
      by_cases hc : chanB y = true
      · skip
        refine wq fun Q hQ => ?_
        refine sv (.bool true) 10 rfl rfl (ex_bin (u := (.int .i64 (i : Nat))) (r := (.int .i64 (n : Nat))) rfl rfl rfl (eg3 _ _ _ _ _ _) (lss3 _ (decide_eq_true (by omega)))) ?_
        simp only [zp]
        refine st_end ?_
        subst hQ
        refine wp_seq ?_
        refine wp_cond_true rfl ?_
        refine wp_skip ?_
        refine wp_seq ?_
        refine wp_block ?_
        refine wq fun Q hQ => ?_
        refine sv (.pointer (some ⟨b, (off + i), none⟩)) 11 rfl rfl (ix30 (k := i) rfl rfl rfl (rfl) (hlt)) ?_
        simp only [zp]
        refine sv (.int .i64 y) 12 rfl rfl (ex_load rfl rfl (ld3 ((E.cell (block_lt_of_cell hcell)).trans hcell))) ?_
        simp only [zp]
        refine sg (.int .i64 y) 5 rfl rfl rfl rfl ?_
        simp only [zp]
        refine st_end ?_
        subst hQ
        refine wq fun Q hQ => ?_
        refine sm (.int .i64 y) 13 rfl rfl rfl rfl ?_
        simp only [zp]
        refine st_call (some 14) rfl rfl (chan_any y wr hc) (ex_call (f := 85) (vs := [(.int .i64 y)]) rfl (cf85 _) rfl) ?_
        rintro e W2 ⟨rfl, B⟩
        refine ⟨_, rfl, ?_⟩
        simp only [zp]
        replace E := below_next E B
        replace hM := hM.keep B
        refine st_end ?_
        subst hQ
        refine wp_cond_true rfl ?_
        refine wl_in (wl_cap fun Q hQ => ?_)
        refine sm (.map (some r)) 15 rfl rfl rfl rfl ?_
        simp only [zp]
        refine sm (.int .i64 y) 16 rfl rfl rfl rfl ?_
        simp only [zp]
        refine sv (.agg #[]) 17 rfl rfl (ex_build0  rfl (b119 _)) ?_
        simp only [zp]
        obtain ⟨W3, hp, hM2, hK2⟩ := put_set (x := y) hM
        refine st_sk rfl rfl (ex_mu rfl rfl rfl rfl hp) ?_
        replace E : Below w.heap.size w W3 := below_put E hge hK2
        refine st_end ?_
        subst hQ
        refine wl_in (wl_cap fun Q hQ => ?_)
        refine sv (.int .i64 ((i + 1 : Nat) : Int)) 18 rfl rfl (ex_bin rfl rfl rfl (eg3 _ _ _ _ _ _) (add3 _ (by omega) (by omega))) ?_
        simp only [zp]
        refine sm (.int .i64 ((i + 1 : Nat) : Int)) 9 rfl rfl rfl rfl ?_
        simp only [zp]
        refine st_end ?_
        subst hQ
        refine then_go ?_
        go_roundw
        case rel =>
          refine ⟨i + 1, _, by omega, rfl, E, hM2, fun x => ?_⟩
          rw [hT]
          by_cases hyS : y ∈ S
          · rw [if_pos hyS, hS]
            constructor
            · exact fun h => ⟨.inl h.1, h.2⟩
            · rintro ⟨h | h, h2⟩
              · exact ⟨h, h2⟩
              · subst h; exact (hS _).1 hyS
          · rw [if_neg hyS, List.mem_append, hS]
            constructor
            · rintro (h | h)
              · exact ⟨.inl h.1, h.2⟩
              · have : x = y := by simpa using h
                subst this
                exact ⟨.inr rfl, hc⟩
            · rintro ⟨h | h, h2⟩
              · exact .inl ⟨h, h2⟩
              · exact .inr (by simpa using h)
        case measure => simp [intOf]; omega
      · skip
        replace hc := Bool.eq_false_iff.2 hc
        refine wq fun Q hQ => ?_
        refine sv (.bool true) 10 rfl rfl (ex_bin (u := (.int .i64 (i : Nat))) (r := (.int .i64 (n : Nat))) rfl rfl rfl (eg3 _ _ _ _ _ _) (lss3 _ (decide_eq_true (by omega)))) ?_
        simp only [zp]
        refine st_end ?_
        subst hQ
        refine wp_seq ?_
        refine wp_cond_true rfl ?_
        refine wp_skip ?_
        refine wp_seq ?_
        refine wp_block ?_
        refine wq fun Q hQ => ?_
        refine sv (.pointer (some ⟨b, (off + i), none⟩)) 11 rfl rfl (ix30 (k := i) rfl rfl rfl (rfl) (hlt)) ?_
        simp only [zp]
        refine sv (.int .i64 y) 12 rfl rfl (ex_load rfl rfl (ld3 ((E.cell (block_lt_of_cell hcell)).trans hcell))) ?_
        simp only [zp]
        refine sg (.int .i64 y) 5 rfl rfl rfl rfl ?_
        simp only [zp]
        refine st_end ?_
        subst hQ
        refine wq fun Q hQ => ?_
        refine sm (.int .i64 y) 13 rfl rfl rfl rfl ?_
        simp only [zp]
        refine st_call (some 14) rfl rfl (chan_any y wr hc) (ex_call (f := 85) (vs := [(.int .i64 y)]) rfl (cf85 _) rfl) ?_
        rintro e W4 ⟨rfl, B⟩
        refine ⟨_, rfl, ?_⟩
        simp only [zp]
        replace E := below_next E B
        replace hM := hM.keep B
        refine st_end ?_
        subst hQ
        refine wp_cond_false rfl ?_
        refine wp_skip ?_
        refine wl_in (wl_cap fun Q hQ => ?_)
        refine sv (.int .i64 ((i + 1 : Nat) : Int)) 18 rfl rfl (ex_bin rfl rfl rfl (eg3 _ _ _ _ _ _) (add3 _ (by omega) (by omega))) ?_
        simp only [zp]
        refine sm (.int .i64 ((i + 1 : Nat) : Int)) 9 rfl rfl rfl rfl ?_
        simp only [zp]
        refine st_end ?_
        subst hQ
        refine then_go ?_
        go_roundw
        case rel =>
          refine ⟨i + 1, _, by omega, rfl, E, hM, fun x => ?_⟩
          rw [hT, hS]
          constructor
          · exact fun h => ⟨.inl h.1, h.2⟩
          · rintro ⟨h | h, h2⟩
            · exact ⟨h, h2⟩
            · subst h; rw [hc] at h2; cases h2
        case measure => simp [intOf]; omega
    · have hin : i = n := by omega
      subst i
      rw [List.take_of_length_le (by omega)] at hS
      refine wq fun Q hQ => ?_
      refine sv (.bool false) 10 rfl rfl (ex_bin (u := (.int .i64 (n : Nat))) (r := (.int .i64 (n : Nat))) rfl rfl rfl (eg3 _ _ _ _ _ _) (lss3 _ (decide_eq_false (by omega)))) ?_
      simp only [zp]
      refine st_end ?_
      subst hQ
      refine wp_seq ?_
      refine wp_cond_false rfl ?_
      refine wp_exit ?_
      refine ex_then ?_
      refine ex_then ?_
      refine ex_blk ?_
      refine wq fun Q hQ => ?_
      refine sm (.map (some r)) 19 rfl rfl rfl rfl ?_
      simp only [zp]
      refine sg (.map (some r)) 2 rfl rfl rfl rfl ?_
      simp only [zp]
      refine st_end ?_
      subst hQ
      refine wp_ret ?_
      refine bodyPost_ret (results_tmp Try.results75 _ _ _) rfl ⟨r, S, rfl, hM, hS, E⟩
end Go.Proofs.Ytgnkcmmpbohafaa
