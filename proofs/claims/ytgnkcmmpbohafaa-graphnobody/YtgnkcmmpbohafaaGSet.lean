/- An edge is set behind all others; a new graph; what a statement begins with. -/
import Derived.Test.YtgnkcmmpbohafaaGOrd
namespace Go.Proofs.Ytgnkcmmpbohafaa
open Go.RowKit
set_option linter.unusedVariables false
set_option linter.unusedSimpArgs false
set_option maxRecDepth 100000

/-- the edge that is looked for -/
def TE (ch fr : Int) : EV := ⟨ch, fr, 0, 0, ⟨0, 0, 0, 0, 0⟩, ⟨0, 0, 0, 0⟩⟩
theorem bTE (ch fr : Int) (W : World) : (Instr.build 49 #[(0, .int .i64 ch), (1, .int .i64 fr)]).run Try.prog W = .ok (.agg (EL (TE ch fr))) W := run_build W 49 _ _ (by kernel_rfl)
theorem bG (a : Option Addr) (n c : Nat) (W : World) : (Instr.build 105 #[(0, .slice a n c)]).run Try.prog W = .ok (.agg #[.slice a n c]) W := run_build W 105 _ _ (by kernel_rfl)
set_option maxHeartbeats 8000000 in
theorem place_any {g N n c : Nat} {ad : Addr} {L : List EV} {ch fr : Int} (w : World) (kg : w.heap[g]? = some (.cells #[.slice (some ad) n c] 105)) (hL : Es w N (some ad) L) (hn : n = L.length) (hn2 : n ≤ 64) (hs : srt L) : Calls Try.prog 63 #[.pointer (some ⟨g, 0, none⟩), .int .i64 ch, .int .i64 fr] w fun e w' => ∃ (i : Nat) (fd : Bool), e = .returned (.tuple #[.int .i64 i, .bool fd]) ∧ i ≤ n ∧ (∀ (k : Nat) (d : EV), k < i → L[k]? = some d → ordN d ch fr < 0) ∧ (∀ (k : Nat) (d : EV), i ≤ k → L[k]? = some d → 0 ≤ ordN d ch fr) ∧ (fd = true ↔ ∃ d, L[i]? = some d ∧ ordN d ch fr = 0) ∧ Below w.heap.size w w' := by
  have E : Below w.heap.size w w := Below.refl _ _
  go_enter Try.func63, Try.ntmps63
  refine wq fun Q hQ => ?_
  refine sg (.int .i64 0) 6 rfl rfl rfl rfl ?_
  simp only [zp]
  refine sg (.bool false) 7 rfl rfl rfl rfl ?_
  simp only [zp]
  refine st_end ?_
  subst hQ
  refine wq fun Q hQ => ?_
  refine sm (.pointer (some ⟨g, 0, none⟩)) 8 rfl rfl rfl rfl ?_
  simp only [zp]
  refine sv (.pointer (some ⟨g, 0, none⟩)) 9 rfl rfl (ex_nil (p := (.pointer (some ⟨g, 0, none⟩))) rfl rfl rfl) ?_
  simp only [zp]
  refine sv (.pointer (some ⟨g, 0, none⟩)) 10 rfl rfl (ex_fa (p := (.pointer (some ⟨g, 0, none⟩))) rfl rfl (fa105_0 _ _)) ?_
  simp only [zp]
  refine sv (.slice (some ad) n c) 11 rfl rfl (ex_load (p := (.pointer (some ⟨g, 0, none⟩))) rfl rfl (ld33 (at_cell kg rfl))) ?_
  simp only [zp]
  refine sm (.int .i64 ch) 12 rfl rfl rfl rfl ?_
  simp only [zp]
  refine sm (.int .i64 fr) 13 rfl rfl rfl rfl ?_
  simp only [zp]
  refine sv (.agg (EL (TE ch fr))) 14 rfl rfl (ex_build2 (v1 := (.int .i64 ch)) (v2 := (.int .i64 fr)) rfl rfl rfl (bTE ch fr _)) ?_
  simp only [zp]
  refine st_call (some 15) rfl rfl (bin_any (t := TE ch fr) w hL hn hn2 hs) (ex_call (f := 86) (vs := [(.slice (some ad) n c), (.agg (EL (TE ch fr))), (.func (.func 87) #[] #[])]) rfl (cf86 _) rfl) ?_
  rintro e W1 ⟨i, fd, rfl, hi, p1, p2, p3, B⟩
  refine ⟨_, rfl, ?_⟩
  simp only [zp]
  replace E := below_next E B
  replace kg := keep B kg
  refine sv (.int .i64 (i : Nat)) 16 rfl rfl (ex_ext rfl rfl rfl) ?_
  simp only [zp]
  refine sv (.bool fd) 17 rfl rfl (ex_ext rfl rfl rfl) ?_
  simp only [zp]
  refine sg (.int .i64 (i : Nat)) 6 rfl rfl rfl rfl ?_
  simp only [zp]
  refine sg (.bool fd) 7 rfl rfl rfl rfl ?_
  simp only [zp]
  refine st_end ?_
  subst hQ
  refine wp_ret ?_
  exact bodyPost_ret (results_tmp2 Try.results63 _ _ _) rfl ⟨i, fd, rfl, hi, p1, p2, p3, E⟩
set_option maxHeartbeats 8000000 in
theorem ins_end {g n c xb : Nat} {L : List EV} {e : EV} {base : Nat} (w : World) (hO : w.ownsRow base 49 13 (.slice (some ⟨g, 0, none⟩) n c) n (cE L)) (hn : n = L.length) (hn2 : n ≤ 63) (kx : w.heap[xb]? = some (.cells (EL e) 49)) (hb : base ≤ w.heap.size) : Calls Try.prog 64 #[.slice (some ⟨g, 0, none⟩) n c, .int .i64 (n : Nat), .slice (some ⟨xb, 0, none⟩) 1 1] w fun q w' => ∃ g' c', q = .returned (.slice (some ⟨g', 0, none⟩) (n + 1) c') ∧ w'.ownsRow base 49 13 (.slice (some ⟨g', 0, none⟩) (n + 1) c') (n + 1) (cE (L ++ [e])) ∧ Kept (· = g) w w' := by
  have hnc : n ≤ c := by
    obtain ⟨ao, cc, q, hc, _⟩ := own_form hO
    cases q
    exact hc
  have E : Kept (· = g) w w := Kept.refl _ _
  go_enter Try.func64, Try.ntmps64
  refine wq fun Q hQ => ?_
  refine sg (.slice none 0 0) 6 rfl rfl rfl rfl ?_
  simp only [zp]
  refine st_end ?_
  subst hQ
  refine wq fun Q hQ => ?_
  refine sm (.slice (some ⟨g, 0, none⟩) n c) 10 rfl rfl rfl rfl ?_
  simp only [zp]
  refine sm (.int .i64 (n : Nat)) 11 rfl rfl rfl rfl ?_
  simp only [zp]
  refine sv (.slice (some ⟨g, if c = n then 0 else 0 + n * 13, none⟩) (n - n) (c - n)) 12 rfl rfl (ex_cutl (k := n) rfl rfl rfl rfl (Nat.le_refl _) hnc) ?_
  simp only [zp]
  refine st_end ?_
  subst hQ
  refine wq fun Q hQ => ?_
  refine sm (.slice (some ⟨xb, 0, none⟩) 1 1) 13 rfl rfl rfl rfl ?_
  simp only [zp]
  refine sv (.int .i64 (1 : Nat)) 14 rfl rfl (ex_len rfl rfl (len33 _ _ _ _ _)) ?_
  simp only [zp]
  refine sg (.int .i64 (1 : Nat)) 7 rfl rfl rfl rfl ?_
  simp only [zp]
  refine st_end ?_
  subst hQ
  refine wp_seq ?_
  refine wq fun Q hQ => ?_
  refine sm (.int .i64 (1 : Nat)) 15 rfl rfl rfl rfl ?_
  simp only [zp]
  refine sv (.bool false) 16 rfl rfl (ex_bin (u := (.int .i64 (1 : Nat))) (r := (.int .i64 0)) rfl rfl rfl (eg3 _ _ _ _ _ _) (eql3 _ (decide_eq_false (by omega)))) ?_
  simp only [zp]
  refine st_end ?_
  subst hQ
  refine wp_cond_false rfl ?_
  refine wp_skip ?_
  refine wq fun Q hQ => ?_
  refine sm (.slice (some ⟨g, 0, none⟩) n c) 18 rfl rfl rfl rfl ?_
  simp only [zp]
  refine sv (.int .i64 (n : Nat)) 19 rfl rfl (ex_len rfl rfl (len33 _ _ _ _ _)) ?_
  simp only [zp]
  refine sg (.int .i64 (n : Nat)) 8 rfl rfl rfl rfl ?_
  simp only [zp]
  refine st_end ?_
  subst hQ
  refine wp_seq ?_
  refine wq fun Q hQ => ?_
  refine sm (.int .i64 (n : Nat)) 20 rfl rfl rfl rfl ?_
  simp only [zp]
  refine sm (.int .i64 (n : Nat)) 21 rfl rfl rfl rfl ?_
  simp only [zp]
  refine sv (.bool true) 22 rfl rfl (ex_bin (u := (.int .i64 (n : Nat))) (r := (.int .i64 (n : Nat))) rfl rfl rfl (eg3 _ _ _ _ _ _) (eql3 _ (decide_eq_true (by omega)))) ?_
  simp only [zp]
  refine st_end ?_
  subst hQ
  refine wp_cond_true rfl ?_
  refine wq fun Q hQ => ?_
  refine sm (.slice (some ⟨g, 0, none⟩) n c) 23 rfl rfl rfl rfl ?_
  simp only [zp]
  refine sm (.slice (some ⟨xb, 0, none⟩) 1 1) 24 rfl rfl rfl rfl ?_
  simp only [zp]
  obtain ⟨g', c', W2, hr2, hO2, hK0, hloc2⟩ := own_add (c := 1) (m := 1) (t := 33) hO (show w.rangeAt xb 0 (EL e).toList from at_range (o := 0) (n := 13) kx (by show 0 + 13 ≤ _; simp [EL])) rfl (by rw [← cE_one]; exact cE_one1 [e]) Try.underlying33 Try.inf49b rfl (by decide) (by decide) (by omega) (by simp only [maxLen]; omega) hb
  have hK2 : Kept (· = g) w W2 := ⟨hK0.os, hK0.tape, hK0.output, hK0.size, fun k hk hn => hK0.block k hk (fun e => hn (Option.some.inj e).symm)⟩
  replace E := hK2
  refine st_to (v := (.slice (some ⟨g', 0, none⟩) (n + 1) c')) (some 25) rfl rfl (ex_app rfl rfl rfl hr2) ?_
  simp only [zp]
  refine sg (.slice (some ⟨g', 0, none⟩) (n + 1) c') 6 rfl rfl rfl rfl ?_
  simp only [zp]
  refine st_end ?_
  subst hQ
  refine wp_ret ?_
  repeat (first | refine ret_out ?_ | refine ret_blk ?_)
  exact bodyPost_ret (results_tmp Try.results64 _ _ _) rfl ⟨g', c', rfl, by rw [cE_app, cE_one]; exact hO2, E⟩
end Go.Proofs.Ytgnkcmmpbohafaa
