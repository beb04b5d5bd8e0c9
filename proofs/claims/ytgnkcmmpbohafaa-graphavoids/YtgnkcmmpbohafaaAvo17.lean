/- What may not be used is not; with less that may be used a way costs no less. -/
import Derived.Test.YtgnkcmmpbohafaaAvo16
namespace Go.Proofs.Ytgnkcmmpbohafaa
open Go.RowKit
set_option linter.unusedVariables false
set_option linter.unusedSimpArgs false
set_option maxRecDepth 100000

def addA (v : WV) (ch : Int) : WV := { v with av := v.av ++ [ch] }
theorem below_cell {W W' : World} {a : Addr} {v : Value} (h : W.cell? a = some v) (hB : Below W.heap.size W W') : W'.cell? a = some v := (hB.cell (block_lt_of_cell h)).trans h
theorem kept_cell {w W : World} {b k : Nat} {v : Value} (h : Kept Nil w W) (hc : w.cell? ⟨b, k, none⟩ = some v) : W.cell? ⟨b, k, none⟩ = some v := by
  have hb : W.heap[b]? = w.heap[b]? := h.block b (block_lt_of_cell hc) (nilN _)
  exact (cell_blk hb _).trans hc
def esO : Option YV → List EV
  | none => []
  | some y => y.es
theorem wyd_es {W : World} {base : Nat} {C : Array Value} {o : Option YV} (h : Wyd W base C o) : ∃ a0 c0 a1 n1 c1 a2 n2 c2, C = #[.slice a0 (esO o).length c0, .slice a1 n1 c1, .slice a2 n2 c2, .int .i64 (feeO o), .float .f64 (cstO o)] ∧ Es W W.heap.size a0 (esO o) ∧ (esO o).length ≤ maxLen := by
  cases o with
  | none => exact ⟨none, 0, none, 0, 0, none, 0, 0, h, .inl rfl, Nat.zero_le _⟩
  | some y =>
    obtain ⟨g, c, bA, bX, e, hO, _⟩ := h; refine ⟨_, _, _, _, _, _, _, _, e, own_Es hO, ?_⟩
    rcases hO.2 with ⟨q, _⟩ | ⟨g', cap', cur, q, hb, hh, a1, a2, a3, a4⟩
    · cases q
    · exact Nat.le_trans a1 a2
theorem Try.infIb : (Try.prog.info? 3).map (fun i => (i.zero, i.size, i.bytes)) = some (some (.int .i64 0), 1, 8) := by kernel_rfl
theorem bI0 (W : World) : (Instr.buildSlice 30 0 #[]).run Try.prog W = .ok (.slice (some ⟨W.heap.size, 0, none⟩) 0 0) (W.alloc (.cells #[] 3)) := by kernel_rfl
theorem bI1 (z : Int) (W : World) : (Instr.buildSlice 30 1 #[(0, .int .i64 z)]).run Try.prog W = .ok (.slice (some ⟨W.heap.size, 0, none⟩) 1 1) (W.alloc (.cells #[.int .i64 z] 3)) := by kernel_rfl
/-- numbers are added behind a row of one's own -/
theorem own_is {W : World} {base n m c c0 gb : Nat} {ao : Option Addr} {xs : List Value} {l : List Int} (h : W.ownsRow base 3 1 (.slice (some ⟨gb, 0, none⟩) n c0) n xs) (hD : Is W ao l) (hm : m = l.length) (hn : (n + m) * 8 ≤ 140737488355328) (hbase : base ≤ W.heap.size) :
    ∃ g' cap' W', (Builtin.append_ #[30, 30] 30 #[.slice (some ⟨gb, 0, none⟩) n c0, .slice ao m c]).run Try.prog W = .ok (.slice (some ⟨g', 0, none⟩) (n + m) cap') W' ∧ W'.ownsRow base 3 1 (.slice (some ⟨g', 0, none⟩) (n + m) cap') (n + m) (xs ++ Il l) ∧ Kept (· = gb) W W' := by
  have hnc : n ≤ c0 := by
    obtain ⟨ao, cc, q, hc, _⟩ := own_form h
    cases q
    exact hc
  by_cases h0 : m = 0
  · subst h0
    obtain rfl : l = [] := List.eq_nil_of_length_eq_zero (by omega); obtain ⟨i0, hi, hz0, hz1, hz2⟩ := info_parts Try.infIb; refine ⟨gb, c0, W, ?_, by simp only [Il, List.map_nil, List.append_nil]; exact h, Kept.refl _ _⟩
    cases ao <;> simp [Builtin.append_, run_underlying Try.underlying30, sizeOf, typeInfo, hi, hz1, Builtin.lenOf, Builtin.firstCells, hnc, loadCells, loadCellsFrom, storeCells]
  · rcases hD with q | ⟨xb, xo, rfl, hD⟩
    · subst q
      exact absurd hm h0
    · obtain ⟨g', c', W', h1, h2, h3, h4⟩ := own_add (c := c) (m := m) (t := 30) h hD (by rw [List.length_map, hm, Nat.mul_one]) (fun u hu => by obtain ⟨z, _, rfl⟩ := List.mem_map.1 hu; rfl) Try.underlying30 Try.infIb rfl (by decide) (by omega) hn (by simp only [maxLen]; omega) hbase
      exact ⟨g', c', W', h1, h2, ⟨h3.os, h3.tape, h3.output, h3.size, fun k hk hn => h3.block k hk (fun e => hn (Option.some.inj e).symm)⟩⟩
theorem own_Is {W : World} {base n c g : Nat} {l : List Int} (h : W.ownsRow base 3 1 (.slice (some ⟨g, 0, none⟩) n c) n (Il l)) : Is W (some ⟨g, 0, none⟩) l := by
  refine .inr ⟨g, 0, rfl, fun j u hu => ?_⟩
  have := World.ownsRow.cells h (g := g) rfl j u hu
  rw [Addr.add_mid] at this; exact this
theorem is_one {W : World} {b : Nat} {z : Int} (k : W.heap[b]? = some (.cells #[.int .i64 z] 3)) : Is W (some ⟨b, 0, none⟩) [z] := .inr ⟨b, 0, rfl, at_range (o := 0) (n := 1) k (by show 0 + 1 ≤ _; simp)⟩
theorem is_at {W : World} {ao : Option Addr} {l : List Int} {k : Nat} (h : Is W ao l) (hk : k < l.length) : ∃ b o, ao = some ⟨b, o, none⟩ ∧ W.cell? ⟨b, o + k, none⟩ = some (.int .i64 l[k]) := by
  rcases h with h | ⟨b, o, e, h⟩
  · subst h
    simp at hk
  · exact ⟨b, o, e, h k _ (by rw [List.getElem?_map, List.getElem?_eq_getElem hk]; rfl)⟩
theorem free_at {L : List EV} {v : WV} {i k : Nat} {d : EV} (hd : (esO (fndR L v).2)[i]? = some d) (hk : k < v.av.length) : ¬ d.ch = v.av[k] := by
  intro e
  obtain ⟨y, hy⟩ : ∃ y, (fndR L v).2 = some y := by
    cases h : (fndR L v).2 with
    | none => rw [h] at hd; simp [esO] at hd
    | some y => exact ⟨y, rfl⟩
  rw [hy] at hd; exact fnd_free (k := (fndR L v).1) (by rw [← hy]) d (List.mem_of_getElem? hd) (e ▸ List.getElem_mem hk)
set_option maxHeartbeats 64000000 in
theorem avoids_any {ao wo : Option Addr} {n c nw cw : Nat} {p : Nat → OV} {v : WV} {ch : Int} (w : World) (hP : OpAt w ao n p) (hN : ∀ i, i < n → ON (p i)) (hn : n ≤ 140737488355328) (hA : Is w wo v.av) (hnw : nw = v.av.length) (hnw2 : nw * 8 ≤ 140737488351232) (hV : WN v) : Calls Try.prog 7 #[.slice ao n c, .agg (WL_ v wo nw cw), .int .i64 ch] w fun e w' => e = .returned (.bool true) ∧ Below w.heap.size w w' := by
  have hl2 : (addA v ch).av.length = nw + 1 := by rw [hnw]; exact List.length_append
  have E : Below w.heap.size w w := Below.refl _ _
  go_enter Try.func7, Try.ntmps7; refine wq fun Q hQ => ?_; refine st_new (fun b => .pointer (some ⟨b, 0, none⟩)) (some 4) rfl rfl (ex_box rfl rfl) ?_; intro b21 W1 k21 g21 B; simp only [zp]; have ge_b21 := Nat.le_trans E.size g21; replace E := below_next E B; clear B; refine sg (.bool false) 6 rfl rfl rfl rfl ?_; simp only [zp]; refine st_end ?_; subst hQ; refine wq fun Q hQ => ?_; refine sm (.slice ao n c) 18 rfl rfl rfl rfl ?_; simp only [zp]; refine st_call (some 19) rfl rfl (both_any W1 (os_keep hP E) hN hn) (ex_call (f := 9) (vs := [(.slice ao n c)]) rfl (cf9 _) rfl) ?_
  rintro e W2 ⟨g, b, x, u, L, rfl, hH0⟩; have hH := gr_base hH0 E.size E; refine ⟨_, rfl, ?_⟩; simp only [zp]; replace E := below_next E hH0.E; replace k21 := keep hH0.E k21; refine sm (.tuple #[(.pointer (some ⟨g, 0, none⟩)), (.pointer (some ⟨x, 0, none⟩)), (.bool true)]) 17 rfl rfl rfl rfl ?_; simp only [zp]; refine sv (.pointer (some ⟨g, 0, none⟩)) 20 rfl rfl (ex_ext rfl rfl rfl) ?_; simp only [zp]; refine sv (.pointer (some ⟨x, 0, none⟩)) 21 rfl rfl (ex_ext rfl rfl rfl) ?_; simp only [zp]; refine sv (.bool true) 22 rfl rfl (ex_ext rfl rfl rfl) ?_; simp only [zp]
  refine sg (.pointer (some ⟨g, 0, none⟩)) 7 rfl rfl rfl rfl ?_; simp only [zp]; refine sg (.pointer (some ⟨x, 0, none⟩)) 8 rfl rfl rfl rfl ?_; simp only [zp]; refine sg (.bool true) 9 rfl rfl rfl rfl ?_; simp only [zp]; refine st_end ?_; subst hQ; refine wp_seq ?_; refine wq fun Q hQ => ?_; refine st_call (some 23) rfl rfl (lives_any W2) (ex_call (f := 10) (vs := []) rfl (cf10 _) rfl) ?_; rintro e W3 ⟨rfl, B⟩; refine ⟨_, rfl, ?_⟩; simp only [zp]; replace E := below_next E B; replace k21 := keep B k21; replace hH := hH.keep B; refine sv (.bool false) 24 rfl rfl (ex_not rfl rfl rfl) ?_
  simp only [zp]; refine sm (.bool false) 25 rfl rfl rfl rfl ?_; simp only [zp]; refine sm (.bool true) 26 rfl rfl rfl rfl ?_; simp only [zp]; refine sv (.bool false) 27 rfl rfl (ex_not rfl rfl rfl) ?_; simp only [zp]; refine sv (.bool false) 28 rfl rfl (ex_pkF rfl rfl rfl) ?_; simp only [zp]; refine st_end ?_; subst hQ; refine wp_cond_false rfl ?_; refine wp_skip ?_; refine wq fun Q hQ => ?_; refine sm (.pointer (some ⟨g, 0, none⟩)) 30 rfl rfl rfl rfl ?_; simp only [zp]
  refine sv (.agg (WL_ v wo nw cw)) 31 rfl rfl (ex_load (p := (.pointer (some ⟨b21, 0, none⟩))) rfl rfl (ld_all k21 Try.underlying32 rfl inf32)) ?_; simp only [zp]; refine st_call (some 32) rfl rfl (find_gr (v := v) W3 hH.G.gr hH.gl.n hH.gl.b (hA.keep E) hnw (by omega) hV.am hV.mo hV.t1 hV.t2) (ex_call (f := 12) (vs := [(.pointer (some ⟨g, 0, none⟩)), (.agg (WL_ v wo nw cw))]) rfl (cf12 _) rfl) ?_; rintro e W4 ⟨C, rfl, hC, B⟩; obtain ⟨a10, n10, c10, a11, n11, c11, a12, n12, c12, rfl⟩ := wyd_form hC; clear hC; refine ⟨_, rfl, ?_⟩; simp only [zp]; replace E := below_next E B
  replace k21 := keep B k21; replace hH := hH.keep B; refine sm (.tuple #[(.agg #[.slice a10 n10 c10, .slice a11 n11 c11, .slice a12 n12 c12, .int .i64 (feeO (fndR L v).2), .float .f64 (cstO (fndR L v).2)]), (.int .i64 (fndR L v).1)]) 29 rfl rfl rfl rfl ?_; simp only [zp]; refine sv (.agg #[.slice a10 n10 c10, .slice a11 n11 c11, .slice a12 n12 c12, .int .i64 (feeO (fndR L v).2), .float .f64 (cstO (fndR L v).2)]) 33 rfl rfl (ex_ext rfl rfl rfl) ?_; simp only [zp]; refine sv (.int .i64 (fndR L v).1) 34 rfl rfl (ex_ext rfl rfl rfl) ?_; simp only [zp]
  refine st_new (fun b => .pointer (some ⟨b, 0, none⟩)) (some 10) rfl rfl (ex_alloc rfl zero36) ?_; intro b22 W5 k22 g22 B; simp only [zp]
  have ne_b22_b21 : b22 ≠ b21 := fun e => by have := lt_of k21; omega
  have ge_b22 := Nat.le_trans E.size g22; replace E := below_next E B; replace k21 := keep B k21; replace hH := hH.keep B; clear B; obtain ⟨W6, hst, kn, K⟩ := put_all (D := #[.slice a10 n10 c10, .slice a11 n11 c11, .slice a12 n12 c12, .int .i64 (feeO (fndR L v).2), .float .f64 (cstO (fndR L v).2)]) k22 rfl inf36 one5; refine st_sk rfl rfl (ex_store rfl rfl rfl hst) ?_; replace E := below_put E ge_b22 K; replace k21 := keepK K k21 (fun e => ne_tag k21 k22 (by decide) e); replace hH := hH.put K k22 (by decide) (by decide) (by decide) ge_b22; replace k22 := kn; clear kn K hst
  refine sg (.int .i64 (fndR L v).1) 11 rfl rfl rfl rfl ?_; simp only [zp]; refine st_end ?_; subst hQ; refine wq fun Q hQ => ?_; refine sv (.agg (WL_ v wo nw cw)) 35 rfl rfl (ex_load (p := (.pointer (some ⟨b21, 0, none⟩))) rfl rfl (ld_all k21 Try.underlying32 rfl inf32)) ?_; simp only [zp]; refine st_new (fun b => .pointer (some ⟨b, 0, none⟩)) (some 12) rfl rfl (ex_alloc rfl zero32) ?_; intro b23 W7 k23 g23 B; simp only [zp]
  have ne_b23_b21 : b23 ≠ b21 := fun e => by have := lt_of k21; omega
  have ne_b23_b22 : b23 ≠ b22 := fun e => by have := lt_of k22; omega
  have ge_b23 := Nat.le_trans E.size g23; replace E := below_next E B; replace k21 := keep B k21; replace hH := hH.keep B; replace k22 := keep B k22; clear B; obtain ⟨W8, hst, kn, K⟩ := put_all (D := (WL_ v wo nw cw)) k23 rfl inf32 (by kernel_rfl); refine st_sk rfl rfl (ex_store rfl rfl rfl hst) ?_; replace E := below_put E ge_b23 K; replace k21 := keepK K k21 (fun e => by first | exact ne_b21_b23 e | exact ne_b23_b21 e.symm); replace hH := hH.put K k23 (by decide) (by decide) (by decide) ge_b23; replace k22 := keepK K k22 (fun e => ne_tag k22 k23 (by decide) e); replace k23 := kn
  clear kn K hst; refine st_end ?_; subst hQ; refine wq fun Q hQ => ?_; refine st_new (fun b => .slice (some ⟨b, 0, none⟩) 0 0) (some 36) rfl rfl (ex_bsl0  rfl (bI0 _)) ?_; intro b24 W9 k24 g24 B; simp only [zp]
  have ne_b24_b21 : b24 ≠ b21 := fun e => by have := lt_of k21; omega
  have ne_b24_b22 : b24 ≠ b22 := fun e => by have := lt_of k22; omega
  have ne_b24_b23 : b24 ≠ b23 := fun e => by have := lt_of k23; omega
  have ge_b24 := Nat.le_trans E.size g24; replace E := below_next E B; replace k21 := keep B k21; replace hH := hH.keep B; replace k22 := keep B k22; replace k23 := keep B k23; clear B; refine sv (.pointer (some ⟨b21, 5, none⟩)) 37 rfl rfl (ex_fa (p := (.pointer (some ⟨b21, 0, none⟩))) rfl rfl (fa32_5 _ _)) ?_; simp only [zp]; refine sv (.slice wo nw cw) 38 rfl rfl (ex_load (p := (.pointer (some ⟨b21, 5, none⟩))) rfl rfl (ld30 (at_cell k21 rfl))) ?_; simp only [zp]
  have hO36 : W9.ownsRow w.heap.size 3 1 (.slice (some ⟨b24, 0, none⟩) 0 0) 0 [] := ⟨rfl, .inr ⟨b24, 0, _, rfl, ge_b24, k24, by decide, by decide, rfl, rfl⟩⟩
  obtain ⟨g39, c39, W10, hr2, hO39, hK2⟩ := own_is (c := cw) (m := nw) hO36 (hA.keep E) hnw (by omega) E.size
  have ge_g39 : w.heap.size ≤ g39 := own_ge hO39 rfl
  clear hO36; refine sv (.slice (some ⟨g39, 0, none⟩) (0 + nw) c39) 39 rfl rfl (ex_app rfl rfl rfl hr2) ?_; simp only [zp]; replace E := below_put E ge_b24 hK2; replace k21 := keepK hK2 k21 (fun e => ne_tag k21 k24 (by decide) e); replace hH := hH.put hK2 k24 (by decide) (by decide) (by decide) ge_b24; replace k22 := keepK hK2 k22 (fun e => ne_tag k22 k24 (by decide) e); replace k23 := keepK hK2 k23 (fun e => ne_tag k23 k24 (by decide) e); clear hr2 hK2 k24; refine sm (.int .i64 ch) 40 rfl rfl rfl rfl ?_; simp only [zp]
  refine st_new (fun b => .slice (some ⟨b, 0, none⟩) 1 1) (some 41) rfl rfl (ex_bsl1 (u := (.int .i64 ch)) rfl rfl (bI1 ch _)) ?_; intro b25 W11 k25 g25 B; simp only [zp]
  have ne_b25_b21 : b25 ≠ b21 := fun e => by have := lt_of k21; omega
  have ne_b25_b22 : b25 ≠ b22 := fun e => by have := lt_of k22; omega
  have ne_b25_b23 : b25 ≠ b23 := fun e => by have := lt_of k23; omega
  have ge_b25 := Nat.le_trans E.size g25; replace E := below_next E B; replace k21 := keep B k21; replace hH := hH.keep B; replace k22 := keep B k22; replace k23 := keep B k23; replace hO39 := own_keep hO39 B; clear B; obtain ⟨g42, c42, W12, hr2, hO42, hK2⟩ := own_is (c := 1) (m := 1) hO39 (is_one k25) rfl (by omega) E.size
  have ge_g42 : w.heap.size ≤ g42 := own_ge hO42 rfl
  refine sv (.slice (some ⟨g42, 0, none⟩) (0 + nw + 1) c42) 42 rfl rfl (ex_app rfl rfl rfl hr2) ?_; simp only [zp]; replace E := below_put E ge_g39 hK2; replace k21 := keepK hK2 k21 (fun e => own_ne hO39 k21 (by decide) (congrArg some e.symm)); replace hH := hH.putN hK2 (hH.ne (own_blk hO39).choose_spec (by decide) (by decide) (by decide)) ge_g39; replace k22 := keepK hK2 k22 (fun e => own_ne hO39 k22 (by decide) (congrArg some e.symm)); replace k23 := keepK hK2 k23 (fun e => own_ne hO39 k23 (by decide) (congrArg some e.symm)); clear hr2 hK2 k25 hO39
  rw [(show 0 + nw + 1 = nw + 1 by omega), List.nil_append, (show Il v.av ++ Il [ch] = Il (addA v ch).av from (List.map_append ..).symm)] at hO42; rw [(show 0 + nw + 1 = nw + 1 by omega)]; refine sv (.pointer (some ⟨b23, 5, none⟩)) 43 rfl rfl (ex_fa (p := (.pointer (some ⟨b23, 0, none⟩))) rfl rfl (fa32_5 _ _)) ?_; simp only [zp]; obtain ⟨kn, K⟩ := put_cell (i := 5) (.slice (some ⟨g42, 0, none⟩) (nw + 1) c42) k23; refine st_sk rfl rfl (ex_store rfl rfl rfl (sto30 (at_cell k23 rfl) (unfrozen k23))) ?_
  obtain ⟨W13, hW2⟩ : ∃ W', W12.setCell ⟨b23, 5, none⟩ (.slice (some ⟨g42, 0, none⟩) (nw + 1) c42) = W' := ⟨_, rfl⟩; rw [hW2] at kn K ⊢; replace E := below_put E ge_b23 K; replace k21 := keepK K k21 (fun e => by first | exact ne_b21_b23 e | exact ne_b23_b21 e.symm); replace hH := hH.put K k23 (by decide) (by decide) (by decide) ge_b23; replace k22 := keepK K k22 (fun e => ne_tag k22 k23 (by decide) e); replace hO42 := own_keepK hO42 K (fun q hq e => own_ne hO42 k23 (by decide) (by rw [hq, e])); replace k23 := kn; clear kn K; refine st_end ?_; subst hQ; refine wq fun Q hQ => ?_
  refine sm (.pointer (some ⟨g, 0, none⟩)) 45 rfl rfl rfl rfl ?_; simp only [zp]; refine sv (.agg #[(.int .i64 v.fr), (.int .i64 v.to), (.int .i64 v.am), (.int .i64 v.la), (.int .i64 v.ti), (.slice (some ⟨g42, 0, none⟩) (nw + 1) c42), (.int .i64 v.mo)]) 46 rfl rfl (ex_load (p := (.pointer (some ⟨b23, 0, none⟩))) rfl rfl (ld_all k23 Try.underlying32 rfl inf32)) ?_; simp only [zp]
  refine st_call (some 47) rfl rfl (find_gr (v := addA v ch) (nw := nw + 1) W13 hH.G.gr hH.gl.n hH.gl.b (own_Is hO42) hl2.symm (by omega) hV.am hV.mo hV.t1 hV.t2) (ex_call (f := 12) (vs := [(.pointer (some ⟨g, 0, none⟩)), (.agg #[(.int .i64 v.fr), (.int .i64 v.to), (.int .i64 v.am), (.int .i64 v.la), (.int .i64 v.ti), (.slice (some ⟨g42, 0, none⟩) (nw + 1) c42), (.int .i64 v.mo)])]) rfl (cf12 _) rfl) ?_; rintro e W14 ⟨C, rfl, hC, B⟩; obtain ⟨a20, c20, a21, n21, c21, a22, n22, c22, rfl, hEs0, hEl⟩ := wyd_es hC; simp only [maxLen] at hEl; obtain ⟨N2, hN2⟩ : ∃ N2, N2 = W14.heap.size := ⟨_, rfl⟩
  rw [← hN2] at hEs0; have hEs := hEs0; clear hC hEs0; refine ⟨_, rfl, ?_⟩; simp only [zp]; replace E := below_next E B; replace k21 := keep B k21; replace hH := hH.keep B; replace k22 := keep B k22; replace hO42 := own_keep hO42 B; replace k23 := keep B k23; refine sm (.tuple #[(.agg #[.slice a20 (esO (fndR L (addA v ch)).2).length c20, .slice a21 n21 c21, .slice a22 n22 c22, .int .i64 (feeO (fndR L (addA v ch)).2), .float .f64 (cstO (fndR L (addA v ch)).2)]), (.int .i64 (fndR L (addA v ch)).1)]) 44 rfl rfl rfl rfl ?_; simp only [zp]
  refine sv (.agg #[.slice a20 (esO (fndR L (addA v ch)).2).length c20, .slice a21 n21 c21, .slice a22 n22 c22, .int .i64 (feeO (fndR L (addA v ch)).2), .float .f64 (cstO (fndR L (addA v ch)).2)]) 48 rfl rfl (ex_ext rfl rfl rfl) ?_; simp only [zp]; refine sv (.int .i64 (fndR L (addA v ch)).1) 49 rfl rfl (ex_ext rfl rfl rfl) ?_; simp only [zp]; refine st_new (fun b => .pointer (some ⟨b, 0, none⟩)) (some 13) rfl rfl (ex_alloc rfl zero36) ?_; intro b26 W15 k26 g26 B; simp only [zp]
  have nl_b26 : N2 ≤ b26 := by rw [hN2]; exact g26
  have ne_b26_b21 : b26 ≠ b21 := fun e => by have := lt_of k21; omega
  have ne_b26_b22 : b26 ≠ b22 := fun e => by have := lt_of k22; omega
  have ne_b26_b23 : b26 ≠ b23 := fun e => by have := lt_of k23; omega
  have ge_b26 := Nat.le_trans E.size g26; replace E := below_next E B; replace k21 := keep B k21; replace hH := hH.keep B; replace k22 := keep B k22; replace hO42 := own_keep hO42 B; replace k23 := keep B k23; replace hEs := hEs.keepB B; clear B; obtain ⟨W16, hst, kn, K⟩ := put_all (D := #[.slice a20 (esO (fndR L (addA v ch)).2).length c20, .slice a21 n21 c21, .slice a22 n22 c22, .int .i64 (feeO (fndR L (addA v ch)).2), .float .f64 (cstO (fndR L (addA v ch)).2)]) k26 rfl inf36 one5; refine st_sk rfl rfl (ex_store rfl rfl rfl hst) ?_; replace E := below_put E ge_b26 K
  replace k21 := keepK K k21 (fun e => ne_tag k21 k26 (by decide) e); replace hH := hH.put K k26 (by decide) (by decide) (by decide) ge_b26; replace k22 := keepK K k22 (fun e => by first | exact ne_b22_b26 e | exact ne_b26_b22 e.symm); replace hO42 := own_keepK hO42 K (fun q hq e => own_ne hO42 k26 (by decide) (by rw [hq, e])); replace k23 := keepK K k23 (fun e => ne_tag k23 k26 (by decide) e); replace hEs := hEs.keepK K (fun k hk e => by have := nl_b26; omega); replace k26 := kn; clear kn K hst; refine sg (.int .i64 (fndR L (addA v ch)).1) 14 rfl rfl rfl rfl ?_; simp only [zp]
  refine st_end ?_; subst hQ; refine wp_seq ?_; refine wp_seq ?_
  by_cases q3 : (fndR L v).1 = 3
  · skip
    refine wl_in (wl_cap fun Q hQ => ?_); refine sm (.int .i64 (fndR L v).1) 50 rfl rfl rfl rfl ?_; simp only [zp]; refine sv (.bool true) 51 rfl rfl (ex_bin (u := (.int .i64 (fndR L v).1)) (r := (.int .i64 3)) rfl rfl rfl (eg37 _ _ _ _ _ _) (eql37 _ (decide_eq_true q3))) ?_; simp only [zp]; refine sm (.bool true) 52 rfl rfl rfl rfl ?_; simp only [zp]; refine sn 53 rfl rfl ?_; simp only [zp]; refine sn 54 rfl rfl ?_; simp only [zp]; refine sv (.bool true) 55 rfl rfl (ex_pkT rfl rfl rfl) ?_; simp only [zp]; refine st_end ?_; subst hQ; refine wp_cond_true rfl ?_; refine wq fun Q hQ => ?_
    refine sg (.bool true) 6 rfl rfl rfl rfl ?_; simp only [zp]; refine st_end ?_; subst hQ; refine wp_ret ?_
    repeat (first | refine ret_out ?_ | refine ret_blk ?_)
    exact bodyPost_ret (results_tmp Try.results7 _ _ _) rfl ⟨rfl, E⟩
  by_cases q4 : (fndR L (addA v ch)).1 = 3
  · skip
    refine wl_in (wl_cap fun Q hQ => ?_); refine sm (.int .i64 (fndR L v).1) 50 rfl rfl rfl rfl ?_; simp only [zp]; refine sv (.bool false) 51 rfl rfl (ex_bin (u := (.int .i64 (fndR L v).1)) (r := (.int .i64 3)) rfl rfl rfl (eg37 _ _ _ _ _ _) (eql37 _ (decide_eq_false q3))) ?_; simp only [zp]; refine sm (.bool false) 52 rfl rfl rfl rfl ?_; simp only [zp]; refine sm (.int .i64 (fndR L (addA v ch)).1) 53 rfl rfl rfl rfl ?_; simp only [zp]
    refine sv (.bool true) 54 rfl rfl (ex_bin (u := (.int .i64 (fndR L (addA v ch)).1)) (r := (.int .i64 3)) rfl rfl rfl (eg37 _ _ _ _ _ _) (eql37 _ (decide_eq_true q4))) ?_; simp only [zp]; refine sv (.bool true) 55 rfl rfl (ex_pkF rfl rfl rfl) ?_; simp only [zp]; refine st_end ?_; subst hQ; refine wp_cond_true rfl ?_; refine wq fun Q hQ => ?_; refine sg (.bool true) 6 rfl rfl rfl rfl ?_; simp only [zp]; refine st_end ?_; subst hQ; refine wp_ret ?_
    repeat (first | refine ret_out ?_ | refine ret_blk ?_)
    exact bodyPost_ret (results_tmp Try.results7 _ _ _) rfl ⟨rfl, E⟩
  refine wl_in (wl_cap fun Q hQ => ?_); refine sm (.int .i64 (fndR L v).1) 50 rfl rfl rfl rfl ?_; simp only [zp]; refine sv (.bool false) 51 rfl rfl (ex_bin (u := (.int .i64 (fndR L v).1)) (r := (.int .i64 3)) rfl rfl rfl (eg37 _ _ _ _ _ _) (eql37 _ (decide_eq_false q3))) ?_; simp only [zp]; refine sm (.bool false) 52 rfl rfl rfl rfl ?_; simp only [zp]; refine sm (.int .i64 (fndR L (addA v ch)).1) 53 rfl rfl rfl rfl ?_; simp only [zp]
  refine sv (.bool false) 54 rfl rfl (ex_bin (u := (.int .i64 (fndR L (addA v ch)).1)) (r := (.int .i64 3)) rfl rfl rfl (eg37 _ _ _ _ _ _) (eql37 _ (decide_eq_false q4))) ?_; simp only [zp]; refine sv (.bool false) 55 rfl rfl (ex_pkF rfl rfl rfl) ?_; simp only [zp]; refine st_end ?_; subst hQ; refine wp_cond_false rfl ?_; refine wp_skip ?_; refine wp_seq ?_; refine wq fun Q hQ => ?_; refine sg (.int .i64 0) 15 rfl rfl rfl rfl ?_; simp only [zp]; refine st_end ?_; subst hQ; refine wp_block ?_; have E_1 := E; have k21_1 := k21; have hH_1 := hH; have k22_1 := k22; have hO42_1 := hO42
  have k23_1 := k23; have hEs_1 := hEs; have k26_1 := k26
  go_loopw [15] (fun v15 wz => ∃ i : Nat, i ≤ (esO (fndR L (addA v ch)).2).length ∧ v15 = .int .i64 i ∧ Below W16.heap.size W16 wz) (fun v15 _ => (esO (fndR L (addA v ch)).2).length - (intOf v15).toNat)
  case atStart => exact ⟨0, Nat.zero_le _, rfl, Below.refl _ _⟩
  case round =>
    obtain ⟨i, hi, rfl, B1⟩ := hrel; clear E k21 hH k22 hO42 k23 hEs k26; have E := below_next E_1 B1; have k21 := keep B1 k21_1; have hH := hH_1.keep B1; have k22 := keep B1 k22_1; have hO42 := own_keep hO42_1 B1; have k23 := keep B1 k23_1; have hEs := hEs_1.keepB B1; have k26 := keep B1 k26_1
    by_cases lt1 : i < (esO (fndR L (addA v ch)).2).length
    · skip
      obtain ⟨dd, hdd⟩ : ∃ dd, (esO (fndR L (addA v ch)).2)[i]? = some dd := ⟨_, List.getElem?_eq_getElem lt1⟩
      obtain ⟨eb, eo, hea⟩ : ∃ eb eo, a20 = some ⟨eb, eo, none⟩ := by
        rcases hEs with h | ⟨b', o', e', _⟩
        · rw [h] at lt1; simp at lt1
        · exact ⟨b', o', e'⟩
      refine wp_seq ?_; refine wq fun Q hQ => ?_; refine sm (.int .i64 (i : Nat)) 56 rfl rfl rfl rfl ?_; simp only [zp]; refine sv (.pointer (some ⟨b26, 0, none⟩)) 57 rfl rfl (ex_fa (p := (.pointer (some ⟨b26, 0, none⟩))) rfl rfl (fa36_0 _ _)) ?_; simp only [zp]; refine sv (.slice a20 (esO (fndR L (addA v ch)).2).length c20) 58 rfl rfl (ex_load (p := (.pointer (some ⟨b26, 0, none⟩))) rfl rfl (ld33 (at_cell k26 rfl))) ?_; simp only [zp]; refine sv (.int .i64 ((esO (fndR L (addA v ch)).2).length : Nat)) 59 rfl rfl (ex_len rfl rfl (len33 _ _ _ _ _)) ?_; simp only [zp]
      refine sv (.bool true) 60 rfl rfl (ex_bin (u := (.int .i64 (i : Nat))) (r := (.int .i64 ((esO (fndR L (addA v ch)).2).length : Nat))) rfl rfl rfl (eg3 _ _ _ _ _ _) (lss3 _ (decide_eq_true (by omega)))) ?_; simp only [zp]; refine st_end ?_; subst hQ; refine wp_cond_true rfl ?_; refine wp_skip ?_; refine wp_seq ?_; refine wp_block ?_; refine wq fun Q hQ => ?_; refine sg (.int .i64 0) 16 rfl rfl rfl rfl ?_; simp only [zp]; refine st_end ?_; subst hQ; refine wp_block ?_; have E_2 := E; have k21_2 := k21; have hH_2 := hH; have k22_2 := k22; have hO42_2 := hO42; have k23_2 := k23
      have hEs_2 := hEs; have k26_2 := k26; have B1_2 := B1
      go_loopw [16] (fun v16 wz => ∃ k : Nat, k ≤ (nw + 1) ∧ v16 = .int .i64 k ∧ Below wr.heap.size wr wz) (fun v16 _ => (nw + 1) - (intOf v16).toNat)
      case atStart => exact ⟨0, Nat.zero_le _, rfl, Below.refl _ _⟩
      case round =>
        obtain ⟨k, hk, rfl, B2⟩ := hrel; clear E k21 hH k22 hO42 k23 hEs k26 B1; have E := below_next E_2 B2; have k21 := keep B2 k21_2; have hH := hH_2.keep B2; have k22 := keep B2 k22_2; have hO42 := own_keep hO42_2 B2; have k23 := keep B2 k23_2; have hEs := hEs_2.keepB B2; have k26 := keep B2 k26_2; have B1 := below_next B1_2 B2
        by_cases lt2 : k < (nw + 1)
        · skip
          obtain ⟨ib, io, hia, hic⟩ := is_at (k := k) (own_Is hO42) (by omega)
          obtain ⟨rfl, rfl⟩ : g42 = ib ∧ 0 = io := by cases hia; exact ⟨rfl, rfl⟩
          have her : wr.rangeAt eb (eo + i * 13) (EL dd).toList := by
            rcases hEs with h | ⟨b', o', e', _, _, hr⟩
            · rw [h] at hdd; simp at hdd
            · rw [hea] at e'; cases e'; exact range_at hr hdd
          have hne : ¬ dd.ch = (addA v ch).av[k]'(by omega) := free_at hdd (by omega)
          refine wp_seq ?_; refine wq fun Q hQ => ?_; refine sm (.int .i64 (k : Nat)) 63 rfl rfl rfl rfl ?_; simp only [zp]; refine sv (.pointer (some ⟨b23, 5, none⟩)) 64 rfl rfl (ex_fa (p := (.pointer (some ⟨b23, 0, none⟩))) rfl rfl (fa32_5 _ _)) ?_; simp only [zp]; refine sv (.slice (some ⟨g42, 0, none⟩) (nw + 1) c42) 65 rfl rfl (ex_load (p := (.pointer (some ⟨b23, 5, none⟩))) rfl rfl (ld30 (at_cell k23 rfl))) ?_; simp only [zp]; refine sv (.int .i64 ((nw + 1) : Nat)) 66 rfl rfl (ex_len rfl rfl (len30 _ _ _ _ _)) ?_; simp only [zp]
          refine sv (.bool true) 67 rfl rfl (ex_bin (u := (.int .i64 (k : Nat))) (r := (.int .i64 ((nw + 1) : Nat))) rfl rfl rfl (eg3 _ _ _ _ _ _) (lss3 _ (decide_eq_true (by omega)))) ?_; simp only [zp]; refine st_end ?_; subst hQ; refine wp_cond_true rfl ?_; refine wp_skip ?_; refine wp_seq ?_; refine wp_block ?_; refine wp_seq ?_; obtain ⟨W17, hwd⟩ : ∃ wd, wr.drew = wd := ⟨_, rfl⟩; refine wp_region_held (S := fun W => Kept Nil W17 W) (by kernel_rfl) ?_
          show wpAnyH _ _ _ _ _ _ _ _ wr.drew
          rw [hwd]; refine capQ fun Q hQ => ?_
          have hQP : ∀ c (a : Act) (d : Nat) v w, Q (.panic c) (a.put (some d) v) w → Q (.panic c) a w := by
            subst hQ; exact fun _ _ _ _ _ h => h
          have BD : Below wr.heap.size wr W17 := by rw [← hwd]; exact below_drewB (Below.refl _ _)
          clear hwd; replace E := below_next E BD; replace k21 := keep BD k21; replace hH := hH.keep BD; replace k22 := keep BD k22; replace hO42 := own_keep hO42 BD; replace k23 := keep BD k23; replace hEs := hEs.keepB BD; replace k26 := keep BD k26; replace B1 := below_next B1 BD; replace B2 := below_next B2 BD; replace her := range_below her BD; replace hic := (below_cell hic BD); clear BD
          have S : Kept Nil W17 W17 := Kept.refl _ _
          have d_k21 := k21; have d_k22 := k22; have d_k23 := k23; have d_k26 := k26; have d_hH := hH; have d_hO42 := hO42; have d_hEs := hEs; have d_B1 := B1; have d_B2 := B2; have d_her := her; have d_hic := hic; refine tk (.pointer (some ⟨b26, 0, none⟩)) 0 70 rfl rfl rfl (fun W hK => ex_fa (p := (.pointer (some ⟨b26, 0, none⟩))) rfl rfl (fa36_0 _ _)) S hQP ?_; simp only [zp]; refine tk (.slice (some ⟨eb, eo, none⟩) (esO (fndR L (addA v ch)).2).length c20) 1 71 rfl rfl rfl (fun W hK => ex_load rfl rfl (ld33 (at_cell (keepK hK d_k26 (nilN _)) (by rw [hea]; rfl)))) S hQP ?_
          simp only [zp]; refine tk (.int .i64 (i : Nat)) 2 72 rfl rfl rfl (fun W hK => ex_mv rfl rfl) S hQP ?_; simp only [zp]; refine tk (.pointer (some ⟨eb, (eo + i * 13), none⟩)) 3 73 rfl rfl rfl (fun W hK => ix33 (k := i) rfl rfl rfl (rfl) (lt1)) S hQP ?_; simp only [zp]; refine tk (.pointer (some ⟨eb, (eo + i * 13), none⟩)) 4 74 rfl rfl rfl (fun W hK => ex_fa (p := (.pointer (some ⟨eb, (eo + i * 13), none⟩))) rfl rfl (fg49_0 _ _ _)) S hQP ?_; simp only [zp]; refine tk (.int .i64 dd.ch) 5 75 rfl rfl rfl (fun W hK => ex_load rfl rfl (ld3 (range_kept hK d_her 0 _ rfl))) S hQP ?_
          simp only [zp]; refine tk (.pointer (some ⟨b23, 5, none⟩)) 6 76 rfl rfl rfl (fun W hK => ex_fa (p := (.pointer (some ⟨b23, 0, none⟩))) rfl rfl (fa32_5 _ _)) S hQP ?_; simp only [zp]; refine tk (.slice (some ⟨g42, 0, none⟩) (nw + 1) c42) 7 77 rfl rfl rfl (fun W hK => ex_load (p := (.pointer (some ⟨b23, 5, none⟩))) rfl rfl (ld30 (at_cell (keepK hK d_k23 (nilN _)) rfl))) S hQP ?_; simp only [zp]; refine tk (.int .i64 (k : Nat)) 8 78 rfl rfl rfl (fun W hK => ex_mv rfl rfl) S hQP ?_; simp only [zp]
          refine tk (.pointer (some ⟨g42, (0 + k), none⟩)) 9 79 rfl rfl rfl (fun W hK => ix30 (k := k) rfl rfl rfl (rfl) (lt2)) S hQP ?_; simp only [zp]; refine tk (.int .i64 ((addA v ch).av[k]'(by omega))) 10 80 rfl rfl rfl (fun W hK => ex_load rfl rfl (ld3 (kept_cell hK d_hic))) S hQP ?_; simp only [zp]; refine tk (.bool false) 11 81 rfl rfl rfl (fun W hK => ex_bin (u := (.int .i64 dd.ch)) (r := (.int .i64 ((addA v ch).av[k]'(by omega)))) rfl rfl rfl (eg3 _ _ _ _ _ _) (eql3 _ (decide_eq_false hne))) S hQP ?_; simp only [zp]; refine ah_done (by kernel_rfl) ?_; clear hQP; subst hQ
          clear S d_k21 d_k22 d_k23 d_k26 d_hH d_hO42 d_hEs d_B1 d_B2 d_her d_hic; refine wp_cond_false rfl ?_; refine wp_skip ?_; refine wl_in (wl_cap fun Q hQ => ?_); refine sm (.int .i64 (k : Nat)) 68 rfl rfl rfl rfl ?_; simp only [zp]; refine sv (.int .i64 ((k + 1 : Nat) : Int)) 69 rfl rfl (ex_bin rfl rfl rfl (eg3 _ _ _ _ _ _) (add3 _ (by omega) (by omega))) ?_; simp only [zp]; refine sg (.int .i64 ((k + 1 : Nat) : Int)) 16 rfl rfl rfl rfl ?_; simp only [zp]; refine st_end ?_; subst hQ; refine then_go ?_
          go_roundw
          case rel => exact ⟨k + 1, by omega, rfl, B2⟩
          case measure => simp [intOf]; omega
        · skip
          refine wp_seq ?_; refine wq fun Q hQ => ?_; refine sm (.int .i64 (k : Nat)) 63 rfl rfl rfl rfl ?_; simp only [zp]; refine sv (.pointer (some ⟨b23, 5, none⟩)) 64 rfl rfl (ex_fa (p := (.pointer (some ⟨b23, 0, none⟩))) rfl rfl (fa32_5 _ _)) ?_; simp only [zp]; refine sv (.slice (some ⟨g42, 0, none⟩) (nw + 1) c42) 65 rfl rfl (ex_load (p := (.pointer (some ⟨b23, 5, none⟩))) rfl rfl (ld30 (at_cell k23 rfl))) ?_; simp only [zp]; refine sv (.int .i64 ((nw + 1) : Nat)) 66 rfl rfl (ex_len rfl rfl (len30 _ _ _ _ _)) ?_; simp only [zp]
          refine sv (.bool false) 67 rfl rfl (ex_bin (u := (.int .i64 (k : Nat))) (r := (.int .i64 ((nw + 1) : Nat))) rfl rfl rfl (eg3 _ _ _ _ _ _) (lss3 _ (decide_eq_false (by omega)))) ?_; simp only [zp]; refine st_end ?_; subst hQ; refine wp_cond_false rfl ?_; refine wp_exit ?_; refine ex_then ?_; refine ex_then ?_; refine ex_blk ?_; refine wl_in (wl_cap fun Q hQ => ?_); refine sm (.int .i64 (i : Nat)) 61 rfl rfl rfl rfl ?_; simp only [zp]; refine sv (.int .i64 ((i + 1 : Nat) : Int)) 62 rfl rfl (ex_bin rfl rfl rfl (eg3 _ _ _ _ _ _) (add3 _ (by omega) (by omega))) ?_; simp only [zp]
          refine sg (.int .i64 ((i + 1 : Nat) : Int)) 15 rfl rfl rfl rfl ?_; simp only [zp]; refine st_end ?_; subst hQ; refine then_go ?_
          go_roundw
          case rel => exact ⟨i + 1, by omega, rfl, B1⟩
          case measure => simp [intOf]; omega
    · skip
      refine wp_seq ?_; refine wq fun Q hQ => ?_; refine sm (.int .i64 (i : Nat)) 56 rfl rfl rfl rfl ?_; simp only [zp]; refine sv (.pointer (some ⟨b26, 0, none⟩)) 57 rfl rfl (ex_fa (p := (.pointer (some ⟨b26, 0, none⟩))) rfl rfl (fa36_0 _ _)) ?_; simp only [zp]; refine sv (.slice a20 (esO (fndR L (addA v ch)).2).length c20) 58 rfl rfl (ex_load (p := (.pointer (some ⟨b26, 0, none⟩))) rfl rfl (ld33 (at_cell k26 rfl))) ?_; simp only [zp]; refine sv (.int .i64 ((esO (fndR L (addA v ch)).2).length : Nat)) 59 rfl rfl (ex_len rfl rfl (len33 _ _ _ _ _)) ?_; simp only [zp]
      refine sv (.bool false) 60 rfl rfl (ex_bin (u := (.int .i64 (i : Nat))) (r := (.int .i64 ((esO (fndR L (addA v ch)).2).length : Nat))) rfl rfl rfl (eg3 _ _ _ _ _ _) (lss3 _ (decide_eq_false (by omega)))) ?_; simp only [zp]; refine st_end ?_; subst hQ; refine wp_cond_false rfl ?_; refine wp_exit ?_; refine ex_then ?_; refine ex_then ?_; refine ex_blk ?_; refine wp_seq ?_; refine wp_seq ?_; have hav := avoids_le (L := L) (v := v) (av := v.av ++ [ch]) (fun c hc => List.mem_append_left _ hc) q3 q4
      replace hav : (¬ (fndR L (addA v ch)).1 = 0 → (fndR L (addA v ch)).1 = (fndR L v).1 ∨ (fndR L (addA v ch)).1 = 4) ∧ ((fndR L (addA v ch)).1 = 0 → ∃ x y, fndR L v = (0, some x) ∧ fndR L (addA v ch) = (0, some y) ∧ lsN y.cost x.cost = false) := hav
      by_cases q5 : (fndR L (addA v ch)).1 = 0
      rotate_left
      · have ha := hav.1 q5
        by_cases q6 : (fndR L (addA v ch)).1 = (fndR L v).1
        · skip
          refine wl_in (wl_cap fun Q hQ => ?_); refine sm (.int .i64 (fndR L (addA v ch)).1) 82 rfl rfl rfl rfl ?_; simp only [zp]; refine sv (.bool true) 83 rfl rfl (ex_bin (u := (.int .i64 (fndR L (addA v ch)).1)) (r := (.int .i64 0)) rfl rfl rfl (eg37 _ _ _ _ _ _) (neq37 _ (decide_eq_true q5))) ?_; simp only [zp]; refine st_end ?_; subst hQ; refine wp_cond_true rfl ?_; refine wq fun Q hQ => ?_; refine sm (.int .i64 (fndR L (addA v ch)).1) 84 rfl rfl rfl rfl ?_; simp only [zp]; refine sm (.int .i64 (fndR L v).1) 85 rfl rfl rfl rfl ?_; simp only [zp]
          refine sv (.bool true) 86 rfl rfl (ex_bin (u := (.int .i64 (fndR L (addA v ch)).1)) (r := (.int .i64 (fndR L v).1)) rfl rfl rfl (eg37 _ _ _ _ _ _) (eql37 _ (decide_eq_true q6))) ?_; simp only [zp]; refine sm (.bool true) 87 rfl rfl rfl rfl ?_; simp only [zp]; refine sn 88 rfl rfl ?_; simp only [zp]; refine sn 89 rfl rfl ?_; simp only [zp]; refine sv (.bool true) 90 rfl rfl (ex_pkT rfl rfl rfl) ?_; simp only [zp]; refine sg (.bool true) 6 rfl rfl rfl rfl ?_; simp only [zp]; refine st_end ?_; subst hQ; refine wp_ret ?_
          repeat (first | refine ret_out ?_ | refine ret_blk ?_)
          exact bodyPost_ret (results_tmp Try.results7 _ _ _) rfl ⟨rfl, E⟩
        · skip
          refine wl_in (wl_cap fun Q hQ => ?_); refine sm (.int .i64 (fndR L (addA v ch)).1) 82 rfl rfl rfl rfl ?_; simp only [zp]; refine sv (.bool true) 83 rfl rfl (ex_bin (u := (.int .i64 (fndR L (addA v ch)).1)) (r := (.int .i64 0)) rfl rfl rfl (eg37 _ _ _ _ _ _) (neq37 _ (decide_eq_true q5))) ?_; simp only [zp]; refine st_end ?_; subst hQ; refine wp_cond_true rfl ?_; refine wq fun Q hQ => ?_; refine sm (.int .i64 (fndR L (addA v ch)).1) 84 rfl rfl rfl rfl ?_; simp only [zp]; refine sm (.int .i64 (fndR L v).1) 85 rfl rfl rfl rfl ?_; simp only [zp]
          refine sv (.bool false) 86 rfl rfl (ex_bin (u := (.int .i64 (fndR L (addA v ch)).1)) (r := (.int .i64 (fndR L v).1)) rfl rfl rfl (eg37 _ _ _ _ _ _) (eql37 _ (decide_eq_false q6))) ?_; simp only [zp]; refine sm (.bool false) 87 rfl rfl rfl rfl ?_; simp only [zp]; refine sm (.int .i64 (fndR L (addA v ch)).1) 88 rfl rfl rfl rfl ?_; simp only [zp]; refine sv (.bool true) 89 rfl rfl (ex_bin (u := (.int .i64 (fndR L (addA v ch)).1)) (r := (.int .i64 4)) rfl rfl rfl (eg37 _ _ _ _ _ _) (eql37 _ (decide_eq_true (ha.resolve_left q6)))) ?_; simp only [zp]
          refine sv (.bool true) 90 rfl rfl (ex_pkF rfl rfl rfl) ?_; simp only [zp]; refine sg (.bool true) 6 rfl rfl rfl rfl ?_; simp only [zp]; refine st_end ?_; subst hQ; refine wp_ret ?_
          repeat (first | refine ret_out ?_ | refine ret_blk ?_)
          exact bodyPost_ret (results_tmp Try.results7 _ _ _) rfl ⟨rfl, E⟩
      obtain ⟨xx, yy, hx, hy, hl⟩ := hav.2 q5
      have hls : lsN (cstO (fndR L (addA v ch)).2) (cstO (fndR L v).2) = false := by rw [hx, hy]; exact hl
      have q7 : (fndR L v).1 = 0 := by rw [hx]
      refine wl_in (wl_cap fun Q hQ => ?_); refine sm (.int .i64 (fndR L (addA v ch)).1) 82 rfl rfl rfl rfl ?_; simp only [zp]; refine sv (.bool false) 83 rfl rfl (ex_bin (u := (.int .i64 (fndR L (addA v ch)).1)) (r := (.int .i64 0)) rfl rfl rfl (eg37 _ _ _ _ _ _) (neq37 _ (decide_eq_false (fun h => h q5)))) ?_; simp only [zp]; refine st_end ?_; subst hQ; refine wp_cond_false rfl ?_; refine wp_skip ?_; refine wq fun Q hQ => ?_; refine sm (.int .i64 (fndR L v).1) 91 rfl rfl rfl rfl ?_; simp only [zp]
      refine sv (.bool true) 92 rfl rfl (ex_bin (u := (.int .i64 (fndR L v).1)) (r := (.int .i64 0)) rfl rfl rfl (eg37 _ _ _ _ _ _) (eql37 _ (decide_eq_true q7))) ?_; simp only [zp]; refine sm (.bool true) 93 rfl rfl rfl rfl ?_; simp only [zp]; refine sv (.pointer (some ⟨b26, 4, none⟩)) 94 rfl rfl (ex_fa (p := (.pointer (some ⟨b26, 0, none⟩))) rfl rfl (fa36_4 _ _)) ?_; simp only [zp]; refine sv (.float .f64 (cstO (fndR L (addA v ch)).2)) 95 rfl rfl (ex_load (p := (.pointer (some ⟨b26, 4, none⟩))) rfl rfl (ld34 (at_cell k26 rfl))) ?_; simp only [zp]
      refine sv (.pointer (some ⟨b22, 4, none⟩)) 96 rfl rfl (ex_fa (p := (.pointer (some ⟨b22, 0, none⟩))) rfl rfl (fa36_4 _ _)) ?_; simp only [zp]; refine sv (.float .f64 (cstO (fndR L v).2)) 97 rfl rfl (ex_load (p := (.pointer (some ⟨b22, 4, none⟩))) rfl rfl (ld34 (at_cell k22 rfl))) ?_; simp only [zp]; refine st_call (some 98) rfl rfl (sless_any _ _ wr hls) (ex_call (f := 26) (vs := [(.float .f64 (cstO (fndR L (addA v ch)).2)), (.float .f64 (cstO (fndR L v).2))]) rfl (cf26 _) rfl) ?_; rintro e W18 ⟨rfl, B⟩; refine ⟨_, rfl, ?_⟩; simp only [zp]; replace E := below_next E B
      replace k21 := keep B k21; replace hH := hH.keep B; replace k22 := keep B k22; replace hO42 := own_keep hO42 B; replace k23 := keep B k23; replace hEs := hEs.keepB B; replace k26 := keep B k26; refine sv (.bool true) 99 rfl rfl (ex_not rfl rfl rfl) ?_; simp only [zp]; refine sv (.bool true) 100 rfl rfl (ex_pkT rfl rfl rfl) ?_; simp only [zp]; refine sg (.bool true) 6 rfl rfl rfl rfl ?_; simp only [zp]; refine st_end ?_; subst hQ; refine wp_ret ?_
      repeat (first | refine ret_out ?_ | refine ret_blk ?_)
      exact bodyPost_ret (results_tmp Try.results7 _ _ _) rfl ⟨rfl, E⟩
end Go.Proofs.Ytgnkcmmpbohafaa
