/- What must come of every program: the contract of lives. -/
import Derived.Test.YtkhpbjafdamhaaaDComA
import Derived.Test.YtkhpbjafdamhaaaDComB
namespace Go.Proofs.Ytkhpbjafdamhaaa
open Go.RowKit
set_option linter.unusedVariables false
set_option linter.unusedSimpArgs false
set_option maxRecDepth 100000

theorem commit_ok {C : Array Value} {t : TV} {x y h : Int} {pl : List Int} {ao : Option Addr} {n c : Nat} {Cs : Nat → Array Value} {hv : Nat → HV} (w : World) (hT : IsT C t) (hb : TB t) (hpl : pl.length = 32) (hH : Hs w ao n Cs hv) (hn : n ≤ 140737488355328) (hx : x ≤ 9223372036854775807) (hy : y ≤ 9223372036854775807) (hz : ∀ i, i < n → (hv i).am ≤ 9223372036854775807)
    (c1 : fitsB t x y n hv = true) (c2 : h = t.a ∨ h = t.b) (c3 : ¬ pl = ZL) :
    Calls Try.prog 8 #[.agg C, .int .i64 h, .agg (U8 pl).toArray, .agg #[.int .i64 x, .int .i64 y, .slice ao n c]] w fun e w' => ∃ gi g cap, e = .returned (.tuple #[.agg #[.slice (some ⟨gi, 0, none⟩) 1 1, .slice (some ⟨g, 0, none⟩) (n + 2) cap], .int .i64 0]) ∧ w'.heap[gi]? = some (.cells (C.extract 3 36 ++ inRest) 61) ∧ Outs w' w.heap.size g (n + 2) cap (om (ownN t x y h) (othA t x y h) hv) ol (opth h (othN t h) t.d (U8 pl).toArray hv) ∧ Below w.heap.size w w' := by
  by_cases e : h = t.b
  · exact commit_b w hT hb hpl hH hn hx hy hz c1 c2 c3 e
  · exact commit_a w hT hb hpl hH hn hx hy hz c1 c2 c3 e
section
variable {W W' : World} {base g n cap : Nat} {m : Nat → Int} {l : Nat → Nat} {P : Nat → Array Value}
theorem flat_am (gs : Nat → Nat) (m : Nat → Int) (l : Nat → Nat) : ∀ (n j : Nat), j < n → (flat gs m l n)[j * 2]? = some (.int .i64 (m j)) ∧ (flat gs m l n)[j * 2 + 1]? = some (.slice (some ⟨gs j, 0, none⟩) (l j) (l j))
  | 0, j, h => by omega
  | n + 1, j, h => by
    have hl : (flat gs m l n).length = n * 2 := by
      have : ∀ n, (flat gs m l n).length = n * 2 := fun n => by
        induction n with
        | zero => rfl
        | succ n ih => rw [flat_succ, List.length_append, ih]; simp; omega
      exact this n
    rw [flat_succ]
    by_cases e : j = n
    · subst e
      rw [List.getElem?_append_right (by omega), List.getElem?_append_right (by omega), hl, Nat.sub_self, show j * 2 + 1 - j * 2 = 1 by omega]; exact ⟨rfl, rfl⟩
    · rw [List.getElem?_append_left (by omega), List.getElem?_append_left (by omega)]
      exact flat_am gs m l n j (by omega)
theorem Outs.am (h : Outs W base g n cap m l P) {j : Nat} (hj : j < n) : W.cell? ⟨g, j * 2, none⟩ = some (.int .i64 (m j)) := by
  obtain ⟨gs, hr, _⟩ := h.row; exact hr.cell (flat_am gs m l n j hj).1
theorem Outs.sl (h : Outs W base g n cap m l P) {j : Nat} (hj : j < n) : ∃ gp, W.cell? ⟨g, j * 2 + 1, none⟩ = some (.slice (some ⟨gp, 0, none⟩) (l j) (l j)) ∧ W.heap[gp]? = some (.cells (P j) 66) := by
  obtain ⟨gs, hr, hp⟩ := h.row; exact ⟨gs j, hr.cell (flat_am gs m l n j hj).2, hp j hj⟩
theorem Outs.keep (h : Outs W base g n cap m l P) (B : Below W.heap.size W W') : Outs W' base g n cap m l P := by
  obtain ⟨gs, hr, hp⟩ := h.row; exact ⟨gs, hr.keep B, fun j hj => Proofs.Ytkhpbjafdamhaaa.keep B (hp j hj)⟩
theorem Outs.keepK {b T : Nat} {C : Array Value} (h : Outs W base g n cap m l P) (K : Kept (· = b) W W') (k : W.heap[b]? = some (.cells C T)) (h1 : 46 ≠ T) (h2 : 66 ≠ T) : Outs W' base g n cap m l P := by
  obtain ⟨gs, hr, hp⟩ := h.row; exact ⟨gs, hr.keepK K (fun e => hr.ne k h1 e), fun j hj => Proofs.Ytkhpbjafdamhaaa.keepK K (hp j hj) (fun e => ne_tag (hp j hj) k h2 e)⟩
end
theorem cell_kept {w W : World} {a : Addr} {v : Value} (h : Kept Nil w W) (hc : w.cell? a = some v) : W.cell? a = some v := by
  rw [World.cell?_of_block (h.block _ (block_lt_of_cell hc) (nilN _))]; exact hc
section
variable {o : Oper} {a : Act} {W : World}
theorem ex_ix32 {x y : Operand} {b n c k : Nat} (ho : o.op = .indexAddr 32 x y) (hx : a.eval x = .slice (some ⟨b, 0, none⟩) n c) (hy : a.eval y = .int .i64 k) (hk : k < n) : (execOp a.eval o).run Try.prog W = .ok (.value (.pointer (some ⟨b, k * 2, none⟩))) W := by
  have h1 : (k : Int) < (n : Int) := by omega
  unfold execOp
  simp only [ho, hx, hy]
  go_simp
theorem ex_buildL {t : Nat} {ps : Array (Nat × Operand)} {v : Value} (ho : o.op = .build t ps) {vs : List (Nat × Value)} (hv : ps.toList.map (fun p => (p.1, a.eval p.2)) = vs) (hb : (Instr.build t vs.toArray).run Try.prog W = .ok v W) : (execOp a.eval o).run Try.prog W = .ok (.value v) W := by
  have hm : ps.map (fun p => (p.1, a.eval p.2)) = vs.toArray := by rw [← hv, ← Array.toList_map]
  rw [← hm] at hb
  unfold execOp
  simp [ho, hb]
end
theorem faO0 (b p : Nat) (W : World) : (Instr.fieldAt 46 (.pointer (some ⟨b, p, none⟩)) 0).run Try.prog W = .ok (.pointer (some ⟨b, p, none⟩)) W := by go_simp
/-- the terms of lives -/
def lt : TV := { ch := 1, a := 0, b := 1, fo := 0, sa := 1000, sb := 500, d := 3, fee := 1, res := 10, sl := 4, fl := 800 }
def LT : Array Value := #[.int .i64 1, .int .i64 0, .int .i64 1] ++ Z32 ++ #[.int .i64 0, .int .i64 1000, .int .i64 500, .int .i64 3, .int .i64 1, .int .i64 10, .int .i64 4, .int .i64 800]
theorem hLT : IsT LT lt := ⟨by kernel_rfl, by kernel_rfl, by kernel_rfl, by kernel_rfl, by kernel_rfl, by kernel_rfl, by kernel_rfl, by kernel_rfl, by kernel_rfl, by kernel_rfl, by kernel_rfl, by kernel_rfl, by kernel_rfl⟩
theorem bLT : TB lt := ⟨by decide, by decide, by decide, by decide, by decide⟩
def Z43 : Array Value := #[.int .i64 0, .int .i64 0, .int .i64 0] ++ Z32 ++ #[.int .i64 0, .int .i64 0, .int .i64 0, .int .i64 0, .int .i64 0, .int .i64 0, .int .i64 0, .int .i64 0]
theorem zero26 : (Try.prog.info? 26).map (fun i => (i.zero, i.size)) = some (some (.agg Z43), 43) := by kernel_rfl
theorem zero29 : (Try.prog.info? 29).map (fun i => (i.zero, i.size)) = some (some (.agg #[.int .i64 0, .int .i64 0, .slice none 0 0]), 3) := by kernel_rfl
theorem bLTc (W : World) : (Instr.build 26 #[(0, .int .i64 1), (1, .int .i64 0), (2, .int .i64 1), (4, .int .i64 1000), (5, .int .i64 500), (6, .int .i64 3), (7, .int .i64 1), (8, .int .i64 10), (9, .int .i64 4), (10, .int .i64 800)]).run Try.prog W = .ok (.agg LT) W := run_build W 26 _ _ (by kernel_rfl)
def l1 (x : Int) : List Int := x :: List.replicate 31 0
theorem l1_len (x : Int) : (l1 x).length = 32 := rfl
theorem b22_1 (x : Int) (W : World) : (Instr.build 22 #[(0, .int .u8 x)]).run Try.prog W = .ok (.agg (U8 (l1 x)).toArray) W := run_build W 22 _ _ (by kernel_rfl)
def lh : HV := { by_ := 0, id := 0, am := 100, ex := 9, hl := l1 1 }
def LH : Array Value := #[.int .i64 0, .int .i64 0, .int .i64 100] ++ (U8 (l1 1)).toArray ++ #[.int .i64 9]
theorem hLH : IsH LH lh := ⟨by kernel_rfl, by kernel_rfl, by kernel_rfl, by kernel_rfl, by kernel_rfl, by kernel_rfl, by kernel_rfl, by kernel_rfl⟩
theorem b49L (W : World) : (Instr.build 49 #[(0, .int .i64 0), (2, .int .i64 100), (3, .agg (U8 (l1 1)).toArray), (4, .int .i64 9)]).run Try.prog W = .ok (.agg LH) W := run_build W 49 _ _ (by kernel_rfl)
theorem b29 (x y : Int) (p : Option Addr) (n c : Nat) (W : World) : (Instr.build 29 #[(0, .int .i64 x), (1, .int .i64 y), (2, .slice p n c)]).run Try.prog W = .ok (.agg #[.int .i64 x, .int .i64 y, .slice p n c]) W := run_build W 29 _ _ (by kernel_rfl)
theorem Hs.one {W : World} {b : Nat} {C : Array Value} {h : HV} (k : W.heap[b]? = some (.cells C 49)) (hC : IsH C h) : Hs W (some ⟨b, 0, none⟩) 1 (fun _ => C) (fun _ => h) :=
  .inr ⟨b, 0, rfl, fun i hi => ⟨hC, fun j v hv => by
    have : i = 0 := by omega
    subst this; rw [show 0 + 0 * 36 + j = j by omega]
    exact at_cell k (by simpa using hv)⟩⟩
theorem fitsL : fitsB lt 900 500 1 (fun _ => lh) = true := by kernel_rfl

theorem terms_any (w : World) : Calls Try.prog 33 #[] w fun e w' => e = .returned (.agg LT) ∧ Below w.heap.size w w' := by
  have E : Below w.heap.size w w := Below.refl _ _
  go_enter Try.func33, Try.ntmps33; refine wq fun Q hQ => ?_; refine st_new (fun b => .pointer (some ⟨b, 0, none⟩)) (some 0) rfl rfl (ex_alloc rfl zero26) ?_; intro b1 W1 k1 g1 B; simp only [zp]; have ge_b1 := Nat.le_trans E.size g1; replace E := below_next E B; clear B; refine st_end ?_; subst hQ; refine wq fun Q hQ => ?_; refine sv (.agg LT) 1 rfl rfl (ex_buildL rfl rfl (bLTc _)) ?_; simp only [zp]; obtain ⟨W2, hst, kn, K⟩ := put_all (D := LT) k1 (((show Z43.size = 43 from rfl)).trans (hLT.size).symm) (inf26.trans (congrArg some (hLT.size).symm)) hLT.one
  refine st_sk rfl rfl (ex_store rfl rfl rfl hst) ?_; replace E := below_put E ge_b1 K; replace k1 := kn; clear kn K hst; refine st_end ?_; subst hQ; refine wp_ret ?_; refine bodyPost_ret (results_cell_row Try.results33 _ _ b1 _ _ _ _ rfl k1 Try.underlying26 rfl (inf26.trans (congrArg some (hLT.size).symm))) rfl ⟨rfl, E⟩

set_option maxHeartbeats 8000000 in
theorem lives_any (w : World) : Calls Try.prog 10 #[] w fun e w' => e = .returned (.bool true) ∧ Below w.heap.size w w' := by
  have E : Below w.heap.size w w := Below.refl _ _
  go_enter Try.func10, Try.ntmps10; refine wq fun Q hQ => ?_; refine sg (.bool false) 0 rfl rfl rfl rfl ?_; simp only [zp]; refine st_end ?_; subst hQ; refine wq fun Q hQ => ?_; refine st_call (some 9) rfl rfl (terms_any w) (ex_call (f := 33) (vs := []) rfl (cf33 _) rfl) ?_; rintro e W1 ⟨rfl, B⟩; refine ⟨_, rfl, ?_⟩; simp only [zp]; replace E := below_next E B; refine st_new (fun b => .pointer (some ⟨b, 0, none⟩)) (some 1) rfl rfl (ex_alloc rfl zero26) ?_; intro b1 W2 k1 g1 B; simp only [zp]; have ge_b1 := Nat.le_trans E.size g1; replace E := below_next E B; clear B
  obtain ⟨W3, hst, kn, K⟩ := put_all (D := LT) k1 (((show Z43.size = 43 from rfl)).trans (hLT.size).symm) (inf26.trans (congrArg some (hLT.size).symm)) hLT.one; refine st_sk rfl rfl (ex_store rfl rfl rfl hst) ?_; replace E := below_put E ge_b1 K; replace k1 := kn; clear kn K hst; refine st_end ?_; subst hQ; refine wq fun Q hQ => ?_; refine sv (.agg (U8 (l1 1)).toArray) 10 rfl rfl (ex_build1 (v1 := (.int .u8 1)) rfl rfl (b22_1 1 _)) ?_; simp only [zp]
  refine sv (.agg LH) 11 rfl rfl (ex_build4 (v1 := (.int .i64 0)) (v2 := (.int .i64 100)) (v3 := (.agg (U8 (l1 1)).toArray)) (v4 := (.int .i64 9)) rfl rfl rfl rfl rfl (b49L _)) ?_; simp only [zp]; refine st_new (fun b => .slice (some ⟨b, 0, none⟩) 1 1) (some 12) rfl rfl (ex_bsl1 (u := (.agg LH)) rfl rfl (bs27_1 _ hLH.size _)) ?_; intro b2 W4 k2 g2 B; simp only [zp]
  have ne_b2_b1 : b2 ≠ b1 := fun e => by have := lt_of k1; omega
  have ge_b2 := Nat.le_trans E.size g2; replace E := below_next E B; replace k1 := keep B k1; clear B; refine sv (.agg #[(.int .i64 900), (.int .i64 500), (.slice (some ⟨b2, 0, none⟩) 1 1)]) 13 rfl rfl (ex_build3 (v1 := (.int .i64 900)) (v2 := (.int .i64 500)) (v3 := (.slice (some ⟨b2, 0, none⟩) 1 1)) rfl rfl rfl rfl (b29 _ _ _ _ _ _)) ?_; simp only [zp]; refine st_new (fun b => .pointer (some ⟨b, 0, none⟩)) (some 2) rfl rfl (ex_alloc rfl zero29) ?_; intro b3 W5 k3 g3 B; simp only [zp]
  have ne_b3_b1 : b3 ≠ b1 := fun e => by have := lt_of k1; omega
  have ne_b3_b2 : b3 ≠ b2 := fun e => by have := lt_of k2; omega
  have ge_b3 := Nat.le_trans E.size g3; replace E := below_next E B; replace k1 := keep B k1; replace k2 := keep B k2; clear B; obtain ⟨W6, hst, kn, K⟩ := put_all (D := #[(.int .i64 900), (.int .i64 500), (.slice (some ⟨b2, 0, none⟩) 1 1)]) k3 rfl inf29 (by kernel_rfl); refine st_sk rfl rfl (ex_store rfl rfl rfl hst) ?_; replace E := below_put E ge_b3 K; replace k1 := keepK K k1 (fun e => ne_tag k1 k3 (by decide) e); replace k2 := keepK K k2 (fun e => ne_tag k2 k3 (by decide) e); replace k3 := kn; clear kn K hst; refine st_end ?_; subst hQ; refine wq fun Q hQ => ?_
  refine sv (.agg LT) 15 rfl rfl (ex_load (p := (.pointer (some ⟨b1, 0, none⟩))) rfl rfl (ld_all k1 Try.underlying26 rfl (inf26.trans (congrArg some (hLT.size).symm)))) ?_; simp only [zp]; refine sv (.agg (U8 (l1 5)).toArray) 16 rfl rfl (ex_build1 (v1 := (.int .u8 5)) rfl rfl (b22_1 5 _)) ?_; simp only [zp]; refine sv (.agg #[(.int .i64 900), (.int .i64 500), (.slice (some ⟨b2, 0, none⟩) 1 1)]) 17 rfl rfl (ex_load (p := (.pointer (some ⟨b3, 0, none⟩))) rfl rfl (ld_all k3 Try.underlying29 rfl inf29)) ?_; simp only [zp]
  refine st_call (some 18) rfl rfl (commit_ok (h := 0) W6 hLT bLT (l1_len 5) (Hs.one k2 hLH) (by decide) (by decide) (by decide) (fun i _ => by decide) fitsL (.inl rfl) (by decide)) (ex_call (f := 8) (vs := [(.agg LT), (.int .i64 0), (.agg (U8 (l1 5)).toArray), (.agg #[(.int .i64 900), (.int .i64 500), (.slice (some ⟨b2, 0, none⟩) 1 1)])]) rfl (cf8 _) rfl) ?_; rintro e W7 ⟨gi, go, cap, rfl, ki, OU, B⟩; refine ⟨_, rfl, ?_⟩; simp only [zp]; replace E := below_next E B; replace k1 := keep B k1; replace k2 := keep B k2; replace k3 := keep B k3
  refine sm (.tuple #[(.agg #[.slice (some ⟨gi, 0, none⟩) 1 1, .slice (some ⟨go, 0, none⟩) (1 + 2) cap]), (.int .i64 0)]) 14 rfl rfl rfl rfl ?_; simp only [zp]; refine sv (.agg #[.slice (some ⟨gi, 0, none⟩) 1 1, .slice (some ⟨go, 0, none⟩) (1 + 2) cap]) 19 rfl rfl (ex_ext rfl rfl rfl) ?_; simp only [zp]; refine sv (.int .i64 0) 20 rfl rfl (ex_ext rfl rfl rfl) ?_; simp only [zp]; refine st_new (fun b => .pointer (some ⟨b, 0, none⟩)) (some 3) rfl rfl (ex_alloc rfl zero34) ?_; intro b4 W8 k4 g4 B; simp only [zp]
  have ne_b4_b1 : b4 ≠ b1 := fun e => by have := lt_of k1; omega
  have ne_b4_b2 : b4 ≠ b2 := fun e => by have := lt_of k2; omega
  have ne_b4_b3 : b4 ≠ b3 := fun e => by have := lt_of k3; omega
  have ge_b4 := Nat.le_trans E.size g4; replace E := below_next E B; replace k1 := keep B k1; replace k2 := keep B k2; replace k3 := keep B k3; replace OU := OU.keep B; clear B; obtain ⟨W9, hst, kn, K⟩ := put_all (D := #[.slice (some ⟨gi, 0, none⟩) 1 1, .slice (some ⟨go, 0, none⟩) (1 + 2) cap]) k4 rfl inf34 (by kernel_rfl); refine st_sk rfl rfl (ex_store rfl rfl rfl hst) ?_; replace E := below_put E ge_b4 K; replace k1 := keepK K k1 (fun e => ne_tag k1 k4 (by decide) e); replace k2 := keepK K k2 (fun e => ne_tag k2 k4 (by decide) e)
  replace k3 := keepK K k3 (fun e => ne_tag k3 k4 (by decide) e); replace OU := OU.keepK K k4 (by decide) (by decide); replace k4 := kn; clear kn K hst; refine sg (.int .i64 0) 4 rfl rfl rfl rfl ?_; simp only [zp]; refine st_end ?_; subst hQ; refine wq fun Q hQ => ?_; refine sv (.agg LT) 22 rfl rfl (ex_load (p := (.pointer (some ⟨b1, 0, none⟩))) rfl rfl (ld_all k1 Try.underlying26 rfl (inf26.trans (congrArg some (hLT.size).symm)))) ?_; simp only [zp]; refine sv (.agg (U8 (l1 5)).toArray) 23 rfl rfl (ex_build1 (v1 := (.int .u8 5)) rfl rfl (b22_1 5 _)) ?_; simp only [zp]
  refine sv (.agg #[(.int .i64 900), (.int .i64 500), (.slice (some ⟨b2, 0, none⟩) 1 1)]) 24 rfl rfl (ex_load (p := (.pointer (some ⟨b3, 0, none⟩))) rfl rfl (ld_all k3 Try.underlying29 rfl inf29)) ?_; simp only [zp]
  refine st_call (some 25) rfl rfl (commit_no (h := 2) W9 hLT bLT (l1_len 5) (Hs.one k2 hLH) (by decide) (by decide) (by decide) (fun i _ => by decide) (fun hh => by rcases hh.2.1 with e | e <;> exact absurd e (by decide))) (ex_call (f := 8) (vs := [(.agg LT), (.int .i64 2), (.agg (U8 (l1 5)).toArray), (.agg #[(.int .i64 900), (.int .i64 500), (.slice (some ⟨b2, 0, none⟩) 1 1)])]) rfl (cf8 _) rfl) ?_; rintro e W10 ⟨rfl, B⟩; refine ⟨_, rfl, ?_⟩; simp only [zp]; replace E := below_next E B; replace k1 := keep B k1; replace k2 := keep B k2; replace k3 := keep B k3; replace OU := OU.keep B
  replace k4 := keep B k4; refine sm (.tuple #[(.agg #[.slice none 0 0, .slice none 0 0]), (.int .i64 1)]) 21 rfl rfl rfl rfl ?_; simp only [zp]; refine sv (.agg #[.slice none 0 0, .slice none 0 0]) 26 rfl rfl (ex_ext rfl rfl rfl) ?_; simp only [zp]; refine sv (.int .i64 1) 27 rfl rfl (ex_ext rfl rfl rfl) ?_; simp only [zp]; refine st_new (fun b => .pointer (some ⟨b, 0, none⟩)) (some 5) rfl rfl (ex_alloc rfl zero34) ?_; intro b5 W11 k5 g5 B; simp only [zp]
  have ne_b5_b1 : b5 ≠ b1 := fun e => by have := lt_of k1; omega
  have ne_b5_b2 : b5 ≠ b2 := fun e => by have := lt_of k2; omega
  have ne_b5_b3 : b5 ≠ b3 := fun e => by have := lt_of k3; omega
  have ne_b5_b4 : b5 ≠ b4 := fun e => by have := lt_of k4; omega
  have ge_b5 := Nat.le_trans E.size g5; replace E := below_next E B; replace k1 := keep B k1; replace k2 := keep B k2; replace k3 := keep B k3; replace OU := OU.keep B; replace k4 := keep B k4; clear B; obtain ⟨W12, hst, kn, K⟩ := put_all (D := #[.slice none 0 0, .slice none 0 0]) k5 rfl inf34 (by kernel_rfl); refine st_sk rfl rfl (ex_store rfl rfl rfl hst) ?_; replace E := below_put E ge_b5 K; replace k1 := keepK K k1 (fun e => ne_tag k1 k5 (by decide) e); replace k2 := keepK K k2 (fun e => ne_tag k2 k5 (by decide) e); replace k3 := keepK K k3 (fun e => ne_tag k3 k5 (by decide) e)
  replace OU := OU.keepK K k5 (by decide) (by decide); replace k4 := keepK K k4 (fun e => by first | exact ne_b4_b5 e | exact ne_b5_b4 e.symm); replace k5 := kn; clear kn K hst; refine sg (.int .i64 1) 6 rfl rfl rfl rfl ?_; simp only [zp]; refine st_end ?_; subst hQ; refine wq fun Q hQ => ?_; refine sv (.agg #[(.int .i64 900), (.int .i64 500), (.slice (some ⟨b2, 0, none⟩) 1 1)]) 29 rfl rfl (ex_load (p := (.pointer (some ⟨b3, 0, none⟩))) rfl rfl (ld_all k3 Try.underlying29 rfl inf29)) ?_; simp only [zp]
  refine st_call (some 30) rfl rfl (place_any (by_ := 0) (id := 0) W12 (Hs.one k2 hLH) (by decide)) (ex_call (f := 24) (vs := [(.agg #[(.int .i64 900), (.int .i64 500), (.slice (some ⟨b2, 0, none⟩) 1 1)]), (.int .i64 0), (.int .i64 0)]) rfl (cf24 _) rfl) ?_; rintro e W13 ⟨rfl, B⟩; refine ⟨_, rfl, ?_⟩; simp only [zp]; replace E := below_next E B; replace k1 := keep B k1; replace k2 := keep B k2; replace k3 := keep B k3; replace OU := OU.keep B; replace k4 := keep B k4; replace k5 := keep B k5; refine sm (.tuple #[(.int .i64 2), (.bool true)]) 28 rfl rfl rfl rfl ?_; simp only [zp]
  refine sv (.int .i64 2) 31 rfl rfl (ex_ext rfl rfl rfl) ?_; simp only [zp]; refine sv (.bool true) 32 rfl rfl (ex_ext rfl rfl rfl) ?_; simp only [zp]; refine sg (.int .i64 2) 7 rfl rfl rfl rfl ?_; simp only [zp]; refine sg (.bool true) 8 rfl rfl rfl rfl ?_; simp only [zp]; refine st_end ?_; subst hQ; refine wq fun Q hQ => ?_; refine sm (.int .i64 0) 33 rfl rfl rfl rfl ?_; simp only [zp]; refine sv (.bool true) 34 rfl rfl (ex_bin (u := (.int .i64 0)) (r := (.int .i64 0)) rfl rfl rfl (eg35 _ _ _ _ _ _) (eql35 _ (by decide))) ?_; simp only [zp]
  refine sm (.bool true) 35 rfl rfl rfl rfl ?_; simp only [zp]; refine sm (.int .i64 1) 36 rfl rfl rfl rfl ?_; simp only [zp]; refine sv (.bool true) 37 rfl rfl (ex_bin (u := (.int .i64 1)) (r := (.int .i64 1)) rfl rfl rfl (eg35 _ _ _ _ _ _) (eql35 _ (by decide))) ?_; simp only [zp]; refine sv (.bool true) 38 rfl rfl (ex_pkT rfl rfl rfl) ?_; simp only [zp]; refine sm (.bool true) 39 rfl rfl rfl rfl ?_; simp only [zp]; refine sv (.pointer (some ⟨b4, 1, none⟩)) 40 rfl rfl (ex_fa (p := (.pointer (some ⟨b4, 0, none⟩))) rfl rfl (fa34_1 _ _)) ?_; simp only [zp]
  refine sv (.slice (some ⟨go, 0, none⟩) (1 + 2) cap) 41 rfl rfl (ex_load (p := (.pointer (some ⟨b4, 1, none⟩))) rfl rfl (ld32 (at_cell k4 rfl))) ?_; simp only [zp]; refine sv (.int .i64 ((1 + 2) : Nat)) 42 rfl rfl (ex_len rfl rfl (len32 _ _ _ _ _)) ?_; simp only [zp]; refine sv (.bool true) 43 rfl rfl (ex_bin (u := (.int .i64 ((1 + 2) : Nat))) (r := (.int .i64 3)) rfl rfl rfl (eg3 _ _ _ _ _ _) (eql3 _ (by decide))) ?_; simp only [zp]; refine sv (.bool true) 44 rfl rfl (ex_pkT rfl rfl rfl) ?_; simp only [zp]; refine sm (.bool true) 45 rfl rfl rfl rfl ?_; simp only [zp]
  refine sv (.pointer (some ⟨b4, 1, none⟩)) 46 rfl rfl (ex_fa (p := (.pointer (some ⟨b4, 0, none⟩))) rfl rfl (fa34_1 _ _)) ?_; simp only [zp]; refine sv (.slice (some ⟨go, 0, none⟩) (1 + 2) cap) 47 rfl rfl (ex_load (p := (.pointer (some ⟨b4, 1, none⟩))) rfl rfl (ld32 (at_cell k4 rfl))) ?_; simp only [zp]; refine sv (.pointer (some ⟨go, (0 * 2), none⟩)) 48 rfl rfl (ex_ix32 (k := 0) rfl rfl rfl (by decide)) ?_; simp only [zp]; refine sv (.pointer (some ⟨go, (0 * 2), none⟩)) 49 rfl rfl (ex_fa rfl rfl (faO0 _ _ _)) ?_; simp only [zp]
  refine sv (.int .i64 899) 50 rfl rfl (ex_load rfl rfl (ld3 (OU.am (j := 0) (by decide)))) ?_; simp only [zp]; refine sv (.bool true) 51 rfl rfl (ex_bin (u := (.int .i64 899)) (r := (.int .i64 899)) rfl rfl rfl (eg3 _ _ _ _ _ _) (eql3 _ (by decide))) ?_; simp only [zp]; refine sv (.bool true) 52 rfl rfl (ex_pkT rfl rfl rfl) ?_; simp only [zp]; refine sm (.bool true) 53 rfl rfl rfl rfl ?_; simp only [zp]; refine sv (.pointer (some ⟨b4, 1, none⟩)) 54 rfl rfl (ex_fa (p := (.pointer (some ⟨b4, 0, none⟩))) rfl rfl (fa34_1 _ _)) ?_; simp only [zp]
  refine sv (.slice (some ⟨go, 0, none⟩) (1 + 2) cap) 55 rfl rfl (ex_load (p := (.pointer (some ⟨b4, 1, none⟩))) rfl rfl (ld32 (at_cell k4 rfl))) ?_; simp only [zp]; refine sv (.pointer (some ⟨go, (2 * 2), none⟩)) 56 rfl rfl (ex_ix32 (k := 2) rfl rfl rfl (by decide)) ?_; simp only [zp]; refine sv (.pointer (some ⟨go, (2 * 2), none⟩)) 57 rfl rfl (ex_fa rfl rfl (faO0 _ _ _)) ?_; simp only [zp]; refine sv (.int .i64 100) 58 rfl rfl (ex_load rfl rfl (ld3 (OU.am (j := 2) (by decide)))) ?_; simp only [zp]
  refine sv (.bool true) 59 rfl rfl (ex_bin (u := (.int .i64 100)) (r := (.int .i64 100)) rfl rfl rfl (eg3 _ _ _ _ _ _) (eql3 _ (by decide))) ?_; simp only [zp]; refine sv (.bool true) 60 rfl rfl (ex_pkT rfl rfl rfl) ?_; simp only [zp]; refine sm (.bool true) 61 rfl rfl rfl rfl ?_; simp only [zp]; refine sm (.int .i64 2) 62 rfl rfl rfl rfl ?_; simp only [zp]; refine sv (.bool true) 63 rfl rfl (ex_bin (u := (.int .i64 2)) (r := (.int .i64 2)) rfl rfl rfl (eg3 _ _ _ _ _ _) (eql3 _ (by decide))) ?_; simp only [zp]; refine sv (.bool true) 64 rfl rfl (ex_pkT rfl rfl rfl) ?_; simp only [zp]
  refine sm (.bool true) 65 rfl rfl rfl rfl ?_; simp only [zp]; refine sm (.bool true) 66 rfl rfl rfl rfl ?_; simp only [zp]; refine sv (.bool true) 67 rfl rfl (ex_pkT rfl rfl rfl) ?_; simp only [zp]; refine sm (.bool true) 68 rfl rfl rfl rfl ?_; simp only [zp]; refine sv (.agg LT) 69 rfl rfl (ex_load (p := (.pointer (some ⟨b1, 0, none⟩))) rfl rfl (ld_all k1 Try.underlying26 rfl (inf26.trans (congrArg some (hLT.size).symm)))) ?_; simp only [zp]; refine st_call (some 70) rfl rfl (may_any W13 hLT bLT (c := true) (by kernel_rfl)) (ex_call (f := 12) (vs := [(.agg LT)]) rfl (cf12 _) rfl) ?_
  rintro e W14 ⟨rfl, B⟩; refine ⟨_, rfl, ?_⟩; simp only [zp]; replace E := below_next E B; replace k1 := keep B k1; replace k2 := keep B k2; replace k3 := keep B k3; replace OU := OU.keep B; replace k4 := keep B k4; replace k5 := keep B k5; refine sv (.bool true) 71 rfl rfl (ex_pkT rfl rfl rfl) ?_; simp only [zp]; refine sm (.bool true) 72 rfl rfl rfl rfl ?_; simp only [zp]; refine sv (.agg LT) 73 rfl rfl (ex_load (p := (.pointer (some ⟨b1, 0, none⟩))) rfl rfl (ld_all k1 Try.underlying26 rfl (inf26.trans (congrArg some (hLT.size).symm)))) ?_; simp only [zp]
  refine sv (.agg #[(.int .i64 900), (.int .i64 500), (.slice (some ⟨b2, 0, none⟩) 1 1)]) 74 rfl rfl (ex_load (p := (.pointer (some ⟨b3, 0, none⟩))) rfl rfl (ld_all k3 Try.underlying29 rfl inf29)) ?_; simp only [zp]; refine st_call (some 75) rfl rfl (fits_any W14 hLT bLT (Hs.one k2 hLH) (by decide) (by decide) (by decide) (fun i _ => by decide) fitsL) (ex_call (f := 14) (vs := [(.agg LT), (.agg #[(.int .i64 900), (.int .i64 500), (.slice (some ⟨b2, 0, none⟩) 1 1)])]) rfl (cf14 _) rfl) ?_; rintro e W15 ⟨rfl, B⟩; refine ⟨_, rfl, ?_⟩; simp only [zp]; replace E := below_next E B
  replace k1 := keep B k1; replace k2 := keep B k2; replace k3 := keep B k3; replace OU := OU.keep B; replace k4 := keep B k4; replace k5 := keep B k5; refine sv (.bool true) 76 rfl rfl (ex_pkT rfl rfl rfl) ?_; simp only [zp]; refine sm (.bool true) 77 rfl rfl rfl rfl ?_; simp only [zp]; refine sv (.agg LT) 78 rfl rfl (ex_load (p := (.pointer (some ⟨b1, 0, none⟩))) rfl rfl (ld_all k1 Try.underlying26 rfl (inf26.trans (congrArg some (hLT.size).symm)))) ?_; simp only [zp]
  refine st_call (some 79) rfl rfl (other_any 1 W15 hLT) (ex_call (f := 16) (vs := [(.agg LT), (.int .i64 1)]) rfl (cf16 _) rfl) ?_; rintro e W16 ⟨rfl, B⟩; refine ⟨_, rfl, ?_⟩; simp only [zp]; replace E := below_next E B; replace k1 := keep B k1; replace k2 := keep B k2; replace k3 := keep B k3; replace OU := OU.keep B; replace k4 := keep B k4; replace k5 := keep B k5; refine sv (.bool true) 80 rfl rfl (ex_bin (u := (.int .i64 0)) (r := (.int .i64 0)) rfl rfl rfl (eg3 _ _ _ _ _ _) (eql3 _ (by decide))) ?_; simp only [zp]
  refine sv (.bool true) 81 rfl rfl (ex_pkT rfl rfl rfl) ?_; simp only [zp]; refine sg (.bool true) 0 rfl rfl rfl rfl ?_; simp only [zp]; refine st_end ?_; subst hQ; refine wp_ret ?_; refine bodyPost_ret (results_tmp Try.results10 _ _ _) rfl ⟨rfl, E⟩

end Go.Proofs.Ytkhpbjafdamhaaa
