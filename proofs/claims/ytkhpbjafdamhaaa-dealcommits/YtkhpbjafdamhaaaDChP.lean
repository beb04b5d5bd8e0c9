/- Nodes, heights, paths that a transaction may have. -/
import Derived.Test.YtkhpbjafdamhaaaDChI
namespace Go.Proofs.Ytkhpbjafdamhaaa
open Go.RowKit
set_option linter.unusedVariables false
set_option linter.unusedSimpArgs false
set_option maxRecDepth 100000
section
variable {o : Oper} {a : Act} {W : World}
theorem ex_alloc74 (ho : o.op = .alloc 74) : (execOp a.eval o).run Try.prog W = .ok (.value (.pointer (some ⟨W.heap.size, 0, none⟩))) (W.alloc (.cells #[.nilFunc] 74)) := by
  unfold execOp
  simp only [ho]
  go_simp
end
theorem sto74 {W : World} {b i : Nat} {f : Fn} {q cap : Array Value} (h : W.cell? ⟨b, i, none⟩ = some .nilFunc) (hf : W.frozen? ⟨b, i, none⟩ = false) : (Instr.storeAt 74 (.pointer (some ⟨b, i, none⟩)) (.func f q cap)).run Try.prog W = .ok () (W.setCell ⟨b, i, none⟩ (.func f q cap)) := by
  go_simp
  rw [run_store _ _ _ _ _ rfl]
  go_simp
theorem pth0 (a b : Int) (two : Bool) (h d : Int) (x : Array Value) : (pth a b two h d x)[0]? = some (.int .i64 a) := by unfold pth; rw [Array.getElem?_append_left (by simp)]; rfl
theorem pth1 (a b : Int) (two : Bool) (h d : Int) (x : Array Value) : (pth a b two h d x)[1]? = some (.int .i64 b) := by unfold pth; rw [Array.getElem?_append_left (by simp)]; rfl
theorem pth2 (a b : Int) (two : Bool) (h d : Int) (x : Array Value) : (pth a b two h d x)[2]? = some (.bool two) := by unfold pth; rw [Array.getElem?_append_left (by simp)]; rfl
theorem pth3 (a b : Int) (two : Bool) (h d : Int) (x : Array Value) : (pth a b two h d x)[3]? = some (.int .i64 h) := by unfold pth; rw [Array.getElem?_append_left (by simp)]; rfl
theorem pth4 (a b : Int) (two : Bool) (h d : Int) (x : Array Value) : (pth a b two h d x)[4]? = some (.int .i64 d) := by unfold pth; rw [Array.getElem?_append_left (by simp)]; rfl
theorem cf76' (W : World) (vs : Array Value) : (callFunc 76 vs).run Try.prog W = .ok (.enter 76 vs) W := by go_simp
theorem cf69' (W : World) (vs : Array Value) : (callFunc 69 vs).run Try.prog W = .ok (.enter 69 vs) W := by go_simp
theorem cf59' (W : World) (vs : Array Value) : (callFunc 59 vs).run Try.prog W = .ok (.enter 59 vs) W := by go_simp
theorem height76 {x : Int} (h0 : 0 ≤ x) (h1 : x ≤ 2147483647) (w : World) : Calls Try.prog 76 #[.int .i64 x] w fun e w' => e = .returned (.bool true) ∧ Below w.heap.size w w' := by
  have E : Below w.heap.size w w := Below.refl _ _
  go_enter Try.func76, Try.ntmps76; refine wq fun Q hQ => ?_; refine sg (.bool false) 2 rfl rfl rfl rfl ?_; simp only [zp]; refine st_end ?_; subst hQ; refine wq fun Q hQ => ?_; refine sm (.int .i64 x) 3 rfl rfl rfl rfl ?_; simp only [zp]; refine sv (.bool true) 4 rfl rfl (ex_bin (u := (.int .i64 x)) (r := (.int .i64 0)) rfl rfl rfl (eg3 _ _ _ _ _ _) (geq3 _ (decide_eq_true h0))) ?_; simp only [zp]; refine sm (.bool true) 5 rfl rfl rfl rfl ?_; simp only [zp]; refine sm (.int .i64 x) 6 rfl rfl rfl rfl ?_; simp only [zp]
  refine sv (.bool true) 7 rfl rfl (ex_bin (u := (.int .i64 x)) (r := (.int .i64 2147483647)) rfl rfl rfl (eg3 _ _ _ _ _ _) (leq3 _ (decide_eq_true h1))) ?_; simp only [zp]; refine sv (.bool true) 8 rfl rfl (ex_pkT rfl rfl rfl) ?_; simp only [zp]; refine sg (.bool true) 2 rfl rfl rfl rfl ?_; simp only [zp]; refine st_end ?_; subst hQ; refine wp_ret ?_; refine bodyPost_ret (results_tmp Try.results76 _ _ _) rfl ⟨rfl, E⟩
theorem heights70 {x y : Int} {b : Nat} (w : World) (k : w.heap[b]? = some (.cells #[.int .i64 x, .int .i64 y] 3)) (h0 : 0 ≤ x) (h1 : x ≤ 2147483647) (h2 : 0 ≤ y) (h3 : y ≤ 2147483647) : Calls Try.prog 70 #[.slice (some ⟨b, 0, none⟩) 2 2] w fun e w' => e = .returned (.bool true) ∧ Below w.heap.size w w' := by
  have hN : Ns w (some ⟨b, 0, none⟩) 2 (pick2 x y) := .inr ⟨b, 0, rfl, fun i hi => by
    match i, hi with
    | 0, _ => exact at_cell k rfl
    | 1, _ => exact at_cell k rfl⟩
  have hC := all75 76 #[] (some ⟨b, 0, none⟩) 2 2 (pick2 x y) w hN (by omega) cf76' (fun i hi W hW => by
    match i, hi with
    | 0, _ => exact height76 h0 h1 W
    | 1, _ => exact height76 h2 h3 W)
  have E : Below w.heap.size w w := Below.refl _ _
  go_enter Try.func70, Try.ntmps70; refine wq fun Q hQ => ?_; refine sg (.bool false) 2 rfl rfl rfl rfl ?_; simp only [zp]; refine st_end ?_; subst hQ; refine wq fun Q hQ => ?_; refine sm (.slice (some ⟨b, 0, none⟩) 2 2) 3 rfl rfl rfl rfl ?_; simp only [zp]; refine st_call (some 4) rfl rfl hC (ex_call (f := 75) (vs := [(.slice (some ⟨b, 0, none⟩) 2 2), (.func (.func 76) #[] #[])]) rfl (cf75 _) rfl) ?_; rintro e W1 ⟨rfl, B⟩; refine ⟨_, rfl, ?_⟩; simp only [zp]; replace E := below_next E B; refine sg (.bool true) 2 rfl rfl rfl rfl ?_; simp only [zp]; refine st_end ?_; subst hQ; refine wp_ret ?_
  refine bodyPost_ret (results_tmp Try.results70 _ _ _) rfl ⟨rfl, E⟩
theorem node67 {a m : Int} {b : Nat} (w : World) (kb : w.heap[b]? = some (.cells #[.int .i64 m] 3)) (h0 : 0 ≤ a) (h1 : a < m) : Calls Try.prog 67 (#[.int .i64 a] ++ #[.pointer (some ⟨b, 0, none⟩)]) w fun e w' => e = .returned (.bool true) ∧ Below w.heap.size w w' := by
  show Calls Try.prog 67 #[.int .i64 a, .pointer (some ⟨b, 0, none⟩)] w _
  have E : Below w.heap.size w w := Below.refl _ _
  go_enter Try.func67, Try.ntmps67; refine wq fun Q hQ => ?_; refine sg (.bool false) 3 rfl rfl rfl rfl ?_; simp only [zp]; refine st_end ?_; subst hQ; refine wq fun Q hQ => ?_; refine sm (.int .i64 a) 4 rfl rfl rfl rfl ?_; simp only [zp]; refine sv (.bool true) 5 rfl rfl (ex_bin (u := (.int .i64 a)) (r := (.int .i64 0)) rfl rfl rfl (eg3 _ _ _ _ _ _) (geq3 _ (decide_eq_true h0))) ?_; simp only [zp]; refine sm (.bool true) 6 rfl rfl rfl rfl ?_; simp only [zp]; refine sm (.int .i64 a) 7 rfl rfl rfl rfl ?_; simp only [zp]
  refine sv (.int .i64 m) 8 rfl rfl (ex_load (p := (.pointer (some ⟨b, 0, none⟩))) rfl rfl (ld3 (at_cell kb rfl))) ?_; simp only [zp]; refine sv (.bool true) 9 rfl rfl (ex_bin (u := (.int .i64 a)) (r := (.int .i64 m)) rfl rfl rfl (eg3 _ _ _ _ _ _) (lss3 _ (decide_eq_true h1))) ?_; simp only [zp]; refine sv (.bool true) 10 rfl rfl (ex_pkT rfl rfl rfl) ?_; simp only [zp]; refine sg (.bool true) 3 rfl rfl rfl rfl ?_; simp only [zp]; refine st_end ?_; subst hQ; refine wp_ret ?_; refine bodyPost_ret (results_tmp Try.results67 _ _ _) rfl ⟨rfl, E⟩
/-- a path that may be: one node, heights -/
def Pok (m : Int) (X : Array Value) : Prop := ∃ a h d v, X = pth a 0 false h d v ∧ v.size = 32 ∧ 0 ≤ a ∧ a < m ∧ 0 ≤ h ∧ h ≤ 2147483647 ∧ 0 ≤ d ∧ d ≤ 2147483647
set_option maxHeartbeats 2000000 in
theorem path69 {X : Array Value} {m : Int} {b mb : Nat} (w : World) (kb : w.heap[b]? = some (.cells #[(.func (.func 67) #[] #[(.pointer (some ⟨mb, 0, none⟩))])] 74)) (km : w.heap[mb]? = some (.cells #[.int .i64 m] 3)) (hX : Pok m X) : Calls Try.prog 69 (#[.agg X] ++ #[.pointer (some ⟨b, 0, none⟩)]) w fun e w' => e = .returned (.bool true) ∧ Below w.heap.size w w' := by
  obtain ⟨a, h, d, v, rfl, hv, p0, p1, p2, p3, p4, p5⟩ := hX
  show Calls Try.prog 69 #[.agg (pth a 0 false h d v), .pointer (some ⟨b, 0, none⟩)] w _
  have E : Below w.heap.size w w := Below.refl _ _
  go_enter Try.func69, Try.ntmps69; refine wq fun Q hQ => ?_; refine st_new (fun b => .pointer (some ⟨b, 0, none⟩)) (some 2) rfl rfl (ex_box rfl rfl) ?_; intro b1 W1 k1 g1 B; simp only [zp]
  have ne_b1_b : b1 ≠ b := fun e => by have := lt_of kb; omega
  have ne_b1_mb : b1 ≠ mb := fun e => by have := lt_of km; omega
  have ge_b1 := Nat.le_trans E.size g1; replace E := below_next E B; replace kb := keep B kb; replace km := keep B km; clear B; refine sg (.bool false) 3 rfl rfl rfl rfl ?_; simp only [zp]; refine st_end ?_; subst hQ; refine wq fun Q hQ => ?_; refine sv (.pointer (some ⟨b1, 1, none⟩)) 5 rfl rfl (ex_fa (p := (.pointer (some ⟨b1, 0, none⟩))) rfl rfl (fa66_1 _ _)) ?_; simp only [zp]; refine sv (.int .i64 0) 6 rfl rfl (ex_load (p := (.pointer (some ⟨b1, 1, none⟩))) rfl rfl (ld3 (at_cell k1 (pth1 _ _ _ _ _ _)))) ?_; simp only [zp]
  refine sv (.bool true) 7 rfl rfl (ex_bin (u := (.int .i64 0)) (r := (.int .i64 0)) rfl rfl rfl (eg3 _ _ _ _ _ _) (eql3 _ (by decide))) ?_; simp only [zp]; refine sg (.bool true) 4 rfl rfl rfl rfl ?_; simp only [zp]; refine st_end ?_; subst hQ; refine wp_seq ?_; refine wq fun Q hQ => ?_; refine sv (.pointer (some ⟨b1, 2, none⟩)) 8 rfl rfl (ex_fa (p := (.pointer (some ⟨b1, 0, none⟩))) rfl rfl (fa66_2 _ _)) ?_; simp only [zp]; refine sv (.bool false) 9 rfl rfl (ex_load (p := (.pointer (some ⟨b1, 2, none⟩))) rfl rfl (ld4 (at_cell k1 (pth2 _ _ _ _ _ _)))) ?_; simp only [zp]
  refine st_end ?_; subst hQ; refine wp_cond_false rfl ?_; refine wp_skip ?_; refine wq fun Q hQ => ?_; refine sv (.func (.func 67) #[] #[(.pointer (some ⟨mb, 0, none⟩))]) 14 rfl rfl (ex_load (p := (.pointer (some ⟨b, 0, none⟩))) rfl rfl (ld74 (at_cell kb rfl))) ?_; simp only [zp]; refine sv (.pointer (some ⟨b1, 0, none⟩)) 15 rfl rfl (ex_fa (p := (.pointer (some ⟨b1, 0, none⟩))) rfl rfl (fa66_0 _ _)) ?_; simp only [zp]; refine sv (.int .i64 a) 16 rfl rfl (ex_load (p := (.pointer (some ⟨b1, 0, none⟩))) rfl rfl (ld3 (at_cell k1 (pth0 _ _ _ _ _ _)))) ?_; simp only [zp]
  refine st_call (some 17) rfl rfl (node67 W1 km p0 p1) (ex_callv (f := 67) (vs := [(.int .i64 a)]) rfl rfl (cf67 _) rfl) ?_; rintro e W2 ⟨rfl, B⟩; refine ⟨_, rfl, ?_⟩; simp only [zp]; replace E := below_next E B; replace kb := keep B kb; replace km := keep B km; replace k1 := keep B k1; refine sm (.bool true) 18 rfl rfl rfl rfl ?_; simp only [zp]; refine sm (.bool true) 19 rfl rfl rfl rfl ?_; simp only [zp]; refine sv (.bool true) 20 rfl rfl (ex_pkT rfl rfl rfl) ?_; simp only [zp]; refine sm (.bool true) 21 rfl rfl rfl rfl ?_; simp only [zp]
  refine sv (.pointer (some ⟨b1, 3, none⟩)) 22 rfl rfl (ex_fa (p := (.pointer (some ⟨b1, 0, none⟩))) rfl rfl (fa66_3 _ _)) ?_; simp only [zp]; refine sv (.int .i64 h) 23 rfl rfl (ex_load (p := (.pointer (some ⟨b1, 3, none⟩))) rfl rfl (ld3 (at_cell k1 (pth3 _ _ _ _ _ _)))) ?_; simp only [zp]; refine sv (.pointer (some ⟨b1, 4, none⟩)) 24 rfl rfl (ex_fa (p := (.pointer (some ⟨b1, 0, none⟩))) rfl rfl (fa66_4 _ _)) ?_; simp only [zp]; refine sv (.int .i64 d) 25 rfl rfl (ex_load (p := (.pointer (some ⟨b1, 4, none⟩))) rfl rfl (ld3 (at_cell k1 (pth4 _ _ _ _ _ _)))) ?_; simp only [zp]
  refine st_new (fun b => .slice (some ⟨b, 0, none⟩) 2 2) (some 26) rfl rfl (ex_bsl2 (u := (.int .i64 h)) (r := (.int .i64 d)) rfl rfl rfl (bs82_2 _ _ _)) ?_; intro b2 W3 k2 g2 B; simp only [zp]
  have ne_b2_b : b2 ≠ b := fun e => by have := lt_of kb; omega
  have ne_b2_mb : b2 ≠ mb := fun e => by have := lt_of km; omega
  have ne_b2_b1 : b2 ≠ b1 := fun e => by have := lt_of k1; omega
  have ge_b2 := Nat.le_trans E.size g2; replace E := below_next E B; replace kb := keep B kb; replace km := keep B km; replace k1 := keep B k1; clear B; refine st_call (some 27) rfl rfl (heights70 W3 k2 p2 p3 p4 p5) (ex_call (f := 70) (vs := [(.slice (some ⟨b2, 0, none⟩) 2 2)]) rfl (cf70 _) rfl) ?_; rintro e W4 ⟨rfl, B⟩; refine ⟨_, rfl, ?_⟩; simp only [zp]; replace E := below_next E B; replace kb := keep B kb; replace km := keep B km; replace k1 := keep B k1; replace k2 := keep B k2; refine sv (.bool true) 28 rfl rfl (ex_pkT rfl rfl rfl) ?_; simp only [zp]
  refine sg (.bool true) 3 rfl rfl rfl rfl ?_; simp only [zp]; refine st_end ?_; subst hQ; refine wp_ret ?_; refine bodyPost_ret (results_tmp Try.results69 _ _ _) rfl ⟨rfl, E⟩
theorem paths60 {m : Int} {ao : Option Addr} {n c : Nat} {Cs : Nat → Array Value} (w : World) (h : Rg w ao n 37 Cs) (h1 : 1 ≤ n) (h2 : n ≤ 4) (hP : ∀ i, i < n → Pok m (Cs i)) : Calls Try.prog 60 #[.int .i64 m, .slice ao n c] w fun e w' => e = .returned (.bool true) ∧ Below w.heap.size w w' := by
  have E : Below w.heap.size w w := Below.refl _ _
  go_enter Try.func60, Try.ntmps60; refine wq fun Q hQ => ?_; refine st_new (fun b => .pointer (some ⟨b, 0, none⟩)) (some 2) rfl rfl (ex_box3 rfl rfl) ?_; intro b1 W1 k1 g1 B; simp only [zp]; have ge_b1 := Nat.le_trans E.size g1; replace E := below_next E B; clear B; refine sg (.bool false) 4 rfl rfl rfl rfl ?_; simp only [zp]; refine st_end ?_; subst hQ; refine wp_seq ?_; refine wq fun Q hQ => ?_; refine sm (.slice ao n c) 6 rfl rfl rfl rfl ?_; simp only [zp]; refine sv (.int .i64 (n : Nat)) 7 rfl rfl (ex_len rfl rfl (len44 _ _ _ _ _)) ?_; simp only [zp]
  refine sv (.bool false) 8 rfl rfl (ex_bin (u := (.int .i64 (n : Nat))) (r := (.int .i64 1)) rfl rfl rfl (eg3 _ _ _ _ _ _) (lss3 _ (decide_eq_false (by omega)))) ?_; simp only [zp]; refine sm (.bool false) 9 rfl rfl rfl rfl ?_; simp only [zp]; refine sm (.slice ao n c) 10 rfl rfl rfl rfl ?_; simp only [zp]; refine sv (.int .i64 (n : Nat)) 11 rfl rfl (ex_len rfl rfl (len44 _ _ _ _ _)) ?_; simp only [zp]; refine sv (.bool false) 12 rfl rfl (ex_bin (u := (.int .i64 (n : Nat))) (r := (.int .i64 4)) rfl rfl rfl (eg3 _ _ _ _ _ _) (gtr3 _ (decide_eq_false (by omega)))) ?_; simp only [zp]
  refine sv (.bool false) 13 rfl rfl (ex_pkF rfl rfl rfl) ?_; simp only [zp]; refine st_end ?_; subst hQ; refine wp_cond_false rfl ?_; refine wp_skip ?_; refine wq fun Q hQ => ?_; refine sv (.func (.func 67) #[] #[(.pointer (some ⟨b1, 0, none⟩))]) 14 rfl rfl (ex_mkf rfl rfl) ?_; simp only [zp]; refine st_new (fun b => .pointer (some ⟨b, 0, none⟩)) (some 5) rfl rfl (ex_alloc74 rfl) ?_; intro b2 W2 k2 g2 B; simp only [zp]
  have ne_b2_b1 : b2 ≠ b1 := fun e => by have := lt_of k1; omega
  have ge_b2 := Nat.le_trans E.size g2; replace E := below_next E B; replace k1 := keep B k1; clear B; obtain ⟨kn, K⟩ := put_cell (i := 0) (.func (.func 67) #[] #[(.pointer (some ⟨b1, 0, none⟩))]) k2; refine st_sk rfl rfl (ex_store rfl rfl rfl (sto74 (at_cell k2 rfl) (unfrozen k2))) ?_; obtain ⟨W3, hW2⟩ : ∃ W', W2.setCell ⟨b2, 0, none⟩ (.func (.func 67) #[] #[(.pointer (some ⟨b1, 0, none⟩))]) = W' := ⟨_, rfl⟩; rw [hW2] at kn K ⊢; replace E := below_put E ge_b2 K; replace k1 := keepK K k1 (fun e => ne_tag k1 k2 (by decide) e); replace k2 := kn; clear kn K; refine st_end ?_; subst hQ
  refine wq fun Q hQ => ?_; refine sm (.slice ao n c) 15 rfl rfl rfl rfl ?_; simp only [zp]; refine sv (.func (.func 69) #[] #[(.pointer (some ⟨b2, 0, none⟩))]) 16 rfl rfl (ex_mkf rfl rfl) ?_; simp only [zp]; refine st_call (some 17) rfl rfl (all68 69 #[.pointer (some ⟨b2, 0, none⟩)] ao n c Cs W3 (h.below E) (by omega) cf69' (fun i hi W' hW' => path69 W' (keep hW' k2) (keep hW' k1) (hP i hi))) (ex_call (f := 68) (vs := [(.slice ao n c), (.func (.func 69) #[] #[(.pointer (some ⟨b2, 0, none⟩))])]) rfl (cf68 _) rfl) ?_; rintro e W4 ⟨rfl, B⟩; refine ⟨_, rfl, ?_⟩; simp only [zp]
  replace E := below_next E B; replace k1 := keep B k1; replace k2 := keep B k2; refine sg (.bool true) 4 rfl rfl rfl rfl ?_; simp only [zp]; refine st_end ?_; subst hQ; refine wp_ret ?_; refine bodyPost_ret (results_tmp Try.results60 _ _ _) rfl ⟨rfl, E⟩
/-- an output whose paths lie there and may be -/
def Ook (w : World) (m : Int) (X : Array Value) : Prop := ∃ am ao n c Cs, X = #[.int .i64 am, .slice ao n c] ∧ Rg w ao n 37 Cs ∧ 1 ≤ n ∧ n ≤ 4 ∧ ∀ i, i < n → Pok m (Cs i)
theorem Ook.below {w W : World} {m : Int} {X : Array Value} (h : Ook w m X) (hB : Below w.heap.size w W) : Ook W m X := by
  obtain ⟨am, ao, n, c, Cs, e, hR, r⟩ := h; exact ⟨am, ao, n, c, Cs, e, hR.below hB, r⟩
theorem out59 {m : Int} {b : Nat} {X : Array Value} (w : World) (kb : w.heap[b]? = some (.cells #[.int .i64 m] 3)) (hX : Ook w m X) : Calls Try.prog 59 (#[.agg X] ++ #[.pointer (some ⟨b, 0, none⟩)]) w fun e w' => e = .returned (.bool true) ∧ Below w.heap.size w w' := by
  obtain ⟨am, ao, n, c, Cs, rfl, hR, h1, h2, hP⟩ := hX
  show Calls Try.prog 59 #[.agg #[.int .i64 am, .slice ao n c], .pointer (some ⟨b, 0, none⟩)] w _
  have E : Below w.heap.size w w := Below.refl _ _
  go_enter Try.func59, Try.ntmps59; refine wq fun Q hQ => ?_; refine st_new (fun b => .pointer (some ⟨b, 0, none⟩)) (some 2) rfl rfl (ex_box rfl rfl) ?_; intro b1 W1 k1 g1 B; simp only [zp]
  have ne_b1_b : b1 ≠ b := fun e => by have := lt_of kb; omega
  have ge_b1 := Nat.le_trans E.size g1; replace E := below_next E B; replace kb := keep B kb; clear B; refine sg (.bool false) 3 rfl rfl rfl rfl ?_; simp only [zp]; refine st_end ?_; subst hQ; refine wq fun Q hQ => ?_; refine sv (.int .i64 m) 4 rfl rfl (ex_load (p := (.pointer (some ⟨b, 0, none⟩))) rfl rfl (ld3 (at_cell kb rfl))) ?_; simp only [zp]; refine sv (.pointer (some ⟨b1, 1, none⟩)) 5 rfl rfl (ex_fa (p := (.pointer (some ⟨b1, 0, none⟩))) rfl rfl (fa46_1 _ _)) ?_; simp only [zp]
  refine sv (.slice ao n c) 6 rfl rfl (ex_load (p := (.pointer (some ⟨b1, 1, none⟩))) rfl rfl (ld44 (at_cell k1 rfl))) ?_; simp only [zp]; refine st_call (some 7) rfl rfl (paths60 (c := c) W1 (hR.below E) h1 h2 hP) (ex_call (f := 60) (vs := [(.int .i64 m), (.slice ao n c)]) rfl (cf60 _) rfl) ?_; rintro e W2 ⟨rfl, B⟩; refine ⟨_, rfl, ?_⟩; simp only [zp]; replace E := below_next E B; replace kb := keep B kb; replace k1 := keep B k1; refine sg (.bool true) 3 rfl rfl rfl rfl ?_; simp only [zp]; refine st_end ?_; subst hQ; refine wp_ret ?_
  refine bodyPost_ret (results_tmp Try.results59 _ _ _) rfl ⟨rfl, E⟩
end Go.Proofs.Ytkhpbjafdamhaaa
