/- Inputs that may be: one. A transaction that may be. -/
import Derived.Test.YtkhpbjafdamhaaaDChN
namespace Go.Proofs.Ytkhpbjafdamhaaa
open Go.RowKit
set_option linter.unusedVariables false
set_option linter.unusedSimpArgs false
set_option maxRecDepth 100000
section
variable {o : Oper} {a : Act} {W W' : World}
theorem ex_ixp31 {x y : Operand} {b p n c k : Nat} (ho : o.op = .indexAddr 31 x y) (hx : a.eval x = .slice (some ⟨b, p, none⟩) n c) (hy : a.eval y = .int .i64 k) (hk : k < n) : (execOp a.eval o).run Try.prog W = .ok (.value (.pointer (some ⟨b, p + k * 130, none⟩))) W := by
  have h1 : (k : Int) < (n : Int) := by omega
  unfold execOp
  simp only [ho, hx, hy]
  go_simp
theorem ex_mm {z : Value} (ho : o.op = .makeMap 86 none) (hr : (Instr.makeMap 86 none).run Try.prog W = .ok z W') : (execOp a.eval o).run Try.prog W = .ok (.value z) W' := by
  unfold execOp
  simp only [ho]
  simp [hr]
theorem ex_alloc86 (ho : o.op = .alloc 86) : (execOp a.eval o).run Try.prog W = .ok (.value (.pointer (some ⟨W.heap.size, 0, none⟩))) (W.alloc (.cells #[.map none] 86)) := by
  unfold execOp
  simp only [ho]
  go_simp
end
theorem sto86 {W : World} {b i : Nat} {q r : Option Nat} (h : W.cell? ⟨b, i, none⟩ = some (.map q)) (hf : W.frozen? ⟨b, i, none⟩ = false) : (Instr.storeAt 86 (.pointer (some ⟨b, i, none⟩)) (.map r)).run Try.prog W = .ok () (W.setCell ⟨b, i, none⟩ (.map r)) := by
  go_simp
theorem ld88 {W : World} {b o : Nat} {f : Fn} {q : Array Value} {cap : Array Value} (h : W.cell? ⟨b, o, none⟩ = some (.func f q cap)) : (Instr.loadAt 88 (.pointer (some ⟨b, o, none⟩))).run Try.prog W = .ok (.func f q cap) W := by go_simp
theorem mk_map (W : World) : ∃ r W', (Instr.makeMap 86 none).run Try.prog W = .ok (.map (some r)) W' ∧ Cnt W' r #[] 0 ∧ Below W.heap.size W W' ∧ W.heap.size ≤ r := by
  exact ⟨W.heap.size, W.alloc (.map #[] 0), rfl, heap_alloc_last W _, (Below.refl _ _).alloc (Nat.le_refl _) _, Nat.le_refl _⟩

theorem not64 {b mb r : Nat} {X K : Array Value} {fo p : Int} (hX : X.size = 130) (hKX : X.extract 0 33 = K) (hK : K.size = 33) (h32 : X[32]? = some (.int .i64 fo)) (h33 : X[33]? = some (.int .i64 p)) (f0 : 0 ≤ fo) (p0 : 0 ≤ p) (hR : Refl 24 10000 (.agg K)) (w : World) (kb : w.heap[b]? = some (.cells #[(.func (.func 57) #[] #[(.pointer (some ⟨mb, 0, none⟩))])] 88)) (km : w.heap[mb]? = some (.cells #[(.map (some r))] 86)) (kc : Cnt w r #[] 0) :
    Calls Try.prog 64 (#[.agg X] ++ #[.pointer (some ⟨b, 0, none⟩)]) w fun e w' => e = .returned (.bool false) ∧ Kept (· = r) w w' := by
  show Calls Try.prog 64 #[.agg X, .pointer (some ⟨b, 0, none⟩)] w _
  have E : Kept (· = r) w w := Kept.refl _ _
  go_enter Try.func64, Try.ntmps64; refine wq fun Q hQ => ?_; refine st_new (fun b => .pointer (some ⟨b, 0, none⟩)) (some 2) rfl rfl (ex_box rfl rfl) ?_; intro b1 W1 k1 g1 B; simp only [zp]
  have ne_b1_b : b1 ≠ b := fun e => by have := lt_of kb; omega
  have ne_b1_mb : b1 ≠ mb := fun e => by have := lt_of km; omega
  have ge_b1 := Nat.le_trans E.size g1; replace E := E.next B; replace kb := keep B kb; replace km := keep B km; replace kc := keep B kc; clear B; refine sg (.bool false) 3 rfl rfl rfl rfl ?_; simp only [zp]; refine st_end ?_; subst hQ; refine wq fun Q hQ => ?_; refine sv (.func (.func 57) #[] #[(.pointer (some ⟨mb, 0, none⟩))]) 4 rfl rfl (ex_load (p := (.pointer (some ⟨b, 0, none⟩))) rfl rfl (ld88 (at_cell kb rfl))) ?_; simp only [zp]
  refine sv (.agg X) 5 rfl rfl (ex_load (p := (.pointer (some ⟨b1, 0, none⟩))) rfl rfl (ld_all k1 Try.underlying61 rfl (inf61.trans (congrArg some (hX).symm)))) ?_; simp only [zp]; refine st_call (some 6) rfl rfl (count57 W1 hX hKX hK h32 h33 f0 p0 hR km kc) (ex_callv (f := 57) (vs := [(.agg X)]) rfl rfl (cf57 _) rfl) ?_; rintro e W2 ⟨rfl, B⟩; refine ⟨_, rfl, ?_⟩; simp only [zp]; replace E := E.putX B; refine sv (.bool false) 7 rfl rfl (ex_not rfl rfl rfl) ?_; simp only [zp]; refine sg (.bool false) 3 rfl rfl rfl rfl ?_; simp only [zp]; refine st_end ?_; subst hQ; refine wp_ret ?_
  refine bodyPost_ret (results_tmp Try.results64 _ _ _) rfl ⟨rfl, E⟩
set_option maxHeartbeats 2000000 in
theorem idx71 {g c b mb r : Nat} {X K : Array Value} {fo p : Int} (hX : X.size = 130) (hKX : X.extract 0 33 = K) (hK : K.size = 33) (h32 : X[32]? = some (.int .i64 fo)) (h33 : X[33]? = some (.int .i64 p)) (f0 : 0 ≤ fo) (p0 : 0 ≤ p) (hR : Refl 24 10000 (.agg K)) (w : World) (kg : w.heap[g]? = some (.cells X 61)) (kb : w.heap[b]? = some (.cells #[(.func (.func 57) #[] #[(.pointer (some ⟨mb, 0, none⟩))])] 88)) (km : w.heap[mb]? = some (.cells #[(.map (some r))] 86)) (kc : Cnt w r #[] 0) :
    Calls Try.prog 71 #[.slice (some ⟨g, 0, none⟩) 1 c, .func (.func 64) #[] #[.pointer (some ⟨b, 0, none⟩)]] w fun e w' => e = .returned (.int .i64 (-1)) ∧ Kept (· = r) w w' := by
  have E : Kept (· = r) w w := Kept.refl _ _
  go_enter Try.func71, Try.ntmps71; refine wq fun Q hQ => ?_; refine sg (.int .i64 0) 4 rfl rfl rfl rfl ?_; simp only [zp]; refine st_end ?_; subst hQ; refine wp_seq ?_; refine wq fun Q hQ => ?_; refine sm (.slice (some ⟨g, 0, none⟩) 1 c) 6 rfl rfl rfl rfl ?_; simp only [zp]; refine sv (.int .i64 (1 : Nat)) 7 rfl rfl (ex_len rfl rfl (len31 _ _ _ _ _)) ?_; simp only [zp]; refine sm (.int .i64 0) 8 rfl rfl rfl rfl ?_; simp only [zp]; refine st_end ?_; subst hQ; refine wp_block ?_
  go_loopw [8] (fun v8 wr => ∃ i : Nat, i ≤ 1 ∧ v8 = .int .i64 i ∧ ((i = 0 ∧ w = wr) ∨ (i = 1 ∧ Kept (· = r) w wr))) (fun v8 _ => 1 - (intOf v8).toNat)
  case atStart => exact ⟨0, by omega, rfl, .inl ⟨rfl, rfl⟩⟩
  case round =>
    obtain ⟨i, hi, rfl, hc⟩ := hrel
    rcases hc with ⟨rfl, rfl⟩ | ⟨rfl, E⟩
    · skip
      refine wq fun Q hQ => ?_; refine sv (.bool true) 9 rfl rfl (ex_bin (u := (.int .i64 ((0 : Nat) : Int))) (r := (.int .i64 (1 : Nat))) rfl rfl rfl (eg3 _ _ _ _ _ _) (lss3 _ (by decide))) ?_; simp only [zp]; refine st_end ?_; subst hQ; refine wp_seq ?_; refine wp_cond_true rfl ?_; refine wp_skip ?_; refine wp_seq ?_; refine wp_block ?_; refine wq fun Q hQ => ?_; refine sm (.int .i64 ((0 : Nat) : Int)) 10 rfl rfl rfl rfl ?_; simp only [zp]; refine sg (.int .i64 ((0 : Nat) : Int)) 5 rfl rfl rfl rfl ?_; simp only [zp]; refine st_end ?_; subst hQ; refine wq fun Q hQ => ?_
      refine sm (.func (.func 64) #[] #[(.pointer (some ⟨b, 0, none⟩))]) 11 rfl rfl rfl rfl ?_; simp only [zp]; refine sm (.slice (some ⟨g, 0, none⟩) 1 c) 12 rfl rfl rfl rfl ?_; simp only [zp]; refine sm (.int .i64 ((0 : Nat) : Int)) 13 rfl rfl rfl rfl ?_; simp only [zp]; refine sv (.pointer (some ⟨g, 0, none⟩)) 14 rfl rfl (ex_ixp31 (p := 0) (k := 0) rfl rfl rfl (by decide)) ?_; simp only [zp]; refine sv (.agg X) 15 rfl rfl (ex_load (p := (.pointer (some ⟨g, 0, none⟩))) rfl rfl (ld_all kg Try.underlying61 rfl (inf61.trans (congrArg some (hX).symm)))) ?_; simp only [zp]
      refine st_call (some 16) rfl rfl (not64 hX hKX hK h32 h33 f0 p0 hR w kb km kc) (ex_callv (f := 64) (vs := [(.agg X)]) rfl rfl (cf64 _) rfl) ?_; rintro e W1 ⟨rfl, B⟩; refine ⟨_, rfl, ?_⟩; simp only [zp]; replace E := E.putX B; refine st_end ?_; subst hQ; refine wp_cond_false rfl ?_; refine wp_skip ?_; refine wl_in (wl_cap fun Q hQ => ?_); refine sv (.int .i64 ((1 : Nat) : Int)) 18 rfl rfl (ex_bin rfl rfl rfl (eg3 _ _ _ _ _ _) (add3 _ rfl (by decide))) ?_; simp only [zp]; refine sm (.int .i64 ((1 : Nat) : Int)) 8 rfl rfl rfl rfl ?_; simp only [zp]; refine st_end ?_; subst hQ
      refine then_go ?_
      go_roundw
      case rel => exact ⟨1, by omega, rfl, .inr ⟨rfl, E⟩⟩
      case measure => simp [intOf]
    · skip
      refine wq fun Q hQ => ?_; refine sv (.bool false) 9 rfl rfl (ex_bin (u := (.int .i64 ((1 : Nat) : Int))) (r := (.int .i64 (1 : Nat))) rfl rfl rfl (eg3 _ _ _ _ _ _) (lss3 _ (by decide))) ?_; simp only [zp]; refine st_end ?_; subst hQ; refine wp_seq ?_; refine wp_cond_false rfl ?_; refine wp_exit ?_; refine ex_then ?_; refine ex_then ?_; refine ex_blk ?_; refine wq fun Q hQ => ?_; refine sg (.int .i64 (-1)) 4 rfl rfl rfl rfl ?_; simp only [zp]; refine st_end ?_; subst hQ; refine wp_ret ?_; refine bodyPost_ret (results_tmp Try.results71 _ _ _) rfl ⟨rfl, E⟩
theorem cont63 {g c b mb r : Nat} {X K : Array Value} {fo p : Int} (hX : X.size = 130) (hKX : X.extract 0 33 = K) (hK : K.size = 33) (h32 : X[32]? = some (.int .i64 fo)) (h33 : X[33]? = some (.int .i64 p)) (f0 : 0 ≤ fo) (p0 : 0 ≤ p) (hR : Refl 24 10000 (.agg K)) (w : World) (kg : w.heap[g]? = some (.cells X 61)) (kb : w.heap[b]? = some (.cells #[(.func (.func 57) #[] #[(.pointer (some ⟨mb, 0, none⟩))])] 88)) (km : w.heap[mb]? = some (.cells #[(.map (some r))] 86)) (kc : Cnt w r #[] 0) :
    Calls Try.prog 63 #[.slice (some ⟨g, 0, none⟩) 1 c, .func (.func 64) #[] #[.pointer (some ⟨b, 0, none⟩)]] w fun e w' => e = .returned (.bool false) ∧ Kept (· = r) w w' := by
  have E : Kept (· = r) w w := Kept.refl _ _
  go_enter Try.func63, Try.ntmps63; refine wq fun Q hQ => ?_; refine sg (.bool false) 4 rfl rfl rfl rfl ?_; simp only [zp]; refine st_end ?_; subst hQ; refine wq fun Q hQ => ?_; refine sm (.slice (some ⟨g, 0, none⟩) 1 c) 5 rfl rfl rfl rfl ?_; simp only [zp]; refine sm (.func (.func 64) #[] #[(.pointer (some ⟨b, 0, none⟩))]) 6 rfl rfl rfl rfl ?_; simp only [zp]; refine st_call (some 7) rfl rfl (idx71 hX hKX hK h32 h33 f0 p0 hR w kg kb km kc) (ex_call (f := 71) (vs := [(.slice (some ⟨g, 0, none⟩) 1 c), (.func (.func 64) #[] #[(.pointer (some ⟨b, 0, none⟩))])]) rfl (cf71 _) rfl) ?_
  rintro e W1 ⟨rfl, B⟩; refine ⟨_, rfl, ?_⟩; simp only [zp]; replace E := E.putX B; refine sv (.bool false) 8 rfl rfl (ex_bin (u := (.int .i64 (-1))) (r := (.int .i64 0)) rfl rfl rfl (eg3 _ _ _ _ _ _) (geq3 _ (by decide))) ?_; simp only [zp]; refine sg (.bool false) 4 rfl rfl rfl rfl ?_; simp only [zp]; refine st_end ?_; subst hQ; refine wp_ret ?_; refine bodyPost_ret (results_tmp Try.results63 _ _ _) rfl ⟨rfl, E⟩
theorem all56 {g c mb r : Nat} {X K : Array Value} {fo p : Int} (hX : X.size = 130) (hKX : X.extract 0 33 = K) (hK : K.size = 33) (h32 : X[32]? = some (.int .i64 fo)) (h33 : X[33]? = some (.int .i64 p)) (f0 : 0 ≤ fo) (p0 : 0 ≤ p) (hR : Refl 24 10000 (.agg K)) (w : World) (kg : w.heap[g]? = some (.cells X 61)) (km : w.heap[mb]? = some (.cells #[(.map (some r))] 86)) (kc : Cnt w r #[] 0) :
    Calls Try.prog 56 #[.slice (some ⟨g, 0, none⟩) 1 c, .func (.func 57) #[] #[.pointer (some ⟨mb, 0, none⟩)]] w fun e w' => e = .returned (.bool true) ∧ Kept (· = r) w w' := by
  have E : Kept (· = r) w w := Kept.refl _ _
  go_enter Try.func56, Try.ntmps56; refine wq fun Q hQ => ?_; refine st_new (fun b => .pointer (some ⟨b, 0, none⟩)) (some 3) rfl rfl (ex_boxf rfl rfl) ?_; intro b1 W1 k1 g1 B; simp only [zp]
  have ne_b1_g : b1 ≠ g := fun e => by have := lt_of kg; omega
  have ne_b1_mb : b1 ≠ mb := fun e => by have := lt_of km; omega
  have ge_b1 := Nat.le_trans E.size g1; replace E := E.next B; replace kg := keep B kg; replace km := keep B km; replace kc := keep B kc; clear B; refine sg (.bool false) 4 rfl rfl rfl rfl ?_; simp only [zp]; refine st_end ?_; subst hQ; refine wq fun Q hQ => ?_; refine sm (.slice (some ⟨g, 0, none⟩) 1 c) 5 rfl rfl rfl rfl ?_; simp only [zp]; refine sv (.func (.func 64) #[] #[(.pointer (some ⟨b1, 0, none⟩))]) 6 rfl rfl (ex_mkf rfl rfl) ?_; simp only [zp]
  refine st_call (some 7) rfl rfl (cont63 (c := c) hX hKX hK h32 h33 f0 p0 hR W1 kg k1 km kc) (ex_call (f := 63) (vs := [(.slice (some ⟨g, 0, none⟩) 1 c), (.func (.func 64) #[] #[(.pointer (some ⟨b1, 0, none⟩))])]) rfl (cf63 _) rfl) ?_; rintro e W2 ⟨rfl, B⟩; refine ⟨_, rfl, ?_⟩; simp only [zp]; replace E := E.putX B; refine sv (.bool true) 8 rfl rfl (ex_not rfl rfl rfl) ?_; simp only [zp]; refine sg (.bool true) 4 rfl rfl rfl rfl ?_; simp only [zp]; refine st_end ?_; subst hQ; refine wp_ret ?_; refine bodyPost_ret (results_tmp Try.results56 _ _ _) rfl ⟨rfl, E⟩
theorem ins41 {g c : Nat} {X K : Array Value} {fo p : Int} (hX : X.size = 130) (hKX : X.extract 0 33 = K) (hK : K.size = 33) (h32 : X[32]? = some (.int .i64 fo)) (h33 : X[33]? = some (.int .i64 p)) (f0 : 0 ≤ fo) (p0 : 0 ≤ p) (hR : Refl 24 10000 (.agg K)) (w : World) (kg : w.heap[g]? = some (.cells X 61)) : Calls Try.prog 41 #[.slice (some ⟨g, 0, none⟩) 1 c] w fun e w' => e = .returned (.bool true) ∧ Below w.heap.size w w' := by
  have E : Below w.heap.size w w := Below.refl _ _
  go_enter Try.func41, Try.ntmps41; refine wq fun Q hQ => ?_; refine sg (.bool false) 2 rfl rfl rfl rfl ?_; simp only [zp]; refine st_end ?_; subst hQ; refine wp_seq ?_; refine wq fun Q hQ => ?_; refine sm (.slice (some ⟨g, 0, none⟩) 1 c) 4 rfl rfl rfl rfl ?_; simp only [zp]; refine sv (.int .i64 (1 : Nat)) 5 rfl rfl (ex_len rfl rfl (len31 _ _ _ _ _)) ?_; simp only [zp]; refine sv (.bool false) 6 rfl rfl (ex_bin (u := (.int .i64 (1 : Nat))) (r := (.int .i64 1)) rfl rfl rfl (eg3 _ _ _ _ _ _) (lss3 _ (by decide))) ?_; simp only [zp]; refine sm (.bool false) 7 rfl rfl rfl rfl ?_; simp only [zp]
  refine sm (.slice (some ⟨g, 0, none⟩) 1 c) 8 rfl rfl rfl rfl ?_; simp only [zp]; refine sv (.int .i64 (1 : Nat)) 9 rfl rfl (ex_len rfl rfl (len31 _ _ _ _ _)) ?_; simp only [zp]; refine sv (.bool false) 10 rfl rfl (ex_bin (u := (.int .i64 (1 : Nat))) (r := (.int .i64 64)) rfl rfl rfl (eg3 _ _ _ _ _ _) (gtr3 _ (by decide))) ?_; simp only [zp]; refine sv (.bool false) 11 rfl rfl (ex_pkF rfl rfl rfl) ?_; simp only [zp]; refine st_end ?_; subst hQ; refine wp_cond_false rfl ?_; refine wp_skip ?_; refine wq fun Q hQ => ?_; obtain ⟨r, W1, hmm, kc, B, ger⟩ := mk_map w
  refine sv (.map (some r)) 12 rfl rfl (ex_mm rfl hmm) ?_; simp only [zp]; have ge_r := Nat.le_trans E.size ger; replace E := below_next E B; replace kg := keep B kg; clear B hmm ger; refine st_new (fun b => .pointer (some ⟨b, 0, none⟩)) (some 3) rfl rfl (ex_alloc86 rfl) ?_; intro b1 W2 k1 g1 B; simp only [zp]
  have ne_b1_g : b1 ≠ g := fun e => by have := lt_of kg; omega
  have ge_b1 := Nat.le_trans E.size g1; replace E := below_next E B; replace kg := keep B kg; replace kc := keep B kc; clear B; obtain ⟨kn, K⟩ := put_cell (i := 0) (.map (some r)) k1; refine st_sk rfl rfl (ex_store rfl rfl rfl (sto86 (at_cell k1 rfl) (unfrozen k1))) ?_; obtain ⟨W3, hW2⟩ : ∃ W', W2.setCell ⟨b1, 0, none⟩ (.map (some r)) = W' := ⟨_, rfl⟩; rw [hW2] at kn K ⊢; replace E := below_put E ge_b1 K; replace kg := keepK K kg (fun e => ne_tag kg k1 (by decide) e); replace kc := keepK K kc (fun e => ne_map k1 kc e.symm); replace k1 := kn; clear kn K; refine st_end ?_; subst hQ
  refine wq fun Q hQ => ?_; refine sm (.slice (some ⟨g, 0, none⟩) 1 c) 13 rfl rfl rfl rfl ?_; simp only [zp]; refine sv (.func (.func 57) #[] #[(.pointer (some ⟨b1, 0, none⟩))]) 14 rfl rfl (ex_mkf rfl rfl) ?_; simp only [zp]; refine st_call (some 15) rfl rfl (all56 (c := c) hX hKX hK h32 h33 f0 p0 hR W3 kg k1 kc) (ex_call (f := 56) (vs := [(.slice (some ⟨g, 0, none⟩) 1 c), (.func (.func 57) #[] #[(.pointer (some ⟨b1, 0, none⟩))])]) rfl (cf56 _) rfl) ?_; rintro e W4 ⟨rfl, B⟩; refine ⟨_, rfl, ?_⟩; simp only [zp]; replace E := below_put E ge_r B
  refine sg (.bool true) 2 rfl rfl rfl rfl ?_; simp only [zp]; refine st_end ?_; subst hQ; refine wp_ret ?_; refine bodyPost_ret (results_tmp Try.results41 _ _ _) rfl ⟨rfl, E⟩
end Go.Proofs.Ytkhpbjafdamhaaa
