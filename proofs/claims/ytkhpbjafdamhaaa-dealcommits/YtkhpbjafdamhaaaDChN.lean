/- An input that may be: it is counted once. -/
import Derived.Test.YtkhpbjafdamhaaaDChM
namespace Go.Proofs.Ytkhpbjafdamhaaa
open Go.RowKit
set_option linter.unusedVariables false
set_option linter.unusedSimpArgs false
set_option maxRecDepth 100000
section
variable {o : Oper} {a : Act} {W W' : World}
theorem ex_lk {x y : Operand} {u v z : Value} (ho : o.op = .lookup 86 x y false) (hx : a.eval x = u) (hy : a.eval y = v) (hr : (Instr.lookup 86 u v false).run Try.prog W = .ok z W) : (execOp a.eval o).run Try.prog W = .ok (.value z) W := by
  unfold execOp
  simp only [ho, hx, hy]
  simp [hr]
theorem ex_me {x y : Operand} {u v z : Value} (ho : o.op = .mapEntry 86 x y) (hx : a.eval x = u) (hy : a.eval y = v) (hr : (Instr.mapEntry 86 u v).run Try.prog W = .ok z W') : (execOp a.eval o).run Try.prog W = .ok (.value z) W' := by
  unfold execOp
  simp only [ho, hx, hy]
  simp [hr]
theorem ex_es {x y s : Operand} {u v z : Value} (ho : o.op = .entryStore 86 x y s) (hx : a.eval x = u) (hy : a.eval y = v) (hs : a.eval s = z) (hr : (Instr.entryStore 86 u v z).run Try.prog W = .ok () W') : (execOp a.eval o).run Try.prog W = .ok .skip W' := by
  unfold execOp
  simp only [ho, hx, hy, hs]
  simp [hr]
end
theorem ld86 {W : World} {b i : Nat} {r : Option Nat} (h : W.cell? ⟨b, i, none⟩ = some (.map r)) : (Instr.loadAt 86 (.pointer (some ⟨b, i, none⟩))).run Try.prog W = .ok (.map r) W := by go_simp
theorem ne_map {W : World} {b T r c : Nat} {C : Array Value} {es : Array MapEntry} (k : W.heap[b]? = some (.cells C T)) (h : Cnt W r es c) : ¬ b = r := fun e => by
  subst e
  have h' := k.symm.trans h
  cases h'

set_option maxHeartbeats 4000000 in
theorem count57 {X K : Array Value} {b r : Nat} {fo p : Int} (w : World) (hX : X.size = 130) (hKX : X.extract 0 33 = K) (hK : K.size = 33) (h32 : X[32]? = some (.int .i64 fo)) (h33 : X[33]? = some (.int .i64 p)) (f0 : 0 ≤ fo) (p0 : 0 ≤ p) (hR : Refl 24 10000 (.agg K)) (kb : w.heap[b]? = some (.cells #[(.map (some r))] 86)) (kc : Cnt w r #[] 0) :
    Calls Try.prog 57 (#[.agg X] ++ #[.pointer (some ⟨b, 0, none⟩)]) w fun e w' => e = .returned (.bool true) ∧ Kept (· = r) w w' := by
  show Calls Try.prog 57 #[.agg X, .pointer (some ⟨b, 0, none⟩)] w _
  have ldK : ∀ {W : World} {b : Nat} (k : W.heap[b]? = some (.cells X 61)), (Instr.loadAt 24 (.pointer (some ⟨b, 0, none⟩))).run Try.prog W = .ok (.agg K) W := fun k => by
    have := ld_part (o := 0) (n := 33) k (by rw [hX]; decide) Try.underlying24 rfl inf24
    rw [Nat.zero_add, hKX] at this; exact this
  have E : Kept (· = r) w w := Kept.refl _ _
  go_enter Try.func57, Try.ntmps57; refine wq fun Q hQ => ?_; refine st_new (fun b => .pointer (some ⟨b, 0, none⟩)) (some 2) rfl rfl (ex_box rfl rfl) ?_; intro b1 W1 k1 g1 B; simp only [zp]
  have ne_b1_b : b1 ≠ b := fun e => by have := lt_of kb; omega
  have ge_b1 := Nat.le_trans E.size g1; replace E := E.next B; replace kb := keep B kb; replace kc := keep B kc; clear B; refine sg (.bool false) 3 rfl rfl rfl rfl ?_; simp only [zp]; refine st_end ?_; subst hQ; refine wp_seq ?_; obtain ⟨W2, hwd⟩ : ∃ wd, W1.drew = wd := ⟨_, rfl⟩
  refine wp_region_held (S := fun W => Kept (· = r) W2 W) (by kernel_rfl) ?_
  show wpAnyH _ _ _ _ _ _ _ _ W1.drew
  rw [hwd]; refine capQ fun Q hQ => ?_
  have hQP : ∀ c (a : Act) (d : Nat) v w, Q (.panic c) (a.put (some d) v) w → Q (.panic c) a w := by
    subst hQ; exact fun _ _ _ _ _ h => h
  have BD : Below W1.heap.size W1 W2 := by rw [← hwd]; exact below_drew (Below.refl _ _)
  clear hwd; replace E := E.next BD; replace kb := keep BD kb; replace kc := keep BD kc; replace k1 := keep BD k1; clear BD
  have S : Kept (· = r) W2 W2 := Kept.refl _ _
  have d_kb := kb; have d_k1 := k1; have d_kc := kc; refine ah_take (v := (.map (some r))) (i := 0) (some 4) rfl rfl (by kernel_rfl) (by kernel_rfl) (by kernel_rfl) rfl (fun W hK => ex_load (p := (.pointer (some ⟨b, 0, none⟩))) rfl rfl (ld86 (at_cell (keepK hK d_kb (fun e => ne_map d_kb d_kc e)) rfl))) S (fun c a w h => hQP c a _ _ w h) ?_; simp only [zp]
  refine ah_take (v := (.pointer (some ⟨b1, 0, none⟩))) (i := 1) (some 5) rfl rfl (by kernel_rfl) (by kernel_rfl) (by kernel_rfl) rfl (fun W hK => ex_fa (p := (.pointer (some ⟨b1, 0, none⟩))) rfl rfl (fa61_0 _ _)) S (fun c a w h => hQP c a _ _ w h) ?_; simp only [zp]; refine ah_take (v := (.agg K)) (i := 2) (some 6) rfl rfl (by kernel_rfl) (by kernel_rfl) (by kernel_rfl) rfl (fun W hK => ex_load (p := (.pointer (some ⟨b1, 0, none⟩))) rfl rfl (ldK (keepK hK d_k1 (fun e => ne_map d_k1 d_kc e)))) S (fun c a w h => hQP c a _ _ w h) ?_; simp only [zp]; refine cap2 fun ops SS hops hS => ?_
  suffices FIN : ∀ (Wq : World) (E : Kept (· = r) w Wq) (kb : Wq.heap[b]? = some (.cells #[(.map (some r))] 86)) (kc : Cnt Wq r #[{ key := .agg K, val := .int .i64 1, born := 0 }] (0 + 1)) (k1 : Wq.heap[b1]? = some (.cells X 61)) (S : Kept (· = r) W2 Wq), wpAnyH Try.prog .any ops Q SS 0 #[true, true, true, true, true, true, true, true] { tmps := #[(.agg X), (.pointer (some ⟨b, 0, none⟩)), (.pointer (some ⟨b1, 0, none⟩)), (.bool false), (.map (some r)), (.pointer (some ⟨b1, 0, none⟩)), (.agg K), (.int .i64 0), (.int .i64 1), (.tuple #[(.int .i64 0), (.int .i64 0)]), (.int .i64 0), undef, undef, undef, undef, undef, undef, undef, undef, undef, undef, undef, undef, undef, undef, undef, undef], defers := [] } Wq by
    have ST1 : ∀ (Wq : World) (E : Kept (· = r) w Wq) (kb : Wq.heap[b]? = some (.cells #[(.map (some r))] 86)) (kc : Cnt Wq r #[{ key := .agg K, val := .int .i64 0, born := 0 }] (0 + 1)) (k1 : Wq.heap[b1]? = some (.cells X 61)) (S : Kept (· = r) W2 Wq), wpAnyH Try.prog .any ops Q SS 1 #[true, true, true, true, true, true, true, false] { tmps := #[(.agg X), (.pointer (some ⟨b, 0, none⟩)), (.pointer (some ⟨b1, 0, none⟩)), (.bool false), (.map (some r)), (.pointer (some ⟨b1, 0, none⟩)), (.agg K), (.int .i64 0), (.int .i64 1), (.tuple #[(.int .i64 0), (.int .i64 0)]), (.int .i64 0), undef, undef, undef, undef, undef, undef, undef, undef, undef, undef, undef, undef, undef, undef, undef, undef], defers := [] } Wq := by
      intro Wq E kb kc k1 S; refine ops_in hops hS ?_; refine ah_or1 (i := 7) (by kernel_rfl) ?_
      · skip
        obtain ⟨W6, hes, kc2, K2⟩ := entry_put (u := .int .i64 1) kc (by decide); refine nx_sk rfl rfl rfl (ex_es rfl rfl rfl rfl hes) (S.putX K2) ?_; replace kb := keepK K2 kb (fun e => ne_map kb kc e); replace k1 := keepK K2 k1 (fun e => ne_map k1 kc e); replace E := E.putX K2; replace S := S.putX K2; replace kc := kc2; clear kc2 K2; refine ah_L (L' := #[true, true, true, true, true, true, true, true]) (by kernel_rfl) ?_; refine ops_out hops hS ?_; exact FIN W6 E kb kc k1 S
    have ST2 : ∀ (Wq : World) (E : Kept (· = r) w Wq) (kb : Wq.heap[b]? = some (.cells #[(.map (some r))] 86)) (kc : Cnt Wq r #[] 0) (k1 : Wq.heap[b1]? = some (.cells X 61)) (S : Kept (· = r) W2 Wq), wpAnyH Try.prog .any ops Q SS 3 #[true, true, true, true, true, false, false, false] { tmps := #[(.agg X), (.pointer (some ⟨b, 0, none⟩)), (.pointer (some ⟨b1, 0, none⟩)), (.bool false), (.map (some r)), (.pointer (some ⟨b1, 0, none⟩)), (.agg K), (.int .i64 0), (.int .i64 1), undef, undef, undef, undef, undef, undef, undef, undef, undef, undef, undef, undef, undef, undef, undef, undef, undef, undef], defers := [] } Wq := by
      intro Wq E kb kc k1 S; refine ops_in hops hS ?_; refine ah_or1 (i := 5) (by kernel_rfl) ?_
      · skip
        obtain ⟨W7, hme, kc2, K2⟩ := entry_new kc hK; refine nx_to (v := .tuple #[.int .i64 0, .int .i64 0]) (some 9) rfl rfl rfl (ex_me rfl rfl rfl hme) (S.putX K2) ?_; simp only [zp]; replace kb := keepK K2 kb (fun e => ne_map kb kc e); replace k1 := keepK K2 k1 (fun e => ne_map k1 kc e); replace E := E.putX K2; replace S := S.putX K2; replace kc := kc2; clear kc2 K2; refine ah_take (v := (.int .i64 0)) (i := 6) (some 10) rfl rfl (by kernel_rfl) (by kernel_rfl) (by kernel_rfl) rfl (fun W hK => ex_ext rfl rfl rfl) S (fun c a w h => hQP c a _ _ w h) ?_; simp only [zp]
        refine ah_L (L' := #[true, true, true, true, true, true, true, false]) (by kernel_rfl) ?_; refine ops_out hops hS ?_; exact ST1 W7 E kb kc k1 S
    have ST3 : ∀ (Wq : World) (E : Kept (· = r) w Wq) (kb : Wq.heap[b]? = some (.cells #[(.map (some r))] 86)) (kc : Cnt Wq r #[{ key := .agg K, val := .int .i64 0, born := 0 }] (0 + 1)) (k1 : Wq.heap[b1]? = some (.cells X 61)) (S : Kept (· = r) W2 Wq), wpAnyH Try.prog .any ops Q SS 3 #[true, true, true, false, false, true, true, false] { tmps := #[(.agg X), (.pointer (some ⟨b, 0, none⟩)), (.pointer (some ⟨b1, 0, none⟩)), (.bool false), (.map (some r)), (.pointer (some ⟨b1, 0, none⟩)), (.agg K), undef, undef, (.tuple #[(.int .i64 0), (.int .i64 0)]), (.int .i64 0), undef, undef, undef, undef, undef, undef, undef, undef, undef, undef, undef, undef, undef, undef, undef, undef], defers := [] } Wq := by
      intro Wq E kb kc k1 S; refine ops_in hops hS ?_; refine ah_or1 (i := 3) (by kernel_rfl) ?_
      · skip
        refine nx_to (v := (.int .i64 0)) (some 7) rfl rfl rfl (ex_lk rfl rfl rfl (look_it kc hK hR)) S ?_; simp only [zp]; refine ah_take (v := (.int .i64 1)) (i := 4) (some 8) rfl rfl (by kernel_rfl) (by kernel_rfl) (by kernel_rfl) rfl (fun W hK => ex_bin rfl rfl rfl (eg3 _ _ _ _ _ _) (add3 _ rfl (by decide))) S (fun c a w h => hQP c a _ _ w h) ?_; simp only [zp]; refine ah_L (L' := #[true, true, true, true, true, true, true, false]) (by kernel_rfl) ?_; refine ops_out hops hS ?_; exact ST1 Wq E kb kc k1 S
    refine ops_in hops hS ?_; refine ah_or2 (i := 3) (j := 5) (by kernel_rfl) ?_ ?_
    · skip
      refine nx_to (v := (.int .i64 0)) (some 7) rfl rfl rfl (ex_lk rfl rfl rfl (look_none kc hK)) S ?_; simp only [zp]; refine ah_take (v := (.int .i64 1)) (i := 4) (some 8) rfl rfl (by kernel_rfl) (by kernel_rfl) (by kernel_rfl) rfl (fun W hK => ex_bin rfl rfl rfl (eg3 _ _ _ _ _ _) (add3 _ rfl (by decide))) S (fun c a w h => hQP c a _ _ w h) ?_; simp only [zp]; refine ah_L (L' := #[true, true, true, true, true, false, false, false]) (by kernel_rfl) ?_; refine ops_out hops hS ?_; exact ST2 W2 E kb kc k1 S
    · skip
      obtain ⟨W8, hme, kc2, K2⟩ := entry_new kc hK; refine nx_to (v := .tuple #[.int .i64 0, .int .i64 0]) (some 9) rfl rfl rfl (ex_me rfl rfl rfl hme) (S.putX K2) ?_; simp only [zp]; replace kb := keepK K2 kb (fun e => ne_map kb kc e); replace k1 := keepK K2 k1 (fun e => ne_map k1 kc e); replace E := E.putX K2; replace S := S.putX K2; replace kc := kc2; clear kc2 K2; refine ah_take (v := (.int .i64 0)) (i := 6) (some 10) rfl rfl (by kernel_rfl) (by kernel_rfl) (by kernel_rfl) rfl (fun W hK => ex_ext rfl rfl rfl) S (fun c a w h => hQP c a _ _ w h) ?_; simp only [zp]
      refine ah_L (L' := #[true, true, true, false, false, true, true, false]) (by kernel_rfl) ?_; refine ops_out hops hS ?_; exact ST3 W8 E kb kc k1 S
  intro Wq E kb kc k1 S; refine ops_in hops hS ?_; refine ah_done (by kernel_rfl) ?_; clear hQP hops hS; subst hQ; clear S d_kb d_k1 d_kc; refine wq fun Q hQ => ?_; refine sv (.pointer (some ⟨b1, 0, none⟩)) 11 rfl rfl (ex_fa (p := (.pointer (some ⟨b1, 0, none⟩))) rfl rfl (fa61_0 _ _)) ?_; simp only [zp]; refine sv (.pointer (some ⟨b1, 32, none⟩)) 12 rfl rfl (ex_fa (p := (.pointer (some ⟨b1, 0, none⟩))) rfl rfl (fa24_1 _ _)) ?_; simp only [zp]; refine sv (.int .i64 fo) 13 rfl rfl (ex_load (p := (.pointer (some ⟨b1, 32, none⟩))) rfl rfl (ld3 (at_cell k1 h32))) ?_; simp only [zp]
  refine sv (.bool true) 14 rfl rfl (ex_bin (u := (.int .i64 fo)) (r := (.int .i64 0)) rfl rfl rfl (eg3 _ _ _ _ _ _) (geq3 _ (decide_eq_true f0))) ?_; simp only [zp]; refine sm (.bool true) 15 rfl rfl rfl rfl ?_; simp only [zp]; refine sv (.pointer (some ⟨b1, 33, none⟩)) 16 rfl rfl (ex_fa (p := (.pointer (some ⟨b1, 0, none⟩))) rfl rfl (fa61_1 _ _)) ?_; simp only [zp]; refine sv (.int .i64 p) 17 rfl rfl (ex_load (p := (.pointer (some ⟨b1, 33, none⟩))) rfl rfl (ld3 (at_cell k1 h33))) ?_; simp only [zp]
  refine sv (.bool true) 18 rfl rfl (ex_bin (u := (.int .i64 p)) (r := (.int .i64 0)) rfl rfl rfl (eg3 _ _ _ _ _ _) (geq3 _ (decide_eq_true p0))) ?_; simp only [zp]; refine sv (.bool true) 19 rfl rfl (ex_pkT rfl rfl rfl) ?_; simp only [zp]; refine sm (.bool true) 20 rfl rfl rfl rfl ?_; simp only [zp]; refine sv (.map (some r)) 21 rfl rfl (ex_load (p := (.pointer (some ⟨b, 0, none⟩))) rfl rfl (ld86 (at_cell kb rfl))) ?_; simp only [zp]; refine sv (.pointer (some ⟨b1, 0, none⟩)) 22 rfl rfl (ex_fa (p := (.pointer (some ⟨b1, 0, none⟩))) rfl rfl (fa61_0 _ _)) ?_; simp only [zp]
  refine sv (.agg K) 23 rfl rfl (ex_load (p := (.pointer (some ⟨b1, 0, none⟩))) rfl rfl (ldK k1)) ?_; simp only [zp]; refine sv (.int .i64 1) 24 rfl rfl (ex_lk rfl rfl rfl (look_it kc hK hR)) ?_; simp only [zp]; refine sv (.bool true) 25 rfl rfl (ex_bin (u := (.int .i64 1)) (r := (.int .i64 1)) rfl rfl rfl (eg3 _ _ _ _ _ _) (eql3 _ (by decide))) ?_; simp only [zp]; refine sv (.bool true) 26 rfl rfl (ex_pkT rfl rfl rfl) ?_; simp only [zp]; refine sg (.bool true) 3 rfl rfl rfl rfl ?_; simp only [zp]; refine st_end ?_; subst hQ; refine wp_ret ?_
  refine bodyPost_ret (results_tmp Try.results57 _ _ _) rfl ⟨rfl, E⟩
end Go.Proofs.Ytkhpbjafdamhaaa
