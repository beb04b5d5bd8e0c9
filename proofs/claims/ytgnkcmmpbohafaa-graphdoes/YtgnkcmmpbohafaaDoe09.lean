/- Some texts, in one. -/
import Derived.Test.YtgnkcmmpbohafaaDoe08
/- The best way. -/
namespace Go.Proofs.Ytgnkcmmpbohafaa
open Go.RowKit
set_option linter.unusedVariables false
set_option linter.unusedSimpArgs false
set_option maxRecDepth 100000

/-- what Find answers: an error, and a way -/
def fndR (L : List EV) (v : WV) : Int × Option YV :=
  if mayW v = false then (1, none)
  else match (bst v none (rem L v [(E0 v, nxt L v.fr)])) with
    | none => (4, none)
    | some y => if 100000 < (lft L v [(E0 v, nxt L v.fr)]) then (3, none) else (0, some y)
/-- a way that is answered -/
def Wyd (W : World) (base : Nat) (C : Array Value) : Option YV → Prop
  | none => C = #[.slice none 0 0, .slice none 0 0, .slice none 0 0, .int .i64 0, .float .f64 0]
  | some y => ∃ g c bA bX, C = #[.slice (some ⟨g, 0, none⟩) y.es.length c, .slice (some ⟨bA, 0, none⟩) y.es.length y.es.length, .slice (some ⟨bX, 0, none⟩) y.es.length y.es.length, .int .i64 y.fee, .float .f64 y.cost] ∧ W.ownsRow base 49 13 (.slice (some ⟨g, 0, none⟩) y.es.length c) y.es.length (cE y.es) ∧ (base ≤ bA ∧ base ≤ bX) ∧ W.heap[bA]? = some (.cells (Il y.am).toArray 3) ∧ W.heap[bX]? = some (.cells (Il y.xs).toArray 3) ∧ y.es ≠ []
theorem own_base {W : World} {base base' e size n : Nat} {v : Value} {xs : List Value} (h : W.ownsRow base e size v n xs) (hb : base' ≤ base) : W.ownsRow base' e size v n xs :=
  ⟨h.1, h.2.imp id fun ⟨g', cap', cur, e, hbg, r⟩ => ⟨g', cap', cur, e, Nat.le_trans hb hbg, r⟩⟩
theorem walk_c {g N n c b3 b6 nw cw : Nat} {ad : Addr} {ao : Option Addr} {L : List EV} {v : WV} (w : World) (kg : w.heap[g]? = some (.cells #[.slice (some ad) n c] 105)) (hL : Es w N (some ad) L) (hN : N ≤ w.heap.size) (hn : n = L.length) (hn2 : n ≤ 64) (hLb : ∀ e ∈ L, EB e) (hA : Is w ao v.av) (hnw : nw = v.av.length) (hnw2 : nw ≤ 140737488355328) (hv : WB v) (k3 : w.heap[b3]? = some (.cells (WL_ v ao nw cw) 32)) (k6 : w.heap[b6]? = some (.cells #[.slice none 0 0, .slice none 0 0, .slice none 0 0, .int .i64 0, .float .f64 0] 36)) {q : Bool} (hq : decide (100000 < (lft L v [(E0 v, nxt L v.fr)])) = q) :
    Calls Try.prog 35 #[.pointer (some ⟨g, 0, none⟩), .agg (WL_ v ao nw cw), .func (.func 36) #[] #[.pointer (some ⟨b3, 0, none⟩), .pointer (some ⟨b6, 0, none⟩)]] w fun e w' => ∃ B base, e = .returned (.bool q) ∧ Bst w' base b6 B ∧ w.heap.size ≤ base ∧ B.isSome = (bst v none (rem L v [(E0 v, nxt L v.fr)])).isSome ∧ ((lft L v [(E0 v, nxt L v.fr)]) ≤ 100000 → B = (bst v none (rem L v [(E0 v, nxt L v.fr)]))) ∧ Kept (· = b6) w w' := by
  subst hq; exact walk_any w kg hL hN hn hn2 hLb hA hnw hnw2 hv k3 k6
set_option maxHeartbeats 16000000 in
theorem find_any {g N n c nw cw : Nat} {ad : Addr} {ao : Option Addr} {L : List EV} {v : WV} (w : World) (kg : w.heap[g]? = some (.cells #[.slice (some ad) n c] 105)) (hL : Es w N (some ad) L) (hN : N ≤ w.heap.size) (hn : n = L.length) (hn2 : n ≤ 64) (hLb : ∀ e ∈ L, EB e) (hA : Is w ao v.av) (hnw : nw = v.av.length) (hnw2 : nw ≤ 140737488355328) (hm : v.am ≤ 9223372036854775807) (hmo : v.mo ≤ 9223372036854775807) (t1 : -9223372036854775808 ≤ v.ti) (t2 : v.ti ≤ 9223372036854775807) :
    Calls Try.prog 12 #[.pointer (some ⟨g, 0, none⟩), .agg (WL_ v ao nw cw)] w fun e w' => ∃ C, e = .returned (.tuple #[.agg C, .int .i64 (fndR L v).1]) ∧ Wyd w' w.heap.size C (fndR L v).2 ∧ Below w.heap.size w w' := by
  by_cases hw : mayW v = true
  · have hv : WB v := ⟨hw, hm, hmo, t1, t2⟩
    cases hFB : (bst v none (rem L v [(E0 v, nxt L v.fr)])) with
    | none =>
      have hfr : fndR L v = (4, none) := by unfold fndR; rw [if_neg (by rw [hw]; decide), hFB]
      obtain ⟨q, hT⟩ : ∃ q, decide (100000 < (lft L v [(E0 v, nxt L v.fr)])) = q := ⟨_, rfl⟩
      have E : Below w.heap.size w w := Below.refl _ _
      go_enter Try.func12, Try.ntmps12; refine wq fun Q hQ => ?_; refine st_new (fun b => .pointer (some ⟨b, 0, none⟩)) (some 3) rfl rfl (ex_box rfl rfl) ?_; intro b21 W1 k21 g21 B; simp only [zp]
      have ne_b21_g : b21 ≠ g := fun e => by have := lt_of kg; omega
      have ge_b21 := Nat.le_trans E.size g21; replace E := below_next E B; replace kg := keep B kg; clear B; refine st_new (fun b => .pointer (some ⟨b, 0, none⟩)) (some 4) rfl rfl (ex_alloc rfl zero36) ?_; intro b22 W2 k22 g22 B; simp only [zp]
      have ne_b22_g : b22 ≠ g := fun e => by have := lt_of kg; omega
      have ne_b22_b21 : b22 ≠ b21 := fun e => by have := lt_of k21; omega
      have ge_b22 := Nat.le_trans E.size g22; replace E := below_next E B; replace kg := keep B kg; replace k21 := keep B k21; clear B; refine vg (.int .i64 0) 5 rfl rfl rfl rfl ?_; refine st_end ?_; subst hQ; refine wp_seq ?_; refine wp_block ?_; refine wq fun Q hQ => ?_; refine vm (Pz g 0) 9 rfl rfl rfl rfl ?_; refine st_call (some 10) rfl rfl (closed_any W2 kg) (ex_call (f := 33) (vs := [(Pz g 0)]) rfl (cf33 _) rfl) ?_; rintro e W3 ⟨rfl, B⟩; refine ⟨_, rfl, ?_⟩; simp only [zp]; replace E := below_next E B; replace kg := keep B kg; replace k21 := keep B k21; replace k22 := keep B k22
      refine vg (.bool false) 8 rfl rfl rfl rfl ?_; refine st_end ?_; subst hQ; refine wp_cond_false rfl ?_; refine wq fun Q hQ => ?_; refine vv (.agg (WL_ v ao nw cw)) 13 rfl rfl (ex_load (p := (Pz b21 0)) rfl rfl (ld_all k21 Try.underlying32 rfl inf32)) ?_; refine st_call (some 14) rfl rfl (mayW_any W3 hm hw) (ex_call (f := 34) (vs := [(.agg (WL_ v ao nw cw))]) rfl (cf34 _) rfl) ?_; rintro e W4 ⟨rfl, B⟩; refine ⟨_, rfl, ?_⟩; simp only [zp]; replace E := below_next E B; replace kg := keep B kg; replace k21 := keep B k21; replace k22 := keep B k22
      refine vv (.bool false) 15 rfl rfl (ex_not rfl rfl rfl) ?_; refine vg (.bool false) 12 rfl rfl rfl rfl ?_; refine st_end ?_; subst hQ; refine wp_cond_false rfl ?_; refine wp_skip ?_; refine wq fun Q hQ => ?_; refine st_new (fun b => .pointer (some ⟨b, 0, none⟩)) (some 6) rfl rfl (ex_alloc rfl zero36) ?_; intro b23 W5 k23 g23 B; simp only [zp]
      have ne_b23_g : b23 ≠ g := fun e => by have := lt_of kg; omega
      have ne_b23_b21 : b23 ≠ b21 := fun e => by have := lt_of k21; omega
      have ne_b23_b22 : b23 ≠ b22 := fun e => by have := lt_of k22; omega
      have ge_b23 := Nat.le_trans E.size g23; replace E := below_next E B; replace kg := keep B kg; replace k21 := keep B k21; replace k22 := keep B k22; clear B; refine st_end ?_; subst hQ; refine wq fun Q hQ => ?_; refine vm (Pz g 0) 17 rfl rfl rfl rfl ?_; refine vv (.agg (WL_ v ao nw cw)) 18 rfl rfl (ex_load (p := (Pz b21 0)) rfl rfl (ld_all k21 Try.underlying32 rfl inf32)) ?_; refine vv (.func (.func 36) #[] #[(Pz b21 0), (Pz b23 0)]) 19 rfl rfl (ex_mkf rfl rfl) ?_
      refine st_call (some 20) rfl rfl (walk_c W5 kg (hL.keep E hN) (Nat.le_trans hN E.size) hn hn2 hLb (hA.keep E) hnw hnw2 hv k21 k23 hT) (ex_call (f := 35) (vs := [(Pz g 0), (.agg (WL_ v ao nw cw)), (.func (.func 36) #[] #[(Pz b21 0), (Pz b23 0)])]) rfl (cf35 _) rfl) ?_; rintro e W6 ⟨B, base, rfl, hBs, hbb, hsm, heq, hKs⟩; have hbb := Nat.le_trans E.size hbb; refine ⟨_, rfl, ?_⟩; simp only [zp]; replace E := below_put E ge_b23 hKs; replace kg := keepK hKs kg (fun e => ne_tag kg k23 (by decide) e); replace k21 := keepK hKs k21 (fun e => ne_tag k21 k23 (by decide) e)
      replace k22 := keepK hKs k22 (fun e => by first | exact ne_b22_b23 e | exact ne_b23_b22 e.symm)
      obtain rfl : B = none := by
        rw [hFB] at hsm
        cases B with
        | none => rfl
        | some y => cases hsm
      have k23 : W6.heap[b23]? = some (.cells #[.slice none 0 0, .slice none 0 0, .slice none 0 0, .int .i64 0, .float .f64 0] 36) := hBs
      refine vg (.bool q) 7 rfl rfl rfl rfl ?_; refine st_end ?_; subst hQ; refine wp_seq ?_; refine wp_block ?_; refine wq fun Q hQ => ?_; refine vv (Pz b23 0) 22 rfl rfl (ex_fa (p := (Pz b23 0)) rfl rfl (fa36_0 _ _)) ?_; refine vv (.slice none 0 0) 23 rfl rfl (ex_load (p := (Pz b23 0)) rfl rfl (ld33 (at_cell k23 rfl))) ?_; refine vv (.int .i64 (0 : Nat)) 24 rfl rfl (ex_len rfl rfl (len33 _ _ _ _ _)) ?_; refine vv (.bool true) 25 rfl rfl (ex_bin (u := (.int .i64 (0 : Nat))) (r := (.int .i64 0)) rfl rfl rfl (eg3 _ _ _ _ _ _) (eql3 _ (decide_eq_true (by omega)))) ?_
      refine vg (.bool true) 21 rfl rfl rfl rfl ?_; refine st_end ?_; subst hQ; refine wp_cond_true rfl ?_; refine wq fun Q hQ => ?_; refine vv (.agg #[.slice none 0 0, .slice none 0 0, .slice none 0 0, .int .i64 0, .float .f64 0]) 26 rfl rfl (ex_build0  rfl (bWay0 _)) ?_; obtain ⟨W7, hst, kn, K⟩ := put_all (D := #[.slice none 0 0, .slice none 0 0, .slice none 0 0, .int .i64 0, .float .f64 0]) k22 rfl inf36 (by kernel_rfl); refine st_sk rfl rfl (ex_store rfl rfl rfl hst) ?_; replace E := below_put E ge_b22 K; replace kg := keepK K kg (fun e => ne_tag kg k22 (by decide) e)
      replace k21 := keepK K k21 (fun e => ne_tag k21 k22 (by decide) e); replace k23 := keepK K k23 (fun e => by first | exact ne_b23_b22 e | exact ne_b22_b23 e.symm); replace k22 := kn; clear kn K hst; refine vg (.int .i64 4) 5 rfl rfl rfl rfl ?_; refine st_end ?_; subst hQ; refine wp_ret ?_
      repeat (first | refine ret_out ?_ | refine ret_blk ?_)
      refine bodyPost_ret (res_ct Try.results12 _ _ _ _ rfl k22 Try.underlying36 rfl inf36) rfl ⟨#[.slice none 0 0, .slice none 0 0, .slice none 0 0, .int .i64 0, .float .f64 0], ?_, ?_, E⟩
      · rw [hfr]
        rfl
      · rw [hfr]
        exact rfl
    | some y0 =>
      by_cases hlong : 100000 < (lft L v [(E0 v, nxt L v.fr)])
      · have hfr : fndR L v = (3, none) := by unfold fndR; rw [if_neg (by rw [hw]; decide), hFB]; exact if_pos hlong
        have hT := decide_eq_true hlong
        have E : Below w.heap.size w w := Below.refl _ _
        go_enter Try.func12, Try.ntmps12; refine wq fun Q hQ => ?_; refine st_new (fun b => .pointer (some ⟨b, 0, none⟩)) (some 3) rfl rfl (ex_box rfl rfl) ?_; intro b21 W1 k21 g21 B; simp only [zp]
        have ne_b21_g : b21 ≠ g := fun e => by have := lt_of kg; omega
        have ge_b21 := Nat.le_trans E.size g21; replace E := below_next E B; replace kg := keep B kg; clear B; refine st_new (fun b => .pointer (some ⟨b, 0, none⟩)) (some 4) rfl rfl (ex_alloc rfl zero36) ?_; intro b22 W2 k22 g22 B; simp only [zp]
        have ne_b22_g : b22 ≠ g := fun e => by have := lt_of kg; omega
        have ne_b22_b21 : b22 ≠ b21 := fun e => by have := lt_of k21; omega
        have ge_b22 := Nat.le_trans E.size g22; replace E := below_next E B; replace kg := keep B kg; replace k21 := keep B k21; clear B; refine vg (.int .i64 0) 5 rfl rfl rfl rfl ?_; refine st_end ?_; subst hQ; refine wp_seq ?_; refine wp_block ?_; refine wq fun Q hQ => ?_; refine vm (Pz g 0) 9 rfl rfl rfl rfl ?_; refine st_call (some 10) rfl rfl (closed_any W2 kg) (ex_call (f := 33) (vs := [(Pz g 0)]) rfl (cf33 _) rfl) ?_; rintro e W3 ⟨rfl, B⟩; refine ⟨_, rfl, ?_⟩; simp only [zp]; replace E := below_next E B; replace kg := keep B kg; replace k21 := keep B k21
        replace k22 := keep B k22; refine vg (.bool false) 8 rfl rfl rfl rfl ?_; refine st_end ?_; subst hQ; refine wp_cond_false rfl ?_; refine wq fun Q hQ => ?_; refine vv (.agg (WL_ v ao nw cw)) 13 rfl rfl (ex_load (p := (Pz b21 0)) rfl rfl (ld_all k21 Try.underlying32 rfl inf32)) ?_; refine st_call (some 14) rfl rfl (mayW_any W3 hm hw) (ex_call (f := 34) (vs := [(.agg (WL_ v ao nw cw))]) rfl (cf34 _) rfl) ?_; rintro e W4 ⟨rfl, B⟩; refine ⟨_, rfl, ?_⟩; simp only [zp]; replace E := below_next E B; replace kg := keep B kg; replace k21 := keep B k21; replace k22 := keep B k22
        refine vv (.bool false) 15 rfl rfl (ex_not rfl rfl rfl) ?_; refine vg (.bool false) 12 rfl rfl rfl rfl ?_; refine st_end ?_; subst hQ; refine wp_cond_false rfl ?_; refine wp_skip ?_; refine wq fun Q hQ => ?_; refine st_new (fun b => .pointer (some ⟨b, 0, none⟩)) (some 6) rfl rfl (ex_alloc rfl zero36) ?_; intro b23 W5 k23 g23 B; simp only [zp]
        have ne_b23_g : b23 ≠ g := fun e => by have := lt_of kg; omega
        have ne_b23_b21 : b23 ≠ b21 := fun e => by have := lt_of k21; omega
        have ne_b23_b22 : b23 ≠ b22 := fun e => by have := lt_of k22; omega
        have ge_b23 := Nat.le_trans E.size g23; replace E := below_next E B; replace kg := keep B kg; replace k21 := keep B k21; replace k22 := keep B k22; clear B; refine st_end ?_; subst hQ; refine wq fun Q hQ => ?_; refine vm (Pz g 0) 17 rfl rfl rfl rfl ?_; refine vv (.agg (WL_ v ao nw cw)) 18 rfl rfl (ex_load (p := (Pz b21 0)) rfl rfl (ld_all k21 Try.underlying32 rfl inf32)) ?_; refine vv (.func (.func 36) #[] #[(Pz b21 0), (Pz b23 0)]) 19 rfl rfl (ex_mkf rfl rfl) ?_
        refine st_call (some 20) rfl rfl (walk_c W5 kg (hL.keep E hN) (Nat.le_trans hN E.size) hn hn2 hLb (hA.keep E) hnw hnw2 hv k21 k23 hT) (ex_call (f := 35) (vs := [(Pz g 0), (.agg (WL_ v ao nw cw)), (.func (.func 36) #[] #[(Pz b21 0), (Pz b23 0)])]) rfl (cf35 _) rfl) ?_; rintro e W6 ⟨B, base, rfl, hBs, hbb, hsm, heq, hKs⟩; have hbb := Nat.le_trans E.size hbb; refine ⟨_, rfl, ?_⟩; simp only [zp]; replace E := below_put E ge_b23 hKs; replace kg := keepK hKs kg (fun e => ne_tag kg k23 (by decide) e); replace k21 := keepK hKs k21 (fun e => ne_tag k21 k23 (by decide) e)
        replace k22 := keepK hKs k22 (fun e => by first | exact ne_b22_b23 e | exact ne_b23_b22 e.symm); rw [hFB] at hsm; obtain ⟨y, rfl⟩ : ∃ y, B = some y := Option.isSome_iff_exists.1 hsm; obtain ⟨g1, c1, bA, bX, k23, how, hab, kA, kX, hyn⟩ := hBs
        have hyl : 0 < y.es.length := List.length_pos_iff.2 hyn
        refine vg (.bool true) 7 rfl rfl rfl rfl ?_; refine st_end ?_; subst hQ; refine wp_seq ?_; refine wp_block ?_; refine wq fun Q hQ => ?_; refine vv (Pz b23 0) 22 rfl rfl (ex_fa (p := (Pz b23 0)) rfl rfl (fa36_0 _ _)) ?_; refine vv (.slice (some ⟨g1, 0, none⟩) y.es.length c1) 23 rfl rfl (ex_load (p := (Pz b23 0)) rfl rfl (ld33 (at_cell k23 rfl))) ?_; refine vv (.int .i64 (y.es.length : Nat)) 24 rfl rfl (ex_len rfl rfl (len33 _ _ _ _ _)) ?_
        refine vv (.bool false) 25 rfl rfl (ex_bin (u := (.int .i64 (y.es.length : Nat))) (r := (.int .i64 0)) rfl rfl rfl (eg3 _ _ _ _ _ _) (eql3 _ (decide_eq_false (by omega)))) ?_; refine vg (.bool false) 21 rfl rfl rfl rfl ?_; refine st_end ?_; subst hQ; refine wp_cond_false rfl ?_; refine wq fun Q hQ => ?_; refine vm (.bool true) 28 rfl rfl rfl rfl ?_; refine vg (.bool true) 27 rfl rfl rfl rfl ?_; refine st_end ?_; subst hQ; refine wp_cond_true rfl ?_; refine wq fun Q hQ => ?_
        refine vv (.agg #[.slice none 0 0, .slice none 0 0, .slice none 0 0, .int .i64 0, .float .f64 0]) 29 rfl rfl (ex_build0  rfl (bWay0 _)) ?_; obtain ⟨W7, hst, kn, K⟩ := put_all (D := #[.slice none 0 0, .slice none 0 0, .slice none 0 0, .int .i64 0, .float .f64 0]) k22 rfl inf36 (by kernel_rfl); refine st_sk rfl rfl (ex_store rfl rfl rfl hst) ?_; replace E := below_put E ge_b22 K; replace kg := keepK K kg (fun e => ne_tag kg k22 (by decide) e); replace k21 := keepK K k21 (fun e => ne_tag k21 k22 (by decide) e)
        replace k23 := keepK K k23 (fun e => by first | exact ne_b23_b22 e | exact ne_b22_b23 e.symm); replace k22 := kn; clear kn K hst; refine vg (.int .i64 3) 5 rfl rfl rfl rfl ?_; refine st_end ?_; subst hQ; refine wp_ret ?_
        repeat (first | refine ret_out ?_ | refine ret_blk ?_)
        refine bodyPost_ret (res_ct Try.results12 _ _ _ _ rfl k22 Try.underlying36 rfl inf36) rfl ⟨#[.slice none 0 0, .slice none 0 0, .slice none 0 0, .int .i64 0, .float .f64 0], ?_, ?_, E⟩
        · rw [hfr]
          rfl
        · rw [hfr]
          exact rfl
      · have hfr : fndR L v = (0, some y0) := by unfold fndR; rw [if_neg (by rw [hw]; decide), hFB]; exact if_neg hlong
        have hT := decide_eq_false hlong
        have E : Below w.heap.size w w := Below.refl _ _
        go_enter Try.func12, Try.ntmps12; refine wq fun Q hQ => ?_; refine st_new (fun b => .pointer (some ⟨b, 0, none⟩)) (some 3) rfl rfl (ex_box rfl rfl) ?_; intro b21 W1 k21 g21 B; simp only [zp]
        have ne_b21_g : b21 ≠ g := fun e => by have := lt_of kg; omega
        have ge_b21 := Nat.le_trans E.size g21; replace E := below_next E B; replace kg := keep B kg; clear B; refine st_new (fun b => .pointer (some ⟨b, 0, none⟩)) (some 4) rfl rfl (ex_alloc rfl zero36) ?_; intro b22 W2 k22 g22 B; simp only [zp]
        have ne_b22_g : b22 ≠ g := fun e => by have := lt_of kg; omega
        have ne_b22_b21 : b22 ≠ b21 := fun e => by have := lt_of k21; omega
        have ge_b22 := Nat.le_trans E.size g22; replace E := below_next E B; replace kg := keep B kg; replace k21 := keep B k21; clear B; refine vg (.int .i64 0) 5 rfl rfl rfl rfl ?_; refine st_end ?_; subst hQ; refine wp_seq ?_; refine wp_block ?_; refine wq fun Q hQ => ?_; refine vm (Pz g 0) 9 rfl rfl rfl rfl ?_; refine st_call (some 10) rfl rfl (closed_any W2 kg) (ex_call (f := 33) (vs := [(Pz g 0)]) rfl (cf33 _) rfl) ?_; rintro e W3 ⟨rfl, B⟩; refine ⟨_, rfl, ?_⟩; simp only [zp]; replace E := below_next E B; replace kg := keep B kg; replace k21 := keep B k21
        replace k22 := keep B k22; refine vg (.bool false) 8 rfl rfl rfl rfl ?_; refine st_end ?_; subst hQ; refine wp_cond_false rfl ?_; refine wq fun Q hQ => ?_; refine vv (.agg (WL_ v ao nw cw)) 13 rfl rfl (ex_load (p := (Pz b21 0)) rfl rfl (ld_all k21 Try.underlying32 rfl inf32)) ?_; refine st_call (some 14) rfl rfl (mayW_any W3 hm hw) (ex_call (f := 34) (vs := [(.agg (WL_ v ao nw cw))]) rfl (cf34 _) rfl) ?_; rintro e W4 ⟨rfl, B⟩; refine ⟨_, rfl, ?_⟩; simp only [zp]; replace E := below_next E B; replace kg := keep B kg; replace k21 := keep B k21; replace k22 := keep B k22
        refine vv (.bool false) 15 rfl rfl (ex_not rfl rfl rfl) ?_; refine vg (.bool false) 12 rfl rfl rfl rfl ?_; refine st_end ?_; subst hQ; refine wp_cond_false rfl ?_; refine wp_skip ?_; refine wq fun Q hQ => ?_; refine st_new (fun b => .pointer (some ⟨b, 0, none⟩)) (some 6) rfl rfl (ex_alloc rfl zero36) ?_; intro b23 W5 k23 g23 B; simp only [zp]
        have ne_b23_g : b23 ≠ g := fun e => by have := lt_of kg; omega
        have ne_b23_b21 : b23 ≠ b21 := fun e => by have := lt_of k21; omega
        have ne_b23_b22 : b23 ≠ b22 := fun e => by have := lt_of k22; omega
        have ge_b23 := Nat.le_trans E.size g23; replace E := below_next E B; replace kg := keep B kg; replace k21 := keep B k21; replace k22 := keep B k22; clear B; refine st_end ?_; subst hQ; refine wq fun Q hQ => ?_; refine vm (Pz g 0) 17 rfl rfl rfl rfl ?_; refine vv (.agg (WL_ v ao nw cw)) 18 rfl rfl (ex_load (p := (Pz b21 0)) rfl rfl (ld_all k21 Try.underlying32 rfl inf32)) ?_; refine vv (.func (.func 36) #[] #[(Pz b21 0), (Pz b23 0)]) 19 rfl rfl (ex_mkf rfl rfl) ?_
        refine st_call (some 20) rfl rfl (walk_c W5 kg (hL.keep E hN) (Nat.le_trans hN E.size) hn hn2 hLb (hA.keep E) hnw hnw2 hv k21 k23 hT) (ex_call (f := 35) (vs := [(Pz g 0), (.agg (WL_ v ao nw cw)), (.func (.func 36) #[] #[(Pz b21 0), (Pz b23 0)])]) rfl (cf35 _) rfl) ?_; rintro e W6 ⟨B, base, rfl, hBs, hbb, hsm, heq, hKs⟩; have hbb := Nat.le_trans E.size hbb; refine ⟨_, rfl, ?_⟩; simp only [zp]; replace E := below_put E ge_b23 hKs; replace kg := keepK hKs kg (fun e => ne_tag kg k23 (by decide) e); replace k21 := keepK hKs k21 (fun e => ne_tag k21 k23 (by decide) e)
        replace k22 := keepK hKs k22 (fun e => by first | exact ne_b22_b23 e | exact ne_b23_b22 e.symm); have heq := heq (by omega); rw [hFB] at heq; obtain rfl := heq; obtain ⟨g1, c1, bA, bX, k23, how, hab, kA, kX, hyn⟩ := hBs
        have hyl : 0 < y0.es.length := List.length_pos_iff.2 hyn
        refine vg (.bool false) 7 rfl rfl rfl rfl ?_; refine st_end ?_; subst hQ; refine wp_seq ?_; refine wp_block ?_; refine wq fun Q hQ => ?_; refine vv (Pz b23 0) 22 rfl rfl (ex_fa (p := (Pz b23 0)) rfl rfl (fa36_0 _ _)) ?_; refine vv (.slice (some ⟨g1, 0, none⟩) y0.es.length c1) 23 rfl rfl (ex_load (p := (Pz b23 0)) rfl rfl (ld33 (at_cell k23 rfl))) ?_; refine vv (.int .i64 (y0.es.length : Nat)) 24 rfl rfl (ex_len rfl rfl (len33 _ _ _ _ _)) ?_
        refine vv (.bool false) 25 rfl rfl (ex_bin (u := (.int .i64 (y0.es.length : Nat))) (r := (.int .i64 0)) rfl rfl rfl (eg3 _ _ _ _ _ _) (eql3 _ (decide_eq_false (by omega)))) ?_; refine vg (.bool false) 21 rfl rfl rfl rfl ?_; refine st_end ?_; subst hQ; refine wp_cond_false rfl ?_; refine wq fun Q hQ => ?_; refine vm (.bool false) 28 rfl rfl rfl rfl ?_; refine vg (.bool false) 27 rfl rfl rfl rfl ?_; refine st_end ?_; subst hQ; refine wp_cond_false rfl ?_; refine wp_skip ?_; refine wq fun Q hQ => ?_
        refine vv (.agg #[.slice (some ⟨g1, 0, none⟩) y0.es.length c1, .slice (some ⟨bA, 0, none⟩) y0.es.length y0.es.length, .slice (some ⟨bX, 0, none⟩) y0.es.length y0.es.length, .int .i64 y0.fee, .float .f64 y0.cost]) 30 rfl rfl (ex_load (p := (Pz b23 0)) rfl rfl (ld_all k23 Try.underlying36 rfl inf36)) ?_; obtain ⟨W7, hst, kn, K⟩ := put_all (D := #[.slice (some ⟨g1, 0, none⟩) y0.es.length c1, .slice (some ⟨bA, 0, none⟩) y0.es.length y0.es.length, .slice (some ⟨bX, 0, none⟩) y0.es.length y0.es.length, .int .i64 y0.fee, .float .f64 y0.cost]) k22 rfl inf36 one5
        refine st_sk rfl rfl (ex_store rfl rfl rfl hst) ?_; replace E := below_put E ge_b22 K; replace kg := keepK K kg (fun e => ne_tag kg k22 (by decide) e); replace k21 := keepK K k21 (fun e => ne_tag k21 k22 (by decide) e); replace kA := keepK K kA (fun e => ne_tag kA k22 (by decide) e); replace kX := keepK K kX (fun e => ne_tag kX k22 (by decide) e); replace how := own_keepK how K (fun q hq e => own_ne how k22 (by decide) (by rw [hq, e])); replace k23 := keepK K k23 (fun e => by first | exact ne_b23_b22 e | exact ne_b22_b23 e.symm); replace k22 := kn; clear kn K hst
        refine vg (.int .i64 0) 5 rfl rfl rfl rfl ?_; refine st_end ?_; subst hQ; refine wp_ret ?_
        repeat (first | refine ret_out ?_ | refine ret_blk ?_)
        refine bodyPost_ret (res_ct Try.results12 _ _ _ _ rfl k22 Try.underlying36 rfl inf36) rfl ⟨#[.slice (some ⟨g1, 0, none⟩) y0.es.length c1, .slice (some ⟨bA, 0, none⟩) y0.es.length y0.es.length, .slice (some ⟨bX, 0, none⟩) y0.es.length y0.es.length, .int .i64 y0.fee, .float .f64 y0.cost], ?_, ?_, E⟩
        · rw [hfr]
          rfl
        · rw [hfr]
          exact ⟨g1, c1, bA, bX, rfl, own_base how hbb, ⟨Nat.le_trans hbb hab.1, Nat.le_trans hbb hab.2⟩, kA, kX, hyn⟩
  · replace hw := Bool.eq_false_iff.2 hw
    have hfr : fndR L v = (1, none) := by unfold fndR; rw [if_pos hw]
    have E : Below w.heap.size w w := Below.refl _ _
    go_enter Try.func12, Try.ntmps12; refine wq fun Q hQ => ?_; refine st_new (fun b => .pointer (some ⟨b, 0, none⟩)) (some 3) rfl rfl (ex_box rfl rfl) ?_; intro b21 W1 k21 g21 B; simp only [zp]
    have ne_b21_g : b21 ≠ g := fun e => by have := lt_of kg; omega
    have ge_b21 := Nat.le_trans E.size g21; replace E := below_next E B; replace kg := keep B kg; clear B; refine st_new (fun b => .pointer (some ⟨b, 0, none⟩)) (some 4) rfl rfl (ex_alloc rfl zero36) ?_; intro b22 W2 k22 g22 B; simp only [zp]
    have ne_b22_g : b22 ≠ g := fun e => by have := lt_of kg; omega
    have ne_b22_b21 : b22 ≠ b21 := fun e => by have := lt_of k21; omega
    have ge_b22 := Nat.le_trans E.size g22; replace E := below_next E B; replace kg := keep B kg; replace k21 := keep B k21; clear B; refine vg (.int .i64 0) 5 rfl rfl rfl rfl ?_; refine st_end ?_; subst hQ; refine wp_seq ?_; refine wp_block ?_; refine wq fun Q hQ => ?_; refine vm (Pz g 0) 9 rfl rfl rfl rfl ?_; refine st_call (some 10) rfl rfl (closed_any W2 kg) (ex_call (f := 33) (vs := [(Pz g 0)]) rfl (cf33 _) rfl) ?_; rintro e W3 ⟨rfl, B⟩; refine ⟨_, rfl, ?_⟩; simp only [zp]; replace E := below_next E B; replace kg := keep B kg; replace k21 := keep B k21; replace k22 := keep B k22
    refine vg (.bool false) 8 rfl rfl rfl rfl ?_; refine st_end ?_; subst hQ; refine wp_cond_false rfl ?_; refine wq fun Q hQ => ?_; refine vv (.agg (WL_ v ao nw cw)) 13 rfl rfl (ex_load (p := (Pz b21 0)) rfl rfl (ld_all k21 Try.underlying32 rfl inf32)) ?_; refine st_call (some 14) rfl rfl (mayW_any W3 hm hw) (ex_call (f := 34) (vs := [(.agg (WL_ v ao nw cw))]) rfl (cf34 _) rfl) ?_; rintro e W4 ⟨rfl, B⟩; refine ⟨_, rfl, ?_⟩; simp only [zp]; replace E := below_next E B; replace kg := keep B kg; replace k21 := keep B k21; replace k22 := keep B k22
    refine vv (.bool true) 15 rfl rfl (ex_not rfl rfl rfl) ?_; refine vg (.bool true) 12 rfl rfl rfl rfl ?_; refine st_end ?_; subst hQ; refine wp_cond_true rfl ?_; refine wq fun Q hQ => ?_; refine vv (.agg #[.slice none 0 0, .slice none 0 0, .slice none 0 0, .int .i64 0, .float .f64 0]) 16 rfl rfl (ex_build0  rfl (bWay0 _)) ?_; obtain ⟨W5, hst, kn, K⟩ := put_all (D := #[.slice none 0 0, .slice none 0 0, .slice none 0 0, .int .i64 0, .float .f64 0]) k22 rfl inf36 (by kernel_rfl); refine st_sk rfl rfl (ex_store rfl rfl rfl hst) ?_; replace E := below_put E ge_b22 K
    replace kg := keepK K kg (fun e => ne_tag kg k22 (by decide) e); replace k21 := keepK K k21 (fun e => ne_tag k21 k22 (by decide) e); replace k22 := kn; clear kn K hst; refine vg (.int .i64 1) 5 rfl rfl rfl rfl ?_; refine st_end ?_; subst hQ; refine wp_ret ?_
    repeat (first | refine ret_out ?_ | refine ret_blk ?_)
    refine bodyPost_ret (res_ct Try.results12 _ _ _ _ rfl k22 Try.underlying36 rfl inf36) rfl ⟨#[.slice none 0 0, .slice none 0 0, .slice none 0 0, .int .i64 0, .float .f64 0], ?_, ?_, E⟩
    · rw [hfr]
      rfl
    · rw [hfr]
      exact rfl
end Go.Proofs.Ytgnkcmmpbohafaa

/- How edges are ordered, and where one stands. -/
namespace Go.Proofs.Ytgnkcmmpbohafaa
open Go.RowKit
set_option linter.unusedVariables false
set_option linter.unusedSimpArgs false
set_option maxRecDepth 100000

def cmpN (x y : Int) : Int := if x < y then -1 else if y < x then 1 else 0
def ordN (e : EV) (ch fr : Int) : Int := if cmpN e.ch ch = 0 then cmpN e.fr fr else cmpN e.ch ch
set_option maxHeartbeats 4000000 in
theorem inan_any (x : Int) (w : World) : Calls Try.prog 114 #[.int .i64 x] w fun e w' => e = .returned (.bool false) ∧ Below w.heap.size w w' := by
  have E : Below w.heap.size w w := Below.refl _ _
  go_enter Try.func114, Try.ntmps114; refine wq fun Q hQ => ?_; refine vg (.bool false) 2 rfl rfl rfl rfl ?_; refine st_end ?_; subst hQ; refine wq fun Q hQ => ?_; refine vm (.int .i64 x) 3 rfl rfl rfl rfl ?_; refine vm (.int .i64 x) 4 rfl rfl rfl rfl ?_; refine vv (.bool false) 5 rfl rfl (ex_bin (u := (.int .i64 x)) (r := (.int .i64 x)) rfl rfl rfl (eg3 _ _ _ _ _ _) (neq3 _ (decide_eq_false (fun h => h rfl)))) ?_; refine vg (.bool false) 2 rfl rfl rfl rfl ?_; refine st_end ?_; subst hQ; refine wp_ret ?_
  repeat (first | refine ret_out ?_ | refine ret_blk ?_)
  exact bodyPost_ret (results_tmp Try.results114 _ _ _) rfl ⟨rfl, E⟩
set_option maxHeartbeats 4000000 in
theorem cmp_any (x y : Int) (w : World) : Calls Try.prog 102 #[.int .i64 x, .int .i64 y] w fun e w' => e = .returned (.int .i64 (cmpN x y)) ∧ Below w.heap.size w w' := by
  have E : Below w.heap.size w w := Below.refl _ _
  go_enter Try.func102, Try.ntmps102; refine wq fun Q hQ => ?_; refine vg (.int .i64 0) 4 rfl rfl rfl rfl ?_; refine st_end ?_; subst hQ; refine wq fun Q hQ => ?_; refine vm (.int .i64 x) 7 rfl rfl rfl rfl ?_; refine st_call (some 8) rfl rfl (inan_any x w) (ex_call (f := 114) (vs := [(.int .i64 x)]) rfl (cf114 _) rfl) ?_; rintro e W1 ⟨rfl, B⟩; refine ⟨_, rfl, ?_⟩; simp only [zp]; replace E := below_next E B; refine vg (.bool false) 5 rfl rfl rfl rfl ?_; refine st_end ?_; subst hQ; refine wq fun Q hQ => ?_; refine vm (.int .i64 y) 9 rfl rfl rfl rfl ?_
  refine st_call (some 10) rfl rfl (inan_any y W1) (ex_call (f := 114) (vs := [(.int .i64 y)]) rfl (cf114 _) rfl) ?_; rintro e W2 ⟨rfl, B⟩; refine ⟨_, rfl, ?_⟩; simp only [zp]; replace E := below_next E B; refine vg (.bool false) 6 rfl rfl rfl rfl ?_; refine st_end ?_; subst hQ; refine wp_seq ?_; refine wq fun Q hQ => ?_; refine vm (.bool false) 11 rfl rfl rfl rfl ?_; refine st_end ?_; subst hQ; refine wp_cond_false rfl ?_; refine wp_skip ?_; refine wp_seq ?_; refine wq fun Q hQ => ?_; refine vm (.bool false) 13 rfl rfl rfl rfl ?_; refine st_end ?_; subst hQ; refine wp_cond_false rfl ?_
  refine wp_skip ?_; refine wp_seq ?_; refine wq fun Q hQ => ?_; refine vm (.int .i64 x) 14 rfl rfl rfl rfl ?_; refine vm (.int .i64 y) 15 rfl rfl rfl rfl ?_
  by_cases e0 : x < y
  · skip
    refine vv (.bool true) 16 rfl rfl (ex_bin (u := (.int .i64 x)) (r := (.int .i64 y)) rfl rfl rfl (eg3 _ _ _ _ _ _) (lss3 _ (decide_eq_true (by omega)))) ?_; refine st_end ?_; subst hQ; refine wp_cond_true rfl ?_; refine wq fun Q hQ => ?_; refine vg (.int .i64 (-1)) 4 rfl rfl rfl rfl ?_; refine st_end ?_; subst hQ; refine wp_ret ?_
    repeat (first | refine ret_out ?_ | refine ret_blk ?_)
    refine bodyPost_ret (results_tmp Try.results102 _ _ _) rfl ⟨?_, E⟩
    show Ending.returned (.int .i64 (-1)) = _
    simp [cmpN, e0]
  · skip
    refine vv (.bool false) 16 rfl rfl (ex_bin (u := (.int .i64 x)) (r := (.int .i64 y)) rfl rfl rfl (eg3 _ _ _ _ _ _) (lss3 _ (decide_eq_false (by omega)))) ?_; refine st_end ?_; subst hQ; refine wp_cond_false rfl ?_; refine wp_skip ?_; refine wp_seq ?_; refine wq fun Q hQ => ?_; refine vm (.int .i64 x) 17 rfl rfl rfl rfl ?_; refine vm (.int .i64 y) 18 rfl rfl rfl rfl ?_
    by_cases e1 : y < x
    · skip
      refine vv (.bool true) 19 rfl rfl (ex_bin (u := (.int .i64 x)) (r := (.int .i64 y)) rfl rfl rfl (eg3 _ _ _ _ _ _) (gtr3 _ (decide_eq_true (by omega)))) ?_; refine st_end ?_; subst hQ; refine wp_cond_true rfl ?_; refine wq fun Q hQ => ?_; refine vg (.int .i64 1) 4 rfl rfl rfl rfl ?_; refine st_end ?_; subst hQ; refine wp_ret ?_
      repeat (first | refine ret_out ?_ | refine ret_blk ?_)
      refine bodyPost_ret (results_tmp Try.results102 _ _ _) rfl ⟨?_, E⟩
      show Ending.returned (.int .i64 1) = _
      simp [cmpN, e0, e1]
    · skip
      refine vv (.bool false) 19 rfl rfl (ex_bin (u := (.int .i64 x)) (r := (.int .i64 y)) rfl rfl rfl (eg3 _ _ _ _ _ _) (gtr3 _ (decide_eq_false (by omega)))) ?_; refine st_end ?_; subst hQ; refine wp_cond_false rfl ?_; refine wp_skip ?_; refine wq fun Q hQ => ?_; refine vg (.int .i64 0) 4 rfl rfl rfl rfl ?_; refine st_end ?_; subst hQ; refine wp_ret ?_
      repeat (first | refine ret_out ?_ | refine ret_blk ?_)
      refine bodyPost_ret (results_tmp Try.results102 _ _ _) rfl ⟨?_, E⟩
      show Ending.returned (.int .i64 0) = _
      simp [cmpN, e0, e1]
set_option maxHeartbeats 8000000 in
theorem or_any {b : Nat} {x y : Int} (w : World) (kb : w.heap[b]? = some (.cells #[.int .i64 x, .int .i64 y] 3)) : Calls Try.prog 101 #[.slice (some ⟨b, 0, none⟩) 2 2] w fun e w' => e = .returned (.int .i64 (if x = 0 then y else x)) ∧ Below w.heap.size w w' := by
  have E : Below w.heap.size w w := Below.refl _ _
  go_enter Try.func101, Try.ntmps101; refine wq fun Q hQ => ?_; refine vg (.int .i64 0) 2 rfl rfl rfl rfl ?_; refine st_end ?_; subst hQ; refine wq fun Q hQ => ?_; refine vg (.int .i64 0) 3 rfl rfl rfl rfl ?_; refine st_end ?_; subst hQ; refine wp_seq ?_; refine wq fun Q hQ => ?_; refine vm (.slice (some ⟨b, 0, none⟩) 2 2) 6 rfl rfl rfl rfl ?_; refine vv (.int .i64 (2 : Nat)) 7 rfl rfl (ex_len rfl rfl (len30 _ _ _ _ _)) ?_; refine vm (.int .i64 0) 8 rfl rfl rfl rfl ?_; refine st_end ?_; subst hQ; refine wp_block ?_
  go_loopw [8] (fun v8 wr => ∃ i : Nat, i ≤ 2 ∧ v8 = .int .i64 i ∧ Below w.heap.size w wr ∧ (1 ≤ i → x = 0) ∧ (2 ≤ i → y = 0)) (fun v8 _ => 2 - (intOf v8).toNat)
  case atStart => exact ⟨0, Nat.zero_le _, rfl, E, fun h => by omega, fun h => by omega⟩
  case round =>
    clear E; obtain ⟨i, hi, rfl, E, h1, h2⟩ := hrel
    by_cases hlt : i < 2
    · obtain ⟨z, hz, hzz⟩ : ∃ z, w.cell? ⟨b, 0 + i, none⟩ = some (.int .i64 z) ∧ ((i = 0 ∧ z = x) ∨ (i = 1 ∧ z = y)) := by
        have : i = 0 ∨ i = 1 := by omega
        rcases this with rfl | rfl
        · exact ⟨x, at_cell kb rfl, .inl ⟨rfl, rfl⟩⟩
        · exact ⟨y, at_cell kb rfl, .inr ⟨rfl, rfl⟩⟩
      by_cases h0 : z = 0
      · skip
        refine wq fun Q hQ => ?_; refine vv (.bool true) 9 rfl rfl (ex_bin (u := (.int .i64 (i : Nat))) (r := (.int .i64 (2 : Nat))) rfl rfl rfl (eg3 _ _ _ _ _ _) (lss3 _ (decide_eq_true (by omega)))) ?_; refine st_end ?_; subst hQ; refine wp_seq ?_; refine wp_cond_true rfl ?_; refine wp_skip ?_; refine wp_seq ?_; refine wp_block ?_; refine wq fun Q hQ => ?_; refine vv (.pointer (some ⟨b, (0 + i), none⟩)) 10 rfl rfl (ix30 (k := i) rfl rfl rfl (rfl) (hlt)) ?_; refine vv (.int .i64 z) 11 rfl rfl (ex_load rfl rfl (ld3 ((E.cell (block_lt_of_cell hz)).trans hz))) ?_
        refine vg (.int .i64 z) 5 rfl rfl rfl rfl ?_; refine st_end ?_; subst hQ; refine wq fun Q hQ => ?_; refine vm (.int .i64 z) 12 rfl rfl rfl rfl ?_; refine vm (.int .i64 0) 13 rfl rfl rfl rfl ?_; refine vv (.bool false) 14 rfl rfl (ex_bin (u := (.int .i64 z)) (r := (.int .i64 0)) rfl rfl rfl (eg3 _ _ _ _ _ _) (neq3 _ (decide_eq_false (by omega)))) ?_; refine st_end ?_; subst hQ; refine wp_cond_false rfl ?_; refine wp_skip ?_; refine wl_in (wl_cap fun Q hQ => ?_)
        refine vv (.int .i64 ((i + 1 : Nat) : Int)) 16 rfl rfl (ex_bin rfl rfl rfl (eg3 _ _ _ _ _ _) (add3 _ (by omega) (by omega))) ?_; refine vm (.int .i64 ((i + 1 : Nat) : Int)) 8 rfl rfl rfl rfl ?_; refine st_end ?_; subst hQ; refine then_go ?_
        first | (go_big_round; refine ⟨?rel, ?measure⟩) | (refine ⟨?_, ?measure⟩; (repeat apply Exists.intro); refine ⟨?rel, rfl⟩)
        case rel => exact ⟨i + 1, by omega, rfl, E, fun h => (if hq : i = 0 then by omega else h1 (by omega)), fun h => by omega⟩
        case measure => simp [intOf]; omega
      · skip
        refine wq fun Q hQ => ?_; refine vv (.bool true) 9 rfl rfl (ex_bin (u := (.int .i64 (i : Nat))) (r := (.int .i64 (2 : Nat))) rfl rfl rfl (eg3 _ _ _ _ _ _) (lss3 _ (decide_eq_true (by omega)))) ?_; refine st_end ?_; subst hQ; refine wp_seq ?_; refine wp_cond_true rfl ?_; refine wp_skip ?_; refine wp_seq ?_; refine wp_block ?_; refine wq fun Q hQ => ?_; refine vv (.pointer (some ⟨b, (0 + i), none⟩)) 10 rfl rfl (ix30 (k := i) rfl rfl rfl (rfl) (hlt)) ?_; refine vv (.int .i64 z) 11 rfl rfl (ex_load rfl rfl (ld3 ((E.cell (block_lt_of_cell hz)).trans hz))) ?_
        refine vg (.int .i64 z) 5 rfl rfl rfl rfl ?_; refine st_end ?_; subst hQ; refine wq fun Q hQ => ?_; refine vm (.int .i64 z) 12 rfl rfl rfl rfl ?_; refine vm (.int .i64 0) 13 rfl rfl rfl rfl ?_; refine vv (.bool true) 14 rfl rfl (ex_bin (u := (.int .i64 z)) (r := (.int .i64 0)) rfl rfl rfl (eg3 _ _ _ _ _ _) (neq3 _ (decide_eq_true (by omega)))) ?_; refine st_end ?_; subst hQ; refine wp_cond_true rfl ?_; refine wq fun Q hQ => ?_; refine vm (.int .i64 z) 15 rfl rfl rfl rfl ?_; refine vg (.int .i64 z) 2 rfl rfl rfl rfl ?_; refine st_end ?_; subst hQ; refine wp_ret ?_
        repeat (first | refine ret_out ?_ | refine ret_blk ?_)
        refine bodyPost_ret (results_tmp Try.results101 _ _ _) rfl ⟨?_, E⟩
        have hv : (if x = 0 then y else x) = z := by
          rcases hzz with ⟨q, hq⟩ | ⟨q, hq⟩
          · rw [if_neg (by omega)]; exact hq.symm
          · rw [if_pos (h1 (by omega))]; exact hq.symm
        rw [hv]
        rfl
    · have hin : i = 2 := by omega
      subst i; have hx := h1 (by omega); have hy := h2 (by omega); subst hx hy; refine wq fun Q hQ => ?_; refine vv (.bool false) 9 rfl rfl (ex_bin (u := (.int .i64 (2 : Nat))) (r := (.int .i64 (2 : Nat))) rfl rfl rfl (eg3 _ _ _ _ _ _) (lss3 _ (decide_eq_false (by omega)))) ?_; refine st_end ?_; subst hQ; refine wp_seq ?_; refine wp_cond_false rfl ?_; refine wp_exit ?_; refine ex_then ?_; refine ex_then ?_; refine ex_blk ?_; refine wq fun Q hQ => ?_; refine vm (.int .i64 0) 17 rfl rfl rfl rfl ?_; refine vg (.int .i64 0) 2 rfl rfl rfl rfl ?_; refine st_end ?_; subst hQ; refine wp_ret ?_
      repeat (first | refine ret_out ?_ | refine ret_blk ?_)
      exact bodyPost_ret (results_tmp Try.results101 _ _ _) rfl ⟨rfl, E⟩
theorem bslI2 (x y : Int) (W : World) : (Instr.buildSlice 30 2 #[(0, .int .i64 x), (1, .int .i64 y)]).run Try.prog W = .ok (.slice (some ⟨W.heap.size, 0, none⟩) 2 2) (W.alloc (.cells #[.int .i64 x, .int .i64 y] 3)) := bslice W 30 3 2 _ _ (.int .i64 0) 1 Try.underlying30 (by kernel_rfl) (by decide) (by decide) (by kernel_rfl)
set_option maxHeartbeats 8000000 in
theorem order_any {d t : EV} (w : World) : Calls Try.prog 87 #[.agg (EL d), .agg (EL t)] w fun e w' => e = .returned (.int .i64 (ordN d t.ch t.fr)) ∧ Below w.heap.size w w' := by
  have E : Below w.heap.size w w := Below.refl _ _
  go_enter Try.func87, Try.ntmps87; refine wq fun Q hQ => ?_; refine st_new (fun b => .pointer (some ⟨b, 0, none⟩)) (some 2) rfl rfl (ex_box rfl rfl) ?_; intro b21 W1 k21 g21 B; simp only [zp]; have ge_b21 := Nat.le_trans E.size g21; replace E := below_next E B; clear B; refine st_new (fun b => .pointer (some ⟨b, 0, none⟩)) (some 3) rfl rfl (ex_box rfl rfl) ?_; intro b22 W2 k22 g22 B; simp only [zp]
  have ne_b22_b21 : b22 ≠ b21 := fun e => by have := lt_of k21; omega
  have ge_b22 := Nat.le_trans E.size g22; replace E := below_next E B; replace k21 := keep B k21; clear B; refine vg (.int .i64 0) 4 rfl rfl rfl rfl ?_; refine st_end ?_; subst hQ; refine wp_seq ?_; obtain ⟨W3, hwd⟩ : ∃ wd, W2.drew = wd := ⟨_, rfl⟩; refine wp_region_held (S := fun W => Kept Nil W3 W) (by kernel_rfl) ?_
  show wpAnyH _ _ _ _ _ _ _ _ W2.drew
  rw [hwd]; refine capQ fun Q hQ => ?_
  have hQP : ∀ c (a : Act) (d : Nat) v w, Q (.panic c) (a.put (some d) v) w → Q (.panic c) a w := by
    subst hQ; exact fun _ _ _ _ _ h => h
  have BD : Below W2.heap.size W2 W3 := by rw [← hwd]; exact below_drewB (Below.refl _ _)
  clear hwd; replace E := below_next E BD; replace k21 := keep BD k21; replace k22 := keep BD k22; clear BD
  have S : Kept Nil W3 W3 := Kept.refl _ _
  have d_k21 := k21; have d_k22 := k22; refine tk (Pz b21 0) 0 5 rfl rfl rfl (fun W hK => ex_fa (p := (Pz b21 0)) rfl rfl (fa49_0 _ _)) S hQP ?_; refine tk (.int .i64 d.ch) 1 6 rfl rfl rfl (fun W hK => ex_load (p := (Pz b21 0)) rfl rfl (ld3 (at_cell (keepK hK d_k21 (nilN _)) rfl))) S hQP ?_; refine tk (Pz b22 0) 2 7 rfl rfl rfl (fun W hK => ex_fa (p := (Pz b22 0)) rfl rfl (fa49_0 _ _)) S hQP ?_; refine tk (.int .i64 t.ch) 3 8 rfl rfl rfl (fun W hK => ex_load (p := (Pz b22 0)) rfl rfl (ld3 (at_cell (keepK hK d_k22 (nilN _)) rfl))) S hQP ?_
  refine tk (Pz b21 1) 5 10 rfl rfl rfl (fun W hK => ex_fa (p := (Pz b21 0)) rfl rfl (fa49_1 _ _)) S hQP ?_; refine tk (.int .i64 d.fr) 6 11 rfl rfl rfl (fun W hK => ex_load (p := (Pz b21 1)) rfl rfl (ld3 (at_cell (keepK hK d_k21 (nilN _)) rfl))) S hQP ?_; refine tk (Pz b22 1) 7 12 rfl rfl rfl (fun W hK => ex_fa (p := (Pz b22 0)) rfl rfl (fa49_1 _ _)) S hQP ?_; refine tk (.int .i64 t.fr) 8 13 rfl rfl rfl (fun W hK => ex_load (p := (Pz b22 1)) rfl rfl (ld3 (at_cell (keepK hK d_k22 (nilN _)) rfl))) S hQP ?_; refine ah_or1 (i := 4) (by kernel_rfl) ?_
  refine nx_call (some 9) rfl rfl rfl (cmp_any d.ch t.ch W3) (ex_call (f := 102) (vs := [(.int .i64 d.ch), (.int .i64 t.ch)]) rfl (cf102 _) rfl) ?_; rintro e W4 ⟨rfl, B⟩; refine ⟨_, rfl, S.next B, ?_⟩; simp only [zp]; replace E := below_next E B; replace k21 := keep B k21; replace k22 := keep B k22; replace S := S.next B; refine ah_or1 (i := 9) (by kernel_rfl) ?_; refine nx_call (some 14) rfl rfl rfl (cmp_any d.fr t.fr W4) (ex_call (f := 102) (vs := [(.int .i64 d.fr), (.int .i64 t.fr)]) rfl (cf102 _) rfl) ?_; rintro e W5 ⟨rfl, B⟩; refine ⟨_, rfl, S.next B, ?_⟩; simp only [zp]
  replace E := below_next E B; replace k21 := keep B k21; replace k22 := keep B k22; replace S := S.next B; refine ah_or1 (i := 10) (by kernel_rfl) ?_; refine nx_new (fun b => .slice (some ⟨b, 0, none⟩) 2 2) (some 15) rfl rfl rfl (ex_bsl2 (u := (.int .i64 (cmpN d.ch t.ch))) (r := (.int .i64 (cmpN d.fr t.fr))) rfl rfl rfl (bslI2 _ _ _)) ?_; intro bt15 W6 kt15 gt15 B; refine ⟨S.next B, ?_⟩; simp only [zp]; have gd_bt15 := Nat.le_trans S.size gt15; have ge_bt15 := Nat.le_trans E.size gt15; replace E := below_next E B; replace k21 := keep B k21; replace k22 := keep B k22; replace S := S.next B
  clear B; refine ah_or1 (i := 11) (by kernel_rfl) ?_; refine nx_call (some 16) rfl rfl rfl (or_any W6 kt15) (ex_call (f := 101) (vs := [(.slice (some ⟨bt15, 0, none⟩) 2 2)]) rfl (cf101 _) rfl) ?_; rintro e W7 ⟨rfl, B⟩; refine ⟨_, rfl, S.next B, ?_⟩; simp only [zp]; replace E := below_next E B; replace k21 := keep B k21; replace k22 := keep B k22; replace S := S.next B; replace kt15 := keep B kt15; refine tk (.int .i64 (if cmpN d.ch t.ch = 0 then cmpN d.fr t.fr else cmpN d.ch t.ch)) 12 4 rfl rfl rfl (fun W hK => ex_asg rfl rfl) S hQP ?_; refine ah_done (by kernel_rfl) ?_; clear hQP; subst hQ
  clear S d_k21 d_k22 ; refine wp_ret ?_
  repeat (first | refine ret_out ?_ | refine ret_blk ?_)
  exact bodyPost_ret (results_tmp Try.results87 _ _ _) rfl ⟨rfl, E⟩
/-- a stands ahead of b -/
def ltE (a b : EV) : Prop := a.ch < b.ch ∨ a.ch = b.ch ∧ a.fr < b.fr
def srt (L : List EV) : Prop := ∀ (i j : Nat) (a b : EV), i < j → L[i]? = some a → L[j]? = some b → ltE a b
theorem ord_lt (e : EV) (ch fr : Int) : ordN e ch fr < 0 ↔ (e.ch < ch ∨ e.ch = ch ∧ e.fr < fr) := by
  unfold ordN cmpN
  split <;> split <;> (try split) <;> (try split) <;> omega
theorem ord_eq (e : EV) (ch fr : Int) : ordN e ch fr = 0 ↔ (e.ch = ch ∧ e.fr = fr) := by
  unfold ordN cmpN
  split <;> split <;> (try split) <;> (try split) <;> omega
theorem shr1 {x : Int} {k : Nat} (W : World) (hx : x = (k : Int)) (hk : k ≤ 1000) : (binOp .shr 133 (.int .u64 x) (.int .u64 1)).run Try.prog W = .ok (.int .u64 ((k / 2 : Nat) : Int)) W := by
  subst hx
  go_simp
  all_goals omega
section
variable {o : Oper} {a : Act} {W : World}
theorem ex_i2u {x : Operand} {n : Nat} (ho : o.op = .convert 3 133 x) (hx : a.eval x = .int .i64 (n : Int)) (hn : n ≤ 1000) : (execOp a.eval o).run Try.prog W = .ok (.value (.int .u64 (n : Int))) W := by
  have h := IntKind.wrap_u64 (n : Int)
  unfold execOp
  simp only [ho, hx]
  go_simp
  all_goals omega
theorem ex_u2i {x : Operand} {n : Nat} (ho : o.op = .convert 133 3 x) (hx : a.eval x = .int .u64 (n : Int)) (hn : n ≤ 1000) : (execOp a.eval o).run Try.prog W = .ok (.value (.int .i64 (n : Int))) W := by
  have h := IntKind.wrap_i64 (n : Int)
  unfold execOp
  simp only [ho, hx]
  go_simp
  all_goals omega
theorem egU (bop : BinOp) (x y : Operand) (u v : Int) (W : World) : (eqGuard bop 133 x y (.int .u64 u) (.int .u64 v)).run Try.prog W = .ok () W := by cases bop <;> rfl
end
set_option maxHeartbeats 16000000 in
theorem bin_any {N n c : Nat} {ad : Addr} {L : List EV} {t : EV} (w : World) (hE : Es w N (some ad) L) (hn : n = L.length) (hn2 : n ≤ 64) (hs : srt L) : Calls Try.prog 86 #[.slice (some ad) n c, .agg (EL t), .func (.func 87) #[] #[]] w fun e w' => ∃ (i : Nat) (fd : Bool), e = .returned (.tuple #[.int .i64 i, .bool fd]) ∧ i ≤ n ∧ (∀ (k : Nat) (d : EV), k < i → L[k]? = some d → ordN d t.ch t.fr < 0) ∧ (∀ (k : Nat) (d : EV), i ≤ k → L[k]? = some d → 0 ≤ ordN d t.ch t.fr) ∧ (fd = true ↔ ∃ d, L[i]? = some d ∧ ordN d t.ch t.fr = 0) ∧ Below w.heap.size w w' := by
  have E : Below w.heap.size w w := Below.refl _ _
  go_enter Try.func86, Try.ntmps86; refine wq fun Q hQ => ?_; refine st_new (fun b => .pointer (some ⟨b, 0, none⟩)) (some 4) rfl rfl (ex_box rfl rfl) ?_; intro b21 W1 k21 g21 B; simp only [zp]; have ge_b21 := Nat.le_trans E.size g21; replace E := below_next E B; clear B; refine vg (.int .i64 0) 6 rfl rfl rfl rfl ?_; refine vg (.bool false) 7 rfl rfl rfl rfl ?_; refine st_end ?_; subst hQ; refine wq fun Q hQ => ?_; refine vm (.slice (some ad) n c) 12 rfl rfl rfl rfl ?_; refine vv (.int .i64 (n : Nat)) 13 rfl rfl (ex_len rfl rfl (len33 _ _ _ _ _)) ?_
  refine vg (.int .i64 (n : Nat)) 8 rfl rfl rfl rfl ?_; refine st_end ?_; subst hQ; refine wq fun Q hQ => ?_; refine vm (.int .i64 (n : Nat)) 14 rfl rfl rfl rfl ?_; refine vg (.int .i64 0) 9 rfl rfl rfl rfl ?_; refine vg (.int .i64 (n : Nat)) 10 rfl rfl rfl rfl ?_; refine st_end ?_; subst hQ; refine wp_seq ?_; refine wp_block ?_
  go_loopw [9, 10] (fun v9 v10 wr => ∃ i j : Nat, i ≤ j ∧ j ≤ n ∧ v9 = .int .i64 i ∧ v10 = .int .i64 j ∧ Below w.heap.size w wr ∧ wr.heap[b21]? = some (.cells (EL t) 49) ∧ (∀ (k : Nat) (d : EV), k < i → L[k]? = some d → ordN d t.ch t.fr < 0) ∧ (∀ (k : Nat) (d : EV), j ≤ k → L[k]? = some d → 0 ≤ ordN d t.ch t.fr)) (fun v9 v10 _ => (intOf v10).toNat - (intOf v9).toNat)
  case atStart => exact ⟨0, n, Nat.zero_le _, Nat.le_refl _, rfl, rfl, E, k21, fun k d h => by omega, fun k d h h2 => by rw [List.getElem?_eq_none (by omega)] at h2; cases h2⟩
  case round =>
    clear E k21; obtain ⟨i, j, hij, hjn, rfl, rfl, E, k4, p1, p2⟩ := hrel
    by_cases hlt : i < j
    · obtain ⟨h, hh⟩ : ∃ h, (i + j) / 2 = h := ⟨_, rfl⟩
      obtain ⟨d, hd⟩ : ∃ d, L[h]? = some d := ⟨L[h]'(by omega), List.getElem?_eq_getElem (by omega)⟩
      rcases hE with q | ⟨b, o2, q, hbN, ⟨cur0, hcur0⟩, hr⟩
      · rw [q] at hd; simp at hd
      cases q
      have hrb := range_below (range_at hr hd) E
      by_cases hc : ordN d t.ch t.fr < 0
      · skip
        refine wp_seq ?_; refine wq fun Q hQ => ?_; refine vm (.int .i64 (i : Nat)) 15 rfl rfl rfl rfl ?_; refine vm (.int .i64 (j : Nat)) 16 rfl rfl rfl rfl ?_; refine vv (.bool true) 17 rfl rfl (ex_bin (u := (.int .i64 (i : Nat))) (r := (.int .i64 (j : Nat))) rfl rfl rfl (eg3 _ _ _ _ _ _) (lss3 _ (decide_eq_true (by omega)))) ?_; refine st_end ?_; subst hQ; refine wp_cond_true rfl ?_; refine wp_skip ?_; refine wp_block ?_; refine wq fun Q hQ => ?_; refine vm (.int .i64 (i : Nat)) 18 rfl rfl rfl rfl ?_; refine vm (.int .i64 (j : Nat)) 19 rfl rfl rfl rfl ?_
        refine vv (.int .i64 ((i + j : Nat) : Int)) 20 rfl rfl (ex_bin rfl rfl rfl (eg3 _ _ _ _ _ _) (add3 _ (by omega) (by omega))) ?_; refine vv (.int .u64 ((i + j : Nat) : Int)) 21 rfl rfl (ex_i2u rfl rfl (by omega)) ?_; refine vv (.int .u64 ((h : Nat) : Int)) 22 rfl rfl (ex_bin rfl rfl rfl (egU _ _ _ _ _ _) (hh ▸ shr1 (k := i + j) _ rfl (by omega))) ?_; refine vv (.int .i64 ((h : Nat) : Int)) 23 rfl rfl (ex_u2i rfl rfl (by omega)) ?_; refine vg (.int .i64 ((h : Nat) : Int)) 11 rfl rfl rfl rfl ?_; refine st_end ?_; subst hQ; refine wp_seq ?_
        obtain ⟨W2, hwd⟩ : ∃ wd, wr.drew = wd := ⟨_, rfl⟩; refine wp_region_held (S := fun W => Kept Nil W2 W) (by kernel_rfl) ?_
        show wpAnyH _ _ _ _ _ _ _ _ wr.drew
        rw [hwd]; refine capQ fun Q hQ => ?_
        have hQP : ∀ c (a : Act) (d : Nat) v w, Q (.panic c) (a.put (some d) v) w → Q (.panic c) a w := by
          subst hQ; exact fun _ _ _ _ _ h => h
        have BD : Below wr.heap.size wr W2 := by rw [← hwd]; exact below_drewB (Below.refl _ _)
        clear hwd; replace E := below_next E BD; replace k4 := keep BD k4; clear BD
        have S : Kept Nil W2 W2 := Kept.refl _ _
        have d_k4 := k4
        have hrb' : W2.rangeAt b (o2 + h * 13) (EL d).toList := range_below (range_at hr hd) E
        refine tk (.func (.func 87) #[] #[]) 0 24 rfl rfl rfl (fun W hK => ex_mv rfl rfl) S hQP ?_; refine tk (.slice (some ⟨b, o2, none⟩) n c) 1 25 rfl rfl rfl (fun W hK => ex_mv rfl rfl) S hQP ?_; refine tk (.int .i64 ((h : Nat) : Int)) 2 26 rfl rfl rfl (fun W hK => ex_mv rfl rfl) S hQP ?_; refine tk (.pointer (some ⟨b, (o2 + h * 13), none⟩)) 3 27 rfl rfl rfl (fun W hK => ix33 (k := h) rfl rfl rfl (rfl) ((by omega))) S hQP ?_
        refine tk (.agg (EL d)) 4 28 rfl rfl rfl (fun W hK => ex_load rfl rfl (ld_range (fun j v hv => cell_kept hK (hrb' j v hv) (nilN _)) Try.underlying49 rfl inf49)) S hQP ?_; refine tk (.agg (EL t)) 5 29 rfl rfl rfl (fun W hK => ex_load (p := (Pz b21 0)) rfl rfl (ld_all (keepK hK d_k4 (nilN _)) Try.underlying49 rfl inf49)) S hQP ?_; refine ah_or1 (i := 6) (by kernel_rfl) ?_; refine nx_call (some 30) rfl rfl rfl (order_any (d := d) (t := t) W2) (ex_callv (f := 87) (vs := [(.agg (EL d)), (.agg (EL t))]) (cap := #[]) rfl rfl (cf87 _) rfl) ?_; rintro e W3 ⟨rfl, B⟩
        refine ⟨_, rfl, S.next B, ?_⟩; simp only [zp]; replace E := below_next E B; replace k4 := keep B k4; replace S := S.next B; refine tk (.bool true) 7 31 rfl rfl rfl (fun W hK => ex_bin (u := (.int .i64 (ordN d t.ch t.fr))) (r := (.int .i64 0)) rfl rfl rfl (eg3 _ _ _ _ _ _) (lss3 _ (decide_eq_true hc))) S hQP ?_; refine ah_done (by kernel_rfl) ?_; clear hQP; subst hQ; clear S d_k4 ; refine wp_cond_true rfl ?_; refine wl_in (wl_cap fun Q hQ => ?_); refine vm (.int .i64 ((h : Nat) : Int)) 32 rfl rfl rfl rfl ?_
        refine vv (.int .i64 ((h + 1 : Nat) : Int)) 33 rfl rfl (ex_bin rfl rfl rfl (eg3 _ _ _ _ _ _) (add3 _ (by omega) (by omega))) ?_; refine vg (.int .i64 ((h + 1 : Nat) : Int)) 9 rfl rfl rfl rfl ?_; refine st_end ?_; subst hQ; refine nrm_b2 ?_; refine then_go ?_
        first | (go_big_round; refine ⟨?rel, ?measure⟩) | (refine ⟨?_, ?measure⟩; (repeat apply Exists.intro); refine ⟨?rel, rfl⟩)
        case rel =>
          refine ⟨h + 1, j, by omega, hjn, rfl, rfl, E, k4, fun k x hk hx => ?_, p2⟩
          by_cases hkh : k = h
          · subst hkh; rw [hd] at hx; cases hx; exact hc
          · have q := hs k h x d (by omega) hx hd
            rw [ord_lt] at hc ⊢
            unfold ltE at q
            omega
        case measure => simp [intOf]; omega
      · skip
        refine wp_seq ?_; refine wq fun Q hQ => ?_; refine vm (.int .i64 (i : Nat)) 15 rfl rfl rfl rfl ?_; refine vm (.int .i64 (j : Nat)) 16 rfl rfl rfl rfl ?_; refine vv (.bool true) 17 rfl rfl (ex_bin (u := (.int .i64 (i : Nat))) (r := (.int .i64 (j : Nat))) rfl rfl rfl (eg3 _ _ _ _ _ _) (lss3 _ (decide_eq_true (by omega)))) ?_; refine st_end ?_; subst hQ; refine wp_cond_true rfl ?_; refine wp_skip ?_; refine wp_block ?_; refine wq fun Q hQ => ?_; refine vm (.int .i64 (i : Nat)) 18 rfl rfl rfl rfl ?_; refine vm (.int .i64 (j : Nat)) 19 rfl rfl rfl rfl ?_
        refine vv (.int .i64 ((i + j : Nat) : Int)) 20 rfl rfl (ex_bin rfl rfl rfl (eg3 _ _ _ _ _ _) (add3 _ (by omega) (by omega))) ?_; refine vv (.int .u64 ((i + j : Nat) : Int)) 21 rfl rfl (ex_i2u rfl rfl (by omega)) ?_; refine vv (.int .u64 ((h : Nat) : Int)) 22 rfl rfl (ex_bin rfl rfl rfl (egU _ _ _ _ _ _) (hh ▸ shr1 (k := i + j) _ rfl (by omega))) ?_; refine vv (.int .i64 ((h : Nat) : Int)) 23 rfl rfl (ex_u2i rfl rfl (by omega)) ?_; refine vg (.int .i64 ((h : Nat) : Int)) 11 rfl rfl rfl rfl ?_; refine st_end ?_; subst hQ; refine wp_seq ?_
        obtain ⟨W4, hwd⟩ : ∃ wd, wr.drew = wd := ⟨_, rfl⟩; refine wp_region_held (S := fun W => Kept Nil W4 W) (by kernel_rfl) ?_
        show wpAnyH _ _ _ _ _ _ _ _ wr.drew
        rw [hwd]; refine capQ fun Q hQ => ?_
        have hQP : ∀ c (a : Act) (d : Nat) v w, Q (.panic c) (a.put (some d) v) w → Q (.panic c) a w := by
          subst hQ; exact fun _ _ _ _ _ h => h
        have BD : Below wr.heap.size wr W4 := by rw [← hwd]; exact below_drewB (Below.refl _ _)
        clear hwd; replace E := below_next E BD; replace k4 := keep BD k4; clear BD
        have S : Kept Nil W4 W4 := Kept.refl _ _
        have d_k4 := k4
        have hrb' : W4.rangeAt b (o2 + h * 13) (EL d).toList := range_below (range_at hr hd) E
        refine tk (.func (.func 87) #[] #[]) 0 24 rfl rfl rfl (fun W hK => ex_mv rfl rfl) S hQP ?_; refine tk (.slice (some ⟨b, o2, none⟩) n c) 1 25 rfl rfl rfl (fun W hK => ex_mv rfl rfl) S hQP ?_; refine tk (.int .i64 ((h : Nat) : Int)) 2 26 rfl rfl rfl (fun W hK => ex_mv rfl rfl) S hQP ?_; refine tk (.pointer (some ⟨b, (o2 + h * 13), none⟩)) 3 27 rfl rfl rfl (fun W hK => ix33 (k := h) rfl rfl rfl (rfl) ((by omega))) S hQP ?_
        refine tk (.agg (EL d)) 4 28 rfl rfl rfl (fun W hK => ex_load rfl rfl (ld_range (fun j v hv => cell_kept hK (hrb' j v hv) (nilN _)) Try.underlying49 rfl inf49)) S hQP ?_; refine tk (.agg (EL t)) 5 29 rfl rfl rfl (fun W hK => ex_load (p := (Pz b21 0)) rfl rfl (ld_all (keepK hK d_k4 (nilN _)) Try.underlying49 rfl inf49)) S hQP ?_; refine ah_or1 (i := 6) (by kernel_rfl) ?_; refine nx_call (some 30) rfl rfl rfl (order_any (d := d) (t := t) W4) (ex_callv (f := 87) (vs := [(.agg (EL d)), (.agg (EL t))]) (cap := #[]) rfl rfl (cf87 _) rfl) ?_; rintro e W5 ⟨rfl, B⟩
        refine ⟨_, rfl, S.next B, ?_⟩; simp only [zp]; replace E := below_next E B; replace k4 := keep B k4; replace S := S.next B; refine tk (.bool false) 7 31 rfl rfl rfl (fun W hK => ex_bin (u := (.int .i64 (ordN d t.ch t.fr))) (r := (.int .i64 0)) rfl rfl rfl (eg3 _ _ _ _ _ _) (lss3 _ (decide_eq_false hc))) S hQP ?_; refine ah_done (by kernel_rfl) ?_; clear hQP; subst hQ; clear S d_k4 ; refine wp_cond_false rfl ?_; refine wl_in (wl_cap fun Q hQ => ?_); refine vm (.int .i64 ((h : Nat) : Int)) 34 rfl rfl rfl rfl ?_; refine vg (.int .i64 ((h : Nat) : Int)) 10 rfl rfl rfl rfl ?_
        refine st_end ?_; subst hQ; refine nrm_b2 ?_; refine then_go ?_
        first | (go_big_round; refine ⟨?rel, ?measure⟩) | (refine ⟨?_, ?measure⟩; (repeat apply Exists.intro); refine ⟨?rel, rfl⟩)
        case rel =>
          refine ⟨i, h, by omega, by omega, rfl, rfl, E, k4, p1, fun k x hk hx => ?_⟩
          by_cases hkh : k = h
          · subst hkh; rw [hd] at hx; cases hx; omega
          · have q := hs h k d x (by omega) hd hx
            have hc2 := hc; rw [ord_lt] at hc2; have hc3 := ord_lt x t.ch t.fr
            unfold ltE at q
            omega
        case measure => simp [intOf]; omega
    · have hin : i = j := by omega
      subst hin
      by_cases hin : i < n
      · skip
        obtain ⟨d, hd⟩ : ∃ d, L[i]? = some d := ⟨L[i]'(by omega), List.getElem?_eq_getElem (by omega)⟩
        rcases hE with q | ⟨b, o2, q, hbN, ⟨cur0, hcur0⟩, hr⟩
        · rw [q] at hd; simp at hd
        cases q
        have hrb := range_below (range_at hr hd) E
        by_cases hc : ordN d t.ch t.fr = 0
        · skip
          skip
          refine wp_seq ?_; refine wq fun Q hQ => ?_; refine vm (.int .i64 (i : Nat)) 15 rfl rfl rfl rfl ?_; refine vm (.int .i64 (i : Nat)) 16 rfl rfl rfl rfl ?_; refine vv (.bool false) 17 rfl rfl (ex_bin (u := (.int .i64 (i : Nat))) (r := (.int .i64 (i : Nat))) rfl rfl rfl (eg3 _ _ _ _ _ _) (lss3 _ (decide_eq_false (by omega)))) ?_; refine st_end ?_; subst hQ; refine wp_cond_false rfl ?_; refine wp_exit ?_; refine ex_then ?_; refine ex_then ?_; refine ex_blk ?_; refine wp_seq ?_; obtain ⟨W6, hwd⟩ : ∃ wd, wr.drew = wd := ⟨_, rfl⟩
          refine wp_region_held (S := fun W => Kept Nil W6 W) (by kernel_rfl) ?_
          show wpAnyH _ _ _ _ _ _ _ _ wr.drew
          rw [hwd]; refine capQ fun Q hQ => ?_
          have hQP : ∀ c (a : Act) (d : Nat) v w, Q (.panic c) (a.put (some d) v) w → Q (.panic c) a w := by
            subst hQ; exact fun _ _ _ _ _ h => h
          have BD : Below wr.heap.size wr W6 := by rw [← hwd]; exact below_drewB (Below.refl _ _)
          clear hwd; replace E := below_next E BD; replace k4 := keep BD k4; clear BD
          have S : Kept Nil W6 W6 := Kept.refl _ _
          have d_k4 := k4
          have hrb' : W6.rangeAt b (o2 + i * 13) (EL d).toList := range_below (range_at hr hd) E
          refine tk (.int .i64 (i : Nat)) 0 35 rfl rfl rfl (fun W hK => ex_mv rfl rfl) S hQP ?_; refine tk (.int .i64 (i : Nat)) 1 36 rfl rfl rfl (fun W hK => ex_mv rfl rfl) S hQP ?_; refine tk (.int .i64 (n : Nat)) 2 37 rfl rfl rfl (fun W hK => ex_mv rfl rfl) S hQP ?_; refine tk (.bool true) 3 38 rfl rfl rfl (fun W hK => ex_bin (u := (.int .i64 (i : Nat))) (r := (.int .i64 (n : Nat))) rfl rfl rfl (eg3 _ _ _ _ _ _) (lss3 _ (decide_eq_true (by omega)))) S hQP ?_; refine tk (.bool true) 4 39 rfl rfl rfl (fun W hK => ex_mv rfl rfl) S hQP ?_
          refine tk (.func (.func 87) #[] #[]) 5 40 rfl rfl rfl (fun W hK => ex_mv rfl rfl) S hQP ?_; refine tk (.slice (some ⟨b, o2, none⟩) n c) 6 41 rfl rfl rfl (fun W hK => ex_mv rfl rfl) S hQP ?_; refine tk (.int .i64 (i : Nat)) 7 42 rfl rfl rfl (fun W hK => ex_mv rfl rfl) S hQP ?_; refine tk (.pointer (some ⟨b, (o2 + i * 13), none⟩)) 8 43 rfl rfl rfl (fun W hK => ix33 (k := i) rfl rfl rfl (rfl) ((by omega))) S hQP ?_
          refine tk (.agg (EL d)) 9 44 rfl rfl rfl (fun W hK => ex_load rfl rfl (ld_range (fun j v hv => cell_kept hK (hrb' j v hv) (nilN _)) Try.underlying49 rfl inf49)) S hQP ?_; refine tk (.agg (EL t)) 10 45 rfl rfl rfl (fun W hK => ex_load (p := (Pz b21 0)) rfl rfl (ld_all (keepK hK d_k4 (nilN _)) Try.underlying49 rfl inf49)) S hQP ?_; refine ah_or1 (i := 11) (by kernel_rfl) ?_; refine nx_call (some 46) rfl rfl rfl (order_any (d := d) (t := t) W6) (ex_callv (f := 87) (vs := [(.agg (EL d)), (.agg (EL t))]) (cap := #[]) rfl rfl (cf87 _) rfl) ?_; rintro e W7 ⟨rfl, B⟩
          refine ⟨_, rfl, S.next B, ?_⟩; simp only [zp]; replace E := below_next E B; replace k4 := keep B k4; replace S := S.next B; refine tk (.bool true) 12 47 rfl rfl rfl (fun W hK => ex_bin (u := (.int .i64 (ordN d t.ch t.fr))) (r := (.int .i64 0)) rfl rfl rfl (eg3 _ _ _ _ _ _) (eql3 _ (decide_eq_true hc))) S hQP ?_; refine tk (.bool true) 13 48 rfl rfl rfl (fun W hK => ex_pkT rfl rfl rfl) S hQP ?_; refine tk (.int .i64 (i : Nat)) 14 6 rfl rfl rfl (fun W hK => ex_asg rfl rfl) S hQP ?_; refine tk (.bool true) 15 7 rfl rfl rfl (fun W hK => ex_asg rfl rfl) S hQP ?_
          refine ah_done (by kernel_rfl) ?_; clear hQP; subst hQ; clear S d_k4 ; refine wp_ret ?_
          repeat (first | refine ret_out ?_ | refine ret_blk ?_)
          exact bodyPost_ret (results_tmp2 Try.results86 _ _ _) rfl ⟨i, true, rfl, hjn, p1, p2, ⟨fun _ => ⟨d, hd, hc⟩, fun _ => rfl⟩, E⟩
        · skip
          skip
          refine wp_seq ?_; refine wq fun Q hQ => ?_; refine vm (.int .i64 (i : Nat)) 15 rfl rfl rfl rfl ?_; refine vm (.int .i64 (i : Nat)) 16 rfl rfl rfl rfl ?_; refine vv (.bool false) 17 rfl rfl (ex_bin (u := (.int .i64 (i : Nat))) (r := (.int .i64 (i : Nat))) rfl rfl rfl (eg3 _ _ _ _ _ _) (lss3 _ (decide_eq_false (by omega)))) ?_; refine st_end ?_; subst hQ; refine wp_cond_false rfl ?_; refine wp_exit ?_; refine ex_then ?_; refine ex_then ?_; refine ex_blk ?_; refine wp_seq ?_; obtain ⟨W8, hwd⟩ : ∃ wd, wr.drew = wd := ⟨_, rfl⟩
          refine wp_region_held (S := fun W => Kept Nil W8 W) (by kernel_rfl) ?_
          show wpAnyH _ _ _ _ _ _ _ _ wr.drew
          rw [hwd]; refine capQ fun Q hQ => ?_
          have hQP : ∀ c (a : Act) (d : Nat) v w, Q (.panic c) (a.put (some d) v) w → Q (.panic c) a w := by
            subst hQ; exact fun _ _ _ _ _ h => h
          have BD : Below wr.heap.size wr W8 := by rw [← hwd]; exact below_drewB (Below.refl _ _)
          clear hwd; replace E := below_next E BD; replace k4 := keep BD k4; clear BD
          have S : Kept Nil W8 W8 := Kept.refl _ _
          have d_k4 := k4
          have hrb' : W8.rangeAt b (o2 + i * 13) (EL d).toList := range_below (range_at hr hd) E
          refine tk (.int .i64 (i : Nat)) 0 35 rfl rfl rfl (fun W hK => ex_mv rfl rfl) S hQP ?_; refine tk (.int .i64 (i : Nat)) 1 36 rfl rfl rfl (fun W hK => ex_mv rfl rfl) S hQP ?_; refine tk (.int .i64 (n : Nat)) 2 37 rfl rfl rfl (fun W hK => ex_mv rfl rfl) S hQP ?_; refine tk (.bool true) 3 38 rfl rfl rfl (fun W hK => ex_bin (u := (.int .i64 (i : Nat))) (r := (.int .i64 (n : Nat))) rfl rfl rfl (eg3 _ _ _ _ _ _) (lss3 _ (decide_eq_true (by omega)))) S hQP ?_; refine tk (.bool true) 4 39 rfl rfl rfl (fun W hK => ex_mv rfl rfl) S hQP ?_
          refine tk (.func (.func 87) #[] #[]) 5 40 rfl rfl rfl (fun W hK => ex_mv rfl rfl) S hQP ?_; refine tk (.slice (some ⟨b, o2, none⟩) n c) 6 41 rfl rfl rfl (fun W hK => ex_mv rfl rfl) S hQP ?_; refine tk (.int .i64 (i : Nat)) 7 42 rfl rfl rfl (fun W hK => ex_mv rfl rfl) S hQP ?_; refine tk (.pointer (some ⟨b, (o2 + i * 13), none⟩)) 8 43 rfl rfl rfl (fun W hK => ix33 (k := i) rfl rfl rfl (rfl) ((by omega))) S hQP ?_
          refine tk (.agg (EL d)) 9 44 rfl rfl rfl (fun W hK => ex_load rfl rfl (ld_range (fun j v hv => cell_kept hK (hrb' j v hv) (nilN _)) Try.underlying49 rfl inf49)) S hQP ?_; refine tk (.agg (EL t)) 10 45 rfl rfl rfl (fun W hK => ex_load (p := (Pz b21 0)) rfl rfl (ld_all (keepK hK d_k4 (nilN _)) Try.underlying49 rfl inf49)) S hQP ?_; refine ah_or1 (i := 11) (by kernel_rfl) ?_; refine nx_call (some 46) rfl rfl rfl (order_any (d := d) (t := t) W8) (ex_callv (f := 87) (vs := [(.agg (EL d)), (.agg (EL t))]) (cap := #[]) rfl rfl (cf87 _) rfl) ?_; rintro e W9 ⟨rfl, B⟩
          refine ⟨_, rfl, S.next B, ?_⟩; simp only [zp]; replace E := below_next E B; replace k4 := keep B k4; replace S := S.next B; refine tk (.bool false) 12 47 rfl rfl rfl (fun W hK => ex_bin (u := (.int .i64 (ordN d t.ch t.fr))) (r := (.int .i64 0)) rfl rfl rfl (eg3 _ _ _ _ _ _) (eql3 _ (decide_eq_false hc))) S hQP ?_; refine tk (.bool false) 13 48 rfl rfl rfl (fun W hK => ex_pkT rfl rfl rfl) S hQP ?_; refine tk (.int .i64 (i : Nat)) 14 6 rfl rfl rfl (fun W hK => ex_asg rfl rfl) S hQP ?_; refine tk (.bool false) 15 7 rfl rfl rfl (fun W hK => ex_asg rfl rfl) S hQP ?_
          refine ah_done (by kernel_rfl) ?_; clear hQP; subst hQ; clear S d_k4 ; refine wp_ret ?_
          repeat (first | refine ret_out ?_ | refine ret_blk ?_)
          exact bodyPost_ret (results_tmp2 Try.results86 _ _ _) rfl ⟨i, false, rfl, hjn, p1, p2, ⟨fun q => Bool.noConfusion q, fun ⟨x, hx, hx2⟩ => by rw [hd] at hx; cases hx; exact absurd hx2 hc⟩, E⟩
      · skip
        skip
        refine wp_seq ?_; refine wq fun Q hQ => ?_; refine vm (.int .i64 (i : Nat)) 15 rfl rfl rfl rfl ?_; refine vm (.int .i64 (i : Nat)) 16 rfl rfl rfl rfl ?_; refine vv (.bool false) 17 rfl rfl (ex_bin (u := (.int .i64 (i : Nat))) (r := (.int .i64 (i : Nat))) rfl rfl rfl (eg3 _ _ _ _ _ _) (lss3 _ (decide_eq_false (by omega)))) ?_; refine st_end ?_; subst hQ; refine wp_cond_false rfl ?_; refine wp_exit ?_; refine ex_then ?_; refine ex_then ?_; refine ex_blk ?_; refine wp_seq ?_; obtain ⟨W10, hwd⟩ : ∃ wd, wr.drew = wd := ⟨_, rfl⟩
        refine wp_region_held (S := fun W => Kept Nil W10 W) (by kernel_rfl) ?_
        show wpAnyH _ _ _ _ _ _ _ _ wr.drew
        rw [hwd]; refine capQ fun Q hQ => ?_
        have hQP : ∀ c (a : Act) (d : Nat) v w, Q (.panic c) (a.put (some d) v) w → Q (.panic c) a w := by
          subst hQ; exact fun _ _ _ _ _ h => h
        have BD : Below wr.heap.size wr W10 := by rw [← hwd]; exact below_drewB (Below.refl _ _)
        clear hwd; replace E := below_next E BD; replace k4 := keep BD k4; clear BD
        have S : Kept Nil W10 W10 := Kept.refl _ _
        have d_k4 := k4; refine tk (.int .i64 (i : Nat)) 0 35 rfl rfl rfl (fun W hK => ex_mv rfl rfl) S hQP ?_; refine tk (.int .i64 (i : Nat)) 1 36 rfl rfl rfl (fun W hK => ex_mv rfl rfl) S hQP ?_; refine tk (.int .i64 (n : Nat)) 2 37 rfl rfl rfl (fun W hK => ex_mv rfl rfl) S hQP ?_; refine tk (.bool false) 3 38 rfl rfl rfl (fun W hK => ex_bin (u := (.int .i64 (i : Nat))) (r := (.int .i64 (n : Nat))) rfl rfl rfl (eg3 _ _ _ _ _ _) (lss3 _ (decide_eq_false (by omega)))) S hQP ?_; refine tk (.bool false) 4 39 rfl rfl rfl (fun W hK => ex_mv rfl rfl) S hQP ?_
        refine tks 5 40 rfl rfl rfl S hQP ?_; refine tks 6 41 rfl rfl rfl S hQP ?_; refine tks 7 42 rfl rfl rfl S hQP ?_; refine tks 8 43 rfl rfl rfl S hQP ?_; refine tks 9 44 rfl rfl rfl S hQP ?_; refine tks 10 45 rfl rfl rfl S hQP ?_; refine tks 11 46 rfl rfl rfl S hQP ?_; refine tks 12 47 rfl rfl rfl S hQP ?_; refine tk (.bool false) 13 48 rfl rfl rfl (fun W hK => ex_pkF rfl rfl rfl) S hQP ?_; refine tk (.int .i64 (i : Nat)) 14 6 rfl rfl rfl (fun W hK => ex_asg rfl rfl) S hQP ?_; refine tk (.bool false) 15 7 rfl rfl rfl (fun W hK => ex_asg rfl rfl) S hQP ?_
        refine ah_done (by kernel_rfl) ?_; clear hQP; subst hQ; clear S d_k4 ; refine wp_ret ?_
        repeat (first | refine ret_out ?_ | refine ret_blk ?_)
        exact bodyPost_ret (results_tmp2 Try.results86 _ _ _) rfl ⟨i, false, rfl, hjn, p1, p2, ⟨fun q => Bool.noConfusion q, fun ⟨x, hx, hx2⟩ => by rw [List.getElem?_eq_none (by omega)] at hx; cases hx⟩, E⟩
end Go.Proofs.Ytgnkcmmpbohafaa

/- An edge is set behind all others; a new graph; what a statement begins with. -/
namespace Go.Proofs.Ytgnkcmmpbohafaa
open Go.RowKit
set_option linter.unusedVariables false
set_option linter.unusedSimpArgs false
set_option maxRecDepth 100000

/-- the edge that is looked for -/
def TE (ch fr : Int) : EV := ⟨ch, fr, 0, 0, ⟨0, 0, 0, 0, 0⟩, ⟨0, 0, 0, 0⟩⟩
theorem bTE (ch fr : Int) (W : World) : (Instr.build 49 #[(0, .int .i64 ch), (1, .int .i64 fr)]).run Try.prog W = .ok (.agg (EL (TE ch fr))) W := run_build W 49 _ _ (by kernel_rfl)
theorem bG (a : Option Addr) (n c : Nat) (W : World) : (Instr.build 105 #[(0, .slice a n c)]).run Try.prog W = .ok (.agg #[.slice a n c]) W := run_build W 105 _ _ (by kernel_rfl)
set_option maxHeartbeats 8000000 in
theorem place_any {g N n c : Nat} {ad : Addr} {L : List EV} {ch fr : Int} (w : World) (kg : w.heap[g]? = some (.cells #[.slice (some ad) n c] 105)) (hL : Es w N (some ad) L) (hn : n = L.length) (hn2 : n ≤ 64) (hs : srt L) : Calls Try.prog 63 #[.pointer (some ⟨g, 0, none⟩), .int .i64 ch, .int .i64 fr] w fun e w' => ∃ (i : Nat) (fd : Bool), e = .returned (.tuple #[.int .i64 i, .bool fd]) ∧ i ≤ n ∧ (∀ (k : Nat) (d : EV), k < i → L[k]? = some d → ordN d ch fr < 0) ∧ (∀ (k : Nat) (d : EV), i ≤ k → L[k]? = some d → 0 ≤ ordN d ch fr) ∧ (fd = true ↔ ∃ d, L[i]? = some d ∧ ordN d ch fr = 0) ∧ Below w.heap.size w w' := by
  have E : Below w.heap.size w w := Below.refl _ _
  go_enter Try.func63, Try.ntmps63; refine wq fun Q hQ => ?_; refine vg (.int .i64 0) 6 rfl rfl rfl rfl ?_; refine vg (.bool false) 7 rfl rfl rfl rfl ?_; refine st_end ?_; subst hQ; refine wq fun Q hQ => ?_; refine vm (Pz g 0) 8 rfl rfl rfl rfl ?_; refine vv (Pz g 0) 9 rfl rfl (ex_nil (p := (Pz g 0)) rfl rfl rfl) ?_; refine vv (Pz g 0) 10 rfl rfl (ex_fa (p := (Pz g 0)) rfl rfl (fa105_0 _ _)) ?_; refine vv (.slice (some ad) n c) 11 rfl rfl (ex_load (p := (Pz g 0)) rfl rfl (ld33 (at_cell kg rfl))) ?_; refine vm (.int .i64 ch) 12 rfl rfl rfl rfl ?_; refine vm (.int .i64 fr) 13 rfl rfl rfl rfl ?_
  refine vv (.agg (EL (TE ch fr))) 14 rfl rfl (ex_build2 (v1 := (.int .i64 ch)) (v2 := (.int .i64 fr)) rfl rfl rfl (bTE ch fr _)) ?_; refine st_call (some 15) rfl rfl (bin_any (t := TE ch fr) w hL hn hn2 hs) (ex_call (f := 86) (vs := [(.slice (some ad) n c), (.agg (EL (TE ch fr))), (.func (.func 87) #[] #[])]) rfl (cf86 _) rfl) ?_; rintro e W1 ⟨i, fd, rfl, hi, p1, p2, p3, B⟩; refine ⟨_, rfl, ?_⟩; simp only [zp]; replace E := below_next E B; replace kg := keep B kg; refine vv (.int .i64 (i : Nat)) 16 rfl rfl (ex_ext rfl rfl rfl) ?_; refine vv (.bool fd) 17 rfl rfl (ex_ext rfl rfl rfl) ?_
  refine vg (.int .i64 (i : Nat)) 6 rfl rfl rfl rfl ?_; refine vg (.bool fd) 7 rfl rfl rfl rfl ?_; refine st_end ?_; subst hQ; refine wp_ret ?_; exact bodyPost_ret (results_tmp2 Try.results63 _ _ _) rfl ⟨i, fd, rfl, hi, p1, p2, p3, E⟩
set_option maxHeartbeats 8000000 in
theorem ins_end {g n c xb : Nat} {L : List EV} {e : EV} {base : Nat} (w : World) (hO : w.ownsRow base 49 13 (.slice (some ⟨g, 0, none⟩) n c) n (cE L)) (hn : n = L.length) (hn2 : n ≤ 63) (kx : w.heap[xb]? = some (.cells (EL e) 49)) (hb : base ≤ w.heap.size) : Calls Try.prog 64 #[.slice (some ⟨g, 0, none⟩) n c, .int .i64 (n : Nat), .slice (some ⟨xb, 0, none⟩) 1 1] w fun q w' => ∃ g' c', q = .returned (.slice (some ⟨g', 0, none⟩) (n + 1) c') ∧ w'.ownsRow base 49 13 (.slice (some ⟨g', 0, none⟩) (n + 1) c') (n + 1) (cE (L ++ [e])) ∧ Kept (· = g) w w' := by
  have hnc : n ≤ c := by
    obtain ⟨ao, cc, q, hc, _⟩ := own_form hO
    cases q
    exact hc
  have E : Kept (· = g) w w := Kept.refl _ _
  go_enter Try.func64, Try.ntmps64; refine wq fun Q hQ => ?_; refine vg (.slice none 0 0) 6 rfl rfl rfl rfl ?_; refine st_end ?_; subst hQ; refine wq fun Q hQ => ?_; refine vm (.slice (some ⟨g, 0, none⟩) n c) 10 rfl rfl rfl rfl ?_; refine vm (.int .i64 (n : Nat)) 11 rfl rfl rfl rfl ?_; refine vv (.slice (some ⟨g, if c = n then 0 else 0 + n * 13, none⟩) (n - n) (c - n)) 12 rfl rfl (ex_cutl (k := n) rfl rfl rfl rfl (Nat.le_refl _) hnc) ?_; refine st_end ?_; subst hQ; refine wq fun Q hQ => ?_; refine vm (.slice (some ⟨xb, 0, none⟩) 1 1) 13 rfl rfl rfl rfl ?_
  refine vv (.int .i64 (1 : Nat)) 14 rfl rfl (ex_len rfl rfl (len33 _ _ _ _ _)) ?_; refine vg (.int .i64 (1 : Nat)) 7 rfl rfl rfl rfl ?_; refine st_end ?_; subst hQ; refine wp_seq ?_; refine wq fun Q hQ => ?_; refine vm (.int .i64 (1 : Nat)) 15 rfl rfl rfl rfl ?_; refine vv (.bool false) 16 rfl rfl (ex_bin (u := (.int .i64 (1 : Nat))) (r := (.int .i64 0)) rfl rfl rfl (eg3 _ _ _ _ _ _) (eql3 _ (decide_eq_false (by omega)))) ?_; refine st_end ?_; subst hQ; refine wp_cond_false rfl ?_; refine wp_skip ?_; refine wq fun Q hQ => ?_; refine vm (.slice (some ⟨g, 0, none⟩) n c) 18 rfl rfl rfl rfl ?_
  refine vv (.int .i64 (n : Nat)) 19 rfl rfl (ex_len rfl rfl (len33 _ _ _ _ _)) ?_; refine vg (.int .i64 (n : Nat)) 8 rfl rfl rfl rfl ?_; refine st_end ?_; subst hQ; refine wp_seq ?_; refine wq fun Q hQ => ?_; refine vm (.int .i64 (n : Nat)) 20 rfl rfl rfl rfl ?_; refine vm (.int .i64 (n : Nat)) 21 rfl rfl rfl rfl ?_; refine vv (.bool true) 22 rfl rfl (ex_bin (u := (.int .i64 (n : Nat))) (r := (.int .i64 (n : Nat))) rfl rfl rfl (eg3 _ _ _ _ _ _) (eql3 _ (decide_eq_true (by omega)))) ?_; refine st_end ?_; subst hQ; refine wp_cond_true rfl ?_; refine wq fun Q hQ => ?_
  refine vm (.slice (some ⟨g, 0, none⟩) n c) 23 rfl rfl rfl rfl ?_; refine vm (.slice (some ⟨xb, 0, none⟩) 1 1) 24 rfl rfl rfl rfl ?_; obtain ⟨g', c', W2, hr2, hO2, hK0, hloc2⟩ := own_add (c := 1) (m := 1) (t := 33) hO (show w.rangeAt xb 0 (EL e).toList from at_range (o := 0) (n := 13) kx (by show 0 + 13 ≤ _; simp [EL])) rfl (by rw [← cE_one]; exact cE_one1 [e]) Try.underlying33 Try.inf49b rfl (by decide) (by decide) (by omega) (by simp only [maxLen]; omega) hb
  have hK2 : Kept (· = g) w W2 := ⟨hK0.os, hK0.tape, hK0.output, hK0.size, fun k hk hn => hK0.block k hk (fun e => hn (Option.some.inj e).symm)⟩
  replace E := hK2; refine sv (.slice (some ⟨g', 0, none⟩) (n + 1) c') 25 rfl rfl (ex_app rfl rfl rfl hr2) ?_; simp only [zp]; refine vg (.slice (some ⟨g', 0, none⟩) (n + 1) c') 6 rfl rfl rfl rfl ?_; refine st_end ?_; subst hQ; refine wp_ret ?_
  repeat (first | refine ret_out ?_ | refine ret_blk ?_)
  exact bodyPost_ret (results_tmp Try.results64 _ _ _) rfl ⟨g', c', rfl, by rw [cE_app, cE_one]; exact hO2, E⟩
end Go.Proofs.Ytgnkcmmpbohafaa
