/- The best way. -/
import Derived.Test.YtgnkcmmpbohafaaGWlk
namespace Go.Proofs.Ytgnkcmmpbohafaa
open Go.RowKit
set_option linter.unusedVariables false
set_option linter.unusedSimpArgs false
set_option maxRecDepth 100000

/-- what Find answers: an error, and a way -/
def fndR (L : List EV) (v : WV) : Int × Option YV :=
  if mayW v = false then (1, none)
  else match (bst v none (rem L v [(E0 v, nxt L v.fr)])) with
    | none => (4, none)
    | some y => if 100000 < (lft L v [(E0 v, nxt L v.fr)]) then (3, none) else (0, some y)
/-- a way that is answered -/
def Wyd (W : World) (base : Nat) (C : Array Value) : Option YV → Prop
  | none => C = #[.slice none 0 0, .slice none 0 0, .slice none 0 0, .int .i64 0, .float .f64 0]
  | some y => ∃ g c bA bX, C = #[.slice (some ⟨g, 0, none⟩) y.es.length c, .slice (some ⟨bA, 0, none⟩) y.es.length y.es.length, .slice (some ⟨bX, 0, none⟩) y.es.length y.es.length, .int .i64 y.fee, .float .f64 y.cost] ∧ W.ownsRow base 49 13 (.slice (some ⟨g, 0, none⟩) y.es.length c) y.es.length (cE y.es) ∧ (base ≤ bA ∧ base ≤ bX) ∧ W.heap[bA]? = some (.cells (Il y.am).toArray 3) ∧ W.heap[bX]? = some (.cells (Il y.xs).toArray 3) ∧ y.es ≠ []
theorem own_base {W : World} {base base' e size n : Nat} {v : Value} {xs : List Value} (h : W.ownsRow base e size v n xs) (hb : base' ≤ base) : W.ownsRow base' e size v n xs :=
  ⟨h.1, h.2.imp id fun ⟨g', cap', cur, e, hbg, r⟩ => ⟨g', cap', cur, e, Nat.le_trans hb hbg, r⟩⟩
theorem walk_c {g N n c b3 b6 nw cw : Nat} {ad : Addr} {ao : Option Addr} {L : List EV} {v : WV} (w : World) (kg : w.heap[g]? = some (.cells #[.slice (some ad) n c] 105)) (hL : Es w N (some ad) L) (hN : N ≤ w.heap.size) (hn : n = L.length) (hn2 : n ≤ 64) (hLb : ∀ e ∈ L, EB e) (hA : Is w ao v.av) (hnw : nw = v.av.length) (hnw2 : nw ≤ 140737488355328) (hv : WB v) (k3 : w.heap[b3]? = some (.cells (WL_ v ao nw cw) 32)) (k6 : w.heap[b6]? = some (.cells #[.slice none 0 0, .slice none 0 0, .slice none 0 0, .int .i64 0, .float .f64 0] 36)) {q : Bool} (hq : decide (100000 < (lft L v [(E0 v, nxt L v.fr)])) = q) :
    Calls Try.prog 35 #[.pointer (some ⟨g, 0, none⟩), .agg (WL_ v ao nw cw), .func (.func 36) #[] #[.pointer (some ⟨b3, 0, none⟩), .pointer (some ⟨b6, 0, none⟩)]] w fun e w' => ∃ B base, e = .returned (.bool q) ∧ Bst w' base b6 B ∧ w.heap.size ≤ base ∧ B.isSome = (bst v none (rem L v [(E0 v, nxt L v.fr)])).isSome ∧ ((lft L v [(E0 v, nxt L v.fr)]) ≤ 100000 → B = (bst v none (rem L v [(E0 v, nxt L v.fr)]))) ∧ Kept (· = b6) w w' := by
  subst hq
  exact walk_any w kg hL hN hn hn2 hLb hA hnw hnw2 hv k3 k6
set_option maxHeartbeats 16000000 in
theorem find_any {g N n c nw cw : Nat} {ad : Addr} {ao : Option Addr} {L : List EV} {v : WV} (w : World) (kg : w.heap[g]? = some (.cells #[.slice (some ad) n c] 105)) (hL : Es w N (some ad) L) (hN : N ≤ w.heap.size) (hn : n = L.length) (hn2 : n ≤ 64) (hLb : ∀ e ∈ L, EB e) (hA : Is w ao v.av) (hnw : nw = v.av.length) (hnw2 : nw ≤ 140737488355328) (hm : v.am ≤ 9223372036854775807) (hmo : v.mo ≤ 9223372036854775807) (t1 : -9223372036854775808 ≤ v.ti) (t2 : v.ti ≤ 9223372036854775807) :
    Calls Try.prog 12 #[.pointer (some ⟨g, 0, none⟩), .agg (WL_ v ao nw cw)] w fun e w' => ∃ C, e = .returned (.tuple #[.agg C, .int .i64 (fndR L v).1]) ∧ Wyd w' w.heap.size C (fndR L v).2 ∧ Below w.heap.size w w' := by
  by_cases hw : mayW v = true
  · have hv : WB v := ⟨hw, hm, hmo, t1, t2⟩
    cases hFB : (bst v none (rem L v [(E0 v, nxt L v.fr)])) with
    | none =>
      have hfr : fndR L v = (4, none) := by unfold fndR; rw [if_neg (by rw [hw]; decide), hFB]
      obtain ⟨q, hT⟩ : ∃ q, decide (100000 < (lft L v [(E0 v, nxt L v.fr)])) = q := ⟨_, rfl⟩
      have E : Below w.heap.size w w := Below.refl _ _
      go_enter Try.func12, Try.ntmps12
      refine wq fun Q hQ => ?_
      refine st_new (fun b => .pointer (some ⟨b, 0, none⟩)) (some 3) rfl rfl (ex_box rfl rfl) ?_
      intro b21 W1 k21 g21 B
      simp only [zp]
      have ne_b21_g : b21 ≠ g := fun e => by have := lt_of kg; omega
      have ge_b21 := Nat.le_trans E.size g21
      replace E := below_next E B
      replace kg := keep B kg
      clear B
      refine st_new (fun b => .pointer (some ⟨b, 0, none⟩)) (some 4) rfl rfl (ex_alloc rfl zero36) ?_
      intro b22 W2 k22 g22 B
      simp only [zp]
      have ne_b22_g : b22 ≠ g := fun e => by have := lt_of kg; omega
      have ne_b22_b21 : b22 ≠ b21 := fun e => by have := lt_of k21; omega
      have ge_b22 := Nat.le_trans E.size g22
      replace E := below_next E B
      replace kg := keep B kg
      replace k21 := keep B k21
      clear B
      refine sg (.int .i64 0) 5 rfl rfl rfl rfl ?_
      simp only [zp]
      refine st_end ?_
      subst hQ
      refine wp_seq ?_
      refine wp_block ?_
      refine wq fun Q hQ => ?_
      refine sm (.pointer (some ⟨g, 0, none⟩)) 9 rfl rfl rfl rfl ?_
      simp only [zp]
      refine st_call (some 10) rfl rfl (closed_any W2 kg) (ex_call (f := 33) (vs := [(.pointer (some ⟨g, 0, none⟩))]) rfl (cf33 _) rfl) ?_
      rintro e W3 ⟨rfl, B⟩
      refine ⟨_, rfl, ?_⟩
      simp only [zp]
      replace E := below_next E B
      replace kg := keep B kg
      replace k21 := keep B k21
      replace k22 := keep B k22
      refine sg (.bool false) 8 rfl rfl rfl rfl ?_
      simp only [zp]
      refine st_end ?_
      subst hQ
      refine wp_cond_false rfl ?_
      refine wq fun Q hQ => ?_
      refine sv (.agg (WL_ v ao nw cw)) 13 rfl rfl (ex_load (p := (.pointer (some ⟨b21, 0, none⟩))) rfl rfl (ld_all k21 Try.underlying32 rfl inf32)) ?_
      simp only [zp]
      refine st_call (some 14) rfl rfl (mayW_any W3 hm hw) (ex_call (f := 34) (vs := [(.agg (WL_ v ao nw cw))]) rfl (cf34 _) rfl) ?_
      rintro e W4 ⟨rfl, B⟩
      refine ⟨_, rfl, ?_⟩
      simp only [zp]
      replace E := below_next E B
      replace kg := keep B kg
      replace k21 := keep B k21
      replace k22 := keep B k22
      refine sv (.bool false) 15 rfl rfl (ex_not rfl rfl rfl) ?_
      simp only [zp]
      refine sg (.bool false) 12 rfl rfl rfl rfl ?_
      simp only [zp]
      refine st_end ?_
      subst hQ
      refine wp_cond_false rfl ?_
      refine wp_skip ?_
      refine wq fun Q hQ => ?_
      refine st_new (fun b => .pointer (some ⟨b, 0, none⟩)) (some 6) rfl rfl (ex_alloc rfl zero36) ?_
      intro b23 W5 k23 g23 B
      simp only [zp]
      have ne_b23_g : b23 ≠ g := fun e => by have := lt_of kg; omega
      have ne_b23_b21 : b23 ≠ b21 := fun e => by have := lt_of k21; omega
      have ne_b23_b22 : b23 ≠ b22 := fun e => by have := lt_of k22; omega
      have ge_b23 := Nat.le_trans E.size g23
      replace E := below_next E B
      replace kg := keep B kg
      replace k21 := keep B k21
      replace k22 := keep B k22
      clear B
      refine st_end ?_
      subst hQ
      refine wq fun Q hQ => ?_
      refine sm (.pointer (some ⟨g, 0, none⟩)) 17 rfl rfl rfl rfl ?_
      simp only [zp]
      refine sv (.agg (WL_ v ao nw cw)) 18 rfl rfl (ex_load (p := (.pointer (some ⟨b21, 0, none⟩))) rfl rfl (ld_all k21 Try.underlying32 rfl inf32)) ?_
      simp only [zp]
      refine sv (.func (.func 36) #[] #[(.pointer (some ⟨b21, 0, none⟩)), (.pointer (some ⟨b23, 0, none⟩))]) 19 rfl rfl (ex_mkf rfl rfl) ?_
      simp only [zp]
      refine st_call (some 20) rfl rfl (walk_c W5 kg (hL.keep E hN) (Nat.le_trans hN E.size) hn hn2 hLb (hA.keep E) hnw hnw2 hv k21 k23 hT) (ex_call (f := 35) (vs := [(.pointer (some ⟨g, 0, none⟩)), (.agg (WL_ v ao nw cw)), (.func (.func 36) #[] #[(.pointer (some ⟨b21, 0, none⟩)), (.pointer (some ⟨b23, 0, none⟩))])]) rfl (cf35 _) rfl) ?_
      rintro e W6 ⟨B, base, rfl, hBs, hbb, hsm, heq, hKs⟩
      have hbb := Nat.le_trans E.size hbb
      refine ⟨_, rfl, ?_⟩
      simp only [zp]
      replace E := below_put E ge_b23 hKs
      replace kg := keepK hKs kg (fun e => ne_tag kg k23 (by decide) e)
      replace k21 := keepK hKs k21 (fun e => ne_tag k21 k23 (by decide) e)
      replace k22 := keepK hKs k22 (fun e => by first | exact ne_b22_b23 e | exact ne_b23_b22 e.symm)
      obtain rfl : B = none := by
        rw [hFB] at hsm
        cases B with
        | none => rfl
        | some y => cases hsm
      have k23 : W6.heap[b23]? = some (.cells #[.slice none 0 0, .slice none 0 0, .slice none 0 0, .int .i64 0, .float .f64 0] 36) := hBs
      refine sg (.bool q) 7 rfl rfl rfl rfl ?_
      simp only [zp]
      refine st_end ?_
      subst hQ
      refine wp_seq ?_
      refine wp_block ?_
      refine wq fun Q hQ => ?_
      refine sv (.pointer (some ⟨b23, 0, none⟩)) 22 rfl rfl (ex_fa (p := (.pointer (some ⟨b23, 0, none⟩))) rfl rfl (fa36_0 _ _)) ?_
      simp only [zp]
      refine sv (.slice none 0 0) 23 rfl rfl (ex_load (p := (.pointer (some ⟨b23, 0, none⟩))) rfl rfl (ld33 (at_cell k23 rfl))) ?_
      simp only [zp]
      refine sv (.int .i64 (0 : Nat)) 24 rfl rfl (ex_len rfl rfl (len33 _ _ _ _ _)) ?_
      simp only [zp]
      refine sv (.bool true) 25 rfl rfl (ex_bin (u := (.int .i64 (0 : Nat))) (r := (.int .i64 0)) rfl rfl rfl (eg3 _ _ _ _ _ _) (eql3 _ (decide_eq_true (by omega)))) ?_
      simp only [zp]
      refine sg (.bool true) 21 rfl rfl rfl rfl ?_
      simp only [zp]
      refine st_end ?_
      subst hQ
      refine wp_cond_true rfl ?_
      refine wq fun Q hQ => ?_
      refine sv (.agg #[.slice none 0 0, .slice none 0 0, .slice none 0 0, .int .i64 0, .float .f64 0]) 26 rfl rfl (ex_build0  rfl (bWay0 _)) ?_
      simp only [zp]
      obtain ⟨W7, hst, kn, K⟩ := put_all (D := #[.slice none 0 0, .slice none 0 0, .slice none 0 0, .int .i64 0, .float .f64 0]) k22 rfl inf36 (by kernel_rfl)
      refine st_sk rfl rfl (ex_store rfl rfl rfl hst) ?_
      replace E := below_put E ge_b22 K
      replace kg := keepK K kg (fun e => ne_tag kg k22 (by decide) e)
      replace k21 := keepK K k21 (fun e => ne_tag k21 k22 (by decide) e)
      replace k23 := keepK K k23 (fun e => by first | exact ne_b23_b22 e | exact ne_b22_b23 e.symm)
      replace k22 := kn
      clear kn K hst
      refine sg (.int .i64 4) 5 rfl rfl rfl rfl ?_
      simp only [zp]
      refine st_end ?_
      subst hQ
      refine wp_ret ?_
      repeat (first | refine ret_out ?_ | refine ret_blk ?_)
      refine bodyPost_ret (res_ct Try.results12 _ _ _ _ rfl k22 Try.underlying36 rfl inf36) rfl ⟨#[.slice none 0 0, .slice none 0 0, .slice none 0 0, .int .i64 0, .float .f64 0], ?_, ?_, E⟩
      · rw [hfr]
        rfl
      · rw [hfr]
        exact rfl
    | some y0 =>
      by_cases hlong : 100000 < (lft L v [(E0 v, nxt L v.fr)])
      · have hfr : fndR L v = (3, none) := by unfold fndR; rw [if_neg (by rw [hw]; decide), hFB]; exact if_pos hlong
        have hT := decide_eq_true hlong
        have E : Below w.heap.size w w := Below.refl _ _
        go_enter Try.func12, Try.ntmps12
        refine wq fun Q hQ => ?_
        refine st_new (fun b => .pointer (some ⟨b, 0, none⟩)) (some 3) rfl rfl (ex_box rfl rfl) ?_
        intro b21 W1 k21 g21 B
        simp only [zp]
        have ne_b21_g : b21 ≠ g := fun e => by have := lt_of kg; omega
        have ge_b21 := Nat.le_trans E.size g21
        replace E := below_next E B
        replace kg := keep B kg
        clear B
        refine st_new (fun b => .pointer (some ⟨b, 0, none⟩)) (some 4) rfl rfl (ex_alloc rfl zero36) ?_
        intro b22 W2 k22 g22 B
        simp only [zp]
        have ne_b22_g : b22 ≠ g := fun e => by have := lt_of kg; omega
        have ne_b22_b21 : b22 ≠ b21 := fun e => by have := lt_of k21; omega
        have ge_b22 := Nat.le_trans E.size g22
        replace E := below_next E B
        replace kg := keep B kg
        replace k21 := keep B k21
        clear B
        refine sg (.int .i64 0) 5 rfl rfl rfl rfl ?_
        simp only [zp]
        refine st_end ?_
        subst hQ
        refine wp_seq ?_
        refine wp_block ?_
        refine wq fun Q hQ => ?_
        refine sm (.pointer (some ⟨g, 0, none⟩)) 9 rfl rfl rfl rfl ?_
        simp only [zp]
        refine st_call (some 10) rfl rfl (closed_any W2 kg) (ex_call (f := 33) (vs := [(.pointer (some ⟨g, 0, none⟩))]) rfl (cf33 _) rfl) ?_
        rintro e W3 ⟨rfl, B⟩
        refine ⟨_, rfl, ?_⟩
        simp only [zp]
        replace E := below_next E B
        replace kg := keep B kg
        replace k21 := keep B k21
        replace k22 := keep B k22
        refine sg (.bool false) 8 rfl rfl rfl rfl ?_
        simp only [zp]
        refine st_end ?_
        subst hQ
        refine wp_cond_false rfl ?_
        refine wq fun Q hQ => ?_
        refine sv (.agg (WL_ v ao nw cw)) 13 rfl rfl (ex_load (p := (.pointer (some ⟨b21, 0, none⟩))) rfl rfl (ld_all k21 Try.underlying32 rfl inf32)) ?_
        simp only [zp]
        refine st_call (some 14) rfl rfl (mayW_any W3 hm hw) (ex_call (f := 34) (vs := [(.agg (WL_ v ao nw cw))]) rfl (cf34 _) rfl) ?_
        rintro e W4 ⟨rfl, B⟩
        refine ⟨_, rfl, ?_⟩
        simp only [zp]
        replace E := below_next E B
        replace kg := keep B kg
        replace k21 := keep B k21
        replace k22 := keep B k22
        refine sv (.bool false) 15 rfl rfl (ex_not rfl rfl rfl) ?_
        simp only [zp]
        refine sg (.bool false) 12 rfl rfl rfl rfl ?_
        simp only [zp]
        refine st_end ?_
        subst hQ
        refine wp_cond_false rfl ?_
        refine wp_skip ?_
        refine wq fun Q hQ => ?_
        refine st_new (fun b => .pointer (some ⟨b, 0, none⟩)) (some 6) rfl rfl (ex_alloc rfl zero36) ?_
        intro b23 W5 k23 g23 B
        simp only [zp]
        have ne_b23_g : b23 ≠ g := fun e => by have := lt_of kg; omega
        have ne_b23_b21 : b23 ≠ b21 := fun e => by have := lt_of k21; omega
        have ne_b23_b22 : b23 ≠ b22 := fun e => by have := lt_of k22; omega
        have ge_b23 := Nat.le_trans E.size g23
        replace E := below_next E B
        replace kg := keep B kg
        replace k21 := keep B k21
        replace k22 := keep B k22
        clear B
        refine st_end ?_
        subst hQ
        refine wq fun Q hQ => ?_
        refine sm (.pointer (some ⟨g, 0, none⟩)) 17 rfl rfl rfl rfl ?_
        simp only [zp]
        refine sv (.agg (WL_ v ao nw cw)) 18 rfl rfl (ex_load (p := (.pointer (some ⟨b21, 0, none⟩))) rfl rfl (ld_all k21 Try.underlying32 rfl inf32)) ?_
        simp only [zp]
        refine sv (.func (.func 36) #[] #[(.pointer (some ⟨b21, 0, none⟩)), (.pointer (some ⟨b23, 0, none⟩))]) 19 rfl rfl (ex_mkf rfl rfl) ?_
        simp only [zp]
        refine st_call (some 20) rfl rfl (walk_c W5 kg (hL.keep E hN) (Nat.le_trans hN E.size) hn hn2 hLb (hA.keep E) hnw hnw2 hv k21 k23 hT) (ex_call (f := 35) (vs := [(.pointer (some ⟨g, 0, none⟩)), (.agg (WL_ v ao nw cw)), (.func (.func 36) #[] #[(.pointer (some ⟨b21, 0, none⟩)), (.pointer (some ⟨b23, 0, none⟩))])]) rfl (cf35 _) rfl) ?_
        rintro e W6 ⟨B, base, rfl, hBs, hbb, hsm, heq, hKs⟩
        have hbb := Nat.le_trans E.size hbb
        refine ⟨_, rfl, ?_⟩
        simp only [zp]
        replace E := below_put E ge_b23 hKs
        replace kg := keepK hKs kg (fun e => ne_tag kg k23 (by decide) e)
        replace k21 := keepK hKs k21 (fun e => ne_tag k21 k23 (by decide) e)
        replace k22 := keepK hKs k22 (fun e => by first | exact ne_b22_b23 e | exact ne_b23_b22 e.symm)
        rw [hFB] at hsm
        obtain ⟨y, rfl⟩ : ∃ y, B = some y := Option.isSome_iff_exists.1 hsm
        obtain ⟨g1, c1, bA, bX, k23, how, hab, kA, kX, hyn⟩ := hBs
        have hyl : 0 < y.es.length := List.length_pos_iff.2 hyn
        refine sg (.bool true) 7 rfl rfl rfl rfl ?_
        simp only [zp]
        refine st_end ?_
        subst hQ
        refine wp_seq ?_
        refine wp_block ?_
        refine wq fun Q hQ => ?_
        refine sv (.pointer (some ⟨b23, 0, none⟩)) 22 rfl rfl (ex_fa (p := (.pointer (some ⟨b23, 0, none⟩))) rfl rfl (fa36_0 _ _)) ?_
        simp only [zp]
        refine sv (.slice (some ⟨g1, 0, none⟩) y.es.length c1) 23 rfl rfl (ex_load (p := (.pointer (some ⟨b23, 0, none⟩))) rfl rfl (ld33 (at_cell k23 rfl))) ?_
        simp only [zp]
        refine sv (.int .i64 (y.es.length : Nat)) 24 rfl rfl (ex_len rfl rfl (len33 _ _ _ _ _)) ?_
        simp only [zp]
        refine sv (.bool false) 25 rfl rfl (ex_bin (u := (.int .i64 (y.es.length : Nat))) (r := (.int .i64 0)) rfl rfl rfl (eg3 _ _ _ _ _ _) (eql3 _ (decide_eq_false (by omega)))) ?_
        simp only [zp]
        refine sg (.bool false) 21 rfl rfl rfl rfl ?_
        simp only [zp]
        refine st_end ?_
        subst hQ
        refine wp_cond_false rfl ?_
        refine wq fun Q hQ => ?_
        refine sm (.bool true) 28 rfl rfl rfl rfl ?_
        simp only [zp]
        refine sg (.bool true) 27 rfl rfl rfl rfl ?_
        simp only [zp]
        refine st_end ?_
        subst hQ
        refine wp_cond_true rfl ?_
        refine wq fun Q hQ => ?_
        refine sv (.agg #[.slice none 0 0, .slice none 0 0, .slice none 0 0, .int .i64 0, .float .f64 0]) 29 rfl rfl (ex_build0  rfl (bWay0 _)) ?_
        simp only [zp]
        obtain ⟨W7, hst, kn, K⟩ := put_all (D := #[.slice none 0 0, .slice none 0 0, .slice none 0 0, .int .i64 0, .float .f64 0]) k22 rfl inf36 (by kernel_rfl)
        refine st_sk rfl rfl (ex_store rfl rfl rfl hst) ?_
        replace E := below_put E ge_b22 K
        replace kg := keepK K kg (fun e => ne_tag kg k22 (by decide) e)
        replace k21 := keepK K k21 (fun e => ne_tag k21 k22 (by decide) e)
        replace k23 := keepK K k23 (fun e => by first | exact ne_b23_b22 e | exact ne_b22_b23 e.symm)
        replace k22 := kn
        clear kn K hst
        refine sg (.int .i64 3) 5 rfl rfl rfl rfl ?_
        simp only [zp]
        refine st_end ?_
        subst hQ
        refine wp_ret ?_
        repeat (first | refine ret_out ?_ | refine ret_blk ?_)
        refine bodyPost_ret (res_ct Try.results12 _ _ _ _ rfl k22 Try.underlying36 rfl inf36) rfl ⟨#[.slice none 0 0, .slice none 0 0, .slice none 0 0, .int .i64 0, .float .f64 0], ?_, ?_, E⟩
        · rw [hfr]
          rfl
        · rw [hfr]
          exact rfl
      · have hfr : fndR L v = (0, some y0) := by unfold fndR; rw [if_neg (by rw [hw]; decide), hFB]; exact if_neg hlong
        have hT := decide_eq_false hlong
        have E : Below w.heap.size w w := Below.refl _ _
        go_enter Try.func12, Try.ntmps12
        refine wq fun Q hQ => ?_
        refine st_new (fun b => .pointer (some ⟨b, 0, none⟩)) (some 3) rfl rfl (ex_box rfl rfl) ?_
        intro b21 W1 k21 g21 B
        simp only [zp]
        have ne_b21_g : b21 ≠ g := fun e => by have := lt_of kg; omega
        have ge_b21 := Nat.le_trans E.size g21
        replace E := below_next E B
        replace kg := keep B kg
        clear B
        refine st_new (fun b => .pointer (some ⟨b, 0, none⟩)) (some 4) rfl rfl (ex_alloc rfl zero36) ?_
        intro b22 W2 k22 g22 B
        simp only [zp]
        have ne_b22_g : b22 ≠ g := fun e => by have := lt_of kg; omega
        have ne_b22_b21 : b22 ≠ b21 := fun e => by have := lt_of k21; omega
        have ge_b22 := Nat.le_trans E.size g22
        replace E := below_next E B
        replace kg := keep B kg
        replace k21 := keep B k21
        clear B
        refine sg (.int .i64 0) 5 rfl rfl rfl rfl ?_
        simp only [zp]
        refine st_end ?_
        subst hQ
        refine wp_seq ?_
        refine wp_block ?_
        refine wq fun Q hQ => ?_
        refine sm (.pointer (some ⟨g, 0, none⟩)) 9 rfl rfl rfl rfl ?_
        simp only [zp]
        refine st_call (some 10) rfl rfl (closed_any W2 kg) (ex_call (f := 33) (vs := [(.pointer (some ⟨g, 0, none⟩))]) rfl (cf33 _) rfl) ?_
        rintro e W3 ⟨rfl, B⟩
        refine ⟨_, rfl, ?_⟩
        simp only [zp]
        replace E := below_next E B
        replace kg := keep B kg
        replace k21 := keep B k21
        replace k22 := keep B k22
        refine sg (.bool false) 8 rfl rfl rfl rfl ?_
        simp only [zp]
        refine st_end ?_
        subst hQ
        refine wp_cond_false rfl ?_
        refine wq fun Q hQ => ?_
        refine sv (.agg (WL_ v ao nw cw)) 13 rfl rfl (ex_load (p := (.pointer (some ⟨b21, 0, none⟩))) rfl rfl (ld_all k21 Try.underlying32 rfl inf32)) ?_
        simp only [zp]
        refine st_call (some 14) rfl rfl (mayW_any W3 hm hw) (ex_call (f := 34) (vs := [(.agg (WL_ v ao nw cw))]) rfl (cf34 _) rfl) ?_
        rintro e W4 ⟨rfl, B⟩
        refine ⟨_, rfl, ?_⟩
        simp only [zp]
        replace E := below_next E B
        replace kg := keep B kg
        replace k21 := keep B k21
        replace k22 := keep B k22
        refine sv (.bool false) 15 rfl rfl (ex_not rfl rfl rfl) ?_
        simp only [zp]
        refine sg (.bool false) 12 rfl rfl rfl rfl ?_
        simp only [zp]
        refine st_end ?_
        subst hQ
        refine wp_cond_false rfl ?_
        refine wp_skip ?_
        refine wq fun Q hQ => ?_
        refine st_new (fun b => .pointer (some ⟨b, 0, none⟩)) (some 6) rfl rfl (ex_alloc rfl zero36) ?_
        intro b23 W5 k23 g23 B
        simp only [zp]
        have ne_b23_g : b23 ≠ g := fun e => by have := lt_of kg; omega
        have ne_b23_b21 : b23 ≠ b21 := fun e => by have := lt_of k21; omega
        have ne_b23_b22 : b23 ≠ b22 := fun e => by have := lt_of k22; omega
        have ge_b23 := Nat.le_trans E.size g23
        replace E := below_next E B
        replace kg := keep B kg
        replace k21 := keep B k21
        replace k22 := keep B k22
        clear B
        refine st_end ?_
        subst hQ
        refine wq fun Q hQ => ?_
        refine sm (.pointer (some ⟨g, 0, none⟩)) 17 rfl rfl rfl rfl ?_
        simp only [zp]
        refine sv (.agg (WL_ v ao nw cw)) 18 rfl rfl (ex_load (p := (.pointer (some ⟨b21, 0, none⟩))) rfl rfl (ld_all k21 Try.underlying32 rfl inf32)) ?_
        simp only [zp]
        refine sv (.func (.func 36) #[] #[(.pointer (some ⟨b21, 0, none⟩)), (.pointer (some ⟨b23, 0, none⟩))]) 19 rfl rfl (ex_mkf rfl rfl) ?_
        simp only [zp]
        refine st_call (some 20) rfl rfl (walk_c W5 kg (hL.keep E hN) (Nat.le_trans hN E.size) hn hn2 hLb (hA.keep E) hnw hnw2 hv k21 k23 hT) (ex_call (f := 35) (vs := [(.pointer (some ⟨g, 0, none⟩)), (.agg (WL_ v ao nw cw)), (.func (.func 36) #[] #[(.pointer (some ⟨b21, 0, none⟩)), (.pointer (some ⟨b23, 0, none⟩))])]) rfl (cf35 _) rfl) ?_
        rintro e W6 ⟨B, base, rfl, hBs, hbb, hsm, heq, hKs⟩
        have hbb := Nat.le_trans E.size hbb
        refine ⟨_, rfl, ?_⟩
        simp only [zp]
        replace E := below_put E ge_b23 hKs
        replace kg := keepK hKs kg (fun e => ne_tag kg k23 (by decide) e)
        replace k21 := keepK hKs k21 (fun e => ne_tag k21 k23 (by decide) e)
        replace k22 := keepK hKs k22 (fun e => by first | exact ne_b22_b23 e | exact ne_b23_b22 e.symm)
        have heq := heq (by omega)
        rw [hFB] at heq
        obtain rfl := heq
        obtain ⟨g1, c1, bA, bX, k23, how, hab, kA, kX, hyn⟩ := hBs
        have hyl : 0 < y0.es.length := List.length_pos_iff.2 hyn
        refine sg (.bool false) 7 rfl rfl rfl rfl ?_
        simp only [zp]
        refine st_end ?_
        subst hQ
        refine wp_seq ?_
        refine wp_block ?_
        refine wq fun Q hQ => ?_
        refine sv (.pointer (some ⟨b23, 0, none⟩)) 22 rfl rfl (ex_fa (p := (.pointer (some ⟨b23, 0, none⟩))) rfl rfl (fa36_0 _ _)) ?_
        simp only [zp]
        refine sv (.slice (some ⟨g1, 0, none⟩) y0.es.length c1) 23 rfl rfl (ex_load (p := (.pointer (some ⟨b23, 0, none⟩))) rfl rfl (ld33 (at_cell k23 rfl))) ?_
        simp only [zp]
        refine sv (.int .i64 (y0.es.length : Nat)) 24 rfl rfl (ex_len rfl rfl (len33 _ _ _ _ _)) ?_
        simp only [zp]
        refine sv (.bool false) 25 rfl rfl (ex_bin (u := (.int .i64 (y0.es.length : Nat))) (r := (.int .i64 0)) rfl rfl rfl (eg3 _ _ _ _ _ _) (eql3 _ (decide_eq_false (by omega)))) ?_
        simp only [zp]
        refine sg (.bool false) 21 rfl rfl rfl rfl ?_
        simp only [zp]
        refine st_end ?_
        subst hQ
        refine wp_cond_false rfl ?_
        refine wq fun Q hQ => ?_
        refine sm (.bool false) 28 rfl rfl rfl rfl ?_
        simp only [zp]
        refine sg (.bool false) 27 rfl rfl rfl rfl ?_
        simp only [zp]
        refine st_end ?_
        subst hQ
        refine wp_cond_false rfl ?_
        refine wp_skip ?_
        refine wq fun Q hQ => ?_
        refine sv (.agg #[.slice (some ⟨g1, 0, none⟩) y0.es.length c1, .slice (some ⟨bA, 0, none⟩) y0.es.length y0.es.length, .slice (some ⟨bX, 0, none⟩) y0.es.length y0.es.length, .int .i64 y0.fee, .float .f64 y0.cost]) 30 rfl rfl (ex_load (p := (.pointer (some ⟨b23, 0, none⟩))) rfl rfl (ld_all k23 Try.underlying36 rfl inf36)) ?_
        simp only [zp]
        obtain ⟨W7, hst, kn, K⟩ := put_all (D := #[.slice (some ⟨g1, 0, none⟩) y0.es.length c1, .slice (some ⟨bA, 0, none⟩) y0.es.length y0.es.length, .slice (some ⟨bX, 0, none⟩) y0.es.length y0.es.length, .int .i64 y0.fee, .float .f64 y0.cost]) k22 rfl inf36 one5
        refine st_sk rfl rfl (ex_store rfl rfl rfl hst) ?_
        replace E := below_put E ge_b22 K
        replace kg := keepK K kg (fun e => ne_tag kg k22 (by decide) e)
        replace k21 := keepK K k21 (fun e => ne_tag k21 k22 (by decide) e)
        replace kA := keepK K kA (fun e => ne_tag kA k22 (by decide) e)
        replace kX := keepK K kX (fun e => ne_tag kX k22 (by decide) e)
        replace how := own_keepK how K (fun q hq e => own_ne how k22 (by decide) (by rw [hq, e]))
        replace k23 := keepK K k23 (fun e => by first | exact ne_b23_b22 e | exact ne_b22_b23 e.symm)
        replace k22 := kn
        clear kn K hst
        refine sg (.int .i64 0) 5 rfl rfl rfl rfl ?_
        simp only [zp]
        refine st_end ?_
        subst hQ
        refine wp_ret ?_
        repeat (first | refine ret_out ?_ | refine ret_blk ?_)
        refine bodyPost_ret (res_ct Try.results12 _ _ _ _ rfl k22 Try.underlying36 rfl inf36) rfl ⟨#[.slice (some ⟨g1, 0, none⟩) y0.es.length c1, .slice (some ⟨bA, 0, none⟩) y0.es.length y0.es.length, .slice (some ⟨bX, 0, none⟩) y0.es.length y0.es.length, .int .i64 y0.fee, .float .f64 y0.cost], ?_, ?_, E⟩
        · rw [hfr]
          rfl
        · rw [hfr]
          exact ⟨g1, c1, bA, bX, rfl, own_base how hbb, ⟨Nat.le_trans hbb hab.1, Nat.le_trans hbb hab.2⟩, kA, kX, hyn⟩
  · replace hw := Bool.eq_false_iff.2 hw
    have hfr : fndR L v = (1, none) := by unfold fndR; rw [if_pos hw]
    have E : Below w.heap.size w w := Below.refl _ _
    go_enter Try.func12, Try.ntmps12
    refine wq fun Q hQ => ?_
    refine st_new (fun b => .pointer (some ⟨b, 0, none⟩)) (some 3) rfl rfl (ex_box rfl rfl) ?_
    intro b21 W1 k21 g21 B
    simp only [zp]
    have ne_b21_g : b21 ≠ g := fun e => by have := lt_of kg; omega
    have ge_b21 := Nat.le_trans E.size g21
    replace E := below_next E B
    replace kg := keep B kg
    clear B
    refine st_new (fun b => .pointer (some ⟨b, 0, none⟩)) (some 4) rfl rfl (ex_alloc rfl zero36) ?_
    intro b22 W2 k22 g22 B
    simp only [zp]
    have ne_b22_g : b22 ≠ g := fun e => by have := lt_of kg; omega
    have ne_b22_b21 : b22 ≠ b21 := fun e => by have := lt_of k21; omega
    have ge_b22 := Nat.le_trans E.size g22
    replace E := below_next E B
    replace kg := keep B kg
    replace k21 := keep B k21
    clear B
    refine sg (.int .i64 0) 5 rfl rfl rfl rfl ?_
    simp only [zp]
    refine st_end ?_
    subst hQ
    refine wp_seq ?_
    refine wp_block ?_
    refine wq fun Q hQ => ?_
    refine sm (.pointer (some ⟨g, 0, none⟩)) 9 rfl rfl rfl rfl ?_
    simp only [zp]
    refine st_call (some 10) rfl rfl (closed_any W2 kg) (ex_call (f := 33) (vs := [(.pointer (some ⟨g, 0, none⟩))]) rfl (cf33 _) rfl) ?_
    rintro e W3 ⟨rfl, B⟩
    refine ⟨_, rfl, ?_⟩
    simp only [zp]
    replace E := below_next E B
    replace kg := keep B kg
    replace k21 := keep B k21
    replace k22 := keep B k22
    refine sg (.bool false) 8 rfl rfl rfl rfl ?_
    simp only [zp]
    refine st_end ?_
    subst hQ
    refine wp_cond_false rfl ?_
    refine wq fun Q hQ => ?_
    refine sv (.agg (WL_ v ao nw cw)) 13 rfl rfl (ex_load (p := (.pointer (some ⟨b21, 0, none⟩))) rfl rfl (ld_all k21 Try.underlying32 rfl inf32)) ?_
    simp only [zp]
    refine st_call (some 14) rfl rfl (mayW_any W3 hm hw) (ex_call (f := 34) (vs := [(.agg (WL_ v ao nw cw))]) rfl (cf34 _) rfl) ?_
    rintro e W4 ⟨rfl, B⟩
    refine ⟨_, rfl, ?_⟩
    simp only [zp]
    replace E := below_next E B
    replace kg := keep B kg
    replace k21 := keep B k21
    replace k22 := keep B k22
    refine sv (.bool true) 15 rfl rfl (ex_not rfl rfl rfl) ?_
    simp only [zp]
    refine sg (.bool true) 12 rfl rfl rfl rfl ?_
    simp only [zp]
    refine st_end ?_
    subst hQ
    refine wp_cond_true rfl ?_
    refine wq fun Q hQ => ?_
    refine sv (.agg #[.slice none 0 0, .slice none 0 0, .slice none 0 0, .int .i64 0, .float .f64 0]) 16 rfl rfl (ex_build0  rfl (bWay0 _)) ?_
    simp only [zp]
    obtain ⟨W5, hst, kn, K⟩ := put_all (D := #[.slice none 0 0, .slice none 0 0, .slice none 0 0, .int .i64 0, .float .f64 0]) k22 rfl inf36 (by kernel_rfl)
    refine st_sk rfl rfl (ex_store rfl rfl rfl hst) ?_
    replace E := below_put E ge_b22 K
    replace kg := keepK K kg (fun e => ne_tag kg k22 (by decide) e)
    replace k21 := keepK K k21 (fun e => ne_tag k21 k22 (by decide) e)
    replace k22 := kn
    clear kn K hst
    refine sg (.int .i64 1) 5 rfl rfl rfl rfl ?_
    simp only [zp]
    refine st_end ?_
    subst hQ
    refine wp_ret ?_
    repeat (first | refine ret_out ?_ | refine ret_blk ?_)
    refine bodyPost_ret (res_ct Try.results12 _ _ _ _ rfl k22 Try.underlying36 rfl inf36) rfl ⟨#[.slice none 0 0, .slice none 0 0, .slice none 0 0, .int .i64 0, .float .f64 0], ?_, ?_, E⟩
    · rw [hfr]
      rfl
    · rw [hfr]
      exact rfl
end Go.Proofs.Ytgnkcmmpbohafaa
