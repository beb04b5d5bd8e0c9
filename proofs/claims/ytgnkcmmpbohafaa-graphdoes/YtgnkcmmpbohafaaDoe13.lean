/- Some texts, in one. -/
import Derived.Test.YtgnkcmmpbohafaaDoe12
/- The document's graph: edges that may be, where one is, what is told of one. -/
namespace Go.Proofs.Ytgnkcmmpbohafaa
open Go.RowKit
set_option linter.unusedVariables false
set_option linter.unusedSimpArgs false
set_option maxRecDepth 100000

def mayE' (e : EV) : Bool := decide (1 ≤ e.ch) && decide (e.ch ≤ 65535) && decide (0 ≤ e.fr) && decide (e.fr ≤ 7) && decide (0 ≤ e.to) && decide (e.to ≤ 7) && decide (¬ e.fr = e.to) && decide (0 ≤ e.cap) && mayR e.q
theorem mayE_eq (e : EV) : mayE' e = mayE e := by
  have h : ∀ x : Int, decide (x < 8) = decide (x ≤ 7) := fun x => decide_eq_decide.2 (by omega)
  unfold mayE' mayE chanB nodeB
  rw [h, h]; simp only [Bool.and_assoc]
/-- a document's graph: its box, and the row of its edges -/
def Rq (W : World) (x : Nat) (v : Value) (L : List EV) : Prop := W.heap[x]? = some (.cells #[v] 74) ∧ W.ownsRow 0 49 13 v L.length (cE L)
theorem Rq.keep {W W' : World} {x : Nat} {v : Value} {L : List EV} (h : Rq W x v L) (hB : Below W.heap.size W W') : Rq W' x v L := ⟨Proofs.Ytgnkcmmpbohafaa.keep hB h.1, own_keep h.2 hB⟩
theorem Rq.keepK {W W' : World} {F : Nat → Prop} {x : Nat} {v : Value} {L : List EV} (h : Rq W x v L) (hK : Kept F W W') (h1 : ¬ F x) (h2 : ∀ k, v.ownBlock = some k → ¬ F k) : Rq W' x v L := ⟨Proofs.Ytgnkcmmpbohafaa.keepK hK h.1 h1, own_keepK h.2 hK h2⟩
theorem Rq.ne {W : World} {x k T : Nat} {v : Value} {L : List EV} {C : Array Value} (h : Rq W x v L) (hk : W.heap[k]? = some (.cells C T)) (h1 : T ≠ 74) (h2 : T ≠ 49) : ¬ (k = x ∨ v.ownBlock = some k) := by
  rintro (e | e)
  · exact ne_tag hk h.1 h1 e
  · exact own_ne h.2 hk (fun q => h2 q.symm) e
theorem own_or {W : World} {base n : Nat} {v : Value} {xs : List Value} (h : W.ownsRow base 49 13 v n xs) : (v = .slice none 0 0 ∧ n = 0) ∨ ∃ b c, v = .slice (some ⟨b, 0, none⟩) n c := by
  rcases h.2 with ⟨e, q⟩ | ⟨g, cap, cur, e, _⟩
  · exact .inl ⟨e, q⟩
  · exact .inr ⟨g, cap, e⟩
theorem own_Ev {W : World} {base n : Nat} {v : Value} {L : List EV} (h : W.ownsRow base 49 13 v n (cE L)) (hn : n = L.length) : ∃ ao c, v = .slice ao n c ∧ n ≤ c ∧ Es W W.heap.size ao L := by
  rcases own_or h with ⟨rfl, q⟩ | ⟨b, c, rfl⟩
  · refine ⟨none, 0, by rw [q], by omega, .inl ?_⟩
    exact List.eq_nil_of_length_eq_zero (by omega)
  · obtain ⟨ao, cc, q, hc, _⟩ := own_form h
    cases q
    exact ⟨_, c, rfl, hc, own_Es h⟩
def idxN (ch fr : Int) (L : List EV) : Int := match atE ch fr L with
  | some j => (j : Int)
  | none => -1
theorem at_here {ch fr : Int} {L : List EV} {i : Nat} {d : EV} (hd : L[i]? = some d) (h : atE ch fr L = (atE ch fr (L.drop i)).map (· + i)) (hk : d.ch = ch ∧ d.fr = fr) : atE ch fr L = some i := by
  obtain ⟨hi, hd⟩ := List.getElem?_eq_some_iff.1 hd; rw [h, List.drop_eq_getElem_cons hi, hd]
  unfold atE
  rw [if_pos hk]
  simp
theorem at_next {ch fr : Int} {L : List EV} {i : Nat} {d : EV} (hd : L[i]? = some d) (h : atE ch fr L = (atE ch fr (L.drop i)).map (· + i)) (hk : ¬ (d.ch = ch ∧ d.fr = fr)) : atE ch fr L = (atE ch fr (L.drop (i + 1))).map (· + (i + 1)) := by
  obtain ⟨hi, hd⟩ := List.getElem?_eq_some_iff.1 hd; rw [List.drop_eq_getElem_cons hi, hd] at h
  rw [(show atE ch fr (d :: L.drop (i + 1)) = if d.ch = ch ∧ d.fr = fr then some 0 else (atE ch fr (L.drop (i + 1))).map (· + 1) from rfl), if_neg hk, Option.map_map] at h
  rw [h]
  congr 1
  funext k
  simp only [Function.comp]
  omega
theorem at_end {ch fr : Int} {L : List EV} (h : atE ch fr L = (atE ch fr (L.drop L.length)).map (· + L.length)) : atE ch fr L = none := by
  rw [h, List.drop_length]
  rfl
set_option maxHeartbeats 4000000 in
theorem rright_any {q : RV} (w : World) {c : Bool} (hc : rightB q.b q.r = c) : Calls Try.prog 104 #[.agg (FL q)] w fun e w' => e = .returned (.bool c) ∧ Below w.heap.size w w' := by
  subst hc
  have E : Below w.heap.size w w := Below.refl _ _
  go_enter Try.func104, Try.ntmps104; refine wq fun Q hQ => ?_; refine st_new (fun b => .pointer (some ⟨b, 0, none⟩)) (some 1) rfl rfl (ex_box rfl rfl) ?_; intro b1 W1 k1 g1 B; simp only [zp]; have ge_b1 := Nat.le_trans E.size g1; replace E := below_next E B; clear B; refine vg (.bool false) 2 rfl rfl rfl rfl ?_; refine st_end ?_; subst hQ; refine wq fun Q hQ => ?_; refine vv (Pz b1 0) 3 rfl rfl (ex_fa (p := (Pz b1 0)) rfl rfl (fa43_0 _ _)) ?_; refine vv (.int .i64 q.b) 4 rfl rfl (ex_load (p := (Pz b1 0)) rfl rfl (ld3 (at_cell k1 rfl))) ?_
  by_cases e0 : 0 ≤ q.b
  · skip
    refine vv (.bool true) 5 rfl rfl (ex_bin (u := (.int .i64 q.b)) (r := (.int .i64 0)) rfl rfl rfl (eg3 _ _ _ _ _ _) (geq3 _ (decide_eq_true (by omega)))) ?_; refine vm (.bool true) 6 rfl rfl rfl rfl ?_; refine vv (Pz b1 1) 7 rfl rfl (ex_fa (p := (Pz b1 0)) rfl rfl (fa43_1 _ _)) ?_; refine vv (.int .i64 q.r) 8 rfl rfl (ex_load (p := (Pz b1 1)) rfl rfl (ld3 (at_cell k1 rfl))) ?_
    by_cases e1 : 0 ≤ q.r
    · skip
      refine vv (.bool true) 9 rfl rfl (ex_bin (u := (.int .i64 q.r)) (r := (.int .i64 0)) rfl rfl rfl (eg3 _ _ _ _ _ _) (geq3 _ (decide_eq_true (by omega)))) ?_; refine vv (.bool true) 10 rfl rfl (ex_pkT rfl rfl rfl) ?_; refine vm (.bool true) 11 rfl rfl rfl rfl ?_; refine vv (Pz b1 1) 12 rfl rfl (ex_fa (p := (Pz b1 0)) rfl rfl (fa43_1 _ _)) ?_; refine vv (.int .i64 q.r) 13 rfl rfl (ex_load (p := (Pz b1 1)) rfl rfl (ld3 (at_cell k1 rfl))) ?_
      by_cases e2 : q.r ≤ 1000000
      · skip
        refine vv (.bool true) 14 rfl rfl (ex_bin (u := (.int .i64 q.r)) (r := (.int .i64 1000000)) rfl rfl rfl (eg3 _ _ _ _ _ _) (leq3 _ (decide_eq_true (by omega)))) ?_; refine vv (.bool true) 15 rfl rfl (ex_pkT rfl rfl rfl) ?_; refine vg (.bool true) 2 rfl rfl rfl rfl ?_; refine st_end ?_; subst hQ; refine wp_ret ?_
        repeat (first | refine ret_out ?_ | refine ret_blk ?_)
        refine bodyPost_ret (results_tmp Try.results104 _ _ _) rfl ⟨?_, E⟩
        show Ending.returned (.bool true) = _
        simp [rightB, e0, e1, e2]
      · skip
        refine vv (.bool false) 14 rfl rfl (ex_bin (u := (.int .i64 q.r)) (r := (.int .i64 1000000)) rfl rfl rfl (eg3 _ _ _ _ _ _) (leq3 _ (decide_eq_false (by omega)))) ?_; refine vv (.bool false) 15 rfl rfl (ex_pkT rfl rfl rfl) ?_; refine vg (.bool false) 2 rfl rfl rfl rfl ?_; refine st_end ?_; subst hQ; refine wp_ret ?_
        repeat (first | refine ret_out ?_ | refine ret_blk ?_)
        refine bodyPost_ret (results_tmp Try.results104 _ _ _) rfl ⟨?_, E⟩
        show Ending.returned (.bool false) = _
        simp [rightB, e0, e1, e2]
    · skip
      refine vv (.bool false) 9 rfl rfl (ex_bin (u := (.int .i64 q.r)) (r := (.int .i64 0)) rfl rfl rfl (eg3 _ _ _ _ _ _) (geq3 _ (decide_eq_false (by omega)))) ?_; refine vv (.bool false) 10 rfl rfl (ex_pkT rfl rfl rfl) ?_; refine vm (.bool false) 11 rfl rfl rfl rfl ?_; refine vn 12 rfl rfl ?_; refine vn 13 rfl rfl ?_; refine vn 14 rfl rfl ?_; refine vv (.bool false) 15 rfl rfl (ex_pkF rfl rfl rfl) ?_; refine vg (.bool false) 2 rfl rfl rfl rfl ?_; refine st_end ?_; subst hQ; refine wp_ret ?_
      repeat (first | refine ret_out ?_ | refine ret_blk ?_)
      refine bodyPost_ret (results_tmp Try.results104 _ _ _) rfl ⟨?_, E⟩
      show Ending.returned (.bool false) = _
      simp [rightB, e0, e1]
  · skip
    refine vv (.bool false) 5 rfl rfl (ex_bin (u := (.int .i64 q.b)) (r := (.int .i64 0)) rfl rfl rfl (eg3 _ _ _ _ _ _) (geq3 _ (decide_eq_false (by omega)))) ?_; refine vm (.bool false) 6 rfl rfl rfl rfl ?_; refine vn 7 rfl rfl ?_; refine vn 8 rfl rfl ?_; refine vn 9 rfl rfl ?_; refine vv (.bool false) 10 rfl rfl (ex_pkF rfl rfl rfl) ?_; refine vm (.bool false) 11 rfl rfl rfl rfl ?_; refine vn 12 rfl rfl ?_; refine vn 13 rfl rfl ?_; refine vn 14 rfl rfl ?_; refine vv (.bool false) 15 rfl rfl (ex_pkF rfl rfl rfl) ?_; refine vg (.bool false) 2 rfl rfl rfl rfl ?_; refine st_end ?_; subst hQ
    refine wp_ret ?_
    repeat (first | refine ret_out ?_ | refine ret_blk ?_)
    refine bodyPost_ret (results_tmp Try.results104 _ _ _) rfl ⟨?_, E⟩
    show Ending.returned (.bool false) = _
    simp [rightB, e0]
set_option maxHeartbeats 4000000 in
theorem rrmay_any {q : RV} (w : World) {c : Bool} (hc : mayR q = c) : Calls Try.prog 92 #[.agg (RL q)] w fun e w' => e = .returned (.bool c) ∧ Below w.heap.size w w' := by
  subst hc
  have E : Below w.heap.size w w := Below.refl _ _
  go_enter Try.func92, Try.ntmps92; refine wq fun Q hQ => ?_; refine st_new (fun b => .pointer (some ⟨b, 0, none⟩)) (some 1) rfl rfl (ex_box rfl rfl) ?_; intro b1 W1 k1 g1 B; simp only [zp]; have ge_b1 := Nat.le_trans E.size g1; replace E := below_next E B; clear B; refine vg (.bool false) 2 rfl rfl rfl rfl ?_; refine st_end ?_; subst hQ; refine wq fun Q hQ => ?_; refine vv (Pz b1 0) 3 rfl rfl (ex_fa (p := (Pz b1 0)) rfl rfl (fa45_0 _ _)) ?_; refine vv (.agg (FL q)) 4 rfl rfl (ex_load (p := (Pz b1 0)) rfl rfl (ldF k1)) ?_
  by_cases e0 : rightB q.b q.r = true
  · skip
    refine st_call (some 5) rfl rfl (rright_any W1 e0) (ex_call (f := 104) (vs := [(.agg (FL q))]) rfl (cf104 _) rfl) ?_; rintro e W2 ⟨rfl, B⟩; refine ⟨_, rfl, ?_⟩; simp only [zp]; replace E := below_next E B; replace k1 := keep B k1; refine vm (.bool true) 6 rfl rfl rfl rfl ?_; refine vv (Pz b1 2) 7 rfl rfl (ex_fa (p := (Pz b1 0)) rfl rfl (fa45_1 _ _)) ?_; refine vv (.int .i64 q.d) 8 rfl rfl (ex_load (p := (Pz b1 2)) rfl rfl (ld3 (at_cell k1 rfl))) ?_
    by_cases e1 : 1 ≤ q.d
    · skip
      refine vv (.bool true) 9 rfl rfl (ex_bin (u := (.int .i64 q.d)) (r := (.int .i64 1)) rfl rfl rfl (eg3 _ _ _ _ _ _) (geq3 _ (decide_eq_true (by omega)))) ?_; refine vv (.bool true) 10 rfl rfl (ex_pkT rfl rfl rfl) ?_; refine vm (.bool true) 11 rfl rfl rfl rfl ?_; refine vv (Pz b1 2) 12 rfl rfl (ex_fa (p := (Pz b1 0)) rfl rfl (fa45_1 _ _)) ?_; refine vv (.int .i64 q.d) 13 rfl rfl (ex_load (p := (Pz b1 2)) rfl rfl (ld3 (at_cell k1 rfl))) ?_
      by_cases e2 : q.d ≤ 1000
      · skip
        refine vv (.bool true) 14 rfl rfl (ex_bin (u := (.int .i64 q.d)) (r := (.int .i64 1000)) rfl rfl rfl (eg3 _ _ _ _ _ _) (leq3 _ (decide_eq_true (by omega)))) ?_; refine vv (.bool true) 15 rfl rfl (ex_pkT rfl rfl rfl) ?_; refine vm (.bool true) 16 rfl rfl rfl rfl ?_; refine vv (Pz b1 3) 17 rfl rfl (ex_fa (p := (Pz b1 0)) rfl rfl (fa45_2 _ _)) ?_; refine vv (.int .i64 q.g) 18 rfl rfl (ex_load (p := (Pz b1 3)) rfl rfl (ld3 (at_cell k1 rfl))) ?_
        by_cases e3 : 0 ≤ q.g
        · skip
          refine vv (.bool true) 19 rfl rfl (ex_bin (u := (.int .i64 q.g)) (r := (.int .i64 0)) rfl rfl rfl (eg3 _ _ _ _ _ _) (geq3 _ (decide_eq_true (by omega)))) ?_; refine vv (.bool true) 20 rfl rfl (ex_pkT rfl rfl rfl) ?_; refine vm (.bool true) 21 rfl rfl rfl rfl ?_; refine vv (Pz b1 3) 22 rfl rfl (ex_fa (p := (Pz b1 0)) rfl rfl (fa45_2 _ _)) ?_; refine vv (.int .i64 q.g) 23 rfl rfl (ex_load (p := (Pz b1 3)) rfl rfl (ld3 (at_cell k1 rfl))) ?_
          by_cases e4 : q.g ≤ 1000
          · skip
            refine vv (.bool true) 24 rfl rfl (ex_bin (u := (.int .i64 q.g)) (r := (.int .i64 1000)) rfl rfl rfl (eg3 _ _ _ _ _ _) (leq3 _ (decide_eq_true (by omega)))) ?_; refine vv (.bool true) 25 rfl rfl (ex_pkT rfl rfl rfl) ?_; refine vm (.bool true) 26 rfl rfl rfl rfl ?_; refine vv (Pz b1 4) 27 rfl rfl (ex_fa (p := (Pz b1 0)) rfl rfl (fa45_3 _ _)) ?_; refine vv (.int .i64 q.f) 28 rfl rfl (ex_load (p := (Pz b1 4)) rfl rfl (ld3 (at_cell k1 rfl))) ?_
            by_cases e5 : 1 ≤ q.f
            · skip
              refine vv (.bool true) 29 rfl rfl (ex_bin (u := (.int .i64 q.f)) (r := (.int .i64 1)) rfl rfl rfl (eg3 _ _ _ _ _ _) (geq3 _ (decide_eq_true (by omega)))) ?_; refine vv (.bool true) 30 rfl rfl (ex_pkT rfl rfl rfl) ?_; refine vm (.bool true) 31 rfl rfl rfl rfl ?_; refine vv (Pz b1 4) 32 rfl rfl (ex_fa (p := (Pz b1 0)) rfl rfl (fa45_3 _ _)) ?_; refine vv (.int .i64 q.f) 33 rfl rfl (ex_load (p := (Pz b1 4)) rfl rfl (ld3 (at_cell k1 rfl))) ?_
              by_cases e6 : q.f ≤ 2147483647
              · skip
                refine vv (.bool true) 34 rfl rfl (ex_bin (u := (.int .i64 q.f)) (r := (.int .i64 2147483647)) rfl rfl rfl (eg3 _ _ _ _ _ _) (leq3 _ (decide_eq_true (by omega)))) ?_; refine vv (.bool true) 35 rfl rfl (ex_pkT rfl rfl rfl) ?_; refine vg (.bool true) 2 rfl rfl rfl rfl ?_; refine st_end ?_; subst hQ; refine wp_ret ?_
                repeat (first | refine ret_out ?_ | refine ret_blk ?_)
                refine bodyPost_ret (results_tmp Try.results92 _ _ _) rfl ⟨?_, E⟩
                show Ending.returned (.bool true) = _
                simp [mayR, e0, e1, e2, e3, e4, e5, e6]
              · skip
                refine vv (.bool false) 34 rfl rfl (ex_bin (u := (.int .i64 q.f)) (r := (.int .i64 2147483647)) rfl rfl rfl (eg3 _ _ _ _ _ _) (leq3 _ (decide_eq_false (by omega)))) ?_; refine vv (.bool false) 35 rfl rfl (ex_pkT rfl rfl rfl) ?_; refine vg (.bool false) 2 rfl rfl rfl rfl ?_; refine st_end ?_; subst hQ; refine wp_ret ?_
                repeat (first | refine ret_out ?_ | refine ret_blk ?_)
                refine bodyPost_ret (results_tmp Try.results92 _ _ _) rfl ⟨?_, E⟩
                show Ending.returned (.bool false) = _
                simp [mayR, e0, e1, e2, e3, e4, e5, e6]
            · skip
              refine vv (.bool false) 29 rfl rfl (ex_bin (u := (.int .i64 q.f)) (r := (.int .i64 1)) rfl rfl rfl (eg3 _ _ _ _ _ _) (geq3 _ (decide_eq_false (by omega)))) ?_; refine vv (.bool false) 30 rfl rfl (ex_pkT rfl rfl rfl) ?_; refine vm (.bool false) 31 rfl rfl rfl rfl ?_; refine vn 32 rfl rfl ?_; refine vn 33 rfl rfl ?_; refine vn 34 rfl rfl ?_; refine vv (.bool false) 35 rfl rfl (ex_pkF rfl rfl rfl) ?_; refine vg (.bool false) 2 rfl rfl rfl rfl ?_; refine st_end ?_; subst hQ; refine wp_ret ?_
              repeat (first | refine ret_out ?_ | refine ret_blk ?_)
              refine bodyPost_ret (results_tmp Try.results92 _ _ _) rfl ⟨?_, E⟩
              show Ending.returned (.bool false) = _
              simp [mayR, e0, e1, e2, e3, e4, e5]
          · skip
            refine vv (.bool false) 24 rfl rfl (ex_bin (u := (.int .i64 q.g)) (r := (.int .i64 1000)) rfl rfl rfl (eg3 _ _ _ _ _ _) (leq3 _ (decide_eq_false (by omega)))) ?_; refine vv (.bool false) 25 rfl rfl (ex_pkT rfl rfl rfl) ?_; refine vm (.bool false) 26 rfl rfl rfl rfl ?_; refine vn 27 rfl rfl ?_; refine vn 28 rfl rfl ?_; refine vn 29 rfl rfl ?_; refine vv (.bool false) 30 rfl rfl (ex_pkF rfl rfl rfl) ?_; refine vm (.bool false) 31 rfl rfl rfl rfl ?_; refine vn 32 rfl rfl ?_; refine vn 33 rfl rfl ?_; refine vn 34 rfl rfl ?_
            refine vv (.bool false) 35 rfl rfl (ex_pkF rfl rfl rfl) ?_; refine vg (.bool false) 2 rfl rfl rfl rfl ?_; refine st_end ?_; subst hQ; refine wp_ret ?_
            repeat (first | refine ret_out ?_ | refine ret_blk ?_)
            refine bodyPost_ret (results_tmp Try.results92 _ _ _) rfl ⟨?_, E⟩
            show Ending.returned (.bool false) = _
            simp [mayR, e0, e1, e2, e3, e4]
        · skip
          refine vv (.bool false) 19 rfl rfl (ex_bin (u := (.int .i64 q.g)) (r := (.int .i64 0)) rfl rfl rfl (eg3 _ _ _ _ _ _) (geq3 _ (decide_eq_false (by omega)))) ?_; refine vv (.bool false) 20 rfl rfl (ex_pkT rfl rfl rfl) ?_; refine vm (.bool false) 21 rfl rfl rfl rfl ?_; refine vn 22 rfl rfl ?_; refine vn 23 rfl rfl ?_; refine vn 24 rfl rfl ?_; refine vv (.bool false) 25 rfl rfl (ex_pkF rfl rfl rfl) ?_; refine vm (.bool false) 26 rfl rfl rfl rfl ?_; refine vn 27 rfl rfl ?_; refine vn 28 rfl rfl ?_; refine vn 29 rfl rfl ?_
          refine vv (.bool false) 30 rfl rfl (ex_pkF rfl rfl rfl) ?_; refine vm (.bool false) 31 rfl rfl rfl rfl ?_; refine vn 32 rfl rfl ?_; refine vn 33 rfl rfl ?_; refine vn 34 rfl rfl ?_; refine vv (.bool false) 35 rfl rfl (ex_pkF rfl rfl rfl) ?_; refine vg (.bool false) 2 rfl rfl rfl rfl ?_; refine st_end ?_; subst hQ; refine wp_ret ?_
          repeat (first | refine ret_out ?_ | refine ret_blk ?_)
          refine bodyPost_ret (results_tmp Try.results92 _ _ _) rfl ⟨?_, E⟩
          show Ending.returned (.bool false) = _
          simp [mayR, e0, e1, e2, e3]
      · skip
        refine vv (.bool false) 14 rfl rfl (ex_bin (u := (.int .i64 q.d)) (r := (.int .i64 1000)) rfl rfl rfl (eg3 _ _ _ _ _ _) (leq3 _ (decide_eq_false (by omega)))) ?_; refine vv (.bool false) 15 rfl rfl (ex_pkT rfl rfl rfl) ?_; refine vm (.bool false) 16 rfl rfl rfl rfl ?_; refine vn 17 rfl rfl ?_; refine vn 18 rfl rfl ?_; refine vn 19 rfl rfl ?_; refine vv (.bool false) 20 rfl rfl (ex_pkF rfl rfl rfl) ?_; refine vm (.bool false) 21 rfl rfl rfl rfl ?_; refine vn 22 rfl rfl ?_; refine vn 23 rfl rfl ?_; refine vn 24 rfl rfl ?_; refine vv (.bool false) 25 rfl rfl (ex_pkF rfl rfl rfl) ?_
        refine vm (.bool false) 26 rfl rfl rfl rfl ?_; refine vn 27 rfl rfl ?_; refine vn 28 rfl rfl ?_; refine vn 29 rfl rfl ?_; refine vv (.bool false) 30 rfl rfl (ex_pkF rfl rfl rfl) ?_; refine vm (.bool false) 31 rfl rfl rfl rfl ?_; refine vn 32 rfl rfl ?_; refine vn 33 rfl rfl ?_; refine vn 34 rfl rfl ?_; refine vv (.bool false) 35 rfl rfl (ex_pkF rfl rfl rfl) ?_; refine vg (.bool false) 2 rfl rfl rfl rfl ?_; refine st_end ?_; subst hQ; refine wp_ret ?_
        repeat (first | refine ret_out ?_ | refine ret_blk ?_)
        refine bodyPost_ret (results_tmp Try.results92 _ _ _) rfl ⟨?_, E⟩
        show Ending.returned (.bool false) = _
        simp [mayR, e0, e1, e2]
    · skip
      refine vv (.bool false) 9 rfl rfl (ex_bin (u := (.int .i64 q.d)) (r := (.int .i64 1)) rfl rfl rfl (eg3 _ _ _ _ _ _) (geq3 _ (decide_eq_false (by omega)))) ?_; refine vv (.bool false) 10 rfl rfl (ex_pkT rfl rfl rfl) ?_; refine vm (.bool false) 11 rfl rfl rfl rfl ?_; refine vn 12 rfl rfl ?_; refine vn 13 rfl rfl ?_; refine vn 14 rfl rfl ?_; refine vv (.bool false) 15 rfl rfl (ex_pkF rfl rfl rfl) ?_; refine vm (.bool false) 16 rfl rfl rfl rfl ?_; refine vn 17 rfl rfl ?_; refine vn 18 rfl rfl ?_; refine vn 19 rfl rfl ?_; refine vv (.bool false) 20 rfl rfl (ex_pkF rfl rfl rfl) ?_
      refine vm (.bool false) 21 rfl rfl rfl rfl ?_; refine vn 22 rfl rfl ?_; refine vn 23 rfl rfl ?_; refine vn 24 rfl rfl ?_; refine vv (.bool false) 25 rfl rfl (ex_pkF rfl rfl rfl) ?_; refine vm (.bool false) 26 rfl rfl rfl rfl ?_; refine vn 27 rfl rfl ?_; refine vn 28 rfl rfl ?_; refine vn 29 rfl rfl ?_; refine vv (.bool false) 30 rfl rfl (ex_pkF rfl rfl rfl) ?_; refine vm (.bool false) 31 rfl rfl rfl rfl ?_; refine vn 32 rfl rfl ?_; refine vn 33 rfl rfl ?_; refine vn 34 rfl rfl ?_; refine vv (.bool false) 35 rfl rfl (ex_pkF rfl rfl rfl) ?_
      refine vg (.bool false) 2 rfl rfl rfl rfl ?_; refine st_end ?_; subst hQ; refine wp_ret ?_
      repeat (first | refine ret_out ?_ | refine ret_blk ?_)
      refine bodyPost_ret (results_tmp Try.results92 _ _ _) rfl ⟨?_, E⟩
      show Ending.returned (.bool false) = _
      simp [mayR, e0, e1]
  · skip
    replace e0 := Bool.eq_false_iff.2 e0; refine st_call (some 5) rfl rfl (rright_any W1 e0) (ex_call (f := 104) (vs := [(.agg (FL q))]) rfl (cf104 _) rfl) ?_; rintro e W2 ⟨rfl, B⟩; refine ⟨_, rfl, ?_⟩; simp only [zp]; replace E := below_next E B; replace k1 := keep B k1; refine vm (.bool false) 6 rfl rfl rfl rfl ?_; refine vn 7 rfl rfl ?_; refine vn 8 rfl rfl ?_; refine vn 9 rfl rfl ?_; refine vv (.bool false) 10 rfl rfl (ex_pkF rfl rfl rfl) ?_; refine vm (.bool false) 11 rfl rfl rfl rfl ?_; refine vn 12 rfl rfl ?_; refine vn 13 rfl rfl ?_; refine vn 14 rfl rfl ?_
    refine vv (.bool false) 15 rfl rfl (ex_pkF rfl rfl rfl) ?_; refine vm (.bool false) 16 rfl rfl rfl rfl ?_; refine vn 17 rfl rfl ?_; refine vn 18 rfl rfl ?_; refine vn 19 rfl rfl ?_; refine vv (.bool false) 20 rfl rfl (ex_pkF rfl rfl rfl) ?_; refine vm (.bool false) 21 rfl rfl rfl rfl ?_; refine vn 22 rfl rfl ?_; refine vn 23 rfl rfl ?_; refine vn 24 rfl rfl ?_; refine vv (.bool false) 25 rfl rfl (ex_pkF rfl rfl rfl) ?_; refine vm (.bool false) 26 rfl rfl rfl rfl ?_; refine vn 27 rfl rfl ?_; refine vn 28 rfl rfl ?_; refine vn 29 rfl rfl ?_
    refine vv (.bool false) 30 rfl rfl (ex_pkF rfl rfl rfl) ?_; refine vm (.bool false) 31 rfl rfl rfl rfl ?_; refine vn 32 rfl rfl ?_; refine vn 33 rfl rfl ?_; refine vn 34 rfl rfl ?_; refine vv (.bool false) 35 rfl rfl (ex_pkF rfl rfl rfl) ?_; refine vg (.bool false) 2 rfl rfl rfl rfl ?_; refine st_end ?_; subst hQ; refine wp_ret ?_
    repeat (first | refine ret_out ?_ | refine ret_blk ?_)
    refine bodyPost_ret (results_tmp Try.results92 _ _ _) rfl ⟨?_, E⟩
    show Ending.returned (.bool false) = _
    simp [mayR, e0]
set_option maxHeartbeats 4000000 in
theorem redge_any {e : EV} (w : World) {c : Bool} (hc : mayE e = c) : Calls Try.prog 68 #[.agg (EL e)] w fun e w' => e = .returned (.bool c) ∧ Below w.heap.size w w' := by
  subst hc; rw [← mayE_eq]
  have E : Below w.heap.size w w := Below.refl _ _
  go_enter Try.func68, Try.ntmps68; refine wq fun Q hQ => ?_; refine st_new (fun b => .pointer (some ⟨b, 0, none⟩)) (some 1) rfl rfl (ex_box rfl rfl) ?_; intro b1 W1 k1 g1 B; simp only [zp]; have ge_b1 := Nat.le_trans E.size g1; replace E := below_next E B; clear B; refine vg (.bool false) 2 rfl rfl rfl rfl ?_; refine st_end ?_; subst hQ; refine wq fun Q hQ => ?_; refine vv (Pz b1 0) 3 rfl rfl (ex_fa (p := (Pz b1 0)) rfl rfl (fa49_0 _ _)) ?_; refine vv (.int .i64 e.ch) 4 rfl rfl (ex_load (p := (Pz b1 0)) rfl rfl (ld3 (at_cell k1 rfl))) ?_
  by_cases e0 : 1 ≤ e.ch
  · skip
    refine vv (.bool true) 5 rfl rfl (ex_bin (u := (.int .i64 e.ch)) (r := (.int .i64 1)) rfl rfl rfl (eg3 _ _ _ _ _ _) (geq3 _ (decide_eq_true (by omega)))) ?_; refine vm (.bool true) 6 rfl rfl rfl rfl ?_; refine vv (Pz b1 0) 7 rfl rfl (ex_fa (p := (Pz b1 0)) rfl rfl (fa49_0 _ _)) ?_; refine vv (.int .i64 e.ch) 8 rfl rfl (ex_load (p := (Pz b1 0)) rfl rfl (ld3 (at_cell k1 rfl))) ?_
    by_cases e1 : e.ch ≤ 65535
    · skip
      refine vv (.bool true) 9 rfl rfl (ex_bin (u := (.int .i64 e.ch)) (r := (.int .i64 65535)) rfl rfl rfl (eg3 _ _ _ _ _ _) (leq3 _ (decide_eq_true (by omega)))) ?_; refine vv (.bool true) 10 rfl rfl (ex_pkT rfl rfl rfl) ?_; refine vm (.bool true) 11 rfl rfl rfl rfl ?_; refine vv (Pz b1 1) 12 rfl rfl (ex_fa (p := (Pz b1 0)) rfl rfl (fa49_1 _ _)) ?_; refine vv (.int .i64 e.fr) 13 rfl rfl (ex_load (p := (Pz b1 1)) rfl rfl (ld3 (at_cell k1 rfl))) ?_
      by_cases e2 : 0 ≤ e.fr
      · skip
        refine vv (.bool true) 14 rfl rfl (ex_bin (u := (.int .i64 e.fr)) (r := (.int .i64 0)) rfl rfl rfl (eg3 _ _ _ _ _ _) (geq3 _ (decide_eq_true (by omega)))) ?_; refine vv (.bool true) 15 rfl rfl (ex_pkT rfl rfl rfl) ?_; refine vm (.bool true) 16 rfl rfl rfl rfl ?_; refine vv (Pz b1 1) 17 rfl rfl (ex_fa (p := (Pz b1 0)) rfl rfl (fa49_1 _ _)) ?_; refine vv (.int .i64 e.fr) 18 rfl rfl (ex_load (p := (Pz b1 1)) rfl rfl (ld3 (at_cell k1 rfl))) ?_
        by_cases e3 : e.fr ≤ 7
        · skip
          refine vv (.bool true) 19 rfl rfl (ex_bin (u := (.int .i64 e.fr)) (r := (.int .i64 7)) rfl rfl rfl (eg3 _ _ _ _ _ _) (leq3 _ (decide_eq_true (by omega)))) ?_; refine vv (.bool true) 20 rfl rfl (ex_pkT rfl rfl rfl) ?_; refine vm (.bool true) 21 rfl rfl rfl rfl ?_; refine vv (Pz b1 2) 22 rfl rfl (ex_fa (p := (Pz b1 0)) rfl rfl (fa49_2 _ _)) ?_; refine vv (.int .i64 e.to) 23 rfl rfl (ex_load (p := (Pz b1 2)) rfl rfl (ld3 (at_cell k1 rfl))) ?_
          by_cases e4 : 0 ≤ e.to
          · skip
            refine vv (.bool true) 24 rfl rfl (ex_bin (u := (.int .i64 e.to)) (r := (.int .i64 0)) rfl rfl rfl (eg3 _ _ _ _ _ _) (geq3 _ (decide_eq_true (by omega)))) ?_; refine vv (.bool true) 25 rfl rfl (ex_pkT rfl rfl rfl) ?_; refine vm (.bool true) 26 rfl rfl rfl rfl ?_; refine vv (Pz b1 2) 27 rfl rfl (ex_fa (p := (Pz b1 0)) rfl rfl (fa49_2 _ _)) ?_; refine vv (.int .i64 e.to) 28 rfl rfl (ex_load (p := (Pz b1 2)) rfl rfl (ld3 (at_cell k1 rfl))) ?_
            by_cases e5 : e.to ≤ 7
            · skip
              refine vv (.bool true) 29 rfl rfl (ex_bin (u := (.int .i64 e.to)) (r := (.int .i64 7)) rfl rfl rfl (eg3 _ _ _ _ _ _) (leq3 _ (decide_eq_true (by omega)))) ?_; refine vv (.bool true) 30 rfl rfl (ex_pkT rfl rfl rfl) ?_; refine vm (.bool true) 31 rfl rfl rfl rfl ?_; refine vv (Pz b1 1) 32 rfl rfl (ex_fa (p := (Pz b1 0)) rfl rfl (fa49_1 _ _)) ?_; refine vv (.int .i64 e.fr) 33 rfl rfl (ex_load (p := (Pz b1 1)) rfl rfl (ld3 (at_cell k1 rfl))) ?_; refine vv (Pz b1 2) 34 rfl rfl (ex_fa (p := (Pz b1 0)) rfl rfl (fa49_2 _ _)) ?_
              refine vv (.int .i64 e.to) 35 rfl rfl (ex_load (p := (Pz b1 2)) rfl rfl (ld3 (at_cell k1 rfl))) ?_
              by_cases e6 : e.fr = e.to
              · skip
                refine vv (.bool false) 36 rfl rfl (ex_bin (u := (.int .i64 e.fr)) (r := (.int .i64 e.to)) rfl rfl rfl (eg3 _ _ _ _ _ _) (neq3 _ (decide_eq_false (by omega)))) ?_; refine vv (.bool false) 37 rfl rfl (ex_pkT rfl rfl rfl) ?_; refine vm (.bool false) 38 rfl rfl rfl rfl ?_; refine vn 39 rfl rfl ?_; refine vn 40 rfl rfl ?_; refine vn 41 rfl rfl ?_; refine vv (.bool false) 42 rfl rfl (ex_pkF rfl rfl rfl) ?_; refine vm (.bool false) 43 rfl rfl rfl rfl ?_; refine vn 44 rfl rfl ?_; refine vn 45 rfl rfl ?_; refine vn 46 rfl rfl ?_
                refine vv (.bool false) 47 rfl rfl (ex_pkF rfl rfl rfl) ?_; refine vg (.bool false) 2 rfl rfl rfl rfl ?_; refine st_end ?_; subst hQ; refine wp_ret ?_
                repeat (first | refine ret_out ?_ | refine ret_blk ?_)
                refine bodyPost_ret (results_tmp Try.results68 _ _ _) rfl ⟨?_, E⟩
                show Ending.returned (.bool false) = _
                simp [mayE', e0, e1, e2, e3, e4, e5, e6]
              · skip
                refine vv (.bool true) 36 rfl rfl (ex_bin (u := (.int .i64 e.fr)) (r := (.int .i64 e.to)) rfl rfl rfl (eg3 _ _ _ _ _ _) (neq3 _ (decide_eq_true (by omega)))) ?_; refine vv (.bool true) 37 rfl rfl (ex_pkT rfl rfl rfl) ?_; refine vm (.bool true) 38 rfl rfl rfl rfl ?_; refine vv (Pz b1 3) 39 rfl rfl (ex_fa (p := (Pz b1 0)) rfl rfl (fa49_3 _ _)) ?_; refine vv (.int .i64 e.cap) 40 rfl rfl (ex_load (p := (Pz b1 3)) rfl rfl (ld3 (at_cell k1 rfl))) ?_
                by_cases e7 : 0 ≤ e.cap
                · skip
                  refine vv (.bool true) 41 rfl rfl (ex_bin (u := (.int .i64 e.cap)) (r := (.int .i64 0)) rfl rfl rfl (eg3 _ _ _ _ _ _) (geq3 _ (decide_eq_true (by omega)))) ?_; refine vv (.bool true) 42 rfl rfl (ex_pkT rfl rfl rfl) ?_; refine vm (.bool true) 43 rfl rfl rfl rfl ?_; refine vv (Pz b1 4) 44 rfl rfl (ex_fa (p := (Pz b1 0)) rfl rfl (fa49_4 _ _)) ?_; refine vv (.agg (RL e.q)) 45 rfl rfl (ex_load (p := (Pz b1 4)) rfl rfl (ldER k1)) ?_
                  by_cases e8 : mayR e.q = true
                  · skip
                    refine st_call (some 46) rfl rfl (rrmay_any W1 e8) (ex_call (f := 92) (vs := [(.agg (RL e.q))]) rfl (cf92 _) rfl) ?_; rintro e W2 ⟨rfl, B⟩; refine ⟨_, rfl, ?_⟩; simp only [zp]; replace E := below_next E B; replace k1 := keep B k1; refine vv (.bool true) 47 rfl rfl (ex_pkT rfl rfl rfl) ?_; refine vg (.bool true) 2 rfl rfl rfl rfl ?_; refine st_end ?_; subst hQ; refine wp_ret ?_
                    repeat (first | refine ret_out ?_ | refine ret_blk ?_)
                    refine bodyPost_ret (results_tmp Try.results68 _ _ _) rfl ⟨?_, E⟩
                    show Ending.returned (.bool true) = _
                    simp [mayE', e0, e1, e2, e3, e4, e5, e6, e7, e8]
                  · skip
                    replace e8 := Bool.eq_false_iff.2 e8; refine st_call (some 46) rfl rfl (rrmay_any W1 e8) (ex_call (f := 92) (vs := [(.agg (RL e.q))]) rfl (cf92 _) rfl) ?_; rintro e W2 ⟨rfl, B⟩; refine ⟨_, rfl, ?_⟩; simp only [zp]; replace E := below_next E B; replace k1 := keep B k1; refine vv (.bool false) 47 rfl rfl (ex_pkT rfl rfl rfl) ?_; refine vg (.bool false) 2 rfl rfl rfl rfl ?_; refine st_end ?_; subst hQ; refine wp_ret ?_
                    repeat (first | refine ret_out ?_ | refine ret_blk ?_)
                    refine bodyPost_ret (results_tmp Try.results68 _ _ _) rfl ⟨?_, E⟩
                    show Ending.returned (.bool false) = _
                    simp [mayE', e0, e1, e2, e3, e4, e5, e6, e7, e8]
                · skip
                  refine vv (.bool false) 41 rfl rfl (ex_bin (u := (.int .i64 e.cap)) (r := (.int .i64 0)) rfl rfl rfl (eg3 _ _ _ _ _ _) (geq3 _ (decide_eq_false (by omega)))) ?_; refine vv (.bool false) 42 rfl rfl (ex_pkT rfl rfl rfl) ?_; refine vm (.bool false) 43 rfl rfl rfl rfl ?_; refine vn 44 rfl rfl ?_; refine vn 45 rfl rfl ?_; refine vn 46 rfl rfl ?_; refine vv (.bool false) 47 rfl rfl (ex_pkF rfl rfl rfl) ?_; refine vg (.bool false) 2 rfl rfl rfl rfl ?_; refine st_end ?_; subst hQ; refine wp_ret ?_
                  repeat (first | refine ret_out ?_ | refine ret_blk ?_)
                  refine bodyPost_ret (results_tmp Try.results68 _ _ _) rfl ⟨?_, E⟩
                  show Ending.returned (.bool false) = _
                  simp [mayE', e0, e1, e2, e3, e4, e5, e6, e7]
            · skip
              refine vv (.bool false) 29 rfl rfl (ex_bin (u := (.int .i64 e.to)) (r := (.int .i64 7)) rfl rfl rfl (eg3 _ _ _ _ _ _) (leq3 _ (decide_eq_false (by omega)))) ?_; refine vv (.bool false) 30 rfl rfl (ex_pkT rfl rfl rfl) ?_; refine vm (.bool false) 31 rfl rfl rfl rfl ?_; refine vn 32 rfl rfl ?_; refine vn 33 rfl rfl ?_; refine vn 34 rfl rfl ?_; refine vn 35 rfl rfl ?_; refine vn 36 rfl rfl ?_; refine vv (.bool false) 37 rfl rfl (ex_pkF rfl rfl rfl) ?_; refine vm (.bool false) 38 rfl rfl rfl rfl ?_; refine vn 39 rfl rfl ?_; refine vn 40 rfl rfl ?_; refine vn 41 rfl rfl ?_
              refine vv (.bool false) 42 rfl rfl (ex_pkF rfl rfl rfl) ?_; refine vm (.bool false) 43 rfl rfl rfl rfl ?_; refine vn 44 rfl rfl ?_; refine vn 45 rfl rfl ?_; refine vn 46 rfl rfl ?_; refine vv (.bool false) 47 rfl rfl (ex_pkF rfl rfl rfl) ?_; refine vg (.bool false) 2 rfl rfl rfl rfl ?_; refine st_end ?_; subst hQ; refine wp_ret ?_
              repeat (first | refine ret_out ?_ | refine ret_blk ?_)
              refine bodyPost_ret (results_tmp Try.results68 _ _ _) rfl ⟨?_, E⟩
              show Ending.returned (.bool false) = _
              simp [mayE', e0, e1, e2, e3, e4, e5]
          · skip
            refine vv (.bool false) 24 rfl rfl (ex_bin (u := (.int .i64 e.to)) (r := (.int .i64 0)) rfl rfl rfl (eg3 _ _ _ _ _ _) (geq3 _ (decide_eq_false (by omega)))) ?_; refine vv (.bool false) 25 rfl rfl (ex_pkT rfl rfl rfl) ?_; refine vm (.bool false) 26 rfl rfl rfl rfl ?_; refine vn 27 rfl rfl ?_; refine vn 28 rfl rfl ?_; refine vn 29 rfl rfl ?_; refine vv (.bool false) 30 rfl rfl (ex_pkF rfl rfl rfl) ?_; refine vm (.bool false) 31 rfl rfl rfl rfl ?_; refine vn 32 rfl rfl ?_; refine vn 33 rfl rfl ?_; refine vn 34 rfl rfl ?_; refine vn 35 rfl rfl ?_; refine vn 36 rfl rfl ?_
            refine vv (.bool false) 37 rfl rfl (ex_pkF rfl rfl rfl) ?_; refine vm (.bool false) 38 rfl rfl rfl rfl ?_; refine vn 39 rfl rfl ?_; refine vn 40 rfl rfl ?_; refine vn 41 rfl rfl ?_; refine vv (.bool false) 42 rfl rfl (ex_pkF rfl rfl rfl) ?_; refine vm (.bool false) 43 rfl rfl rfl rfl ?_; refine vn 44 rfl rfl ?_; refine vn 45 rfl rfl ?_; refine vn 46 rfl rfl ?_; refine vv (.bool false) 47 rfl rfl (ex_pkF rfl rfl rfl) ?_; refine vg (.bool false) 2 rfl rfl rfl rfl ?_; refine st_end ?_; subst hQ; refine wp_ret ?_
            repeat (first | refine ret_out ?_ | refine ret_blk ?_)
            refine bodyPost_ret (results_tmp Try.results68 _ _ _) rfl ⟨?_, E⟩
            show Ending.returned (.bool false) = _
            simp [mayE', e0, e1, e2, e3, e4]
        · skip
          refine vv (.bool false) 19 rfl rfl (ex_bin (u := (.int .i64 e.fr)) (r := (.int .i64 7)) rfl rfl rfl (eg3 _ _ _ _ _ _) (leq3 _ (decide_eq_false (by omega)))) ?_; refine vv (.bool false) 20 rfl rfl (ex_pkT rfl rfl rfl) ?_; refine vm (.bool false) 21 rfl rfl rfl rfl ?_; refine vn 22 rfl rfl ?_; refine vn 23 rfl rfl ?_; refine vn 24 rfl rfl ?_; refine vv (.bool false) 25 rfl rfl (ex_pkF rfl rfl rfl) ?_; refine vm (.bool false) 26 rfl rfl rfl rfl ?_; refine vn 27 rfl rfl ?_; refine vn 28 rfl rfl ?_; refine vn 29 rfl rfl ?_
          refine vv (.bool false) 30 rfl rfl (ex_pkF rfl rfl rfl) ?_; refine vm (.bool false) 31 rfl rfl rfl rfl ?_; refine vn 32 rfl rfl ?_; refine vn 33 rfl rfl ?_; refine vn 34 rfl rfl ?_; refine vn 35 rfl rfl ?_; refine vn 36 rfl rfl ?_; refine vv (.bool false) 37 rfl rfl (ex_pkF rfl rfl rfl) ?_; refine vm (.bool false) 38 rfl rfl rfl rfl ?_; refine vn 39 rfl rfl ?_; refine vn 40 rfl rfl ?_; refine vn 41 rfl rfl ?_; refine vv (.bool false) 42 rfl rfl (ex_pkF rfl rfl rfl) ?_; refine vm (.bool false) 43 rfl rfl rfl rfl ?_; refine vn 44 rfl rfl ?_; refine vn 45 rfl rfl ?_
          refine vn 46 rfl rfl ?_; refine vv (.bool false) 47 rfl rfl (ex_pkF rfl rfl rfl) ?_; refine vg (.bool false) 2 rfl rfl rfl rfl ?_; refine st_end ?_; subst hQ; refine wp_ret ?_
          repeat (first | refine ret_out ?_ | refine ret_blk ?_)
          refine bodyPost_ret (results_tmp Try.results68 _ _ _) rfl ⟨?_, E⟩
          show Ending.returned (.bool false) = _
          simp [mayE', e0, e1, e2, e3]
      · skip
        refine vv (.bool false) 14 rfl rfl (ex_bin (u := (.int .i64 e.fr)) (r := (.int .i64 0)) rfl rfl rfl (eg3 _ _ _ _ _ _) (geq3 _ (decide_eq_false (by omega)))) ?_; refine vv (.bool false) 15 rfl rfl (ex_pkT rfl rfl rfl) ?_; refine vm (.bool false) 16 rfl rfl rfl rfl ?_; refine vn 17 rfl rfl ?_; refine vn 18 rfl rfl ?_; refine vn 19 rfl rfl ?_; refine vv (.bool false) 20 rfl rfl (ex_pkF rfl rfl rfl) ?_; refine vm (.bool false) 21 rfl rfl rfl rfl ?_; refine vn 22 rfl rfl ?_; refine vn 23 rfl rfl ?_; refine vn 24 rfl rfl ?_; refine vv (.bool false) 25 rfl rfl (ex_pkF rfl rfl rfl) ?_
        refine vm (.bool false) 26 rfl rfl rfl rfl ?_; refine vn 27 rfl rfl ?_; refine vn 28 rfl rfl ?_; refine vn 29 rfl rfl ?_; refine vv (.bool false) 30 rfl rfl (ex_pkF rfl rfl rfl) ?_; refine vm (.bool false) 31 rfl rfl rfl rfl ?_; refine vn 32 rfl rfl ?_; refine vn 33 rfl rfl ?_; refine vn 34 rfl rfl ?_; refine vn 35 rfl rfl ?_; refine vn 36 rfl rfl ?_; refine vv (.bool false) 37 rfl rfl (ex_pkF rfl rfl rfl) ?_; refine vm (.bool false) 38 rfl rfl rfl rfl ?_; refine vn 39 rfl rfl ?_; refine vn 40 rfl rfl ?_; refine vn 41 rfl rfl ?_
        refine vv (.bool false) 42 rfl rfl (ex_pkF rfl rfl rfl) ?_; refine vm (.bool false) 43 rfl rfl rfl rfl ?_; refine vn 44 rfl rfl ?_; refine vn 45 rfl rfl ?_; refine vn 46 rfl rfl ?_; refine vv (.bool false) 47 rfl rfl (ex_pkF rfl rfl rfl) ?_; refine vg (.bool false) 2 rfl rfl rfl rfl ?_; refine st_end ?_; subst hQ; refine wp_ret ?_
        repeat (first | refine ret_out ?_ | refine ret_blk ?_)
        refine bodyPost_ret (results_tmp Try.results68 _ _ _) rfl ⟨?_, E⟩
        show Ending.returned (.bool false) = _
        simp [mayE', e0, e1, e2]
    · skip
      refine vv (.bool false) 9 rfl rfl (ex_bin (u := (.int .i64 e.ch)) (r := (.int .i64 65535)) rfl rfl rfl (eg3 _ _ _ _ _ _) (leq3 _ (decide_eq_false (by omega)))) ?_; refine vv (.bool false) 10 rfl rfl (ex_pkT rfl rfl rfl) ?_; refine vm (.bool false) 11 rfl rfl rfl rfl ?_; refine vn 12 rfl rfl ?_; refine vn 13 rfl rfl ?_; refine vn 14 rfl rfl ?_; refine vv (.bool false) 15 rfl rfl (ex_pkF rfl rfl rfl) ?_; refine vm (.bool false) 16 rfl rfl rfl rfl ?_; refine vn 17 rfl rfl ?_; refine vn 18 rfl rfl ?_; refine vn 19 rfl rfl ?_; refine vv (.bool false) 20 rfl rfl (ex_pkF rfl rfl rfl) ?_
      refine vm (.bool false) 21 rfl rfl rfl rfl ?_; refine vn 22 rfl rfl ?_; refine vn 23 rfl rfl ?_; refine vn 24 rfl rfl ?_; refine vv (.bool false) 25 rfl rfl (ex_pkF rfl rfl rfl) ?_; refine vm (.bool false) 26 rfl rfl rfl rfl ?_; refine vn 27 rfl rfl ?_; refine vn 28 rfl rfl ?_; refine vn 29 rfl rfl ?_; refine vv (.bool false) 30 rfl rfl (ex_pkF rfl rfl rfl) ?_; refine vm (.bool false) 31 rfl rfl rfl rfl ?_; refine vn 32 rfl rfl ?_; refine vn 33 rfl rfl ?_; refine vn 34 rfl rfl ?_; refine vn 35 rfl rfl ?_; refine vn 36 rfl rfl ?_
      refine vv (.bool false) 37 rfl rfl (ex_pkF rfl rfl rfl) ?_; refine vm (.bool false) 38 rfl rfl rfl rfl ?_; refine vn 39 rfl rfl ?_; refine vn 40 rfl rfl ?_; refine vn 41 rfl rfl ?_; refine vv (.bool false) 42 rfl rfl (ex_pkF rfl rfl rfl) ?_; refine vm (.bool false) 43 rfl rfl rfl rfl ?_; refine vn 44 rfl rfl ?_; refine vn 45 rfl rfl ?_; refine vn 46 rfl rfl ?_; refine vv (.bool false) 47 rfl rfl (ex_pkF rfl rfl rfl) ?_; refine vg (.bool false) 2 rfl rfl rfl rfl ?_; refine st_end ?_; subst hQ; refine wp_ret ?_
      repeat (first | refine ret_out ?_ | refine ret_blk ?_)
      refine bodyPost_ret (results_tmp Try.results68 _ _ _) rfl ⟨?_, E⟩
      show Ending.returned (.bool false) = _
      simp [mayE', e0, e1]
  · skip
    refine vv (.bool false) 5 rfl rfl (ex_bin (u := (.int .i64 e.ch)) (r := (.int .i64 1)) rfl rfl rfl (eg3 _ _ _ _ _ _) (geq3 _ (decide_eq_false (by omega)))) ?_; refine vm (.bool false) 6 rfl rfl rfl rfl ?_; refine vn 7 rfl rfl ?_; refine vn 8 rfl rfl ?_; refine vn 9 rfl rfl ?_; refine vv (.bool false) 10 rfl rfl (ex_pkF rfl rfl rfl) ?_; refine vm (.bool false) 11 rfl rfl rfl rfl ?_; refine vn 12 rfl rfl ?_; refine vn 13 rfl rfl ?_; refine vn 14 rfl rfl ?_; refine vv (.bool false) 15 rfl rfl (ex_pkF rfl rfl rfl) ?_; refine vm (.bool false) 16 rfl rfl rfl rfl ?_; refine vn 17 rfl rfl ?_
    refine vn 18 rfl rfl ?_; refine vn 19 rfl rfl ?_; refine vv (.bool false) 20 rfl rfl (ex_pkF rfl rfl rfl) ?_; refine vm (.bool false) 21 rfl rfl rfl rfl ?_; refine vn 22 rfl rfl ?_; refine vn 23 rfl rfl ?_; refine vn 24 rfl rfl ?_; refine vv (.bool false) 25 rfl rfl (ex_pkF rfl rfl rfl) ?_; refine vm (.bool false) 26 rfl rfl rfl rfl ?_; refine vn 27 rfl rfl ?_; refine vn 28 rfl rfl ?_; refine vn 29 rfl rfl ?_; refine vv (.bool false) 30 rfl rfl (ex_pkF rfl rfl rfl) ?_; refine vm (.bool false) 31 rfl rfl rfl rfl ?_; refine vn 32 rfl rfl ?_; refine vn 33 rfl rfl ?_
    refine vn 34 rfl rfl ?_; refine vn 35 rfl rfl ?_; refine vn 36 rfl rfl ?_; refine vv (.bool false) 37 rfl rfl (ex_pkF rfl rfl rfl) ?_; refine vm (.bool false) 38 rfl rfl rfl rfl ?_; refine vn 39 rfl rfl ?_; refine vn 40 rfl rfl ?_; refine vn 41 rfl rfl ?_; refine vv (.bool false) 42 rfl rfl (ex_pkF rfl rfl rfl) ?_; refine vm (.bool false) 43 rfl rfl rfl rfl ?_; refine vn 44 rfl rfl ?_; refine vn 45 rfl rfl ?_; refine vn 46 rfl rfl ?_; refine vv (.bool false) 47 rfl rfl (ex_pkF rfl rfl rfl) ?_; refine vg (.bool false) 2 rfl rfl rfl rfl ?_; refine st_end ?_; subst hQ; refine wp_ret ?_
    repeat (first | refine ret_out ?_ | refine ret_blk ?_)
    refine bodyPost_ret (results_tmp Try.results68 _ _ _) rfl ⟨?_, E⟩
    show Ending.returned (.bool false) = _
    simp [mayE', e0]
set_option maxHeartbeats 8000000 in
theorem rfnd_any {x N : Nat} {ao : Option Addr} {n c : Nat} {L : List EV} {ch fr : Int} (w : World) (kx : w.heap[x]? = some (.cells #[.slice ao n c] 74)) (hL : Es w N ao L) (hn : n = L.length) (hn2 : n ≤ 64) : Calls Try.prog 69 #[.pointer (some ⟨x, 0, none⟩), .int .i64 ch, .int .i64 fr] w fun e w' => e = .returned (.int .i64 (idxN ch fr L)) ∧ Below w.heap.size w w' := by
  have kw := kx
  have E : Below w.heap.size w w := Below.refl _ _
  go_enter Try.func69, Try.ntmps69; refine wq fun Q hQ => ?_; refine vg (.int .i64 0) 6 rfl rfl rfl rfl ?_; refine st_end ?_; subst hQ; refine wp_seq ?_; refine wq fun Q hQ => ?_; refine vg (.int .i64 0) 7 rfl rfl rfl rfl ?_; refine st_end ?_; subst hQ; refine wp_block ?_
  go_loopw [7] (fun v7 wr => ∃ i : Nat, i ≤ n ∧ v7 = .int .i64 i ∧ atE ch fr L = (atE ch fr (L.drop i)).map (· + i) ∧ Below w.heap.size w wr) (fun v7 _ => n - (intOf v7).toNat)
  case atStart => exact ⟨0, Nat.zero_le _, rfl, by simp, E⟩
  case round =>
    clear E; obtain ⟨i, hi, rfl, hj, E⟩ := hrel; replace kx := keep E kw
    by_cases hlt : i < n
    · rcases hL with h | ⟨b, off, rfl, hbN, hcur, h⟩
      · rw [h] at hn; simp at hn; omega
      obtain ⟨d, hd⟩ : ∃ d, L[i]? = some d := ⟨L[i]'(by omega), List.getElem?_eq_getElem (by omega)⟩; have hr := range_below (range_at h hd) E
      by_cases e0 : d.ch = ch
      · by_cases e1 : d.fr = fr
        · skip
          refine wp_seq ?_; refine wq fun Q hQ => ?_; refine vm (.int .i64 (i : Nat)) 8 rfl rfl rfl rfl ?_; refine vm (Pz x 0) 9 rfl rfl rfl rfl ?_; refine vv (Pz x 0) 10 rfl rfl (ex_nil (p := (Pz x 0)) rfl rfl rfl) ?_; refine vv (Pz x 0) 11 rfl rfl (ex_fa (p := (Pz x 0)) rfl rfl (fa74_0 _ _)) ?_; refine vv (.slice (some ⟨b, off, none⟩) n c) 12 rfl rfl (ex_load (p := (Pz x 0)) rfl rfl (ld33 (at_cell kx rfl))) ?_; refine vv (.int .i64 (n : Nat)) 13 rfl rfl (ex_len rfl rfl (len33 _ _ _ _ _)) ?_
          refine vv (.bool true) 14 rfl rfl (ex_bin (u := (.int .i64 (i : Nat))) (r := (.int .i64 (n : Nat))) rfl rfl rfl (eg3 _ _ _ _ _ _) (lss3 _ (decide_eq_true (by omega)))) ?_; refine st_end ?_; subst hQ; refine wp_cond_true rfl ?_; refine wp_skip ?_; refine wp_seq ?_; refine wp_block ?_; refine wq fun Q hQ => ?_; refine vm (Pz x 0) 17 rfl rfl rfl rfl ?_; refine vv (Pz x 0) 18 rfl rfl (ex_nil (p := (Pz x 0)) rfl rfl rfl) ?_; refine vv (Pz x 0) 19 rfl rfl (ex_fa (p := (Pz x 0)) rfl rfl (fa74_0 _ _)) ?_
          refine vv (.slice (some ⟨b, off, none⟩) n c) 20 rfl rfl (ex_load (p := (Pz x 0)) rfl rfl (ld33 (at_cell kx rfl))) ?_; refine vm (.int .i64 (i : Nat)) 21 rfl rfl rfl rfl ?_; refine vv (.pointer (some ⟨b, (off + i * 13), none⟩)) 22 rfl rfl (ix33 (k := i) rfl rfl rfl (rfl) (hlt)) ?_; refine vv (.pointer (some ⟨b, (off + i * 13), none⟩)) 23 rfl rfl (ex_fa (p := (.pointer (some ⟨b, (off + i * 13), none⟩))) rfl rfl (fg49_0 _ _ _)) ?_; refine vv (.int .i64 d.ch) 24 rfl rfl (ex_load rfl rfl (ld3 (hr 0 _ rfl))) ?_; refine vm (.int .i64 ch) 25 rfl rfl rfl rfl ?_
          refine vv (.bool true) 26 rfl rfl (ex_bin (u := (.int .i64 d.ch)) (r := (.int .i64 ch)) rfl rfl rfl (eg3 _ _ _ _ _ _) (eql3 _ (decide_eq_true e0))) ?_; refine vm (.bool true) 27 rfl rfl rfl rfl ?_; refine vm (Pz x 0) 28 rfl rfl rfl rfl ?_; refine vv (Pz x 0) 29 rfl rfl (ex_nil (p := (Pz x 0)) rfl rfl rfl) ?_; refine vv (Pz x 0) 30 rfl rfl (ex_fa (p := (Pz x 0)) rfl rfl (fa74_0 _ _)) ?_; refine vv (.slice (some ⟨b, off, none⟩) n c) 31 rfl rfl (ex_load (p := (Pz x 0)) rfl rfl (ld33 (at_cell kx rfl))) ?_; refine vm (.int .i64 (i : Nat)) 32 rfl rfl rfl rfl ?_
          refine vv (.pointer (some ⟨b, (off + i * 13), none⟩)) 33 rfl rfl (ix33 (k := i) rfl rfl rfl (rfl) (hlt)) ?_; refine vv (.pointer (some ⟨b, ((off + i * 13) + 1), none⟩)) 34 rfl rfl (ex_fa (p := (.pointer (some ⟨b, (off + i * 13), none⟩))) rfl rfl (fg49_1 _ _ _)) ?_; refine vv (.int .i64 d.fr) 35 rfl rfl (ex_load rfl rfl (ld3 (hr 1 _ rfl))) ?_; refine vm (.int .i64 fr) 36 rfl rfl rfl rfl ?_; refine vv (.bool true) 37 rfl rfl (ex_bin (u := (.int .i64 d.fr)) (r := (.int .i64 fr)) rfl rfl rfl (eg3 _ _ _ _ _ _) (eql3 _ (decide_eq_true e1))) ?_
          refine vv (.bool true) 38 rfl rfl (ex_pkT rfl rfl rfl) ?_; refine st_end ?_; subst hQ; refine wp_cond_true rfl ?_; refine wq fun Q hQ => ?_; refine vm (.int .i64 (i : Nat)) 39 rfl rfl rfl rfl ?_; refine vg (.int .i64 (i : Nat)) 6 rfl rfl rfl rfl ?_; refine st_end ?_; subst hQ; refine wp_ret ?_
          repeat (first | refine ret_out ?_ | refine ret_blk ?_)
          refine bodyPost_ret (results_tmp Try.results69 _ _ _) rfl ⟨?_, E⟩
          show Ending.returned (.int .i64 (i : Nat)) = _
          unfold idxN
          rw [at_here hd hj (by omega)]
        · skip
          refine wp_seq ?_; refine wq fun Q hQ => ?_; refine vm (.int .i64 (i : Nat)) 8 rfl rfl rfl rfl ?_; refine vm (Pz x 0) 9 rfl rfl rfl rfl ?_; refine vv (Pz x 0) 10 rfl rfl (ex_nil (p := (Pz x 0)) rfl rfl rfl) ?_; refine vv (Pz x 0) 11 rfl rfl (ex_fa (p := (Pz x 0)) rfl rfl (fa74_0 _ _)) ?_; refine vv (.slice (some ⟨b, off, none⟩) n c) 12 rfl rfl (ex_load (p := (Pz x 0)) rfl rfl (ld33 (at_cell kx rfl))) ?_; refine vv (.int .i64 (n : Nat)) 13 rfl rfl (ex_len rfl rfl (len33 _ _ _ _ _)) ?_
          refine vv (.bool true) 14 rfl rfl (ex_bin (u := (.int .i64 (i : Nat))) (r := (.int .i64 (n : Nat))) rfl rfl rfl (eg3 _ _ _ _ _ _) (lss3 _ (decide_eq_true (by omega)))) ?_; refine st_end ?_; subst hQ; refine wp_cond_true rfl ?_; refine wp_skip ?_; refine wp_seq ?_; refine wp_block ?_; refine wq fun Q hQ => ?_; refine vm (Pz x 0) 17 rfl rfl rfl rfl ?_; refine vv (Pz x 0) 18 rfl rfl (ex_nil (p := (Pz x 0)) rfl rfl rfl) ?_; refine vv (Pz x 0) 19 rfl rfl (ex_fa (p := (Pz x 0)) rfl rfl (fa74_0 _ _)) ?_
          refine vv (.slice (some ⟨b, off, none⟩) n c) 20 rfl rfl (ex_load (p := (Pz x 0)) rfl rfl (ld33 (at_cell kx rfl))) ?_; refine vm (.int .i64 (i : Nat)) 21 rfl rfl rfl rfl ?_; refine vv (.pointer (some ⟨b, (off + i * 13), none⟩)) 22 rfl rfl (ix33 (k := i) rfl rfl rfl (rfl) (hlt)) ?_; refine vv (.pointer (some ⟨b, (off + i * 13), none⟩)) 23 rfl rfl (ex_fa (p := (.pointer (some ⟨b, (off + i * 13), none⟩))) rfl rfl (fg49_0 _ _ _)) ?_; refine vv (.int .i64 d.ch) 24 rfl rfl (ex_load rfl rfl (ld3 (hr 0 _ rfl))) ?_; refine vm (.int .i64 ch) 25 rfl rfl rfl rfl ?_
          refine vv (.bool true) 26 rfl rfl (ex_bin (u := (.int .i64 d.ch)) (r := (.int .i64 ch)) rfl rfl rfl (eg3 _ _ _ _ _ _) (eql3 _ (decide_eq_true e0))) ?_; refine vm (.bool true) 27 rfl rfl rfl rfl ?_; refine vm (Pz x 0) 28 rfl rfl rfl rfl ?_; refine vv (Pz x 0) 29 rfl rfl (ex_nil (p := (Pz x 0)) rfl rfl rfl) ?_; refine vv (Pz x 0) 30 rfl rfl (ex_fa (p := (Pz x 0)) rfl rfl (fa74_0 _ _)) ?_; refine vv (.slice (some ⟨b, off, none⟩) n c) 31 rfl rfl (ex_load (p := (Pz x 0)) rfl rfl (ld33 (at_cell kx rfl))) ?_; refine vm (.int .i64 (i : Nat)) 32 rfl rfl rfl rfl ?_
          refine vv (.pointer (some ⟨b, (off + i * 13), none⟩)) 33 rfl rfl (ix33 (k := i) rfl rfl rfl (rfl) (hlt)) ?_; refine vv (.pointer (some ⟨b, ((off + i * 13) + 1), none⟩)) 34 rfl rfl (ex_fa (p := (.pointer (some ⟨b, (off + i * 13), none⟩))) rfl rfl (fg49_1 _ _ _)) ?_; refine vv (.int .i64 d.fr) 35 rfl rfl (ex_load rfl rfl (ld3 (hr 1 _ rfl))) ?_; refine vm (.int .i64 fr) 36 rfl rfl rfl rfl ?_; refine vv (.bool false) 37 rfl rfl (ex_bin (u := (.int .i64 d.fr)) (r := (.int .i64 fr)) rfl rfl rfl (eg3 _ _ _ _ _ _) (eql3 _ (decide_eq_false e1))) ?_
          refine vv (.bool false) 38 rfl rfl (ex_pkT rfl rfl rfl) ?_; refine st_end ?_; subst hQ; refine wp_cond_false rfl ?_; refine wp_skip ?_; refine wl_in (wl_cap fun Q hQ => ?_); refine vm (.int .i64 (i : Nat)) 15 rfl rfl rfl rfl ?_; refine vv (.int .i64 ((i + 1 : Nat) : Int)) 16 rfl rfl (ex_bin rfl rfl rfl (eg3 _ _ _ _ _ _) (add3 _ (by omega) (by omega))) ?_; refine vg (.int .i64 ((i + 1 : Nat) : Int)) 7 rfl rfl rfl rfl ?_; refine st_end ?_; subst hQ; refine then_go ?_
          first | (go_big_round; refine ⟨?rel, ?measure⟩) | (refine ⟨?_, ?measure⟩; (repeat apply Exists.intro); refine ⟨?rel, rfl⟩)
          case rel => exact ⟨i + 1, by omega, rfl, at_next hd hj (by omega), E⟩
          case measure => simp [intOf]; omega
      · skip
        refine wp_seq ?_; refine wq fun Q hQ => ?_; refine vm (.int .i64 (i : Nat)) 8 rfl rfl rfl rfl ?_; refine vm (Pz x 0) 9 rfl rfl rfl rfl ?_; refine vv (Pz x 0) 10 rfl rfl (ex_nil (p := (Pz x 0)) rfl rfl rfl) ?_; refine vv (Pz x 0) 11 rfl rfl (ex_fa (p := (Pz x 0)) rfl rfl (fa74_0 _ _)) ?_; refine vv (.slice (some ⟨b, off, none⟩) n c) 12 rfl rfl (ex_load (p := (Pz x 0)) rfl rfl (ld33 (at_cell kx rfl))) ?_; refine vv (.int .i64 (n : Nat)) 13 rfl rfl (ex_len rfl rfl (len33 _ _ _ _ _)) ?_
        refine vv (.bool true) 14 rfl rfl (ex_bin (u := (.int .i64 (i : Nat))) (r := (.int .i64 (n : Nat))) rfl rfl rfl (eg3 _ _ _ _ _ _) (lss3 _ (decide_eq_true (by omega)))) ?_; refine st_end ?_; subst hQ; refine wp_cond_true rfl ?_; refine wp_skip ?_; refine wp_seq ?_; refine wp_block ?_; refine wq fun Q hQ => ?_; refine vm (Pz x 0) 17 rfl rfl rfl rfl ?_; refine vv (Pz x 0) 18 rfl rfl (ex_nil (p := (Pz x 0)) rfl rfl rfl) ?_; refine vv (Pz x 0) 19 rfl rfl (ex_fa (p := (Pz x 0)) rfl rfl (fa74_0 _ _)) ?_
        refine vv (.slice (some ⟨b, off, none⟩) n c) 20 rfl rfl (ex_load (p := (Pz x 0)) rfl rfl (ld33 (at_cell kx rfl))) ?_; refine vm (.int .i64 (i : Nat)) 21 rfl rfl rfl rfl ?_; refine vv (.pointer (some ⟨b, (off + i * 13), none⟩)) 22 rfl rfl (ix33 (k := i) rfl rfl rfl (rfl) (hlt)) ?_; refine vv (.pointer (some ⟨b, (off + i * 13), none⟩)) 23 rfl rfl (ex_fa (p := (.pointer (some ⟨b, (off + i * 13), none⟩))) rfl rfl (fg49_0 _ _ _)) ?_; refine vv (.int .i64 d.ch) 24 rfl rfl (ex_load rfl rfl (ld3 (hr 0 _ rfl))) ?_; refine vm (.int .i64 ch) 25 rfl rfl rfl rfl ?_
        refine vv (.bool false) 26 rfl rfl (ex_bin (u := (.int .i64 d.ch)) (r := (.int .i64 ch)) rfl rfl rfl (eg3 _ _ _ _ _ _) (eql3 _ (decide_eq_false e0))) ?_; refine vm (.bool false) 27 rfl rfl rfl rfl ?_; refine vn 28 rfl rfl ?_; refine vn 29 rfl rfl ?_; refine vn 30 rfl rfl ?_; refine vn 31 rfl rfl ?_; refine vn 32 rfl rfl ?_; refine vn 33 rfl rfl ?_; refine vn 34 rfl rfl ?_; refine vn 35 rfl rfl ?_; refine vn 36 rfl rfl ?_; refine vn 37 rfl rfl ?_; refine vv (.bool false) 38 rfl rfl (ex_pkF rfl rfl rfl) ?_; refine st_end ?_; subst hQ; refine wp_cond_false rfl ?_; refine wp_skip ?_
        refine wl_in (wl_cap fun Q hQ => ?_); refine vm (.int .i64 (i : Nat)) 15 rfl rfl rfl rfl ?_; refine vv (.int .i64 ((i + 1 : Nat) : Int)) 16 rfl rfl (ex_bin rfl rfl rfl (eg3 _ _ _ _ _ _) (add3 _ (by omega) (by omega))) ?_; refine vg (.int .i64 ((i + 1 : Nat) : Int)) 7 rfl rfl rfl rfl ?_; refine st_end ?_; subst hQ; refine then_go ?_
        first | (go_big_round; refine ⟨?rel, ?measure⟩) | (refine ⟨?_, ?measure⟩; (repeat apply Exists.intro); refine ⟨?rel, rfl⟩)
        case rel => exact ⟨i + 1, by omega, rfl, at_next hd hj (by omega), E⟩
        case measure => simp [intOf]; omega
    · have hin : i = n := by omega
      subst i; refine wp_seq ?_; refine wq fun Q hQ => ?_; refine vm (.int .i64 (n : Nat)) 8 rfl rfl rfl rfl ?_; refine vm (Pz x 0) 9 rfl rfl rfl rfl ?_; refine vv (Pz x 0) 10 rfl rfl (ex_nil (p := (Pz x 0)) rfl rfl rfl) ?_; refine vv (Pz x 0) 11 rfl rfl (ex_fa (p := (Pz x 0)) rfl rfl (fa74_0 _ _)) ?_; refine vv (.slice ao n c) 12 rfl rfl (ex_load (p := (Pz x 0)) rfl rfl (ld33 (at_cell kx rfl))) ?_; refine vv (.int .i64 (n : Nat)) 13 rfl rfl (ex_len rfl rfl (len33 _ _ _ _ _)) ?_
      refine vv (.bool false) 14 rfl rfl (ex_bin (u := (.int .i64 (n : Nat))) (r := (.int .i64 (n : Nat))) rfl rfl rfl (eg3 _ _ _ _ _ _) (lss3 _ (decide_eq_false (by omega)))) ?_; refine st_end ?_; subst hQ; refine wp_cond_false rfl ?_; refine wp_exit ?_; refine ex_then ?_; refine ex_then ?_; refine ex_blk ?_; refine wq fun Q hQ => ?_; refine vg (.int .i64 (-1)) 6 rfl rfl rfl rfl ?_; refine st_end ?_; subst hQ; refine wp_ret ?_; refine bodyPost_ret (results_tmp Try.results69 _ _ _) rfl ⟨?_, E⟩
      unfold idxN
      subst hn; rw [at_end hj]
      rfl
set_option maxHeartbeats 4000000 in
theorem rget_yes {x N n c b off j : Nat} {d : EV} {L : List EV} {ch fr : Int} (w : World) (kx : w.heap[x]? = some (.cells #[.slice (some ⟨b, off, none⟩) n c] 74)) (hL : Es w N (some ⟨b, off, none⟩) L) (hn : n = L.length) (hn2 : n ≤ 64) (hj : atE ch fr L = some j) (hd : L[j]? = some d) : Calls Try.prog 31 #[.pointer (some ⟨x, 0, none⟩), .int .i64 ch, .int .i64 fr] w fun e w' => e = .returned (.tuple #[.agg (EL d), .bool true]) ∧ Below w.heap.size w w' := by
  have hjl : j < n := by rw [hn]; exact (List.getElem?_eq_some_iff.1 hd).1
  have hr : w.rangeAt b off (cE L) := by
    rcases hL with q | ⟨b', off', q, _, _, hr⟩
    · rw [q] at hd; simp at hd
    · cases q; exact hr
  have E : Below w.heap.size w w := Below.refl _ _
  go_enter Try.func31, Try.ntmps31; refine wq fun Q hQ => ?_; refine st_new (fun b => .pointer (some ⟨b, 0, none⟩)) (some 6) rfl rfl (ex_alloc rfl zero49) ?_; intro b21 W1 k21 g21 B; simp only [zp]
  have ne_b21_x : b21 ≠ x := fun e => by have := lt_of kx; omega
  have ge_b21 := Nat.le_trans E.size g21; replace E := below_next E B; replace kx := keep B kx; replace hL := hL.keepB B; clear B; refine vg (.bool false) 7 rfl rfl rfl rfl ?_; refine st_end ?_; subst hQ; refine wp_seq ?_; refine wq fun Q hQ => ?_; refine vm (Pz x 0) 9 rfl rfl rfl rfl ?_; refine vm (.int .i64 ch) 10 rfl rfl rfl rfl ?_; refine vm (.int .i64 fr) 11 rfl rfl rfl rfl ?_
  refine st_call (some 12) rfl rfl ((rfnd_any (ch := ch) (fr := fr) W1 kx hL hn hn2).mono (fun _ _ h => by unfold idxN at h; rw [hj] at h; exact h)) (ex_call (f := 69) (vs := [(Pz x 0), (.int .i64 ch), (.int .i64 fr)]) rfl (cf69 _) rfl) ?_; rintro e W2 ⟨rfl, B⟩; refine ⟨_, rfl, ?_⟩; simp only [zp]; replace E := below_next E B; replace kx := keep B kx; replace hL := hL.keepB B; replace k21 := keep B k21; refine vg (.int .i64 (j : Nat)) 8 rfl rfl rfl rfl ?_; refine st_end ?_; subst hQ; refine wq fun Q hQ => ?_; refine vm (.int .i64 (j : Nat)) 13 rfl rfl rfl rfl ?_
  refine vv (.bool true) 14 rfl rfl (ex_bin (u := (.int .i64 (j : Nat))) (r := (.int .i64 0)) rfl rfl rfl (eg3 _ _ _ _ _ _) (geq3 _ (decide_eq_true (by omega)))) ?_; refine st_end ?_; subst hQ; refine wp_cond_true rfl ?_; refine wq fun Q hQ => ?_; refine vm (Pz x 0) 15 rfl rfl rfl rfl ?_; refine vv (Pz x 0) 16 rfl rfl (ex_nil (p := (Pz x 0)) rfl rfl rfl) ?_; refine vv (Pz x 0) 17 rfl rfl (ex_fa (p := (Pz x 0)) rfl rfl (fa74_0 _ _)) ?_; refine vv (.slice (some ⟨b, off, none⟩) n c) 18 rfl rfl (ex_load (p := (Pz x 0)) rfl rfl (ld33 (at_cell kx rfl))) ?_
  refine vm (.int .i64 (j : Nat)) 19 rfl rfl rfl rfl ?_; refine vv (.pointer (some ⟨b, (off + j * 13), none⟩)) 20 rfl rfl (ix33 (k := j) rfl rfl rfl (rfl) (hjl)) ?_; refine vv (.agg (EL d)) 21 rfl rfl (ex_load rfl rfl (ld_range (range_below (range_at hr hd) E) Try.underlying49 rfl inf49)) ?_; obtain ⟨W3, hst, kn, K⟩ := put_all (D := (EL d)) k21 rfl inf49 (by kernel_rfl); refine st_sk rfl rfl (ex_store rfl rfl rfl hst) ?_; replace E := below_put E ge_b21 K; replace kx := keepK K kx (fun e => ne_tag kx k21 (by decide) e); replace hL := hL; replace k21 := kn; clear kn K hst
  refine vg (.bool true) 7 rfl rfl rfl rfl ?_; refine st_end ?_; subst hQ; refine wp_ret ?_
  repeat (first | refine ret_out ?_ | refine ret_blk ?_)
  exact bodyPost_ret (res_ct Try.results31 _ _ _ _ rfl k21 Try.underlying49 rfl inf49) rfl ⟨rfl, E⟩
set_option maxHeartbeats 4000000 in
theorem rget_no {x N n c  : Nat} {ao : Option Addr} {L : List EV} {ch fr : Int} (w : World) (kx : w.heap[x]? = some (.cells #[.slice ao n c] 74)) (hL : Es w N ao L) (hn : n = L.length) (hn2 : n ≤ 64) (hj : atE ch fr L = none) : Calls Try.prog 31 #[.pointer (some ⟨x, 0, none⟩), .int .i64 ch, .int .i64 fr] w fun e w' => e = .returned (.tuple #[.agg (EL NE), .bool false]) ∧ Below w.heap.size w w' := by
  have E : Below w.heap.size w w := Below.refl _ _
  go_enter Try.func31, Try.ntmps31; refine wq fun Q hQ => ?_; refine st_new (fun b => .pointer (some ⟨b, 0, none⟩)) (some 6) rfl rfl (ex_alloc rfl zero49) ?_; intro b21 W1 k21 g21 B; simp only [zp]
  have ne_b21_x : b21 ≠ x := fun e => by have := lt_of kx; omega
  have ge_b21 := Nat.le_trans E.size g21; replace E := below_next E B; replace kx := keep B kx; replace hL := hL.keepB B; clear B; refine vg (.bool false) 7 rfl rfl rfl rfl ?_; refine st_end ?_; subst hQ; refine wp_seq ?_; refine wq fun Q hQ => ?_; refine vm (Pz x 0) 9 rfl rfl rfl rfl ?_; refine vm (.int .i64 ch) 10 rfl rfl rfl rfl ?_; refine vm (.int .i64 fr) 11 rfl rfl rfl rfl ?_
  refine st_call (some 12) rfl rfl ((rfnd_any (ch := ch) (fr := fr) W1 kx hL hn hn2).mono (fun _ _ h => by unfold idxN at h; rw [hj] at h; exact h)) (ex_call (f := 69) (vs := [(Pz x 0), (.int .i64 ch), (.int .i64 fr)]) rfl (cf69 _) rfl) ?_; rintro e W2 ⟨rfl, B⟩; refine ⟨_, rfl, ?_⟩; simp only [zp]; replace E := below_next E B; replace kx := keep B kx; replace hL := hL.keepB B; replace k21 := keep B k21; refine vg (.int .i64 (-1)) 8 rfl rfl rfl rfl ?_; refine st_end ?_; subst hQ; refine wq fun Q hQ => ?_; refine vm (.int .i64 (-1)) 13 rfl rfl rfl rfl ?_
  refine vv (.bool false) 14 rfl rfl (ex_bin (u := (.int .i64 (-1))) (r := (.int .i64 0)) rfl rfl rfl (eg3 _ _ _ _ _ _) (geq3 _ (by decide))) ?_; refine st_end ?_; subst hQ; refine wp_cond_false rfl ?_; refine wp_skip ?_; refine wq fun Q hQ => ?_; refine vv (.agg #[.int .i64 0, .int .i64 0, .int .i64 0, .int .i64 0, .int .i64 0, .int .i64 0, .int .i64 0, .int .i64 0, .int .i64 0, .int .i64 0, .int .i64 0, .int .i64 0, .int .i64 0]) 22 rfl rfl (ex_build0  rfl (bEd0 _)) ?_
  obtain ⟨W3, hst, kn, K⟩ := put_all (D := #[.int .i64 0, .int .i64 0, .int .i64 0, .int .i64 0, .int .i64 0, .int .i64 0, .int .i64 0, .int .i64 0, .int .i64 0, .int .i64 0, .int .i64 0, .int .i64 0, .int .i64 0]) k21 rfl inf49 (by kernel_rfl); refine st_sk rfl rfl (ex_store rfl rfl rfl hst) ?_; replace E := below_put E ge_b21 K; replace kx := keepK K kx (fun e => ne_tag kx k21 (by decide) e); replace hL := hL; replace k21 := kn; clear kn K hst; refine vg (.bool false) 7 rfl rfl rfl rfl ?_; refine st_end ?_; subst hQ; refine wp_ret ?_
  repeat (first | refine ret_out ?_ | refine ret_blk ?_)
  exact bodyPost_ret (res_ct Try.results31 _ _ _ _ rfl k21 Try.underlying49 rfl inf49) rfl ⟨rfl, E⟩
theorem rqget_any {x : Nat} {v : Value} {L : List EV} {ch fr : Int} (w : World) (hR : Rq w x v L) (hI : GI L) : Calls Try.prog 31 #[.pointer (some ⟨x, 0, none⟩), .int .i64 ch, .int .i64 fr] w fun q w' => q = .returned (.tuple #[.agg (EL (getN L ch fr).1), .bool (getN L ch fr).2]) ∧ Below w.heap.size w w' := by
  obtain ⟨ao, c, rfl, hc, hL⟩ := own_Ev hR.2 rfl
  unfold getN
  cases hj : atE ch fr L with
  | some j =>
    obtain ⟨d, hd, hk⟩ := at_some hj; simp only [hd]
    rcases own_or hR.2 with ⟨_, q⟩ | ⟨b, c', q⟩
    · have := (List.getElem?_eq_some_iff.1 hd).1
      omega
    · cases q
      exact rget_yes w hR.1 hL rfl hI.n hj hd
  | none => exact rget_no w hR.1 hL rfl hI.n hj
end Go.Proofs.Ytgnkcmmpbohafaa

/- Cuts of any list of edges, what is added behind a row of one's own, wherever it lies; four that may come up. -/
namespace Go.Proofs.Ytgnkcmmpbohafaa
open Go.RowKit
set_option linter.unusedVariables false
set_option linter.unusedSimpArgs false
set_option maxRecDepth 100000
section
variable {md : Region.Mode} {ops : Array Oper} {Q : Exit → Act → World → Prop} {S : World → Prop} {fuel : Nat} {L : Array Bool} {a : Act} {w : World} {i j k l : Nat}
theorem ah_or4 (hr : Region.ready md ops L = [i, j, k, l]) (h1 : Nx md ops Q S fuel L i a w) (h2 : Nx md ops Q S fuel L j a w) (h3 : Nx md ops Q S fuel L k a w) (h4 : Nx md ops Q S fuel L l a w) : wpAnyH Try.prog md ops Q S (fuel + 1) L a w :=
  wpAnyH_all hr (by simp) fun m hm => by
    rcases List.mem_cons.1 hm with rfl | hm
    · exact h1
    rcases List.mem_cons.1 hm with rfl | hm
    · exact h2
    rcases List.mem_cons.1 hm with rfl | hm
    · exact h3
    · rw [List.mem_singleton.1 hm]; exact h4
end
theorem nrm_blk {Q : Exit → Act → World → Prop} {a : Act} {w : World} {i : Nat} (h : Q .normal a w) : Exit.inBlock i Q .normal a w := h
/-- where a list is cut -/
def cutA (ao : Option Addr) (k c : Nat) : Option Addr := match ao with
  | none => none
  | some a => some ⟨a.block, if c = k then a.off else a.off + k * 13, a.spot⟩
section
variable {o : Oper} {a : Act} {W : World}
theorem ex_cuthA {x y : Operand} {ao : Option Addr} {n c k : Nat} {l : Int} (hv : ao = none → c = 0) (hs : ∀ ad, ao = some ad → ad.spot = none) (ho : o.op = .slice 33 x none (some y) none) (hx : a.eval x = .slice ao n c) (hy : a.eval y = .int .i64 l) (hl : l = (k : Int)) (hk : k ≤ c) : (execOp a.eval o).run Try.prog W = .ok (.value (.slice ao k c)) W := by
  cases ao with
  | some ad =>
    obtain ⟨b, p, sp⟩ := ad; obtain rfl : sp = none := hs _ rfl; exact ex_cuth ho hx hy hl hk
  | none =>
    obtain rfl : c = 0 := hv rfl
    obtain rfl : k = 0 := by omega
    subst hl
    unfold execOp
    simp only [ho, Option.map_some, Option.map_none, hx, hy]
    go_simp
theorem ex_cutlA {x y : Operand} {ao : Option Addr} {n c k : Nat} {l : Int} (hv : ao = none → c = 0) (hs : ∀ ad, ao = some ad → ad.spot = none) (ho : o.op = .slice 33 x (some y) none none) (hx : a.eval x = .slice ao n c) (hy : a.eval y = .int .i64 l) (hl : l = (k : Int)) (hk : k ≤ n) (hn : n ≤ c) : (execOp a.eval o).run Try.prog W = .ok (.value (.slice (cutA ao k c) (n - k) (c - k))) W := by
  cases ao with
  | some ad =>
    obtain ⟨b, p, sp⟩ := ad; obtain rfl : sp = none := hs _ rfl; exact ex_cutl ho hx hy hl hk hn
  | none =>
    obtain rfl : c = 0 := hv rfl
    obtain rfl : n = 0 := by omega
    obtain rfl : k = 0 := by omega
    subst hl
    unfold execOp
    simp only [ho, Option.map_some, Option.map_none, hx, hy, cutA]
    go_simp
end
/-- m edges, as cells, lie there -/
def Src (W : World) (ao : Option Addr) (m : Nat) (D : List Value) : Prop := (m = 0 ∧ D = []) ∨ ∃ xb xo, ao = some ⟨xb, xo, none⟩ ∧ W.rangeAt xb xo D
theorem Es.src {W : World} {N n : Nat} {ao : Option Addr} {L : List EV} {k : Nat} (h : Es W N ao L) (hn : n = L.length) (hk : k ≤ n) : Src W ao k (cE (L.take k)) := by
  rcases h with h | ⟨b, o, e, _, _, hr⟩
  · subst h
    simp at hn
    exact .inl ⟨by omega, by simp [cE]⟩
  · exact .inr ⟨b, o, e, range_take hr (by omega)⟩
theorem Es.srcd {W : World} {N n c : Nat} {ao : Option Addr} {L : List EV} {k : Nat} (h : Es W N ao L) (hn : n = L.length) (hk : k ≤ n) (hc : n ≤ c) : Src W (cutA ao k c) (n - k) (cE (L.drop k)) := by
  rcases h with h | ⟨b, o, e, _, _, hr⟩
  · subst h
    simp at hn
    exact .inl ⟨by omega, by simp [cE]⟩
  · by_cases hq : k = n
    · refine .inl ⟨by omega, ?_⟩
      rw [hq, hn, List.drop_length]
      rfl
    · subst e
      refine .inr ⟨b, o + k * 13, ?_, range_drop hr (by omega)⟩
      unfold cutA
      dsimp only
      rw [if_neg (by omega)]
theorem src_box {W : World} {b : Nat} {e : EV} (k : W.heap[b]? = some (.cells (EL e) 49)) : Src W (some ⟨b, 0, none⟩) 1 (EL e).toList := .inr ⟨b, 0, rfl, at_range (o := 0) (n := 13) k (by show 0 + 13 ≤ _; simp [EL])⟩
/-- what is added behind a row of one's own -/
theorem own_src {W : World} {base n m c c0 gb : Nat} {ao : Option Addr} {xs D : List Value} (h : W.ownsRow base 49 13 (.slice (some ⟨gb, 0, none⟩) n c0) n xs) (hD : Src W ao m D) (hl : D.length = m * 13) (h1 : ∀ u ∈ D, u.oneCell' = true) (hn : n + m ≤ 200) (hbase : base ≤ W.heap.size) :
    ∃ g' cap' W', (Builtin.append_ #[33, 33] 33 #[.slice (some ⟨gb, 0, none⟩) n c0, .slice ao m c]).run Try.prog W = .ok (.slice (some ⟨g', 0, none⟩) (n + m) cap') W' ∧ W'.ownsRow base 49 13 (.slice (some ⟨g', 0, none⟩) (n + m) cap') (n + m) (xs ++ D) ∧ Kept (· = gb) W W' := by
  have hnc : n ≤ c0 := by
    obtain ⟨ao, cc, q, hc, _⟩ := own_form h
    cases q
    exact hc
  by_cases hm : m = 0
  · subst hm
    obtain rfl : D = [] := List.eq_nil_of_length_eq_zero (by omega); obtain ⟨i0, hi, hz0, hz1, hz2⟩ := info_parts Try.inf49b; refine ⟨gb, c0, W, ?_, by rw [List.append_nil]; exact h, Kept.refl _ _⟩
    cases ao <;> simp [Builtin.append_, run_underlying Try.underlying33, sizeOf, typeInfo, hi, hz1, Builtin.lenOf, Builtin.firstCells, hnc, loadCells, loadCellsFrom, storeCells]
  · rcases hD with ⟨q, _⟩ | ⟨xb, xo, rfl, hD⟩
    · exact absurd q hm
    · exact own_more h hD hl h1 hn hbase
theorem pos_stop {ch fr : Int} {L : List EV} {k : Nat} {d : EV} (hd : L[k]? = some d) (h : posE ch fr L = k + posE ch fr (L.drop k)) (hk : ¬ ordN d ch fr < 0) : posE ch fr L = k := by
  obtain ⟨hi, hd⟩ := List.getElem?_eq_some_iff.1 hd; rw [h, List.drop_eq_getElem_cons hi, hd]
  unfold posE
  rw [if_neg hk]
  rfl
theorem pos_next {ch fr : Int} {L : List EV} {k : Nat} {d : EV} (hd : L[k]? = some d) (h : posE ch fr L = k + posE ch fr (L.drop k)) (hk : ordN d ch fr < 0) : posE ch fr L = (k + 1) + posE ch fr (L.drop (k + 1)) := by
  obtain ⟨hi, hd⟩ := List.getElem?_eq_some_iff.1 hd; rw [List.drop_eq_getElem_cons hi, hd, (show posE ch fr (d :: L.drop (k + 1)) = if ordN d ch fr < 0 then posE ch fr (L.drop (k + 1)) + 1 else 0 from rfl), if_pos hk] at h
  omega
theorem pos_last {ch fr : Int} {L : List EV} (h : posE ch fr L = L.length + posE ch fr (L.drop L.length)) : posE ch fr L = L.length := by
  rw [h, List.drop_length]
  rfl
theorem pos_end {ch fr : Int} {L : List EV} {n k : Nat} (hn : n = L.length) (hk : k = n) (h : posE ch fr L = k + posE ch fr (L.drop k)) : posE ch fr L = k := by
  subst hk hn; exact pos_last h
theorem range_kept {w W : World} {b o : Nat} {C : List Value} (h : Kept Nil w W) (hr : w.rangeAt b o C) : W.rangeAt b o C := fun j v hv => by
  have hc := hr j v hv
  have hb : W.heap[b]? = w.heap[b]? := h.block b (block_lt_of_cell hc) (nilN _)
  exact (cell_blk hb _).trans hc
end Go.Proofs.Ytgnkcmmpbohafaa

/- The document's graph: an edge is set, taken away, learnt of. -/
namespace Go.Proofs.Ytgnkcmmpbohafaa
open Go.RowKit
set_option linter.unusedVariables false
set_option linter.unusedSimpArgs false
set_option maxRecDepth 100000

set_option maxHeartbeats 16000000 in
theorem rset_there {x b c j : Nat} {L : List EV} {d e : EV} (w : World) (kx : w.heap[x]? = some (.cells #[.slice (some ⟨b, 0, none⟩) L.length c] 74)) (hO : w.ownsRow 0 49 13 (.slice (some ⟨b, 0, none⟩) L.length c) L.length (cE L)) (hn2 : L.length ≤ 64) (hj : atE e.ch e.fr L = some j) (hd : L[j]? = some d) (hm : mayE e = true) : Calls Try.prog 28 #[.pointer (some ⟨x, 0, none⟩), .agg (EL e)] w fun q w' => q = .returned (.int .i64 0) ∧ w'.heap[x]? = some (.cells #[.slice (some ⟨b, 0, none⟩) L.length c] 74) ∧ w'.ownsRow 0 49 13 (.slice (some ⟨b, 0, none⟩) L.length c) L.length (cE (L.set j e)) ∧ Kept (· = b) w w' := by
  have hjl : j < L.length := (List.getElem?_eq_some_iff.1 hd).1
  obtain ⟨curb, kb⟩ := own_blk hO
  have E : Kept (· = b) w w := Kept.refl _ _
  go_enter Try.func28, Try.ntmps28; refine wq fun Q hQ => ?_; refine st_new (fun b => .pointer (some ⟨b, 0, none⟩)) (some 3) rfl rfl (ex_box rfl rfl) ?_; intro b21 W1 k21 g21 B; simp only [zp]
  have ne_b21_x : b21 ≠ x := fun e => by have := lt_of kx; omega
  have ne_b21_b : b21 ≠ b := fun e => by have := lt_of kb; omega
  have ge_b21 := Nat.le_trans E.size g21; replace E := E.next B; replace kx := keep B kx; replace kb := keep B kb; replace hO := own_keep hO B; clear B; refine vg (.int .i64 0) 4 rfl rfl rfl rfl ?_; refine st_end ?_; subst hQ; refine wp_seq ?_; refine wq fun Q hQ => ?_; refine vv (.agg (EL e)) 7 rfl rfl (ex_load (p := (Pz b21 0)) rfl rfl (ld_all k21 Try.underlying49 rfl inf49)) ?_; refine st_call (some 8) rfl rfl (redge_any W1 hm) (ex_call (f := 68) (vs := [(.agg (EL e))]) rfl (cf68 _) rfl) ?_; rintro e W2 ⟨rfl, B⟩; refine ⟨_, rfl, ?_⟩; simp only [zp]; replace E := E.next B
  replace kx := keep B kx; replace kb := keep B kb; replace hO := own_keep hO B; replace k21 := keep B k21; refine vv (.bool false) 9 rfl rfl (ex_not rfl rfl rfl) ?_; refine st_end ?_; subst hQ; refine wp_cond_false rfl ?_; refine wp_skip ?_; refine wp_seq ?_; refine wq fun Q hQ => ?_; refine vm (Pz x 0) 10 rfl rfl rfl rfl ?_; refine vv (Pz b21 0) 11 rfl rfl (ex_fa (p := (Pz b21 0)) rfl rfl (fa49_0 _ _)) ?_; refine vv (.int .i64 e.ch) 12 rfl rfl (ex_load (p := (Pz b21 0)) rfl rfl (ld3 (at_cell k21 rfl))) ?_; refine vv (Pz b21 1) 13 rfl rfl (ex_fa (p := (Pz b21 0)) rfl rfl (fa49_1 _ _)) ?_
  refine vv (.int .i64 e.fr) 14 rfl rfl (ex_load (p := (Pz b21 1)) rfl rfl (ld3 (at_cell k21 rfl))) ?_; refine st_call (some 15) rfl rfl ((rfnd_any (ch := e.ch) (fr := e.fr) W2 kx (own_Es hO) rfl hn2).mono (fun _ _ h => by unfold idxN at h; rw [hj] at h; exact h)) (ex_call (f := 69) (vs := [(Pz x 0), (.int .i64 e.ch), (.int .i64 e.fr)]) rfl (cf69 _) rfl) ?_; rintro e W3 ⟨rfl, B⟩; refine ⟨_, rfl, ?_⟩; simp only [zp]; replace E := E.next B; replace kx := keep B kx; replace kb := keep B kb; replace hO := own_keep hO B; replace k21 := keep B k21
  refine vg (.int .i64 (j : Nat)) 5 rfl rfl rfl rfl ?_; refine st_end ?_; subst hQ; refine wq fun Q hQ => ?_; refine vm (.int .i64 (j : Nat)) 16 rfl rfl rfl rfl ?_; refine vv (.bool true) 17 rfl rfl (ex_bin (u := (.int .i64 (j : Nat))) (r := (.int .i64 0)) rfl rfl rfl (eg3 _ _ _ _ _ _) (geq3 _ (decide_eq_true (by omega)))) ?_; refine st_end ?_; subst hQ; refine wp_cond_true rfl ?_; refine wp_seq ?_; obtain ⟨W4, hwd⟩ : ∃ wd, W3.drew = wd := ⟨_, rfl⟩
  refine wp_region_held (S := fun W => Kept (· = b) W4 W) (by kernel_rfl) ?_
  show wpAnyH _ _ _ _ _ _ _ _ W3.drew
  rw [hwd]; refine capQ fun Q hQ => ?_
  have hQP : ∀ c (a : Act) (d : Nat) v w, Q (.panic c) (a.put (some d) v) w → Q (.panic c) a w := by
    subst hQ; exact fun _ _ _ _ _ h => h
  have BD : Below W3.heap.size W3 W4 := by rw [← hwd]; exact below_drewB (Below.refl _ _)
  clear hwd; replace E := E.next BD; replace kx := keep BD kx; replace kb := keep BD kb; replace hO := own_keep hO BD; replace k21 := keep BD k21; clear BD
  have S : Kept (· = b) W4 W4 := Kept.refl _ _
  have d_kx := kx; have d_kb := kb; have d_k21 := k21; have d_hO := hO; refine tk (Pz x 0) 0 18 rfl rfl rfl (fun W hK => ex_mv rfl rfl) S hQP ?_; refine tk (Pz x 0) 1 19 rfl rfl rfl (fun W hK => ex_nil (p := (Pz x 0)) rfl rfl rfl) S hQP ?_; refine tk (Pz x 0) 2 20 rfl rfl rfl (fun W hK => ex_fa (p := (Pz x 0)) rfl rfl (fa74_0 _ _)) S hQP ?_; refine tk (.slice (some ⟨b, 0, none⟩) L.length c) 3 21 rfl rfl rfl (fun W hK => ex_load (p := (Pz x 0)) rfl rfl (ld33 (at_cell (keepK hK d_kx (fun e => ne_tag d_kx d_kb (by decide) e)) rfl))) S hQP ?_
  refine tk (.int .i64 (j : Nat)) 4 22 rfl rfl rfl (fun W hK => ex_mv rfl rfl) S hQP ?_; refine tk (.agg (EL e)) 5 23 rfl rfl rfl (fun W hK => ex_load (p := (Pz b21 0)) rfl rfl (ld_all (keepK hK d_k21 (fun e => by first | exact ne_b21_b e | exact ne_b_b21 e.symm)) Try.underlying49 rfl inf49)) S hQP ?_; refine tk (.pointer (some ⟨b, (0 + j * 13), none⟩)) 6 24 rfl rfl rfl (fun W hK => ix33 (k := j) rfl rfl rfl (rfl) (hjl)) S hQP ?_; refine ah_or1 (i := 7) (by kernel_rfl) ?_; obtain ⟨W5, hst, hO2, K⟩ := own_put (e := e) hO rfl hjl
  refine nx_sk rfl rfl rfl (ex_store rfl rfl rfl hst) (S.putX K) ?_; replace E := E.putX K; replace kx := keepK K kx (fun e => ne_tag kx kb (by decide) e); replace k21 := keepK K k21 (fun e => by first | exact ne_b21_b e | exact ne_b_b21 e.symm); replace S := S.putX K; clear K hst; refine ah_done (by kernel_rfl) ?_; clear hQP; subst hQ; clear S d_kx d_kb d_k21 d_hO; refine wq fun Q hQ => ?_; refine vg (.int .i64 0) 4 rfl rfl rfl rfl ?_; refine st_end ?_; subst hQ; refine wp_ret ?_
  repeat (first | refine ret_out ?_ | refine ret_blk ?_)
  exact bodyPost_ret (results_tmp Try.results28 _ _ _) rfl ⟨rfl, kx, hO2, E⟩
set_option maxHeartbeats 16000000 in
theorem rlrn_yes {x b c j : Nat} {L : List EV} {d : EV} {ch fr a t : Int} {gd : Bool} (w : World) (kx : w.heap[x]? = some (.cells #[.slice (some ⟨b, 0, none⟩) L.length c] 74)) (hO : w.ownsRow 0 49 13 (.slice (some ⟨b, 0, none⟩) L.length c) L.length (cE L)) (hn2 : L.length ≤ 64) (hj : atE ch fr L = some j) (hd : L[j]? = some d) (a1 : -9223372036854775808 ≤ a) (a2 : a ≤ 9223372036854775807) : Calls Try.prog 30 #[.pointer (some ⟨x, 0, none⟩), .int .i64 ch, .int .i64 fr, .int .i64 a, .int .i64 t, .bool gd] w fun q w' => q = .returned (.int .i64 0) ∧ w'.heap[x]? = some (.cells #[.slice (some ⟨b, 0, none⟩) L.length c] 74) ∧ w'.ownsRow 0 49 13 (.slice (some ⟨b, 0, none⟩) L.length c) L.length (cE (L.set j { d with p := lrnN d.p a t gd })) ∧ Kept (· = b) w w' := by
  have hjl : j < L.length := (List.getElem?_eq_some_iff.1 hd).1
  obtain ⟨curb, kb⟩ := own_blk hO
  have E : Kept (· = b) w w := Kept.refl _ _
  go_enter Try.func30, Try.ntmps30; refine wq fun Q hQ => ?_; refine vg (.int .i64 0) 12 rfl rfl rfl rfl ?_; refine st_end ?_; subst hQ; refine wq fun Q hQ => ?_; refine vm (Pz x 0) 14 rfl rfl rfl rfl ?_; refine vm (.int .i64 ch) 15 rfl rfl rfl rfl ?_; refine vm (.int .i64 fr) 16 rfl rfl rfl rfl ?_; refine st_call (some 17) rfl rfl ((rfnd_any (ch := ch) (fr := fr) w kx (own_Es hO) rfl hn2).mono (fun _ _ h => by unfold idxN at h; rw [hj] at h; exact h)) (ex_call (f := 69) (vs := [(Pz x 0), (.int .i64 ch), (.int .i64 fr)]) rfl (cf69 _) rfl) ?_; rintro e W1 ⟨rfl, B⟩; refine ⟨_, rfl, ?_⟩
  simp only [zp]; replace E := E.next B; replace kx := keep B kx; replace kb := keep B kb; replace hO := own_keep hO B; refine vg (.int .i64 (j : Nat)) 13 rfl rfl rfl rfl ?_; refine st_end ?_; subst hQ; refine wp_seq ?_; refine wq fun Q hQ => ?_; refine vm (.int .i64 (j : Nat)) 18 rfl rfl rfl rfl ?_; refine vv (.bool false) 19 rfl rfl (ex_bin (u := (.int .i64 (j : Nat))) (r := (.int .i64 0)) rfl rfl rfl (eg3 _ _ _ _ _ _) (lss3 _ (decide_eq_false (by omega)))) ?_; refine st_end ?_; subst hQ; refine wp_cond_false rfl ?_; refine wp_skip ?_; refine wp_seq ?_
  obtain ⟨W2, hwd⟩ : ∃ wd, W1.drew = wd := ⟨_, rfl⟩
  refine wp_region_held (S := fun W => Kept (· = b) W2 W) (by kernel_rfl) ?_
  show wpAnyH _ _ _ _ _ _ _ _ W1.drew
  rw [hwd]; refine capQ fun Q hQ => ?_
  have hQP : ∀ c (a : Act) (d : Nat) v w, Q (.panic c) (a.put (some d) v) w → Q (.panic c) a w := by
    subst hQ; exact fun _ _ _ _ _ h => h
  have BD : Below W1.heap.size W1 W2 := by rw [← hwd]; exact below_drewB (Below.refl _ _)
  clear hwd; replace E := E.next BD; replace kx := keep BD kx; replace kb := keep BD kb; replace hO := own_keep hO BD; clear BD
  have S : Kept (· = b) W2 W2 := Kept.refl _ _
  have d_kx := kx; have d_kb := kb; have d_hO := hO; refine tk (Pz x 0) 0 20 rfl rfl rfl (fun W hK => ex_mv rfl rfl) S hQP ?_; refine tk (Pz x 0) 1 21 rfl rfl rfl (fun W hK => ex_nil (p := (Pz x 0)) rfl rfl rfl) S hQP ?_; refine tk (Pz x 0) 2 22 rfl rfl rfl (fun W hK => ex_fa (p := (Pz x 0)) rfl rfl (fa74_0 _ _)) S hQP ?_; refine tk (.slice (some ⟨b, 0, none⟩) L.length c) 3 23 rfl rfl rfl (fun W hK => ex_load (p := (Pz x 0)) rfl rfl (ld33 (at_cell (keepK hK d_kx (fun e => ne_tag d_kx d_kb (by decide) e)) rfl))) S hQP ?_
  refine tk (.int .i64 (j : Nat)) 4 24 rfl rfl rfl (fun W hK => ex_mv rfl rfl) S hQP ?_; refine tk (Pz x 0) 5 25 rfl rfl rfl (fun W hK => ex_mv rfl rfl) S hQP ?_; refine tk (Pz x 0) 6 26 rfl rfl rfl (fun W hK => ex_nil (p := (Pz x 0)) rfl rfl rfl) S hQP ?_; refine tk (Pz x 0) 7 27 rfl rfl rfl (fun W hK => ex_fa (p := (Pz x 0)) rfl rfl (fa74_0 _ _)) S hQP ?_; refine tk (.slice (some ⟨b, 0, none⟩) L.length c) 8 28 rfl rfl rfl (fun W hK => ex_load (p := (Pz x 0)) rfl rfl (ld33 (at_cell (keepK hK d_kx (fun e => ne_tag d_kx d_kb (by decide) e)) rfl))) S hQP ?_
  refine tk (.int .i64 (j : Nat)) 9 29 rfl rfl rfl (fun W hK => ex_mv rfl rfl) S hQP ?_; refine tk (.pointer (some ⟨b, (0 + j * 13), none⟩)) 10 30 rfl rfl rfl (fun W hK => ix33 (k := j) rfl rfl rfl (rfl) (hjl)) S hQP ?_; refine tk (.pointer (some ⟨b, ((0 + j * 13) + 9), none⟩)) 11 31 rfl rfl rfl (fun W hK => ex_fa (p := (.pointer (some ⟨b, (0 + j * 13), none⟩))) rfl rfl (fg49_5 _ _ _)) S hQP ?_; refine tk (.int .i64 a) 13 33 rfl rfl rfl (fun W hK => ex_mv rfl rfl) S hQP ?_; refine tk (.int .i64 t) 14 34 rfl rfl rfl (fun W hK => ex_mv rfl rfl) S hQP ?_
  refine tk (.bool gd) 15 35 rfl rfl rfl (fun W hK => ex_mv rfl rfl) S hQP ?_; refine ah_or1 (i := 12) (by kernel_rfl) ?_; refine nx_to (v := (.agg (PL d.p))) (some 32) rfl rfl rfl (ex_load rfl rfl (ld_range (rng_past (own_rng hO) hd) Try.underlying47 rfl inf47)) S ?_; simp only [zp]; refine ah_or1 (i := 16) (by kernel_rfl) ?_; refine nx_call (some 36) rfl rfl rfl (rlearn_any a t gd W2 a1 a2) (ex_call (f := 70) (vs := [(.agg (PL d.p)), (.int .i64 a), (.int .i64 t), (.bool gd)]) rfl (cf70 _) rfl) ?_; rintro e W3 ⟨rfl, B⟩; refine ⟨_, rfl, S.next B, ?_⟩; simp only [zp]; replace E := E.next B
  replace kx := keep B kx; replace kb := keep B kb; replace hO := own_keep hO B; replace S := S.next B; refine tk (.pointer (some ⟨b, (0 + j * 13), none⟩)) 17 37 rfl rfl rfl (fun W hK => ix33 (k := j) rfl rfl rfl (rfl) (hjl)) S hQP ?_; refine tk (.pointer (some ⟨b, ((0 + j * 13) + 9), none⟩)) 18 38 rfl rfl rfl (fun W hK => ex_fa (p := (.pointer (some ⟨b, (0 + j * 13), none⟩))) rfl rfl (fg49_5 _ _ _)) S hQP ?_; refine ah_or1 (i := 19) (by kernel_rfl) ?_; obtain ⟨W4, hst, hO2, K⟩ := own_pst (p := lrnN d.p a t gd) hO rfl hd; refine nx_sk rfl rfl rfl (ex_store rfl rfl rfl hst) (S.putX K) ?_
  replace E := E.putX K; replace kx := keepK K kx (fun e => ne_tag kx kb (by decide) e); replace S := S.putX K; clear K hst; refine ah_done (by kernel_rfl) ?_; clear hQP; subst hQ; clear S d_kx d_kb d_hO; refine wq fun Q hQ => ?_; refine vg (.int .i64 0) 12 rfl rfl rfl rfl ?_; refine st_end ?_; subst hQ; refine wp_ret ?_
  repeat (first | refine ret_out ?_ | refine ret_blk ?_)
  exact bodyPost_ret (results_tmp Try.results30 _ _ _) rfl ⟨rfl, kx, hO2, E⟩
set_option maxHeartbeats 4000000 in
theorem rlrn_no {x N n c : Nat} {ao : Option Addr} {L : List EV} {ch fr a t : Int} {gd : Bool} (w : World) (kx : w.heap[x]? = some (.cells #[.slice ao n c] 74)) (hL : Es w N ao L) (hn : n = L.length) (hn2 : n ≤ 64) (hj : atE ch fr L = none) : Calls Try.prog 30 #[.pointer (some ⟨x, 0, none⟩), .int .i64 ch, .int .i64 fr, .int .i64 a, .int .i64 t, .bool gd] w fun e w' => e = .returned (.int .i64 4) ∧ Below w.heap.size w w' := by
  have E : Below w.heap.size w w := Below.refl _ _
  go_enter Try.func30, Try.ntmps30; refine wq fun Q hQ => ?_; refine vg (.int .i64 0) 12 rfl rfl rfl rfl ?_; refine st_end ?_; subst hQ; refine wq fun Q hQ => ?_; refine vm (Pz x 0) 14 rfl rfl rfl rfl ?_; refine vm (.int .i64 ch) 15 rfl rfl rfl rfl ?_; refine vm (.int .i64 fr) 16 rfl rfl rfl rfl ?_; refine st_call (some 17) rfl rfl ((rfnd_any (ch := ch) (fr := fr) w kx hL hn hn2).mono (fun _ _ h => by unfold idxN at h; rw [hj] at h; exact h)) (ex_call (f := 69) (vs := [(Pz x 0), (.int .i64 ch), (.int .i64 fr)]) rfl (cf69 _) rfl) ?_; rintro e W1 ⟨rfl, B⟩; refine ⟨_, rfl, ?_⟩; simp only [zp]
  replace E := below_next E B; replace kx := keep B kx; replace hL := hL.keepB B; refine vg (.int .i64 (-1)) 13 rfl rfl rfl rfl ?_; refine st_end ?_; subst hQ; refine wp_seq ?_; refine wq fun Q hQ => ?_; refine vm (.int .i64 (-1)) 18 rfl rfl rfl rfl ?_; refine vv (.bool true) 19 rfl rfl (ex_bin (u := (.int .i64 (-1))) (r := (.int .i64 0)) rfl rfl rfl (eg3 _ _ _ _ _ _) (lss3 _ (by decide))) ?_; refine st_end ?_; subst hQ; refine wp_cond_true rfl ?_; refine wq fun Q hQ => ?_; refine vg (.int .i64 4) 12 rfl rfl rfl rfl ?_; refine st_end ?_; subst hQ; refine wp_ret ?_
  repeat (first | refine ret_out ?_ | refine ret_blk ?_)
  exact bodyPost_ret (results_tmp Try.results30 _ _ _) rfl ⟨rfl, E⟩
set_option maxHeartbeats 4000000 in
theorem rrem_no {x N n c : Nat} {ao : Option Addr} {L : List EV} {ch fr : Int} (w : World) (kx : w.heap[x]? = some (.cells #[.slice ao n c] 74)) (hL : Es w N ao L) (hn : n = L.length) (hn2 : n ≤ 64) (hj : atE ch fr L = none) : Calls Try.prog 29 #[.pointer (some ⟨x, 0, none⟩), .int .i64 ch, .int .i64 fr] w fun e w' => e = .returned (.int .i64 4) ∧ Below w.heap.size w w' := by
  have E : Below w.heap.size w w := Below.refl _ _
  go_enter Try.func29, Try.ntmps29; refine wq fun Q hQ => ?_; refine vg (.int .i64 0) 6 rfl rfl rfl rfl ?_; refine st_end ?_; subst hQ; refine wq fun Q hQ => ?_; refine vm (Pz x 0) 8 rfl rfl rfl rfl ?_; refine vm (.int .i64 ch) 9 rfl rfl rfl rfl ?_; refine vm (.int .i64 fr) 10 rfl rfl rfl rfl ?_; refine st_call (some 11) rfl rfl ((rfnd_any (ch := ch) (fr := fr) w kx hL hn hn2).mono (fun _ _ h => by unfold idxN at h; rw [hj] at h; exact h)) (ex_call (f := 69) (vs := [(Pz x 0), (.int .i64 ch), (.int .i64 fr)]) rfl (cf69 _) rfl) ?_; rintro e W1 ⟨rfl, B⟩; refine ⟨_, rfl, ?_⟩; simp only [zp]
  replace E := below_next E B; replace kx := keep B kx; replace hL := hL.keepB B; refine vg (.int .i64 (-1)) 7 rfl rfl rfl rfl ?_; refine st_end ?_; subst hQ; refine wp_seq ?_; refine wq fun Q hQ => ?_; refine vm (.int .i64 (-1)) 12 rfl rfl rfl rfl ?_; refine vv (.bool true) 13 rfl rfl (ex_bin (u := (.int .i64 (-1))) (r := (.int .i64 0)) rfl rfl rfl (eg3 _ _ _ _ _ _) (lss3 _ (by decide))) ?_; refine st_end ?_; subst hQ; refine wp_cond_true rfl ?_; refine wq fun Q hQ => ?_; refine vg (.int .i64 4) 6 rfl rfl rfl rfl ?_; refine st_end ?_; subst hQ; refine wp_ret ?_
  repeat (first | refine ret_out ?_ | refine ret_blk ?_)
  exact bodyPost_ret (results_tmp Try.results29 _ _ _) rfl ⟨rfl, E⟩
set_option maxHeartbeats 4000000 in
theorem rset_arg {x N n c : Nat} {ao : Option Addr} {L : List EV} {e : EV} (w : World) (kx : w.heap[x]? = some (.cells #[.slice ao n c] 74)) (hL : Es w N ao L) (hn : n = L.length) (hn2 : n ≤ 64) (hm : mayE e = false) : Calls Try.prog 28 #[.pointer (some ⟨x, 0, none⟩), .agg (EL e)] w fun e w' => e = .returned (.int .i64 1) ∧ Below w.heap.size w w' := by
  have E : Below w.heap.size w w := Below.refl _ _
  go_enter Try.func28, Try.ntmps28; refine wq fun Q hQ => ?_; refine st_new (fun b => .pointer (some ⟨b, 0, none⟩)) (some 3) rfl rfl (ex_box rfl rfl) ?_; intro b21 W1 k21 g21 B; simp only [zp]
  have ne_b21_x : b21 ≠ x := fun e => by have := lt_of kx; omega
  have ge_b21 := Nat.le_trans E.size g21; replace E := below_next E B; replace kx := keep B kx; replace hL := hL.keepB B; clear B; refine vg (.int .i64 0) 4 rfl rfl rfl rfl ?_; refine st_end ?_; subst hQ; refine wp_seq ?_; refine wq fun Q hQ => ?_; refine vv (.agg (EL e)) 7 rfl rfl (ex_load (p := (Pz b21 0)) rfl rfl (ld_all k21 Try.underlying49 rfl inf49)) ?_; refine st_call (some 8) rfl rfl (redge_any W1 hm) (ex_call (f := 68) (vs := [(.agg (EL e))]) rfl (cf68 _) rfl) ?_; rintro e W2 ⟨rfl, B⟩; refine ⟨_, rfl, ?_⟩; simp only [zp]; replace E := below_next E B; replace kx := keep B kx
  replace hL := hL.keepB B; replace k21 := keep B k21; refine vv (.bool true) 9 rfl rfl (ex_not rfl rfl rfl) ?_; refine st_end ?_; subst hQ; refine wp_cond_true rfl ?_; refine wq fun Q hQ => ?_; refine vg (.int .i64 1) 4 rfl rfl rfl rfl ?_; refine st_end ?_; subst hQ; refine wp_ret ?_
  repeat (first | refine ret_out ?_ | refine ret_blk ?_)
  exact bodyPost_ret (results_tmp Try.results28 _ _ _) rfl ⟨rfl, E⟩
set_option maxHeartbeats 4000000 in
theorem rset_full {x N n c : Nat} {ao : Option Addr} {L : List EV} {e : EV} (w : World) (kx : w.heap[x]? = some (.cells #[.slice ao n c] 74)) (hL : Es w N ao L) (hn : n = L.length) (hn2 : n ≤ 64) (hj : atE e.ch e.fr L = none) (hm : mayE e = true) (hf : 64 ≤ n) : Calls Try.prog 28 #[.pointer (some ⟨x, 0, none⟩), .agg (EL e)] w fun e w' => e = .returned (.int .i64 2) ∧ Below w.heap.size w w' := by
  have E : Below w.heap.size w w := Below.refl _ _
  go_enter Try.func28, Try.ntmps28; refine wq fun Q hQ => ?_; refine st_new (fun b => .pointer (some ⟨b, 0, none⟩)) (some 3) rfl rfl (ex_box rfl rfl) ?_; intro b21 W1 k21 g21 B; simp only [zp]
  have ne_b21_x : b21 ≠ x := fun e => by have := lt_of kx; omega
  have ge_b21 := Nat.le_trans E.size g21; replace E := below_next E B; replace kx := keep B kx; replace hL := hL.keepB B; clear B; refine vg (.int .i64 0) 4 rfl rfl rfl rfl ?_; refine st_end ?_; subst hQ; refine wp_seq ?_; refine wq fun Q hQ => ?_; refine vv (.agg (EL e)) 7 rfl rfl (ex_load (p := (Pz b21 0)) rfl rfl (ld_all k21 Try.underlying49 rfl inf49)) ?_; refine st_call (some 8) rfl rfl (redge_any W1 hm) (ex_call (f := 68) (vs := [(.agg (EL e))]) rfl (cf68 _) rfl) ?_; rintro e W2 ⟨rfl, B⟩; refine ⟨_, rfl, ?_⟩; simp only [zp]; replace E := below_next E B; replace kx := keep B kx
  replace hL := hL.keepB B; replace k21 := keep B k21; refine vv (.bool false) 9 rfl rfl (ex_not rfl rfl rfl) ?_; refine st_end ?_; subst hQ; refine wp_cond_false rfl ?_; refine wp_skip ?_; refine wp_seq ?_; refine wq fun Q hQ => ?_; refine vm (Pz x 0) 10 rfl rfl rfl rfl ?_; refine vv (Pz b21 0) 11 rfl rfl (ex_fa (p := (Pz b21 0)) rfl rfl (fa49_0 _ _)) ?_; refine vv (.int .i64 e.ch) 12 rfl rfl (ex_load (p := (Pz b21 0)) rfl rfl (ld3 (at_cell k21 rfl))) ?_; refine vv (Pz b21 1) 13 rfl rfl (ex_fa (p := (Pz b21 0)) rfl rfl (fa49_1 _ _)) ?_
  refine vv (.int .i64 e.fr) 14 rfl rfl (ex_load (p := (Pz b21 1)) rfl rfl (ld3 (at_cell k21 rfl))) ?_; refine st_call (some 15) rfl rfl ((rfnd_any (ch := e.ch) (fr := e.fr) W2 kx hL hn hn2).mono (fun _ _ h => by unfold idxN at h; rw [hj] at h; exact h)) (ex_call (f := 69) (vs := [(Pz x 0), (.int .i64 e.ch), (.int .i64 e.fr)]) rfl (cf69 _) rfl) ?_; rintro e W3 ⟨rfl, B⟩; refine ⟨_, rfl, ?_⟩; simp only [zp]; replace E := below_next E B; replace kx := keep B kx; replace hL := hL.keepB B; replace k21 := keep B k21; refine vg (.int .i64 (-1)) 5 rfl rfl rfl rfl ?_; refine st_end ?_; subst hQ
  refine wq fun Q hQ => ?_; refine vm (.int .i64 (-1)) 16 rfl rfl rfl rfl ?_; refine vv (.bool false) 17 rfl rfl (ex_bin (u := (.int .i64 (-1))) (r := (.int .i64 0)) rfl rfl rfl (eg3 _ _ _ _ _ _) (geq3 _ (by decide))) ?_; refine st_end ?_; subst hQ; refine wp_cond_false rfl ?_; refine wp_skip ?_; refine wp_seq ?_; refine wq fun Q hQ => ?_; refine vm (Pz x 0) 25 rfl rfl rfl rfl ?_; refine vv (Pz x 0) 26 rfl rfl (ex_nil (p := (Pz x 0)) rfl rfl rfl) ?_; refine vv (Pz x 0) 27 rfl rfl (ex_fa (p := (Pz x 0)) rfl rfl (fa74_0 _ _)) ?_
  refine vv (.slice ao n c) 28 rfl rfl (ex_load (p := (Pz x 0)) rfl rfl (ld33 (at_cell kx rfl))) ?_; refine vv (.int .i64 (n : Nat)) 29 rfl rfl (ex_len rfl rfl (len33 _ _ _ _ _)) ?_; refine vv (.bool true) 30 rfl rfl (ex_bin (u := (.int .i64 (n : Nat))) (r := (.int .i64 64)) rfl rfl rfl (eg3 _ _ _ _ _ _) (geq3 _ (decide_eq_true (by omega)))) ?_; refine st_end ?_; subst hQ; refine wp_cond_true rfl ?_; refine wq fun Q hQ => ?_; refine vg (.int .i64 2) 4 rfl rfl rfl rfl ?_; refine st_end ?_; subst hQ; refine wp_ret ?_
  repeat (first | refine ret_out ?_ | refine ret_blk ?_)
  exact bodyPost_ret (results_tmp Try.results28 _ _ _) rfl ⟨rfl, E⟩
end Go.Proofs.Ytgnkcmmpbohafaa
