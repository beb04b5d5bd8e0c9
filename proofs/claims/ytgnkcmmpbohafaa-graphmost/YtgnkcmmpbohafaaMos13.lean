/- Some texts, in one. -/
import Derived.Test.YtgnkcmmpbohafaaMos12
/- The document's graph: edges that may be, where one is, what is told of one. -/
namespace Go.Proofs.Ytgnkcmmpbohafaa
open Go.RowKit
set_option linter.unusedVariables false
set_option linter.unusedSimpArgs false
set_option maxRecDepth 100000

def mayE' (e : EV) : Bool := decide (1 ≤ e.ch) && decide (e.ch ≤ 65535) && decide (0 ≤ e.fr) && decide (e.fr ≤ 7) && decide (0 ≤ e.to) && decide (e.to ≤ 7) && decide (¬ e.fr = e.to) && decide (0 ≤ e.cap) && mayR e.q
theorem mayE_eq (e : EV) : mayE' e = mayE e := by
  have h : ∀ x : Int, decide (x < 8) = decide (x ≤ 7) := fun x => decide_eq_decide.2 (by omega)
  unfold mayE' mayE chanB nodeB
  rw [h, h]; simp only [Bool.and_assoc]
/-- a document's graph: its box, and the row of its edges -/
def Rq (W : World) (x : Nat) (v : Value) (L : List EV) : Prop := W.heap[x]? = some (.cells #[v] 74) ∧ W.ownsRow 0 49 13 v L.length (cE L)
theorem Rq.keep {W W' : World} {x : Nat} {v : Value} {L : List EV} (h : Rq W x v L) (hB : Below W.heap.size W W') : Rq W' x v L := ⟨Proofs.Ytgnkcmmpbohafaa.keep hB h.1, own_keep h.2 hB⟩
theorem Rq.keepK {W W' : World} {F : Nat → Prop} {x : Nat} {v : Value} {L : List EV} (h : Rq W x v L) (hK : Kept F W W') (h1 : ¬ F x) (h2 : ∀ k, v.ownBlock = some k → ¬ F k) : Rq W' x v L := ⟨Proofs.Ytgnkcmmpbohafaa.keepK hK h.1 h1, own_keepK h.2 hK h2⟩
theorem Rq.ne {W : World} {x k T : Nat} {v : Value} {L : List EV} {C : Array Value} (h : Rq W x v L) (hk : W.heap[k]? = some (.cells C T)) (h1 : T ≠ 74) (h2 : T ≠ 49) : ¬ (k = x ∨ v.ownBlock = some k) := by
  rintro (e | e)
  · exact ne_tag hk h.1 h1 e
  · exact own_ne h.2 hk (fun q => h2 q.symm) e
theorem own_or {W : World} {base n : Nat} {v : Value} {xs : List Value} (h : W.ownsRow base 49 13 v n xs) : (v = .slice none 0 0 ∧ n = 0) ∨ ∃ b c, v = .slice (some ⟨b, 0, none⟩) n c := by
  rcases h.2 with ⟨e, q⟩ | ⟨g, cap, cur, e, _⟩
  · exact .inl ⟨e, q⟩
  · exact .inr ⟨g, cap, e⟩
theorem own_Ev {W : World} {base n : Nat} {v : Value} {L : List EV} (h : W.ownsRow base 49 13 v n (cE L)) (hn : n = L.length) : ∃ ao c, v = .slice ao n c ∧ n ≤ c ∧ Es W W.heap.size ao L := by
  rcases own_or h with ⟨rfl, q⟩ | ⟨b, c, rfl⟩
  · refine ⟨none, 0, by rw [q], by omega, .inl ?_⟩
    exact List.eq_nil_of_length_eq_zero (by omega)
  · obtain ⟨ao, cc, q, hc, _⟩ := own_form h
    cases q
    exact ⟨_, c, rfl, hc, own_Es h⟩
def idxN (ch fr : Int) (L : List EV) : Int := match atE ch fr L with
  | some j => (j : Int)
  | none => -1
theorem at_here {ch fr : Int} {L : List EV} {i : Nat} {d : EV} (hd : L[i]? = some d) (h : atE ch fr L = (atE ch fr (L.drop i)).map (· + i)) (hk : d.ch = ch ∧ d.fr = fr) : atE ch fr L = some i := by
  obtain ⟨hi, hd⟩ := List.getElem?_eq_some_iff.1 hd; rw [h, List.drop_eq_getElem_cons hi, hd]
  unfold atE
  rw [if_pos hk]
  simp
theorem at_next {ch fr : Int} {L : List EV} {i : Nat} {d : EV} (hd : L[i]? = some d) (h : atE ch fr L = (atE ch fr (L.drop i)).map (· + i)) (hk : ¬ (d.ch = ch ∧ d.fr = fr)) : atE ch fr L = (atE ch fr (L.drop (i + 1))).map (· + (i + 1)) := by
  obtain ⟨hi, hd⟩ := List.getElem?_eq_some_iff.1 hd; rw [List.drop_eq_getElem_cons hi, hd] at h
  rw [(show atE ch fr (d :: L.drop (i + 1)) = if d.ch = ch ∧ d.fr = fr then some 0 else (atE ch fr (L.drop (i + 1))).map (· + 1) from rfl), if_neg hk, Option.map_map] at h
  rw [h]
  congr 1
  funext k
  simp only [Function.comp]
  omega
theorem at_end {ch fr : Int} {L : List EV} (h : atE ch fr L = (atE ch fr (L.drop L.length)).map (· + L.length)) : atE ch fr L = none := by
  rw [h, List.drop_length]
  rfl
set_option maxHeartbeats 4000000 in
theorem rright_any {q : RV} (w : World) {c : Bool} (hc : rightB q.b q.r = c) : Calls Try.prog 104 #[.agg (FL q)] w fun e w' => e = .returned (.bool c) ∧ Below w.heap.size w w' := by
  subst hc
  have E : Below w.heap.size w w := Below.refl _ _
  go_enter Try.func104, Try.ntmps104; refine wq fun Q hQ => ?_; refine st_new (fun b => .pointer (some ⟨b, 0, none⟩)) (some 1) rfl rfl (ex_box rfl rfl) ?_; intro b1 W1 k1 g1 B; simp only [zp]; have ge_b1 := Nat.le_trans E.size g1; replace E := below_next E B; clear B; refine sg (.bool false) 2 rfl rfl rfl rfl ?_; simp only [zp]; refine st_end ?_; subst hQ; refine wq fun Q hQ => ?_; refine sv (.pointer (some ⟨b1, 0, none⟩)) 3 rfl rfl (ex_fa (p := (.pointer (some ⟨b1, 0, none⟩))) rfl rfl (fa43_0 _ _)) ?_; simp only [zp]
  refine sv (.int .i64 q.b) 4 rfl rfl (ex_load (p := (.pointer (some ⟨b1, 0, none⟩))) rfl rfl (ld3 (at_cell k1 rfl))) ?_; simp only [zp]
  by_cases e0 : 0 ≤ q.b
  · skip
    refine sv (.bool true) 5 rfl rfl (ex_bin (u := (.int .i64 q.b)) (r := (.int .i64 0)) rfl rfl rfl (eg3 _ _ _ _ _ _) (geq3 _ (decide_eq_true (by omega)))) ?_; simp only [zp]; refine sm (.bool true) 6 rfl rfl rfl rfl ?_; simp only [zp]; refine sv (.pointer (some ⟨b1, 1, none⟩)) 7 rfl rfl (ex_fa (p := (.pointer (some ⟨b1, 0, none⟩))) rfl rfl (fa43_1 _ _)) ?_; simp only [zp]; refine sv (.int .i64 q.r) 8 rfl rfl (ex_load (p := (.pointer (some ⟨b1, 1, none⟩))) rfl rfl (ld3 (at_cell k1 rfl))) ?_; simp only [zp]
    by_cases e1 : 0 ≤ q.r
    · skip
      refine sv (.bool true) 9 rfl rfl (ex_bin (u := (.int .i64 q.r)) (r := (.int .i64 0)) rfl rfl rfl (eg3 _ _ _ _ _ _) (geq3 _ (decide_eq_true (by omega)))) ?_; simp only [zp]; refine sv (.bool true) 10 rfl rfl (ex_pkT rfl rfl rfl) ?_; simp only [zp]; refine sm (.bool true) 11 rfl rfl rfl rfl ?_; simp only [zp]; refine sv (.pointer (some ⟨b1, 1, none⟩)) 12 rfl rfl (ex_fa (p := (.pointer (some ⟨b1, 0, none⟩))) rfl rfl (fa43_1 _ _)) ?_; simp only [zp]; refine sv (.int .i64 q.r) 13 rfl rfl (ex_load (p := (.pointer (some ⟨b1, 1, none⟩))) rfl rfl (ld3 (at_cell k1 rfl))) ?_; simp only [zp]
      by_cases e2 : q.r ≤ 1000000
      · skip
        refine sv (.bool true) 14 rfl rfl (ex_bin (u := (.int .i64 q.r)) (r := (.int .i64 1000000)) rfl rfl rfl (eg3 _ _ _ _ _ _) (leq3 _ (decide_eq_true (by omega)))) ?_; simp only [zp]; refine sv (.bool true) 15 rfl rfl (ex_pkT rfl rfl rfl) ?_; simp only [zp]; refine sg (.bool true) 2 rfl rfl rfl rfl ?_; simp only [zp]; refine st_end ?_; subst hQ; refine wp_ret ?_
        repeat (first | refine ret_out ?_ | refine ret_blk ?_)
        refine bodyPost_ret (results_tmp Try.results104 _ _ _) rfl ⟨?_, E⟩
        show Ending.returned (.bool true) = _
        simp [rightB, e0, e1, e2]
      · skip
        refine sv (.bool false) 14 rfl rfl (ex_bin (u := (.int .i64 q.r)) (r := (.int .i64 1000000)) rfl rfl rfl (eg3 _ _ _ _ _ _) (leq3 _ (decide_eq_false (by omega)))) ?_; simp only [zp]; refine sv (.bool false) 15 rfl rfl (ex_pkT rfl rfl rfl) ?_; simp only [zp]; refine sg (.bool false) 2 rfl rfl rfl rfl ?_; simp only [zp]; refine st_end ?_; subst hQ; refine wp_ret ?_
        repeat (first | refine ret_out ?_ | refine ret_blk ?_)
        refine bodyPost_ret (results_tmp Try.results104 _ _ _) rfl ⟨?_, E⟩
        show Ending.returned (.bool false) = _
        simp [rightB, e0, e1, e2]
    · skip
      refine sv (.bool false) 9 rfl rfl (ex_bin (u := (.int .i64 q.r)) (r := (.int .i64 0)) rfl rfl rfl (eg3 _ _ _ _ _ _) (geq3 _ (decide_eq_false (by omega)))) ?_; simp only [zp]; refine sv (.bool false) 10 rfl rfl (ex_pkT rfl rfl rfl) ?_; simp only [zp]; refine sm (.bool false) 11 rfl rfl rfl rfl ?_; simp only [zp]; refine sn 12 rfl rfl ?_; simp only [zp]; refine sn 13 rfl rfl ?_; simp only [zp]; refine sn 14 rfl rfl ?_; simp only [zp]; refine sv (.bool false) 15 rfl rfl (ex_pkF rfl rfl rfl) ?_; simp only [zp]; refine sg (.bool false) 2 rfl rfl rfl rfl ?_; simp only [zp]
      refine st_end ?_; subst hQ; refine wp_ret ?_
      repeat (first | refine ret_out ?_ | refine ret_blk ?_)
      refine bodyPost_ret (results_tmp Try.results104 _ _ _) rfl ⟨?_, E⟩
      show Ending.returned (.bool false) = _
      simp [rightB, e0, e1]
  · skip
    refine sv (.bool false) 5 rfl rfl (ex_bin (u := (.int .i64 q.b)) (r := (.int .i64 0)) rfl rfl rfl (eg3 _ _ _ _ _ _) (geq3 _ (decide_eq_false (by omega)))) ?_; simp only [zp]; refine sm (.bool false) 6 rfl rfl rfl rfl ?_; simp only [zp]; refine sn 7 rfl rfl ?_; simp only [zp]; refine sn 8 rfl rfl ?_; simp only [zp]; refine sn 9 rfl rfl ?_; simp only [zp]; refine sv (.bool false) 10 rfl rfl (ex_pkF rfl rfl rfl) ?_; simp only [zp]; refine sm (.bool false) 11 rfl rfl rfl rfl ?_; simp only [zp]; refine sn 12 rfl rfl ?_; simp only [zp]; refine sn 13 rfl rfl ?_; simp only [zp]
    refine sn 14 rfl rfl ?_; simp only [zp]; refine sv (.bool false) 15 rfl rfl (ex_pkF rfl rfl rfl) ?_; simp only [zp]; refine sg (.bool false) 2 rfl rfl rfl rfl ?_; simp only [zp]; refine st_end ?_; subst hQ; refine wp_ret ?_
    repeat (first | refine ret_out ?_ | refine ret_blk ?_)
    refine bodyPost_ret (results_tmp Try.results104 _ _ _) rfl ⟨?_, E⟩
    show Ending.returned (.bool false) = _
    simp [rightB, e0]
set_option maxHeartbeats 4000000 in
theorem rrmay_any {q : RV} (w : World) {c : Bool} (hc : mayR q = c) : Calls Try.prog 92 #[.agg (RL q)] w fun e w' => e = .returned (.bool c) ∧ Below w.heap.size w w' := by
  subst hc
  have E : Below w.heap.size w w := Below.refl _ _
  go_enter Try.func92, Try.ntmps92; refine wq fun Q hQ => ?_; refine st_new (fun b => .pointer (some ⟨b, 0, none⟩)) (some 1) rfl rfl (ex_box rfl rfl) ?_; intro b1 W1 k1 g1 B; simp only [zp]; have ge_b1 := Nat.le_trans E.size g1; replace E := below_next E B; clear B; refine sg (.bool false) 2 rfl rfl rfl rfl ?_; simp only [zp]; refine st_end ?_; subst hQ; refine wq fun Q hQ => ?_; refine sv (.pointer (some ⟨b1, 0, none⟩)) 3 rfl rfl (ex_fa (p := (.pointer (some ⟨b1, 0, none⟩))) rfl rfl (fa45_0 _ _)) ?_; simp only [zp]
  refine sv (.agg (FL q)) 4 rfl rfl (ex_load (p := (.pointer (some ⟨b1, 0, none⟩))) rfl rfl (ldF k1)) ?_; simp only [zp]
  by_cases e0 : rightB q.b q.r = true
  · skip
    refine st_call (some 5) rfl rfl (rright_any W1 e0) (ex_call (f := 104) (vs := [(.agg (FL q))]) rfl (cf104 _) rfl) ?_; rintro e W2 ⟨rfl, B⟩; refine ⟨_, rfl, ?_⟩; simp only [zp]; replace E := below_next E B; replace k1 := keep B k1; refine sm (.bool true) 6 rfl rfl rfl rfl ?_; simp only [zp]; refine sv (.pointer (some ⟨b1, 2, none⟩)) 7 rfl rfl (ex_fa (p := (.pointer (some ⟨b1, 0, none⟩))) rfl rfl (fa45_1 _ _)) ?_; simp only [zp]; refine sv (.int .i64 q.d) 8 rfl rfl (ex_load (p := (.pointer (some ⟨b1, 2, none⟩))) rfl rfl (ld3 (at_cell k1 rfl))) ?_; simp only [zp]
    by_cases e1 : 1 ≤ q.d
    · skip
      refine sv (.bool true) 9 rfl rfl (ex_bin (u := (.int .i64 q.d)) (r := (.int .i64 1)) rfl rfl rfl (eg3 _ _ _ _ _ _) (geq3 _ (decide_eq_true (by omega)))) ?_; simp only [zp]; refine sv (.bool true) 10 rfl rfl (ex_pkT rfl rfl rfl) ?_; simp only [zp]; refine sm (.bool true) 11 rfl rfl rfl rfl ?_; simp only [zp]; refine sv (.pointer (some ⟨b1, 2, none⟩)) 12 rfl rfl (ex_fa (p := (.pointer (some ⟨b1, 0, none⟩))) rfl rfl (fa45_1 _ _)) ?_; simp only [zp]; refine sv (.int .i64 q.d) 13 rfl rfl (ex_load (p := (.pointer (some ⟨b1, 2, none⟩))) rfl rfl (ld3 (at_cell k1 rfl))) ?_; simp only [zp]
      by_cases e2 : q.d ≤ 1000
      · skip
        refine sv (.bool true) 14 rfl rfl (ex_bin (u := (.int .i64 q.d)) (r := (.int .i64 1000)) rfl rfl rfl (eg3 _ _ _ _ _ _) (leq3 _ (decide_eq_true (by omega)))) ?_; simp only [zp]; refine sv (.bool true) 15 rfl rfl (ex_pkT rfl rfl rfl) ?_; simp only [zp]; refine sm (.bool true) 16 rfl rfl rfl rfl ?_; simp only [zp]; refine sv (.pointer (some ⟨b1, 3, none⟩)) 17 rfl rfl (ex_fa (p := (.pointer (some ⟨b1, 0, none⟩))) rfl rfl (fa45_2 _ _)) ?_; simp only [zp]; refine sv (.int .i64 q.g) 18 rfl rfl (ex_load (p := (.pointer (some ⟨b1, 3, none⟩))) rfl rfl (ld3 (at_cell k1 rfl))) ?_
        simp only [zp]
        by_cases e3 : 0 ≤ q.g
        · skip
          refine sv (.bool true) 19 rfl rfl (ex_bin (u := (.int .i64 q.g)) (r := (.int .i64 0)) rfl rfl rfl (eg3 _ _ _ _ _ _) (geq3 _ (decide_eq_true (by omega)))) ?_; simp only [zp]; refine sv (.bool true) 20 rfl rfl (ex_pkT rfl rfl rfl) ?_; simp only [zp]; refine sm (.bool true) 21 rfl rfl rfl rfl ?_; simp only [zp]; refine sv (.pointer (some ⟨b1, 3, none⟩)) 22 rfl rfl (ex_fa (p := (.pointer (some ⟨b1, 0, none⟩))) rfl rfl (fa45_2 _ _)) ?_; simp only [zp]; refine sv (.int .i64 q.g) 23 rfl rfl (ex_load (p := (.pointer (some ⟨b1, 3, none⟩))) rfl rfl (ld3 (at_cell k1 rfl))) ?_
          simp only [zp]
          by_cases e4 : q.g ≤ 1000
          · skip
            refine sv (.bool true) 24 rfl rfl (ex_bin (u := (.int .i64 q.g)) (r := (.int .i64 1000)) rfl rfl rfl (eg3 _ _ _ _ _ _) (leq3 _ (decide_eq_true (by omega)))) ?_; simp only [zp]; refine sv (.bool true) 25 rfl rfl (ex_pkT rfl rfl rfl) ?_; simp only [zp]; refine sm (.bool true) 26 rfl rfl rfl rfl ?_; simp only [zp]; refine sv (.pointer (some ⟨b1, 4, none⟩)) 27 rfl rfl (ex_fa (p := (.pointer (some ⟨b1, 0, none⟩))) rfl rfl (fa45_3 _ _)) ?_; simp only [zp]; refine sv (.int .i64 q.f) 28 rfl rfl (ex_load (p := (.pointer (some ⟨b1, 4, none⟩))) rfl rfl (ld3 (at_cell k1 rfl))) ?_
            simp only [zp]
            by_cases e5 : 1 ≤ q.f
            · skip
              refine sv (.bool true) 29 rfl rfl (ex_bin (u := (.int .i64 q.f)) (r := (.int .i64 1)) rfl rfl rfl (eg3 _ _ _ _ _ _) (geq3 _ (decide_eq_true (by omega)))) ?_; simp only [zp]; refine sv (.bool true) 30 rfl rfl (ex_pkT rfl rfl rfl) ?_; simp only [zp]; refine sm (.bool true) 31 rfl rfl rfl rfl ?_; simp only [zp]; refine sv (.pointer (some ⟨b1, 4, none⟩)) 32 rfl rfl (ex_fa (p := (.pointer (some ⟨b1, 0, none⟩))) rfl rfl (fa45_3 _ _)) ?_; simp only [zp]; refine sv (.int .i64 q.f) 33 rfl rfl (ex_load (p := (.pointer (some ⟨b1, 4, none⟩))) rfl rfl (ld3 (at_cell k1 rfl))) ?_
              simp only [zp]
              by_cases e6 : q.f ≤ 2147483647
              · skip
                refine sv (.bool true) 34 rfl rfl (ex_bin (u := (.int .i64 q.f)) (r := (.int .i64 2147483647)) rfl rfl rfl (eg3 _ _ _ _ _ _) (leq3 _ (decide_eq_true (by omega)))) ?_; simp only [zp]; refine sv (.bool true) 35 rfl rfl (ex_pkT rfl rfl rfl) ?_; simp only [zp]; refine sg (.bool true) 2 rfl rfl rfl rfl ?_; simp only [zp]; refine st_end ?_; subst hQ; refine wp_ret ?_
                repeat (first | refine ret_out ?_ | refine ret_blk ?_)
                refine bodyPost_ret (results_tmp Try.results92 _ _ _) rfl ⟨?_, E⟩
                show Ending.returned (.bool true) = _
                simp [mayR, e0, e1, e2, e3, e4, e5, e6]
              · skip
                refine sv (.bool false) 34 rfl rfl (ex_bin (u := (.int .i64 q.f)) (r := (.int .i64 2147483647)) rfl rfl rfl (eg3 _ _ _ _ _ _) (leq3 _ (decide_eq_false (by omega)))) ?_; simp only [zp]; refine sv (.bool false) 35 rfl rfl (ex_pkT rfl rfl rfl) ?_; simp only [zp]; refine sg (.bool false) 2 rfl rfl rfl rfl ?_; simp only [zp]; refine st_end ?_; subst hQ; refine wp_ret ?_
                repeat (first | refine ret_out ?_ | refine ret_blk ?_)
                refine bodyPost_ret (results_tmp Try.results92 _ _ _) rfl ⟨?_, E⟩
                show Ending.returned (.bool false) = _
                simp [mayR, e0, e1, e2, e3, e4, e5, e6]
            · skip
              refine sv (.bool false) 29 rfl rfl (ex_bin (u := (.int .i64 q.f)) (r := (.int .i64 1)) rfl rfl rfl (eg3 _ _ _ _ _ _) (geq3 _ (decide_eq_false (by omega)))) ?_; simp only [zp]; refine sv (.bool false) 30 rfl rfl (ex_pkT rfl rfl rfl) ?_; simp only [zp]; refine sm (.bool false) 31 rfl rfl rfl rfl ?_; simp only [zp]; refine sn 32 rfl rfl ?_; simp only [zp]; refine sn 33 rfl rfl ?_; simp only [zp]; refine sn 34 rfl rfl ?_; simp only [zp]; refine sv (.bool false) 35 rfl rfl (ex_pkF rfl rfl rfl) ?_; simp only [zp]; refine sg (.bool false) 2 rfl rfl rfl rfl ?_
              simp only [zp]; refine st_end ?_; subst hQ; refine wp_ret ?_
              repeat (first | refine ret_out ?_ | refine ret_blk ?_)
              refine bodyPost_ret (results_tmp Try.results92 _ _ _) rfl ⟨?_, E⟩
              show Ending.returned (.bool false) = _
              simp [mayR, e0, e1, e2, e3, e4, e5]
          · skip
            refine sv (.bool false) 24 rfl rfl (ex_bin (u := (.int .i64 q.g)) (r := (.int .i64 1000)) rfl rfl rfl (eg3 _ _ _ _ _ _) (leq3 _ (decide_eq_false (by omega)))) ?_; simp only [zp]; refine sv (.bool false) 25 rfl rfl (ex_pkT rfl rfl rfl) ?_; simp only [zp]; refine sm (.bool false) 26 rfl rfl rfl rfl ?_; simp only [zp]; refine sn 27 rfl rfl ?_; simp only [zp]; refine sn 28 rfl rfl ?_; simp only [zp]; refine sn 29 rfl rfl ?_; simp only [zp]; refine sv (.bool false) 30 rfl rfl (ex_pkF rfl rfl rfl) ?_; simp only [zp]; refine sm (.bool false) 31 rfl rfl rfl rfl ?_
            simp only [zp]; refine sn 32 rfl rfl ?_; simp only [zp]; refine sn 33 rfl rfl ?_; simp only [zp]; refine sn 34 rfl rfl ?_; simp only [zp]; refine sv (.bool false) 35 rfl rfl (ex_pkF rfl rfl rfl) ?_; simp only [zp]; refine sg (.bool false) 2 rfl rfl rfl rfl ?_; simp only [zp]; refine st_end ?_; subst hQ; refine wp_ret ?_
            repeat (first | refine ret_out ?_ | refine ret_blk ?_)
            refine bodyPost_ret (results_tmp Try.results92 _ _ _) rfl ⟨?_, E⟩
            show Ending.returned (.bool false) = _
            simp [mayR, e0, e1, e2, e3, e4]
        · skip
          refine sv (.bool false) 19 rfl rfl (ex_bin (u := (.int .i64 q.g)) (r := (.int .i64 0)) rfl rfl rfl (eg3 _ _ _ _ _ _) (geq3 _ (decide_eq_false (by omega)))) ?_; simp only [zp]; refine sv (.bool false) 20 rfl rfl (ex_pkT rfl rfl rfl) ?_; simp only [zp]; refine sm (.bool false) 21 rfl rfl rfl rfl ?_; simp only [zp]; refine sn 22 rfl rfl ?_; simp only [zp]; refine sn 23 rfl rfl ?_; simp only [zp]; refine sn 24 rfl rfl ?_; simp only [zp]; refine sv (.bool false) 25 rfl rfl (ex_pkF rfl rfl rfl) ?_; simp only [zp]; refine sm (.bool false) 26 rfl rfl rfl rfl ?_; simp only [zp]
          refine sn 27 rfl rfl ?_; simp only [zp]; refine sn 28 rfl rfl ?_; simp only [zp]; refine sn 29 rfl rfl ?_; simp only [zp]; refine sv (.bool false) 30 rfl rfl (ex_pkF rfl rfl rfl) ?_; simp only [zp]; refine sm (.bool false) 31 rfl rfl rfl rfl ?_; simp only [zp]; refine sn 32 rfl rfl ?_; simp only [zp]; refine sn 33 rfl rfl ?_; simp only [zp]; refine sn 34 rfl rfl ?_; simp only [zp]; refine sv (.bool false) 35 rfl rfl (ex_pkF rfl rfl rfl) ?_; simp only [zp]; refine sg (.bool false) 2 rfl rfl rfl rfl ?_; simp only [zp]; refine st_end ?_; subst hQ; refine wp_ret ?_
          repeat (first | refine ret_out ?_ | refine ret_blk ?_)
          refine bodyPost_ret (results_tmp Try.results92 _ _ _) rfl ⟨?_, E⟩
          show Ending.returned (.bool false) = _
          simp [mayR, e0, e1, e2, e3]
      · skip
        refine sv (.bool false) 14 rfl rfl (ex_bin (u := (.int .i64 q.d)) (r := (.int .i64 1000)) rfl rfl rfl (eg3 _ _ _ _ _ _) (leq3 _ (decide_eq_false (by omega)))) ?_; simp only [zp]; refine sv (.bool false) 15 rfl rfl (ex_pkT rfl rfl rfl) ?_; simp only [zp]; refine sm (.bool false) 16 rfl rfl rfl rfl ?_; simp only [zp]; refine sn 17 rfl rfl ?_; simp only [zp]; refine sn 18 rfl rfl ?_; simp only [zp]; refine sn 19 rfl rfl ?_; simp only [zp]; refine sv (.bool false) 20 rfl rfl (ex_pkF rfl rfl rfl) ?_; simp only [zp]; refine sm (.bool false) 21 rfl rfl rfl rfl ?_; simp only [zp]
        refine sn 22 rfl rfl ?_; simp only [zp]; refine sn 23 rfl rfl ?_; simp only [zp]; refine sn 24 rfl rfl ?_; simp only [zp]; refine sv (.bool false) 25 rfl rfl (ex_pkF rfl rfl rfl) ?_; simp only [zp]; refine sm (.bool false) 26 rfl rfl rfl rfl ?_; simp only [zp]; refine sn 27 rfl rfl ?_; simp only [zp]; refine sn 28 rfl rfl ?_; simp only [zp]; refine sn 29 rfl rfl ?_; simp only [zp]; refine sv (.bool false) 30 rfl rfl (ex_pkF rfl rfl rfl) ?_; simp only [zp]; refine sm (.bool false) 31 rfl rfl rfl rfl ?_; simp only [zp]; refine sn 32 rfl rfl ?_; simp only [zp]
        refine sn 33 rfl rfl ?_; simp only [zp]; refine sn 34 rfl rfl ?_; simp only [zp]; refine sv (.bool false) 35 rfl rfl (ex_pkF rfl rfl rfl) ?_; simp only [zp]; refine sg (.bool false) 2 rfl rfl rfl rfl ?_; simp only [zp]; refine st_end ?_; subst hQ; refine wp_ret ?_
        repeat (first | refine ret_out ?_ | refine ret_blk ?_)
        refine bodyPost_ret (results_tmp Try.results92 _ _ _) rfl ⟨?_, E⟩
        show Ending.returned (.bool false) = _
        simp [mayR, e0, e1, e2]
    · skip
      refine sv (.bool false) 9 rfl rfl (ex_bin (u := (.int .i64 q.d)) (r := (.int .i64 1)) rfl rfl rfl (eg3 _ _ _ _ _ _) (geq3 _ (decide_eq_false (by omega)))) ?_; simp only [zp]; refine sv (.bool false) 10 rfl rfl (ex_pkT rfl rfl rfl) ?_; simp only [zp]; refine sm (.bool false) 11 rfl rfl rfl rfl ?_; simp only [zp]; refine sn 12 rfl rfl ?_; simp only [zp]; refine sn 13 rfl rfl ?_; simp only [zp]; refine sn 14 rfl rfl ?_; simp only [zp]; refine sv (.bool false) 15 rfl rfl (ex_pkF rfl rfl rfl) ?_; simp only [zp]; refine sm (.bool false) 16 rfl rfl rfl rfl ?_; simp only [zp]
      refine sn 17 rfl rfl ?_; simp only [zp]; refine sn 18 rfl rfl ?_; simp only [zp]; refine sn 19 rfl rfl ?_; simp only [zp]; refine sv (.bool false) 20 rfl rfl (ex_pkF rfl rfl rfl) ?_; simp only [zp]; refine sm (.bool false) 21 rfl rfl rfl rfl ?_; simp only [zp]; refine sn 22 rfl rfl ?_; simp only [zp]; refine sn 23 rfl rfl ?_; simp only [zp]; refine sn 24 rfl rfl ?_; simp only [zp]; refine sv (.bool false) 25 rfl rfl (ex_pkF rfl rfl rfl) ?_; simp only [zp]; refine sm (.bool false) 26 rfl rfl rfl rfl ?_; simp only [zp]; refine sn 27 rfl rfl ?_; simp only [zp]; refine sn 28 rfl rfl ?_
      simp only [zp]; refine sn 29 rfl rfl ?_; simp only [zp]; refine sv (.bool false) 30 rfl rfl (ex_pkF rfl rfl rfl) ?_; simp only [zp]; refine sm (.bool false) 31 rfl rfl rfl rfl ?_; simp only [zp]; refine sn 32 rfl rfl ?_; simp only [zp]; refine sn 33 rfl rfl ?_; simp only [zp]; refine sn 34 rfl rfl ?_; simp only [zp]; refine sv (.bool false) 35 rfl rfl (ex_pkF rfl rfl rfl) ?_; simp only [zp]; refine sg (.bool false) 2 rfl rfl rfl rfl ?_; simp only [zp]; refine st_end ?_; subst hQ; refine wp_ret ?_
      repeat (first | refine ret_out ?_ | refine ret_blk ?_)
      refine bodyPost_ret (results_tmp Try.results92 _ _ _) rfl ⟨?_, E⟩
      show Ending.returned (.bool false) = _
      simp [mayR, e0, e1]
  · skip
    replace e0 := Bool.eq_false_iff.2 e0; refine st_call (some 5) rfl rfl (rright_any W1 e0) (ex_call (f := 104) (vs := [(.agg (FL q))]) rfl (cf104 _) rfl) ?_; rintro e W2 ⟨rfl, B⟩; refine ⟨_, rfl, ?_⟩; simp only [zp]; replace E := below_next E B; replace k1 := keep B k1; refine sm (.bool false) 6 rfl rfl rfl rfl ?_; simp only [zp]; refine sn 7 rfl rfl ?_; simp only [zp]; refine sn 8 rfl rfl ?_; simp only [zp]; refine sn 9 rfl rfl ?_; simp only [zp]; refine sv (.bool false) 10 rfl rfl (ex_pkF rfl rfl rfl) ?_; simp only [zp]; refine sm (.bool false) 11 rfl rfl rfl rfl ?_; simp only [zp]
    refine sn 12 rfl rfl ?_; simp only [zp]; refine sn 13 rfl rfl ?_; simp only [zp]; refine sn 14 rfl rfl ?_; simp only [zp]; refine sv (.bool false) 15 rfl rfl (ex_pkF rfl rfl rfl) ?_; simp only [zp]; refine sm (.bool false) 16 rfl rfl rfl rfl ?_; simp only [zp]; refine sn 17 rfl rfl ?_; simp only [zp]; refine sn 18 rfl rfl ?_; simp only [zp]; refine sn 19 rfl rfl ?_; simp only [zp]; refine sv (.bool false) 20 rfl rfl (ex_pkF rfl rfl rfl) ?_; simp only [zp]; refine sm (.bool false) 21 rfl rfl rfl rfl ?_; simp only [zp]; refine sn 22 rfl rfl ?_; simp only [zp]; refine sn 23 rfl rfl ?_
    simp only [zp]; refine sn 24 rfl rfl ?_; simp only [zp]; refine sv (.bool false) 25 rfl rfl (ex_pkF rfl rfl rfl) ?_; simp only [zp]; refine sm (.bool false) 26 rfl rfl rfl rfl ?_; simp only [zp]; refine sn 27 rfl rfl ?_; simp only [zp]; refine sn 28 rfl rfl ?_; simp only [zp]; refine sn 29 rfl rfl ?_; simp only [zp]; refine sv (.bool false) 30 rfl rfl (ex_pkF rfl rfl rfl) ?_; simp only [zp]; refine sm (.bool false) 31 rfl rfl rfl rfl ?_; simp only [zp]; refine sn 32 rfl rfl ?_; simp only [zp]; refine sn 33 rfl rfl ?_; simp only [zp]; refine sn 34 rfl rfl ?_; simp only [zp]
    refine sv (.bool false) 35 rfl rfl (ex_pkF rfl rfl rfl) ?_; simp only [zp]; refine sg (.bool false) 2 rfl rfl rfl rfl ?_; simp only [zp]; refine st_end ?_; subst hQ; refine wp_ret ?_
    repeat (first | refine ret_out ?_ | refine ret_blk ?_)
    refine bodyPost_ret (results_tmp Try.results92 _ _ _) rfl ⟨?_, E⟩
    show Ending.returned (.bool false) = _
    simp [mayR, e0]
set_option maxHeartbeats 4000000 in
theorem redge_any {e : EV} (w : World) {c : Bool} (hc : mayE e = c) : Calls Try.prog 68 #[.agg (EL e)] w fun e w' => e = .returned (.bool c) ∧ Below w.heap.size w w' := by
  subst hc; rw [← mayE_eq]
  have E : Below w.heap.size w w := Below.refl _ _
  go_enter Try.func68, Try.ntmps68; refine wq fun Q hQ => ?_; refine st_new (fun b => .pointer (some ⟨b, 0, none⟩)) (some 1) rfl rfl (ex_box rfl rfl) ?_; intro b1 W1 k1 g1 B; simp only [zp]; have ge_b1 := Nat.le_trans E.size g1; replace E := below_next E B; clear B; refine sg (.bool false) 2 rfl rfl rfl rfl ?_; simp only [zp]; refine st_end ?_; subst hQ; refine wq fun Q hQ => ?_; refine sv (.pointer (some ⟨b1, 0, none⟩)) 3 rfl rfl (ex_fa (p := (.pointer (some ⟨b1, 0, none⟩))) rfl rfl (fa49_0 _ _)) ?_; simp only [zp]
  refine sv (.int .i64 e.ch) 4 rfl rfl (ex_load (p := (.pointer (some ⟨b1, 0, none⟩))) rfl rfl (ld3 (at_cell k1 rfl))) ?_; simp only [zp]
  by_cases e0 : 1 ≤ e.ch
  · skip
    refine sv (.bool true) 5 rfl rfl (ex_bin (u := (.int .i64 e.ch)) (r := (.int .i64 1)) rfl rfl rfl (eg3 _ _ _ _ _ _) (geq3 _ (decide_eq_true (by omega)))) ?_; simp only [zp]; refine sm (.bool true) 6 rfl rfl rfl rfl ?_; simp only [zp]; refine sv (.pointer (some ⟨b1, 0, none⟩)) 7 rfl rfl (ex_fa (p := (.pointer (some ⟨b1, 0, none⟩))) rfl rfl (fa49_0 _ _)) ?_; simp only [zp]; refine sv (.int .i64 e.ch) 8 rfl rfl (ex_load (p := (.pointer (some ⟨b1, 0, none⟩))) rfl rfl (ld3 (at_cell k1 rfl))) ?_; simp only [zp]
    by_cases e1 : e.ch ≤ 65535
    · skip
      refine sv (.bool true) 9 rfl rfl (ex_bin (u := (.int .i64 e.ch)) (r := (.int .i64 65535)) rfl rfl rfl (eg3 _ _ _ _ _ _) (leq3 _ (decide_eq_true (by omega)))) ?_; simp only [zp]; refine sv (.bool true) 10 rfl rfl (ex_pkT rfl rfl rfl) ?_; simp only [zp]; refine sm (.bool true) 11 rfl rfl rfl rfl ?_; simp only [zp]; refine sv (.pointer (some ⟨b1, 1, none⟩)) 12 rfl rfl (ex_fa (p := (.pointer (some ⟨b1, 0, none⟩))) rfl rfl (fa49_1 _ _)) ?_; simp only [zp]; refine sv (.int .i64 e.fr) 13 rfl rfl (ex_load (p := (.pointer (some ⟨b1, 1, none⟩))) rfl rfl (ld3 (at_cell k1 rfl))) ?_
      simp only [zp]
      by_cases e2 : 0 ≤ e.fr
      · skip
        refine sv (.bool true) 14 rfl rfl (ex_bin (u := (.int .i64 e.fr)) (r := (.int .i64 0)) rfl rfl rfl (eg3 _ _ _ _ _ _) (geq3 _ (decide_eq_true (by omega)))) ?_; simp only [zp]; refine sv (.bool true) 15 rfl rfl (ex_pkT rfl rfl rfl) ?_; simp only [zp]; refine sm (.bool true) 16 rfl rfl rfl rfl ?_; simp only [zp]; refine sv (.pointer (some ⟨b1, 1, none⟩)) 17 rfl rfl (ex_fa (p := (.pointer (some ⟨b1, 0, none⟩))) rfl rfl (fa49_1 _ _)) ?_; simp only [zp]; refine sv (.int .i64 e.fr) 18 rfl rfl (ex_load (p := (.pointer (some ⟨b1, 1, none⟩))) rfl rfl (ld3 (at_cell k1 rfl))) ?_
        simp only [zp]
        by_cases e3 : e.fr ≤ 7
        · skip
          refine sv (.bool true) 19 rfl rfl (ex_bin (u := (.int .i64 e.fr)) (r := (.int .i64 7)) rfl rfl rfl (eg3 _ _ _ _ _ _) (leq3 _ (decide_eq_true (by omega)))) ?_; simp only [zp]; refine sv (.bool true) 20 rfl rfl (ex_pkT rfl rfl rfl) ?_; simp only [zp]; refine sm (.bool true) 21 rfl rfl rfl rfl ?_; simp only [zp]; refine sv (.pointer (some ⟨b1, 2, none⟩)) 22 rfl rfl (ex_fa (p := (.pointer (some ⟨b1, 0, none⟩))) rfl rfl (fa49_2 _ _)) ?_; simp only [zp]; refine sv (.int .i64 e.to) 23 rfl rfl (ex_load (p := (.pointer (some ⟨b1, 2, none⟩))) rfl rfl (ld3 (at_cell k1 rfl))) ?_
          simp only [zp]
          by_cases e4 : 0 ≤ e.to
          · skip
            refine sv (.bool true) 24 rfl rfl (ex_bin (u := (.int .i64 e.to)) (r := (.int .i64 0)) rfl rfl rfl (eg3 _ _ _ _ _ _) (geq3 _ (decide_eq_true (by omega)))) ?_; simp only [zp]; refine sv (.bool true) 25 rfl rfl (ex_pkT rfl rfl rfl) ?_; simp only [zp]; refine sm (.bool true) 26 rfl rfl rfl rfl ?_; simp only [zp]; refine sv (.pointer (some ⟨b1, 2, none⟩)) 27 rfl rfl (ex_fa (p := (.pointer (some ⟨b1, 0, none⟩))) rfl rfl (fa49_2 _ _)) ?_; simp only [zp]; refine sv (.int .i64 e.to) 28 rfl rfl (ex_load (p := (.pointer (some ⟨b1, 2, none⟩))) rfl rfl (ld3 (at_cell k1 rfl))) ?_
            simp only [zp]
            by_cases e5 : e.to ≤ 7
            · skip
              refine sv (.bool true) 29 rfl rfl (ex_bin (u := (.int .i64 e.to)) (r := (.int .i64 7)) rfl rfl rfl (eg3 _ _ _ _ _ _) (leq3 _ (decide_eq_true (by omega)))) ?_; simp only [zp]; refine sv (.bool true) 30 rfl rfl (ex_pkT rfl rfl rfl) ?_; simp only [zp]; refine sm (.bool true) 31 rfl rfl rfl rfl ?_; simp only [zp]; refine sv (.pointer (some ⟨b1, 1, none⟩)) 32 rfl rfl (ex_fa (p := (.pointer (some ⟨b1, 0, none⟩))) rfl rfl (fa49_1 _ _)) ?_; simp only [zp]; refine sv (.int .i64 e.fr) 33 rfl rfl (ex_load (p := (.pointer (some ⟨b1, 1, none⟩))) rfl rfl (ld3 (at_cell k1 rfl))) ?_
              simp only [zp]; refine sv (.pointer (some ⟨b1, 2, none⟩)) 34 rfl rfl (ex_fa (p := (.pointer (some ⟨b1, 0, none⟩))) rfl rfl (fa49_2 _ _)) ?_; simp only [zp]; refine sv (.int .i64 e.to) 35 rfl rfl (ex_load (p := (.pointer (some ⟨b1, 2, none⟩))) rfl rfl (ld3 (at_cell k1 rfl))) ?_; simp only [zp]
              by_cases e6 : e.fr = e.to
              · skip
                refine sv (.bool false) 36 rfl rfl (ex_bin (u := (.int .i64 e.fr)) (r := (.int .i64 e.to)) rfl rfl rfl (eg3 _ _ _ _ _ _) (neq3 _ (decide_eq_false (by omega)))) ?_; simp only [zp]; refine sv (.bool false) 37 rfl rfl (ex_pkT rfl rfl rfl) ?_; simp only [zp]; refine sm (.bool false) 38 rfl rfl rfl rfl ?_; simp only [zp]; refine sn 39 rfl rfl ?_; simp only [zp]; refine sn 40 rfl rfl ?_; simp only [zp]; refine sn 41 rfl rfl ?_; simp only [zp]; refine sv (.bool false) 42 rfl rfl (ex_pkF rfl rfl rfl) ?_; simp only [zp]; refine sm (.bool false) 43 rfl rfl rfl rfl ?_
                simp only [zp]; refine sn 44 rfl rfl ?_; simp only [zp]; refine sn 45 rfl rfl ?_; simp only [zp]; refine sn 46 rfl rfl ?_; simp only [zp]; refine sv (.bool false) 47 rfl rfl (ex_pkF rfl rfl rfl) ?_; simp only [zp]; refine sg (.bool false) 2 rfl rfl rfl rfl ?_; simp only [zp]; refine st_end ?_; subst hQ; refine wp_ret ?_
                repeat (first | refine ret_out ?_ | refine ret_blk ?_)
                refine bodyPost_ret (results_tmp Try.results68 _ _ _) rfl ⟨?_, E⟩
                show Ending.returned (.bool false) = _
                simp [mayE', e0, e1, e2, e3, e4, e5, e6]
              · skip
                refine sv (.bool true) 36 rfl rfl (ex_bin (u := (.int .i64 e.fr)) (r := (.int .i64 e.to)) rfl rfl rfl (eg3 _ _ _ _ _ _) (neq3 _ (decide_eq_true (by omega)))) ?_; simp only [zp]; refine sv (.bool true) 37 rfl rfl (ex_pkT rfl rfl rfl) ?_; simp only [zp]; refine sm (.bool true) 38 rfl rfl rfl rfl ?_; simp only [zp]; refine sv (.pointer (some ⟨b1, 3, none⟩)) 39 rfl rfl (ex_fa (p := (.pointer (some ⟨b1, 0, none⟩))) rfl rfl (fa49_3 _ _)) ?_; simp only [zp]
                refine sv (.int .i64 e.cap) 40 rfl rfl (ex_load (p := (.pointer (some ⟨b1, 3, none⟩))) rfl rfl (ld3 (at_cell k1 rfl))) ?_; simp only [zp]
                by_cases e7 : 0 ≤ e.cap
                · skip
                  refine sv (.bool true) 41 rfl rfl (ex_bin (u := (.int .i64 e.cap)) (r := (.int .i64 0)) rfl rfl rfl (eg3 _ _ _ _ _ _) (geq3 _ (decide_eq_true (by omega)))) ?_; simp only [zp]; refine sv (.bool true) 42 rfl rfl (ex_pkT rfl rfl rfl) ?_; simp only [zp]; refine sm (.bool true) 43 rfl rfl rfl rfl ?_; simp only [zp]; refine sv (.pointer (some ⟨b1, 4, none⟩)) 44 rfl rfl (ex_fa (p := (.pointer (some ⟨b1, 0, none⟩))) rfl rfl (fa49_4 _ _)) ?_; simp only [zp]; refine sv (.agg (RL e.q)) 45 rfl rfl (ex_load (p := (.pointer (some ⟨b1, 4, none⟩))) rfl rfl (ldER k1)) ?_
                  simp only [zp]
                  by_cases e8 : mayR e.q = true
                  · skip
                    refine st_call (some 46) rfl rfl (rrmay_any W1 e8) (ex_call (f := 92) (vs := [(.agg (RL e.q))]) rfl (cf92 _) rfl) ?_; rintro e W2 ⟨rfl, B⟩; refine ⟨_, rfl, ?_⟩; simp only [zp]; replace E := below_next E B; replace k1 := keep B k1; refine sv (.bool true) 47 rfl rfl (ex_pkT rfl rfl rfl) ?_; simp only [zp]; refine sg (.bool true) 2 rfl rfl rfl rfl ?_; simp only [zp]; refine st_end ?_; subst hQ; refine wp_ret ?_
                    repeat (first | refine ret_out ?_ | refine ret_blk ?_)
                    refine bodyPost_ret (results_tmp Try.results68 _ _ _) rfl ⟨?_, E⟩
                    show Ending.returned (.bool true) = _
                    simp [mayE', e0, e1, e2, e3, e4, e5, e6, e7, e8]
                  · skip
                    replace e8 := Bool.eq_false_iff.2 e8; refine st_call (some 46) rfl rfl (rrmay_any W1 e8) (ex_call (f := 92) (vs := [(.agg (RL e.q))]) rfl (cf92 _) rfl) ?_; rintro e W2 ⟨rfl, B⟩; refine ⟨_, rfl, ?_⟩; simp only [zp]; replace E := below_next E B; replace k1 := keep B k1; refine sv (.bool false) 47 rfl rfl (ex_pkT rfl rfl rfl) ?_; simp only [zp]; refine sg (.bool false) 2 rfl rfl rfl rfl ?_; simp only [zp]; refine st_end ?_; subst hQ; refine wp_ret ?_
                    repeat (first | refine ret_out ?_ | refine ret_blk ?_)
                    refine bodyPost_ret (results_tmp Try.results68 _ _ _) rfl ⟨?_, E⟩
                    show Ending.returned (.bool false) = _
                    simp [mayE', e0, e1, e2, e3, e4, e5, e6, e7, e8]
                · skip
                  refine sv (.bool false) 41 rfl rfl (ex_bin (u := (.int .i64 e.cap)) (r := (.int .i64 0)) rfl rfl rfl (eg3 _ _ _ _ _ _) (geq3 _ (decide_eq_false (by omega)))) ?_; simp only [zp]; refine sv (.bool false) 42 rfl rfl (ex_pkT rfl rfl rfl) ?_; simp only [zp]; refine sm (.bool false) 43 rfl rfl rfl rfl ?_; simp only [zp]; refine sn 44 rfl rfl ?_; simp only [zp]; refine sn 45 rfl rfl ?_; simp only [zp]; refine sn 46 rfl rfl ?_; simp only [zp]; refine sv (.bool false) 47 rfl rfl (ex_pkF rfl rfl rfl) ?_; simp only [zp]; refine sg (.bool false) 2 rfl rfl rfl rfl ?_
                  simp only [zp]; refine st_end ?_; subst hQ; refine wp_ret ?_
                  repeat (first | refine ret_out ?_ | refine ret_blk ?_)
                  refine bodyPost_ret (results_tmp Try.results68 _ _ _) rfl ⟨?_, E⟩
                  show Ending.returned (.bool false) = _
                  simp [mayE', e0, e1, e2, e3, e4, e5, e6, e7]
            · skip
              refine sv (.bool false) 29 rfl rfl (ex_bin (u := (.int .i64 e.to)) (r := (.int .i64 7)) rfl rfl rfl (eg3 _ _ _ _ _ _) (leq3 _ (decide_eq_false (by omega)))) ?_; simp only [zp]; refine sv (.bool false) 30 rfl rfl (ex_pkT rfl rfl rfl) ?_; simp only [zp]; refine sm (.bool false) 31 rfl rfl rfl rfl ?_; simp only [zp]; refine sn 32 rfl rfl ?_; simp only [zp]; refine sn 33 rfl rfl ?_; simp only [zp]; refine sn 34 rfl rfl ?_; simp only [zp]; refine sn 35 rfl rfl ?_; simp only [zp]; refine sn 36 rfl rfl ?_; simp only [zp]
              refine sv (.bool false) 37 rfl rfl (ex_pkF rfl rfl rfl) ?_; simp only [zp]; refine sm (.bool false) 38 rfl rfl rfl rfl ?_; simp only [zp]; refine sn 39 rfl rfl ?_; simp only [zp]; refine sn 40 rfl rfl ?_; simp only [zp]; refine sn 41 rfl rfl ?_; simp only [zp]; refine sv (.bool false) 42 rfl rfl (ex_pkF rfl rfl rfl) ?_; simp only [zp]; refine sm (.bool false) 43 rfl rfl rfl rfl ?_; simp only [zp]; refine sn 44 rfl rfl ?_; simp only [zp]; refine sn 45 rfl rfl ?_; simp only [zp]; refine sn 46 rfl rfl ?_; simp only [zp]
              refine sv (.bool false) 47 rfl rfl (ex_pkF rfl rfl rfl) ?_; simp only [zp]; refine sg (.bool false) 2 rfl rfl rfl rfl ?_; simp only [zp]; refine st_end ?_; subst hQ; refine wp_ret ?_
              repeat (first | refine ret_out ?_ | refine ret_blk ?_)
              refine bodyPost_ret (results_tmp Try.results68 _ _ _) rfl ⟨?_, E⟩
              show Ending.returned (.bool false) = _
              simp [mayE', e0, e1, e2, e3, e4, e5]
          · skip
            refine sv (.bool false) 24 rfl rfl (ex_bin (u := (.int .i64 e.to)) (r := (.int .i64 0)) rfl rfl rfl (eg3 _ _ _ _ _ _) (geq3 _ (decide_eq_false (by omega)))) ?_; simp only [zp]; refine sv (.bool false) 25 rfl rfl (ex_pkT rfl rfl rfl) ?_; simp only [zp]; refine sm (.bool false) 26 rfl rfl rfl rfl ?_; simp only [zp]; refine sn 27 rfl rfl ?_; simp only [zp]; refine sn 28 rfl rfl ?_; simp only [zp]; refine sn 29 rfl rfl ?_; simp only [zp]; refine sv (.bool false) 30 rfl rfl (ex_pkF rfl rfl rfl) ?_; simp only [zp]; refine sm (.bool false) 31 rfl rfl rfl rfl ?_; simp only [zp]
            refine sn 32 rfl rfl ?_; simp only [zp]; refine sn 33 rfl rfl ?_; simp only [zp]; refine sn 34 rfl rfl ?_; simp only [zp]; refine sn 35 rfl rfl ?_; simp only [zp]; refine sn 36 rfl rfl ?_; simp only [zp]; refine sv (.bool false) 37 rfl rfl (ex_pkF rfl rfl rfl) ?_; simp only [zp]; refine sm (.bool false) 38 rfl rfl rfl rfl ?_; simp only [zp]; refine sn 39 rfl rfl ?_; simp only [zp]; refine sn 40 rfl rfl ?_; simp only [zp]; refine sn 41 rfl rfl ?_; simp only [zp]; refine sv (.bool false) 42 rfl rfl (ex_pkF rfl rfl rfl) ?_; simp only [zp]
            refine sm (.bool false) 43 rfl rfl rfl rfl ?_; simp only [zp]; refine sn 44 rfl rfl ?_; simp only [zp]; refine sn 45 rfl rfl ?_; simp only [zp]; refine sn 46 rfl rfl ?_; simp only [zp]; refine sv (.bool false) 47 rfl rfl (ex_pkF rfl rfl rfl) ?_; simp only [zp]; refine sg (.bool false) 2 rfl rfl rfl rfl ?_; simp only [zp]; refine st_end ?_; subst hQ; refine wp_ret ?_
            repeat (first | refine ret_out ?_ | refine ret_blk ?_)
            refine bodyPost_ret (results_tmp Try.results68 _ _ _) rfl ⟨?_, E⟩
            show Ending.returned (.bool false) = _
            simp [mayE', e0, e1, e2, e3, e4]
        · skip
          refine sv (.bool false) 19 rfl rfl (ex_bin (u := (.int .i64 e.fr)) (r := (.int .i64 7)) rfl rfl rfl (eg3 _ _ _ _ _ _) (leq3 _ (decide_eq_false (by omega)))) ?_; simp only [zp]; refine sv (.bool false) 20 rfl rfl (ex_pkT rfl rfl rfl) ?_; simp only [zp]; refine sm (.bool false) 21 rfl rfl rfl rfl ?_; simp only [zp]; refine sn 22 rfl rfl ?_; simp only [zp]; refine sn 23 rfl rfl ?_; simp only [zp]; refine sn 24 rfl rfl ?_; simp only [zp]; refine sv (.bool false) 25 rfl rfl (ex_pkF rfl rfl rfl) ?_; simp only [zp]; refine sm (.bool false) 26 rfl rfl rfl rfl ?_; simp only [zp]
          refine sn 27 rfl rfl ?_; simp only [zp]; refine sn 28 rfl rfl ?_; simp only [zp]; refine sn 29 rfl rfl ?_; simp only [zp]; refine sv (.bool false) 30 rfl rfl (ex_pkF rfl rfl rfl) ?_; simp only [zp]; refine sm (.bool false) 31 rfl rfl rfl rfl ?_; simp only [zp]; refine sn 32 rfl rfl ?_; simp only [zp]; refine sn 33 rfl rfl ?_; simp only [zp]; refine sn 34 rfl rfl ?_; simp only [zp]; refine sn 35 rfl rfl ?_; simp only [zp]; refine sn 36 rfl rfl ?_; simp only [zp]; refine sv (.bool false) 37 rfl rfl (ex_pkF rfl rfl rfl) ?_; simp only [zp]
          refine sm (.bool false) 38 rfl rfl rfl rfl ?_; simp only [zp]; refine sn 39 rfl rfl ?_; simp only [zp]; refine sn 40 rfl rfl ?_; simp only [zp]; refine sn 41 rfl rfl ?_; simp only [zp]; refine sv (.bool false) 42 rfl rfl (ex_pkF rfl rfl rfl) ?_; simp only [zp]; refine sm (.bool false) 43 rfl rfl rfl rfl ?_; simp only [zp]; refine sn 44 rfl rfl ?_; simp only [zp]; refine sn 45 rfl rfl ?_; simp only [zp]; refine sn 46 rfl rfl ?_; simp only [zp]; refine sv (.bool false) 47 rfl rfl (ex_pkF rfl rfl rfl) ?_; simp only [zp]; refine sg (.bool false) 2 rfl rfl rfl rfl ?_
          simp only [zp]; refine st_end ?_; subst hQ; refine wp_ret ?_
          repeat (first | refine ret_out ?_ | refine ret_blk ?_)
          refine bodyPost_ret (results_tmp Try.results68 _ _ _) rfl ⟨?_, E⟩
          show Ending.returned (.bool false) = _
          simp [mayE', e0, e1, e2, e3]
      · skip
        refine sv (.bool false) 14 rfl rfl (ex_bin (u := (.int .i64 e.fr)) (r := (.int .i64 0)) rfl rfl rfl (eg3 _ _ _ _ _ _) (geq3 _ (decide_eq_false (by omega)))) ?_; simp only [zp]; refine sv (.bool false) 15 rfl rfl (ex_pkT rfl rfl rfl) ?_; simp only [zp]; refine sm (.bool false) 16 rfl rfl rfl rfl ?_; simp only [zp]; refine sn 17 rfl rfl ?_; simp only [zp]; refine sn 18 rfl rfl ?_; simp only [zp]; refine sn 19 rfl rfl ?_; simp only [zp]; refine sv (.bool false) 20 rfl rfl (ex_pkF rfl rfl rfl) ?_; simp only [zp]; refine sm (.bool false) 21 rfl rfl rfl rfl ?_; simp only [zp]
        refine sn 22 rfl rfl ?_; simp only [zp]; refine sn 23 rfl rfl ?_; simp only [zp]; refine sn 24 rfl rfl ?_; simp only [zp]; refine sv (.bool false) 25 rfl rfl (ex_pkF rfl rfl rfl) ?_; simp only [zp]; refine sm (.bool false) 26 rfl rfl rfl rfl ?_; simp only [zp]; refine sn 27 rfl rfl ?_; simp only [zp]; refine sn 28 rfl rfl ?_; simp only [zp]; refine sn 29 rfl rfl ?_; simp only [zp]; refine sv (.bool false) 30 rfl rfl (ex_pkF rfl rfl rfl) ?_; simp only [zp]; refine sm (.bool false) 31 rfl rfl rfl rfl ?_; simp only [zp]; refine sn 32 rfl rfl ?_; simp only [zp]
        refine sn 33 rfl rfl ?_; simp only [zp]; refine sn 34 rfl rfl ?_; simp only [zp]; refine sn 35 rfl rfl ?_; simp only [zp]; refine sn 36 rfl rfl ?_; simp only [zp]; refine sv (.bool false) 37 rfl rfl (ex_pkF rfl rfl rfl) ?_; simp only [zp]; refine sm (.bool false) 38 rfl rfl rfl rfl ?_; simp only [zp]; refine sn 39 rfl rfl ?_; simp only [zp]; refine sn 40 rfl rfl ?_; simp only [zp]; refine sn 41 rfl rfl ?_; simp only [zp]; refine sv (.bool false) 42 rfl rfl (ex_pkF rfl rfl rfl) ?_; simp only [zp]; refine sm (.bool false) 43 rfl rfl rfl rfl ?_; simp only [zp]
        refine sn 44 rfl rfl ?_; simp only [zp]; refine sn 45 rfl rfl ?_; simp only [zp]; refine sn 46 rfl rfl ?_; simp only [zp]; refine sv (.bool false) 47 rfl rfl (ex_pkF rfl rfl rfl) ?_; simp only [zp]; refine sg (.bool false) 2 rfl rfl rfl rfl ?_; simp only [zp]; refine st_end ?_; subst hQ; refine wp_ret ?_
        repeat (first | refine ret_out ?_ | refine ret_blk ?_)
        refine bodyPost_ret (results_tmp Try.results68 _ _ _) rfl ⟨?_, E⟩
        show Ending.returned (.bool false) = _
        simp [mayE', e0, e1, e2]
    · skip
      refine sv (.bool false) 9 rfl rfl (ex_bin (u := (.int .i64 e.ch)) (r := (.int .i64 65535)) rfl rfl rfl (eg3 _ _ _ _ _ _) (leq3 _ (decide_eq_false (by omega)))) ?_; simp only [zp]; refine sv (.bool false) 10 rfl rfl (ex_pkT rfl rfl rfl) ?_; simp only [zp]; refine sm (.bool false) 11 rfl rfl rfl rfl ?_; simp only [zp]; refine sn 12 rfl rfl ?_; simp only [zp]; refine sn 13 rfl rfl ?_; simp only [zp]; refine sn 14 rfl rfl ?_; simp only [zp]; refine sv (.bool false) 15 rfl rfl (ex_pkF rfl rfl rfl) ?_; simp only [zp]; refine sm (.bool false) 16 rfl rfl rfl rfl ?_; simp only [zp]
      refine sn 17 rfl rfl ?_; simp only [zp]; refine sn 18 rfl rfl ?_; simp only [zp]; refine sn 19 rfl rfl ?_; simp only [zp]; refine sv (.bool false) 20 rfl rfl (ex_pkF rfl rfl rfl) ?_; simp only [zp]; refine sm (.bool false) 21 rfl rfl rfl rfl ?_; simp only [zp]; refine sn 22 rfl rfl ?_; simp only [zp]; refine sn 23 rfl rfl ?_; simp only [zp]; refine sn 24 rfl rfl ?_; simp only [zp]; refine sv (.bool false) 25 rfl rfl (ex_pkF rfl rfl rfl) ?_; simp only [zp]; refine sm (.bool false) 26 rfl rfl rfl rfl ?_; simp only [zp]; refine sn 27 rfl rfl ?_; simp only [zp]; refine sn 28 rfl rfl ?_
      simp only [zp]; refine sn 29 rfl rfl ?_; simp only [zp]; refine sv (.bool false) 30 rfl rfl (ex_pkF rfl rfl rfl) ?_; simp only [zp]; refine sm (.bool false) 31 rfl rfl rfl rfl ?_; simp only [zp]; refine sn 32 rfl rfl ?_; simp only [zp]; refine sn 33 rfl rfl ?_; simp only [zp]; refine sn 34 rfl rfl ?_; simp only [zp]; refine sn 35 rfl rfl ?_; simp only [zp]; refine sn 36 rfl rfl ?_; simp only [zp]; refine sv (.bool false) 37 rfl rfl (ex_pkF rfl rfl rfl) ?_; simp only [zp]; refine sm (.bool false) 38 rfl rfl rfl rfl ?_; simp only [zp]; refine sn 39 rfl rfl ?_; simp only [zp]
      refine sn 40 rfl rfl ?_; simp only [zp]; refine sn 41 rfl rfl ?_; simp only [zp]; refine sv (.bool false) 42 rfl rfl (ex_pkF rfl rfl rfl) ?_; simp only [zp]; refine sm (.bool false) 43 rfl rfl rfl rfl ?_; simp only [zp]; refine sn 44 rfl rfl ?_; simp only [zp]; refine sn 45 rfl rfl ?_; simp only [zp]; refine sn 46 rfl rfl ?_; simp only [zp]; refine sv (.bool false) 47 rfl rfl (ex_pkF rfl rfl rfl) ?_; simp only [zp]; refine sg (.bool false) 2 rfl rfl rfl rfl ?_; simp only [zp]; refine st_end ?_; subst hQ; refine wp_ret ?_
      repeat (first | refine ret_out ?_ | refine ret_blk ?_)
      refine bodyPost_ret (results_tmp Try.results68 _ _ _) rfl ⟨?_, E⟩
      show Ending.returned (.bool false) = _
      simp [mayE', e0, e1]
  · skip
    refine sv (.bool false) 5 rfl rfl (ex_bin (u := (.int .i64 e.ch)) (r := (.int .i64 1)) rfl rfl rfl (eg3 _ _ _ _ _ _) (geq3 _ (decide_eq_false (by omega)))) ?_; simp only [zp]; refine sm (.bool false) 6 rfl rfl rfl rfl ?_; simp only [zp]; refine sn 7 rfl rfl ?_; simp only [zp]; refine sn 8 rfl rfl ?_; simp only [zp]; refine sn 9 rfl rfl ?_; simp only [zp]; refine sv (.bool false) 10 rfl rfl (ex_pkF rfl rfl rfl) ?_; simp only [zp]; refine sm (.bool false) 11 rfl rfl rfl rfl ?_; simp only [zp]; refine sn 12 rfl rfl ?_; simp only [zp]; refine sn 13 rfl rfl ?_; simp only [zp]
    refine sn 14 rfl rfl ?_; simp only [zp]; refine sv (.bool false) 15 rfl rfl (ex_pkF rfl rfl rfl) ?_; simp only [zp]; refine sm (.bool false) 16 rfl rfl rfl rfl ?_; simp only [zp]; refine sn 17 rfl rfl ?_; simp only [zp]; refine sn 18 rfl rfl ?_; simp only [zp]; refine sn 19 rfl rfl ?_; simp only [zp]; refine sv (.bool false) 20 rfl rfl (ex_pkF rfl rfl rfl) ?_; simp only [zp]; refine sm (.bool false) 21 rfl rfl rfl rfl ?_; simp only [zp]; refine sn 22 rfl rfl ?_; simp only [zp]; refine sn 23 rfl rfl ?_; simp only [zp]; refine sn 24 rfl rfl ?_; simp only [zp]
    refine sv (.bool false) 25 rfl rfl (ex_pkF rfl rfl rfl) ?_; simp only [zp]; refine sm (.bool false) 26 rfl rfl rfl rfl ?_; simp only [zp]; refine sn 27 rfl rfl ?_; simp only [zp]; refine sn 28 rfl rfl ?_; simp only [zp]; refine sn 29 rfl rfl ?_; simp only [zp]; refine sv (.bool false) 30 rfl rfl (ex_pkF rfl rfl rfl) ?_; simp only [zp]; refine sm (.bool false) 31 rfl rfl rfl rfl ?_; simp only [zp]; refine sn 32 rfl rfl ?_; simp only [zp]; refine sn 33 rfl rfl ?_; simp only [zp]; refine sn 34 rfl rfl ?_; simp only [zp]; refine sn 35 rfl rfl ?_; simp only [zp]; refine sn 36 rfl rfl ?_
    simp only [zp]; refine sv (.bool false) 37 rfl rfl (ex_pkF rfl rfl rfl) ?_; simp only [zp]; refine sm (.bool false) 38 rfl rfl rfl rfl ?_; simp only [zp]; refine sn 39 rfl rfl ?_; simp only [zp]; refine sn 40 rfl rfl ?_; simp only [zp]; refine sn 41 rfl rfl ?_; simp only [zp]; refine sv (.bool false) 42 rfl rfl (ex_pkF rfl rfl rfl) ?_; simp only [zp]; refine sm (.bool false) 43 rfl rfl rfl rfl ?_; simp only [zp]; refine sn 44 rfl rfl ?_; simp only [zp]; refine sn 45 rfl rfl ?_; simp only [zp]; refine sn 46 rfl rfl ?_; simp only [zp]
    refine sv (.bool false) 47 rfl rfl (ex_pkF rfl rfl rfl) ?_; simp only [zp]; refine sg (.bool false) 2 rfl rfl rfl rfl ?_; simp only [zp]; refine st_end ?_; subst hQ; refine wp_ret ?_
    repeat (first | refine ret_out ?_ | refine ret_blk ?_)
    refine bodyPost_ret (results_tmp Try.results68 _ _ _) rfl ⟨?_, E⟩
    show Ending.returned (.bool false) = _
    simp [mayE', e0]
set_option maxHeartbeats 8000000 in
theorem rfnd_any {x N : Nat} {ao : Option Addr} {n c : Nat} {L : List EV} {ch fr : Int} (w : World) (kx : w.heap[x]? = some (.cells #[.slice ao n c] 74)) (hL : Es w N ao L) (hn : n = L.length) (hn2 : n ≤ 64) : Calls Try.prog 69 #[.pointer (some ⟨x, 0, none⟩), .int .i64 ch, .int .i64 fr] w fun e w' => e = .returned (.int .i64 (idxN ch fr L)) ∧ Below w.heap.size w w' := by
  have kw := kx
  have E : Below w.heap.size w w := Below.refl _ _
  go_enter Try.func69, Try.ntmps69; refine wq fun Q hQ => ?_; refine sg (.int .i64 0) 6 rfl rfl rfl rfl ?_; simp only [zp]; refine st_end ?_; subst hQ; refine wp_seq ?_; refine wq fun Q hQ => ?_; refine sg (.int .i64 0) 7 rfl rfl rfl rfl ?_; simp only [zp]; refine st_end ?_; subst hQ; refine wp_block ?_
  go_loopw [7] (fun v7 wr => ∃ i : Nat, i ≤ n ∧ v7 = .int .i64 i ∧ atE ch fr L = (atE ch fr (L.drop i)).map (· + i) ∧ Below w.heap.size w wr) (fun v7 _ => n - (intOf v7).toNat)
  case atStart => exact ⟨0, Nat.zero_le _, rfl, by simp, E⟩
  case round =>
    clear E; obtain ⟨i, hi, rfl, hj, E⟩ := hrel; replace kx := keep E kw
    by_cases hlt : i < n
    · rcases hL with h | ⟨b, off, rfl, hbN, hcur, h⟩
      · rw [h] at hn; simp at hn; omega
      obtain ⟨d, hd⟩ : ∃ d, L[i]? = some d := ⟨L[i]'(by omega), List.getElem?_eq_getElem (by omega)⟩; have hr := range_below (range_at h hd) E
      by_cases e0 : d.ch = ch
      · by_cases e1 : d.fr = fr
        · skip
          refine wp_seq ?_; refine wq fun Q hQ => ?_; refine sm (.int .i64 (i : Nat)) 8 rfl rfl rfl rfl ?_; simp only [zp]; refine sm (.pointer (some ⟨x, 0, none⟩)) 9 rfl rfl rfl rfl ?_; simp only [zp]; refine sv (.pointer (some ⟨x, 0, none⟩)) 10 rfl rfl (ex_nil (p := (.pointer (some ⟨x, 0, none⟩))) rfl rfl rfl) ?_; simp only [zp]; refine sv (.pointer (some ⟨x, 0, none⟩)) 11 rfl rfl (ex_fa (p := (.pointer (some ⟨x, 0, none⟩))) rfl rfl (fa74_0 _ _)) ?_; simp only [zp]
          refine sv (.slice (some ⟨b, off, none⟩) n c) 12 rfl rfl (ex_load (p := (.pointer (some ⟨x, 0, none⟩))) rfl rfl (ld33 (at_cell kx rfl))) ?_; simp only [zp]; refine sv (.int .i64 (n : Nat)) 13 rfl rfl (ex_len rfl rfl (len33 _ _ _ _ _)) ?_; simp only [zp]; refine sv (.bool true) 14 rfl rfl (ex_bin (u := (.int .i64 (i : Nat))) (r := (.int .i64 (n : Nat))) rfl rfl rfl (eg3 _ _ _ _ _ _) (lss3 _ (decide_eq_true (by omega)))) ?_; simp only [zp]; refine st_end ?_; subst hQ; refine wp_cond_true rfl ?_; refine wp_skip ?_; refine wp_seq ?_; refine wp_block ?_; refine wq fun Q hQ => ?_
          refine sm (.pointer (some ⟨x, 0, none⟩)) 17 rfl rfl rfl rfl ?_; simp only [zp]; refine sv (.pointer (some ⟨x, 0, none⟩)) 18 rfl rfl (ex_nil (p := (.pointer (some ⟨x, 0, none⟩))) rfl rfl rfl) ?_; simp only [zp]; refine sv (.pointer (some ⟨x, 0, none⟩)) 19 rfl rfl (ex_fa (p := (.pointer (some ⟨x, 0, none⟩))) rfl rfl (fa74_0 _ _)) ?_; simp only [zp]; refine sv (.slice (some ⟨b, off, none⟩) n c) 20 rfl rfl (ex_load (p := (.pointer (some ⟨x, 0, none⟩))) rfl rfl (ld33 (at_cell kx rfl))) ?_; simp only [zp]; refine sm (.int .i64 (i : Nat)) 21 rfl rfl rfl rfl ?_; simp only [zp]
          refine sv (.pointer (some ⟨b, (off + i * 13), none⟩)) 22 rfl rfl (ix33 (k := i) rfl rfl rfl (rfl) (hlt)) ?_; simp only [zp]; refine sv (.pointer (some ⟨b, (off + i * 13), none⟩)) 23 rfl rfl (ex_fa (p := (.pointer (some ⟨b, (off + i * 13), none⟩))) rfl rfl (fg49_0 _ _ _)) ?_; simp only [zp]; refine sv (.int .i64 d.ch) 24 rfl rfl (ex_load rfl rfl (ld3 (hr 0 _ rfl))) ?_; simp only [zp]; refine sm (.int .i64 ch) 25 rfl rfl rfl rfl ?_; simp only [zp]
          refine sv (.bool true) 26 rfl rfl (ex_bin (u := (.int .i64 d.ch)) (r := (.int .i64 ch)) rfl rfl rfl (eg3 _ _ _ _ _ _) (eql3 _ (decide_eq_true e0))) ?_; simp only [zp]; refine sm (.bool true) 27 rfl rfl rfl rfl ?_; simp only [zp]; refine sm (.pointer (some ⟨x, 0, none⟩)) 28 rfl rfl rfl rfl ?_; simp only [zp]; refine sv (.pointer (some ⟨x, 0, none⟩)) 29 rfl rfl (ex_nil (p := (.pointer (some ⟨x, 0, none⟩))) rfl rfl rfl) ?_; simp only [zp]; refine sv (.pointer (some ⟨x, 0, none⟩)) 30 rfl rfl (ex_fa (p := (.pointer (some ⟨x, 0, none⟩))) rfl rfl (fa74_0 _ _)) ?_; simp only [zp]
          refine sv (.slice (some ⟨b, off, none⟩) n c) 31 rfl rfl (ex_load (p := (.pointer (some ⟨x, 0, none⟩))) rfl rfl (ld33 (at_cell kx rfl))) ?_; simp only [zp]; refine sm (.int .i64 (i : Nat)) 32 rfl rfl rfl rfl ?_; simp only [zp]; refine sv (.pointer (some ⟨b, (off + i * 13), none⟩)) 33 rfl rfl (ix33 (k := i) rfl rfl rfl (rfl) (hlt)) ?_; simp only [zp]; refine sv (.pointer (some ⟨b, ((off + i * 13) + 1), none⟩)) 34 rfl rfl (ex_fa (p := (.pointer (some ⟨b, (off + i * 13), none⟩))) rfl rfl (fg49_1 _ _ _)) ?_; simp only [zp]
          refine sv (.int .i64 d.fr) 35 rfl rfl (ex_load rfl rfl (ld3 (hr 1 _ rfl))) ?_; simp only [zp]; refine sm (.int .i64 fr) 36 rfl rfl rfl rfl ?_; simp only [zp]; refine sv (.bool true) 37 rfl rfl (ex_bin (u := (.int .i64 d.fr)) (r := (.int .i64 fr)) rfl rfl rfl (eg3 _ _ _ _ _ _) (eql3 _ (decide_eq_true e1))) ?_; simp only [zp]; refine sv (.bool true) 38 rfl rfl (ex_pkT rfl rfl rfl) ?_; simp only [zp]; refine st_end ?_; subst hQ; refine wp_cond_true rfl ?_; refine wq fun Q hQ => ?_; refine sm (.int .i64 (i : Nat)) 39 rfl rfl rfl rfl ?_; simp only [zp]
          refine sg (.int .i64 (i : Nat)) 6 rfl rfl rfl rfl ?_; simp only [zp]; refine st_end ?_; subst hQ; refine wp_ret ?_
          repeat (first | refine ret_out ?_ | refine ret_blk ?_)
          refine bodyPost_ret (results_tmp Try.results69 _ _ _) rfl ⟨?_, E⟩
          show Ending.returned (.int .i64 (i : Nat)) = _
          unfold idxN
          rw [at_here hd hj (by omega)]
        · skip
          refine wp_seq ?_; refine wq fun Q hQ => ?_; refine sm (.int .i64 (i : Nat)) 8 rfl rfl rfl rfl ?_; simp only [zp]; refine sm (.pointer (some ⟨x, 0, none⟩)) 9 rfl rfl rfl rfl ?_; simp only [zp]; refine sv (.pointer (some ⟨x, 0, none⟩)) 10 rfl rfl (ex_nil (p := (.pointer (some ⟨x, 0, none⟩))) rfl rfl rfl) ?_; simp only [zp]; refine sv (.pointer (some ⟨x, 0, none⟩)) 11 rfl rfl (ex_fa (p := (.pointer (some ⟨x, 0, none⟩))) rfl rfl (fa74_0 _ _)) ?_; simp only [zp]
          refine sv (.slice (some ⟨b, off, none⟩) n c) 12 rfl rfl (ex_load (p := (.pointer (some ⟨x, 0, none⟩))) rfl rfl (ld33 (at_cell kx rfl))) ?_; simp only [zp]; refine sv (.int .i64 (n : Nat)) 13 rfl rfl (ex_len rfl rfl (len33 _ _ _ _ _)) ?_; simp only [zp]; refine sv (.bool true) 14 rfl rfl (ex_bin (u := (.int .i64 (i : Nat))) (r := (.int .i64 (n : Nat))) rfl rfl rfl (eg3 _ _ _ _ _ _) (lss3 _ (decide_eq_true (by omega)))) ?_; simp only [zp]; refine st_end ?_; subst hQ; refine wp_cond_true rfl ?_; refine wp_skip ?_; refine wp_seq ?_; refine wp_block ?_; refine wq fun Q hQ => ?_
          refine sm (.pointer (some ⟨x, 0, none⟩)) 17 rfl rfl rfl rfl ?_; simp only [zp]; refine sv (.pointer (some ⟨x, 0, none⟩)) 18 rfl rfl (ex_nil (p := (.pointer (some ⟨x, 0, none⟩))) rfl rfl rfl) ?_; simp only [zp]; refine sv (.pointer (some ⟨x, 0, none⟩)) 19 rfl rfl (ex_fa (p := (.pointer (some ⟨x, 0, none⟩))) rfl rfl (fa74_0 _ _)) ?_; simp only [zp]; refine sv (.slice (some ⟨b, off, none⟩) n c) 20 rfl rfl (ex_load (p := (.pointer (some ⟨x, 0, none⟩))) rfl rfl (ld33 (at_cell kx rfl))) ?_; simp only [zp]; refine sm (.int .i64 (i : Nat)) 21 rfl rfl rfl rfl ?_; simp only [zp]
          refine sv (.pointer (some ⟨b, (off + i * 13), none⟩)) 22 rfl rfl (ix33 (k := i) rfl rfl rfl (rfl) (hlt)) ?_; simp only [zp]; refine sv (.pointer (some ⟨b, (off + i * 13), none⟩)) 23 rfl rfl (ex_fa (p := (.pointer (some ⟨b, (off + i * 13), none⟩))) rfl rfl (fg49_0 _ _ _)) ?_; simp only [zp]; refine sv (.int .i64 d.ch) 24 rfl rfl (ex_load rfl rfl (ld3 (hr 0 _ rfl))) ?_; simp only [zp]; refine sm (.int .i64 ch) 25 rfl rfl rfl rfl ?_; simp only [zp]
          refine sv (.bool true) 26 rfl rfl (ex_bin (u := (.int .i64 d.ch)) (r := (.int .i64 ch)) rfl rfl rfl (eg3 _ _ _ _ _ _) (eql3 _ (decide_eq_true e0))) ?_; simp only [zp]; refine sm (.bool true) 27 rfl rfl rfl rfl ?_; simp only [zp]; refine sm (.pointer (some ⟨x, 0, none⟩)) 28 rfl rfl rfl rfl ?_; simp only [zp]; refine sv (.pointer (some ⟨x, 0, none⟩)) 29 rfl rfl (ex_nil (p := (.pointer (some ⟨x, 0, none⟩))) rfl rfl rfl) ?_; simp only [zp]; refine sv (.pointer (some ⟨x, 0, none⟩)) 30 rfl rfl (ex_fa (p := (.pointer (some ⟨x, 0, none⟩))) rfl rfl (fa74_0 _ _)) ?_; simp only [zp]
          refine sv (.slice (some ⟨b, off, none⟩) n c) 31 rfl rfl (ex_load (p := (.pointer (some ⟨x, 0, none⟩))) rfl rfl (ld33 (at_cell kx rfl))) ?_; simp only [zp]; refine sm (.int .i64 (i : Nat)) 32 rfl rfl rfl rfl ?_; simp only [zp]; refine sv (.pointer (some ⟨b, (off + i * 13), none⟩)) 33 rfl rfl (ix33 (k := i) rfl rfl rfl (rfl) (hlt)) ?_; simp only [zp]; refine sv (.pointer (some ⟨b, ((off + i * 13) + 1), none⟩)) 34 rfl rfl (ex_fa (p := (.pointer (some ⟨b, (off + i * 13), none⟩))) rfl rfl (fg49_1 _ _ _)) ?_; simp only [zp]
          refine sv (.int .i64 d.fr) 35 rfl rfl (ex_load rfl rfl (ld3 (hr 1 _ rfl))) ?_; simp only [zp]; refine sm (.int .i64 fr) 36 rfl rfl rfl rfl ?_; simp only [zp]; refine sv (.bool false) 37 rfl rfl (ex_bin (u := (.int .i64 d.fr)) (r := (.int .i64 fr)) rfl rfl rfl (eg3 _ _ _ _ _ _) (eql3 _ (decide_eq_false e1))) ?_; simp only [zp]; refine sv (.bool false) 38 rfl rfl (ex_pkT rfl rfl rfl) ?_; simp only [zp]; refine st_end ?_; subst hQ; refine wp_cond_false rfl ?_; refine wp_skip ?_; refine wl_in (wl_cap fun Q hQ => ?_); refine sm (.int .i64 (i : Nat)) 15 rfl rfl rfl rfl ?_
          simp only [zp]; refine sv (.int .i64 ((i + 1 : Nat) : Int)) 16 rfl rfl (ex_bin rfl rfl rfl (eg3 _ _ _ _ _ _) (add3 _ (by omega) (by omega))) ?_; simp only [zp]; refine sg (.int .i64 ((i + 1 : Nat) : Int)) 7 rfl rfl rfl rfl ?_; simp only [zp]; refine st_end ?_; subst hQ; refine then_go ?_
          go_roundw
          case rel => exact ⟨i + 1, by omega, rfl, at_next hd hj (by omega), E⟩
          case measure => simp [intOf]; omega
      · skip
        refine wp_seq ?_; refine wq fun Q hQ => ?_; refine sm (.int .i64 (i : Nat)) 8 rfl rfl rfl rfl ?_; simp only [zp]; refine sm (.pointer (some ⟨x, 0, none⟩)) 9 rfl rfl rfl rfl ?_; simp only [zp]; refine sv (.pointer (some ⟨x, 0, none⟩)) 10 rfl rfl (ex_nil (p := (.pointer (some ⟨x, 0, none⟩))) rfl rfl rfl) ?_; simp only [zp]; refine sv (.pointer (some ⟨x, 0, none⟩)) 11 rfl rfl (ex_fa (p := (.pointer (some ⟨x, 0, none⟩))) rfl rfl (fa74_0 _ _)) ?_; simp only [zp]
        refine sv (.slice (some ⟨b, off, none⟩) n c) 12 rfl rfl (ex_load (p := (.pointer (some ⟨x, 0, none⟩))) rfl rfl (ld33 (at_cell kx rfl))) ?_; simp only [zp]; refine sv (.int .i64 (n : Nat)) 13 rfl rfl (ex_len rfl rfl (len33 _ _ _ _ _)) ?_; simp only [zp]; refine sv (.bool true) 14 rfl rfl (ex_bin (u := (.int .i64 (i : Nat))) (r := (.int .i64 (n : Nat))) rfl rfl rfl (eg3 _ _ _ _ _ _) (lss3 _ (decide_eq_true (by omega)))) ?_; simp only [zp]; refine st_end ?_; subst hQ; refine wp_cond_true rfl ?_; refine wp_skip ?_; refine wp_seq ?_; refine wp_block ?_; refine wq fun Q hQ => ?_
        refine sm (.pointer (some ⟨x, 0, none⟩)) 17 rfl rfl rfl rfl ?_; simp only [zp]; refine sv (.pointer (some ⟨x, 0, none⟩)) 18 rfl rfl (ex_nil (p := (.pointer (some ⟨x, 0, none⟩))) rfl rfl rfl) ?_; simp only [zp]; refine sv (.pointer (some ⟨x, 0, none⟩)) 19 rfl rfl (ex_fa (p := (.pointer (some ⟨x, 0, none⟩))) rfl rfl (fa74_0 _ _)) ?_; simp only [zp]; refine sv (.slice (some ⟨b, off, none⟩) n c) 20 rfl rfl (ex_load (p := (.pointer (some ⟨x, 0, none⟩))) rfl rfl (ld33 (at_cell kx rfl))) ?_; simp only [zp]; refine sm (.int .i64 (i : Nat)) 21 rfl rfl rfl rfl ?_; simp only [zp]
        refine sv (.pointer (some ⟨b, (off + i * 13), none⟩)) 22 rfl rfl (ix33 (k := i) rfl rfl rfl (rfl) (hlt)) ?_; simp only [zp]; refine sv (.pointer (some ⟨b, (off + i * 13), none⟩)) 23 rfl rfl (ex_fa (p := (.pointer (some ⟨b, (off + i * 13), none⟩))) rfl rfl (fg49_0 _ _ _)) ?_; simp only [zp]; refine sv (.int .i64 d.ch) 24 rfl rfl (ex_load rfl rfl (ld3 (hr 0 _ rfl))) ?_; simp only [zp]; refine sm (.int .i64 ch) 25 rfl rfl rfl rfl ?_; simp only [zp]
        refine sv (.bool false) 26 rfl rfl (ex_bin (u := (.int .i64 d.ch)) (r := (.int .i64 ch)) rfl rfl rfl (eg3 _ _ _ _ _ _) (eql3 _ (decide_eq_false e0))) ?_; simp only [zp]; refine sm (.bool false) 27 rfl rfl rfl rfl ?_; simp only [zp]; refine sn 28 rfl rfl ?_; simp only [zp]; refine sn 29 rfl rfl ?_; simp only [zp]; refine sn 30 rfl rfl ?_; simp only [zp]; refine sn 31 rfl rfl ?_; simp only [zp]; refine sn 32 rfl rfl ?_; simp only [zp]; refine sn 33 rfl rfl ?_; simp only [zp]; refine sn 34 rfl rfl ?_; simp only [zp]; refine sn 35 rfl rfl ?_; simp only [zp]; refine sn 36 rfl rfl ?_
        simp only [zp]; refine sn 37 rfl rfl ?_; simp only [zp]; refine sv (.bool false) 38 rfl rfl (ex_pkF rfl rfl rfl) ?_; simp only [zp]; refine st_end ?_; subst hQ; refine wp_cond_false rfl ?_; refine wp_skip ?_; refine wl_in (wl_cap fun Q hQ => ?_); refine sm (.int .i64 (i : Nat)) 15 rfl rfl rfl rfl ?_; simp only [zp]; refine sv (.int .i64 ((i + 1 : Nat) : Int)) 16 rfl rfl (ex_bin rfl rfl rfl (eg3 _ _ _ _ _ _) (add3 _ (by omega) (by omega))) ?_; simp only [zp]; refine sg (.int .i64 ((i + 1 : Nat) : Int)) 7 rfl rfl rfl rfl ?_; simp only [zp]; refine st_end ?_; subst hQ
        refine then_go ?_
        go_roundw
        case rel => exact ⟨i + 1, by omega, rfl, at_next hd hj (by omega), E⟩
        case measure => simp [intOf]; omega
    · have hin : i = n := by omega
      subst i; refine wp_seq ?_; refine wq fun Q hQ => ?_; refine sm (.int .i64 (n : Nat)) 8 rfl rfl rfl rfl ?_; simp only [zp]; refine sm (.pointer (some ⟨x, 0, none⟩)) 9 rfl rfl rfl rfl ?_; simp only [zp]; refine sv (.pointer (some ⟨x, 0, none⟩)) 10 rfl rfl (ex_nil (p := (.pointer (some ⟨x, 0, none⟩))) rfl rfl rfl) ?_; simp only [zp]; refine sv (.pointer (some ⟨x, 0, none⟩)) 11 rfl rfl (ex_fa (p := (.pointer (some ⟨x, 0, none⟩))) rfl rfl (fa74_0 _ _)) ?_; simp only [zp]
      refine sv (.slice ao n c) 12 rfl rfl (ex_load (p := (.pointer (some ⟨x, 0, none⟩))) rfl rfl (ld33 (at_cell kx rfl))) ?_; simp only [zp]; refine sv (.int .i64 (n : Nat)) 13 rfl rfl (ex_len rfl rfl (len33 _ _ _ _ _)) ?_; simp only [zp]; refine sv (.bool false) 14 rfl rfl (ex_bin (u := (.int .i64 (n : Nat))) (r := (.int .i64 (n : Nat))) rfl rfl rfl (eg3 _ _ _ _ _ _) (lss3 _ (decide_eq_false (by omega)))) ?_; simp only [zp]; refine st_end ?_; subst hQ; refine wp_cond_false rfl ?_; refine wp_exit ?_; refine ex_then ?_; refine ex_then ?_; refine ex_blk ?_; refine wq fun Q hQ => ?_
      refine sg (.int .i64 (-1)) 6 rfl rfl rfl rfl ?_; simp only [zp]; refine st_end ?_; subst hQ; refine wp_ret ?_; refine bodyPost_ret (results_tmp Try.results69 _ _ _) rfl ⟨?_, E⟩
      unfold idxN
      subst hn; rw [at_end hj]
      rfl
set_option maxHeartbeats 4000000 in
theorem rget_yes {x N n c b off j : Nat} {d : EV} {L : List EV} {ch fr : Int} (w : World) (kx : w.heap[x]? = some (.cells #[.slice (some ⟨b, off, none⟩) n c] 74)) (hL : Es w N (some ⟨b, off, none⟩) L) (hn : n = L.length) (hn2 : n ≤ 64) (hj : atE ch fr L = some j) (hd : L[j]? = some d) : Calls Try.prog 31 #[.pointer (some ⟨x, 0, none⟩), .int .i64 ch, .int .i64 fr] w fun e w' => e = .returned (.tuple #[.agg (EL d), .bool true]) ∧ Below w.heap.size w w' := by
  have hjl : j < n := by rw [hn]; exact (List.getElem?_eq_some_iff.1 hd).1
  have hr : w.rangeAt b off (cE L) := by
    rcases hL with q | ⟨b', off', q, _, _, hr⟩
    · rw [q] at hd; simp at hd
    · cases q; exact hr
  have E : Below w.heap.size w w := Below.refl _ _
  go_enter Try.func31, Try.ntmps31; refine wq fun Q hQ => ?_; refine st_new (fun b => .pointer (some ⟨b, 0, none⟩)) (some 6) rfl rfl (ex_alloc rfl zero49) ?_; intro b21 W1 k21 g21 B; simp only [zp]
  have ne_b21_x : b21 ≠ x := fun e => by have := lt_of kx; omega
  have ge_b21 := Nat.le_trans E.size g21; replace E := below_next E B; replace kx := keep B kx; replace hL := hL.keepB B; clear B; refine sg (.bool false) 7 rfl rfl rfl rfl ?_; simp only [zp]; refine st_end ?_; subst hQ; refine wp_seq ?_; refine wq fun Q hQ => ?_; refine sm (.pointer (some ⟨x, 0, none⟩)) 9 rfl rfl rfl rfl ?_; simp only [zp]; refine sm (.int .i64 ch) 10 rfl rfl rfl rfl ?_; simp only [zp]; refine sm (.int .i64 fr) 11 rfl rfl rfl rfl ?_; simp only [zp]
  refine st_call (some 12) rfl rfl ((rfnd_any (ch := ch) (fr := fr) W1 kx hL hn hn2).mono (fun _ _ h => by unfold idxN at h; rw [hj] at h; exact h)) (ex_call (f := 69) (vs := [(.pointer (some ⟨x, 0, none⟩)), (.int .i64 ch), (.int .i64 fr)]) rfl (cf69 _) rfl) ?_; rintro e W2 ⟨rfl, B⟩; refine ⟨_, rfl, ?_⟩; simp only [zp]; replace E := below_next E B; replace kx := keep B kx; replace hL := hL.keepB B; replace k21 := keep B k21; refine sg (.int .i64 (j : Nat)) 8 rfl rfl rfl rfl ?_; simp only [zp]; refine st_end ?_; subst hQ; refine wq fun Q hQ => ?_
  refine sm (.int .i64 (j : Nat)) 13 rfl rfl rfl rfl ?_; simp only [zp]; refine sv (.bool true) 14 rfl rfl (ex_bin (u := (.int .i64 (j : Nat))) (r := (.int .i64 0)) rfl rfl rfl (eg3 _ _ _ _ _ _) (geq3 _ (decide_eq_true (by omega)))) ?_; simp only [zp]; refine st_end ?_; subst hQ; refine wp_cond_true rfl ?_; refine wq fun Q hQ => ?_; refine sm (.pointer (some ⟨x, 0, none⟩)) 15 rfl rfl rfl rfl ?_; simp only [zp]; refine sv (.pointer (some ⟨x, 0, none⟩)) 16 rfl rfl (ex_nil (p := (.pointer (some ⟨x, 0, none⟩))) rfl rfl rfl) ?_; simp only [zp]
  refine sv (.pointer (some ⟨x, 0, none⟩)) 17 rfl rfl (ex_fa (p := (.pointer (some ⟨x, 0, none⟩))) rfl rfl (fa74_0 _ _)) ?_; simp only [zp]; refine sv (.slice (some ⟨b, off, none⟩) n c) 18 rfl rfl (ex_load (p := (.pointer (some ⟨x, 0, none⟩))) rfl rfl (ld33 (at_cell kx rfl))) ?_; simp only [zp]; refine sm (.int .i64 (j : Nat)) 19 rfl rfl rfl rfl ?_; simp only [zp]; refine sv (.pointer (some ⟨b, (off + j * 13), none⟩)) 20 rfl rfl (ix33 (k := j) rfl rfl rfl (rfl) (hjl)) ?_; simp only [zp]
  refine sv (.agg (EL d)) 21 rfl rfl (ex_load rfl rfl (ld_range (range_below (range_at hr hd) E) Try.underlying49 rfl inf49)) ?_; simp only [zp]; obtain ⟨W3, hst, kn, K⟩ := put_all (D := (EL d)) k21 rfl inf49 (by kernel_rfl); refine st_sk rfl rfl (ex_store rfl rfl rfl hst) ?_; replace E := below_put E ge_b21 K; replace kx := keepK K kx (fun e => ne_tag kx k21 (by decide) e); replace hL := hL; replace k21 := kn; clear kn K hst; refine sg (.bool true) 7 rfl rfl rfl rfl ?_; simp only [zp]; refine st_end ?_; subst hQ; refine wp_ret ?_
  repeat (first | refine ret_out ?_ | refine ret_blk ?_)
  exact bodyPost_ret (res_ct Try.results31 _ _ _ _ rfl k21 Try.underlying49 rfl inf49) rfl ⟨rfl, E⟩
set_option maxHeartbeats 4000000 in
theorem rget_no {x N n c  : Nat} {ao : Option Addr} {L : List EV} {ch fr : Int} (w : World) (kx : w.heap[x]? = some (.cells #[.slice ao n c] 74)) (hL : Es w N ao L) (hn : n = L.length) (hn2 : n ≤ 64) (hj : atE ch fr L = none) : Calls Try.prog 31 #[.pointer (some ⟨x, 0, none⟩), .int .i64 ch, .int .i64 fr] w fun e w' => e = .returned (.tuple #[.agg (EL NE), .bool false]) ∧ Below w.heap.size w w' := by
  have E : Below w.heap.size w w := Below.refl _ _
  go_enter Try.func31, Try.ntmps31; refine wq fun Q hQ => ?_; refine st_new (fun b => .pointer (some ⟨b, 0, none⟩)) (some 6) rfl rfl (ex_alloc rfl zero49) ?_; intro b21 W1 k21 g21 B; simp only [zp]
  have ne_b21_x : b21 ≠ x := fun e => by have := lt_of kx; omega
  have ge_b21 := Nat.le_trans E.size g21; replace E := below_next E B; replace kx := keep B kx; replace hL := hL.keepB B; clear B; refine sg (.bool false) 7 rfl rfl rfl rfl ?_; simp only [zp]; refine st_end ?_; subst hQ; refine wp_seq ?_; refine wq fun Q hQ => ?_; refine sm (.pointer (some ⟨x, 0, none⟩)) 9 rfl rfl rfl rfl ?_; simp only [zp]; refine sm (.int .i64 ch) 10 rfl rfl rfl rfl ?_; simp only [zp]; refine sm (.int .i64 fr) 11 rfl rfl rfl rfl ?_; simp only [zp]
  refine st_call (some 12) rfl rfl ((rfnd_any (ch := ch) (fr := fr) W1 kx hL hn hn2).mono (fun _ _ h => by unfold idxN at h; rw [hj] at h; exact h)) (ex_call (f := 69) (vs := [(.pointer (some ⟨x, 0, none⟩)), (.int .i64 ch), (.int .i64 fr)]) rfl (cf69 _) rfl) ?_; rintro e W2 ⟨rfl, B⟩; refine ⟨_, rfl, ?_⟩; simp only [zp]; replace E := below_next E B; replace kx := keep B kx; replace hL := hL.keepB B; replace k21 := keep B k21; refine sg (.int .i64 (-1)) 8 rfl rfl rfl rfl ?_; simp only [zp]; refine st_end ?_; subst hQ; refine wq fun Q hQ => ?_; refine sm (.int .i64 (-1)) 13 rfl rfl rfl rfl ?_
  simp only [zp]; refine sv (.bool false) 14 rfl rfl (ex_bin (u := (.int .i64 (-1))) (r := (.int .i64 0)) rfl rfl rfl (eg3 _ _ _ _ _ _) (geq3 _ (by decide))) ?_; simp only [zp]; refine st_end ?_; subst hQ; refine wp_cond_false rfl ?_; refine wp_skip ?_; refine wq fun Q hQ => ?_; refine sv (.agg #[.int .i64 0, .int .i64 0, .int .i64 0, .int .i64 0, .int .i64 0, .int .i64 0, .int .i64 0, .int .i64 0, .int .i64 0, .int .i64 0, .int .i64 0, .int .i64 0, .int .i64 0]) 22 rfl rfl (ex_build0  rfl (bEd0 _)) ?_; simp only [zp]
  obtain ⟨W3, hst, kn, K⟩ := put_all (D := #[.int .i64 0, .int .i64 0, .int .i64 0, .int .i64 0, .int .i64 0, .int .i64 0, .int .i64 0, .int .i64 0, .int .i64 0, .int .i64 0, .int .i64 0, .int .i64 0, .int .i64 0]) k21 rfl inf49 (by kernel_rfl); refine st_sk rfl rfl (ex_store rfl rfl rfl hst) ?_; replace E := below_put E ge_b21 K; replace kx := keepK K kx (fun e => ne_tag kx k21 (by decide) e); replace hL := hL; replace k21 := kn; clear kn K hst; refine sg (.bool false) 7 rfl rfl rfl rfl ?_; simp only [zp]; refine st_end ?_; subst hQ; refine wp_ret ?_
  repeat (first | refine ret_out ?_ | refine ret_blk ?_)
  exact bodyPost_ret (res_ct Try.results31 _ _ _ _ rfl k21 Try.underlying49 rfl inf49) rfl ⟨rfl, E⟩
theorem rqget_any {x : Nat} {v : Value} {L : List EV} {ch fr : Int} (w : World) (hR : Rq w x v L) (hI : GI L) : Calls Try.prog 31 #[.pointer (some ⟨x, 0, none⟩), .int .i64 ch, .int .i64 fr] w fun q w' => q = .returned (.tuple #[.agg (EL (getN L ch fr).1), .bool (getN L ch fr).2]) ∧ Below w.heap.size w w' := by
  obtain ⟨ao, c, rfl, hc, hL⟩ := own_Ev hR.2 rfl
  unfold getN
  cases hj : atE ch fr L with
  | some j =>
    obtain ⟨d, hd, hk⟩ := at_some hj; simp only [hd]
    rcases own_or hR.2 with ⟨_, q⟩ | ⟨b, c', q⟩
    · have := (List.getElem?_eq_some_iff.1 hd).1
      omega
    · cases q
      exact rget_yes w hR.1 hL rfl hI.n hj hd
  | none => exact rget_no w hR.1 hL rfl hI.n hj
end Go.Proofs.Ytgnkcmmpbohafaa

/- Cuts of any list of edges, what is added behind a row of one's own, wherever it lies; four that may come up. -/
namespace Go.Proofs.Ytgnkcmmpbohafaa
open Go.RowKit
set_option linter.unusedVariables false
set_option linter.unusedSimpArgs false
set_option maxRecDepth 100000
section
variable {md : Region.Mode} {ops : Array Oper} {Q : Exit → Act → World → Prop} {S : World → Prop} {fuel : Nat} {L : Array Bool} {a : Act} {w : World} {i j k l : Nat}
theorem ah_or4 (hr : Region.ready md ops L = [i, j, k, l]) (h1 : Nx md ops Q S fuel L i a w) (h2 : Nx md ops Q S fuel L j a w) (h3 : Nx md ops Q S fuel L k a w) (h4 : Nx md ops Q S fuel L l a w) : wpAnyH Try.prog md ops Q S (fuel + 1) L a w :=
  wpAnyH_all hr (by simp) fun m hm => by
    rcases List.mem_cons.1 hm with rfl | hm
    · exact h1
    rcases List.mem_cons.1 hm with rfl | hm
    · exact h2
    rcases List.mem_cons.1 hm with rfl | hm
    · exact h3
    · rw [List.mem_singleton.1 hm]; exact h4
end
theorem nrm_blk {Q : Exit → Act → World → Prop} {a : Act} {w : World} {i : Nat} (h : Q .normal a w) : Exit.inBlock i Q .normal a w := h
/-- where a list is cut -/
def cutA (ao : Option Addr) (k c : Nat) : Option Addr := match ao with
  | none => none
  | some a => some ⟨a.block, if c = k then a.off else a.off + k * 13, a.spot⟩
section
variable {o : Oper} {a : Act} {W : World}
theorem ex_cuthA {x y : Operand} {ao : Option Addr} {n c k : Nat} {l : Int} (hv : ao = none → c = 0) (hs : ∀ ad, ao = some ad → ad.spot = none) (ho : o.op = .slice 33 x none (some y) none) (hx : a.eval x = .slice ao n c) (hy : a.eval y = .int .i64 l) (hl : l = (k : Int)) (hk : k ≤ c) : (execOp a.eval o).run Try.prog W = .ok (.value (.slice ao k c)) W := by
  cases ao with
  | some ad =>
    obtain ⟨b, p, sp⟩ := ad; obtain rfl : sp = none := hs _ rfl; exact ex_cuth ho hx hy hl hk
  | none =>
    obtain rfl : c = 0 := hv rfl
    obtain rfl : k = 0 := by omega
    subst hl
    unfold execOp
    simp only [ho, Option.map_some, Option.map_none, hx, hy]
    go_simp
theorem ex_cutlA {x y : Operand} {ao : Option Addr} {n c k : Nat} {l : Int} (hv : ao = none → c = 0) (hs : ∀ ad, ao = some ad → ad.spot = none) (ho : o.op = .slice 33 x (some y) none none) (hx : a.eval x = .slice ao n c) (hy : a.eval y = .int .i64 l) (hl : l = (k : Int)) (hk : k ≤ n) (hn : n ≤ c) : (execOp a.eval o).run Try.prog W = .ok (.value (.slice (cutA ao k c) (n - k) (c - k))) W := by
  cases ao with
  | some ad =>
    obtain ⟨b, p, sp⟩ := ad; obtain rfl : sp = none := hs _ rfl; exact ex_cutl ho hx hy hl hk hn
  | none =>
    obtain rfl : c = 0 := hv rfl
    obtain rfl : n = 0 := by omega
    obtain rfl : k = 0 := by omega
    subst hl
    unfold execOp
    simp only [ho, Option.map_some, Option.map_none, hx, hy, cutA]
    go_simp
end
/-- m edges, as cells, lie there -/
def Src (W : World) (ao : Option Addr) (m : Nat) (D : List Value) : Prop := (m = 0 ∧ D = []) ∨ ∃ xb xo, ao = some ⟨xb, xo, none⟩ ∧ W.rangeAt xb xo D
theorem Es.src {W : World} {N n : Nat} {ao : Option Addr} {L : List EV} {k : Nat} (h : Es W N ao L) (hn : n = L.length) (hk : k ≤ n) : Src W ao k (cE (L.take k)) := by
  rcases h with h | ⟨b, o, e, _, _, hr⟩
  · subst h
    simp at hn
    exact .inl ⟨by omega, by simp [cE]⟩
  · exact .inr ⟨b, o, e, range_take hr (by omega)⟩
theorem Es.srcd {W : World} {N n c : Nat} {ao : Option Addr} {L : List EV} {k : Nat} (h : Es W N ao L) (hn : n = L.length) (hk : k ≤ n) (hc : n ≤ c) : Src W (cutA ao k c) (n - k) (cE (L.drop k)) := by
  rcases h with h | ⟨b, o, e, _, _, hr⟩
  · subst h
    simp at hn
    exact .inl ⟨by omega, by simp [cE]⟩
  · by_cases hq : k = n
    · refine .inl ⟨by omega, ?_⟩
      rw [hq, hn, List.drop_length]
      rfl
    · subst e
      refine .inr ⟨b, o + k * 13, ?_, range_drop hr (by omega)⟩
      unfold cutA
      dsimp only
      rw [if_neg (by omega)]
theorem src_box {W : World} {b : Nat} {e : EV} (k : W.heap[b]? = some (.cells (EL e) 49)) : Src W (some ⟨b, 0, none⟩) 1 (EL e).toList := .inr ⟨b, 0, rfl, at_range (o := 0) (n := 13) k (by show 0 + 13 ≤ _; simp [EL])⟩
/-- what is added behind a row of one's own -/
theorem own_src {W : World} {base n m c c0 gb : Nat} {ao : Option Addr} {xs D : List Value} (h : W.ownsRow base 49 13 (.slice (some ⟨gb, 0, none⟩) n c0) n xs) (hD : Src W ao m D) (hl : D.length = m * 13) (h1 : ∀ u ∈ D, u.oneCell' = true) (hn : n + m ≤ 200) (hbase : base ≤ W.heap.size) :
    ∃ g' cap' W', (Builtin.append_ #[33, 33] 33 #[.slice (some ⟨gb, 0, none⟩) n c0, .slice ao m c]).run Try.prog W = .ok (.slice (some ⟨g', 0, none⟩) (n + m) cap') W' ∧ W'.ownsRow base 49 13 (.slice (some ⟨g', 0, none⟩) (n + m) cap') (n + m) (xs ++ D) ∧ Kept (· = gb) W W' := by
  have hnc : n ≤ c0 := by
    obtain ⟨ao, cc, q, hc, _⟩ := own_form h
    cases q
    exact hc
  by_cases hm : m = 0
  · subst hm
    obtain rfl : D = [] := List.eq_nil_of_length_eq_zero (by omega); obtain ⟨i0, hi, hz0, hz1, hz2⟩ := info_parts Try.inf49b; refine ⟨gb, c0, W, ?_, by rw [List.append_nil]; exact h, Kept.refl _ _⟩
    cases ao <;> simp [Builtin.append_, run_underlying Try.underlying33, sizeOf, typeInfo, hi, hz1, Builtin.lenOf, Builtin.firstCells, hnc, loadCells, loadCellsFrom, storeCells]
  · rcases hD with ⟨q, _⟩ | ⟨xb, xo, rfl, hD⟩
    · exact absurd q hm
    · exact own_more h hD hl h1 hn hbase
theorem pos_stop {ch fr : Int} {L : List EV} {k : Nat} {d : EV} (hd : L[k]? = some d) (h : posE ch fr L = k + posE ch fr (L.drop k)) (hk : ¬ ordN d ch fr < 0) : posE ch fr L = k := by
  obtain ⟨hi, hd⟩ := List.getElem?_eq_some_iff.1 hd; rw [h, List.drop_eq_getElem_cons hi, hd]
  unfold posE
  rw [if_neg hk]
  rfl
theorem pos_next {ch fr : Int} {L : List EV} {k : Nat} {d : EV} (hd : L[k]? = some d) (h : posE ch fr L = k + posE ch fr (L.drop k)) (hk : ordN d ch fr < 0) : posE ch fr L = (k + 1) + posE ch fr (L.drop (k + 1)) := by
  obtain ⟨hi, hd⟩ := List.getElem?_eq_some_iff.1 hd; rw [List.drop_eq_getElem_cons hi, hd, (show posE ch fr (d :: L.drop (k + 1)) = if ordN d ch fr < 0 then posE ch fr (L.drop (k + 1)) + 1 else 0 from rfl), if_pos hk] at h
  omega
theorem pos_last {ch fr : Int} {L : List EV} (h : posE ch fr L = L.length + posE ch fr (L.drop L.length)) : posE ch fr L = L.length := by
  rw [h, List.drop_length]
  rfl
theorem pos_end {ch fr : Int} {L : List EV} {n k : Nat} (hn : n = L.length) (hk : k = n) (h : posE ch fr L = k + posE ch fr (L.drop k)) : posE ch fr L = k := by
  subst hk hn; exact pos_last h
theorem range_kept {w W : World} {b o : Nat} {C : List Value} (h : Kept Nil w W) (hr : w.rangeAt b o C) : W.rangeAt b o C := fun j v hv => by
  have hc := hr j v hv
  have hb : W.heap[b]? = w.heap[b]? := h.block b (block_lt_of_cell hc) (nilN _)
  exact (cell_blk hb _).trans hc
end Go.Proofs.Ytgnkcmmpbohafaa
