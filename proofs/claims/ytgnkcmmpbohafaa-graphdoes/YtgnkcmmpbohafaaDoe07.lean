/- Some texts, in one. -/
import Derived.Test.YtgnkcmmpbohafaaDoe06
import Derived.Scope
/- What is done with each way that leads there. -/
namespace Go.Proofs.Ytgnkcmmpbohafaa
open Go.RowKit
set_option linter.unusedVariables false
set_option linter.unusedSimpArgs false
set_option maxRecDepth 100000

def betC (n co m cb : Nat) : Bool := decide (m = 0) || (lsN co cb || (!lsN cb co && decide (n < m)))
set_option maxHeartbeats 8000000 in
theorem better_any {a1 a2 a3 d1 d2 d3 : Option Addr} {n c1 n2 c2 n3 c3 m r1 m2 r2 m3 r3 co cb : Nat} {fx fy : Int} (w : World) {c : Bool} (hc : betC n co m cb = c) : Calls Try.prog 38 #[.agg #[.slice a1 n c1, .slice a2 n2 c2, .slice a3 n3 c3, .int .i64 fx, .float .f64 co], .agg #[.slice d1 m r1, .slice d2 m2 r2, .slice d3 m3 r3, .int .i64 fy, .float .f64 cb]] w fun e w' => e = .returned (.bool c) ∧ Below w.heap.size w w' := by
  subst hc
  have E : Below w.heap.size w w := Below.refl _ _
  go_enter Try.func38, Try.ntmps38; refine wq fun Q hQ => ?_; refine st_new (fun b => .pointer (some ⟨b, 0, none⟩)) (some 2) rfl rfl (ex_box rfl rfl) ?_; intro b1 W1 k1 g1 B; simp only [zp]; have ge_b1 := Nat.le_trans E.size g1; replace E := below_next E B; clear B; refine st_new (fun b => .pointer (some ⟨b, 0, none⟩)) (some 3) rfl rfl (ex_box rfl rfl) ?_; intro b2 W2 k2 g2 B; simp only [zp]
  have ne_b2_b1 : b2 ≠ b1 := fun e => by have := lt_of k1; omega
  have ge_b2 := Nat.le_trans E.size g2; replace E := below_next E B; replace k1 := keep B k1; clear B; refine vg (.bool false) 4 rfl rfl rfl rfl ?_; refine st_end ?_; subst hQ; refine wp_seq ?_; refine wp_block ?_; refine wq fun Q hQ => ?_; refine vv (Pz b2 0) 6 rfl rfl (ex_fa (p := (Pz b2 0)) rfl rfl (fa36_0 _ _)) ?_; refine vv (.slice d1 m r1) 7 rfl rfl (ex_load (p := (Pz b2 0)) rfl rfl (ld33 (at_cell k2 rfl))) ?_; refine vv (.int .i64 (m : Nat)) 8 rfl rfl (ex_len rfl rfl (len33 _ _ _ _ _)) ?_
  by_cases e0 : m = 0
  · skip
    refine vv (.bool true) 9 rfl rfl (ex_bin (u := (.int .i64 (m : Nat))) (r := (.int .i64 0)) rfl rfl rfl (eg3 _ _ _ _ _ _) (eql3 _ (decide_eq_true (by omega)))) ?_; refine vm (.bool true) 10 rfl rfl rfl rfl ?_; refine vn 11 rfl rfl ?_; refine vn 12 rfl rfl ?_; refine vn 13 rfl rfl ?_; refine vn 14 rfl rfl ?_; refine vn 15 rfl rfl ?_; refine vv (.bool true) 16 rfl rfl (ex_pkT rfl rfl rfl) ?_; refine vg (.bool true) 5 rfl rfl rfl rfl ?_; refine st_end ?_; subst hQ; refine wp_cond_true rfl ?_; refine wq fun Q hQ => ?_; refine vg (.bool true) 4 rfl rfl rfl rfl ?_; refine st_end ?_; subst hQ
    refine wp_ret ?_
    repeat (first | refine ret_out ?_ | refine ret_blk ?_)
    refine bodyPost_ret (results_tmp Try.results38 _ _ _) rfl ⟨?_, E⟩
    show Ending.returned (.bool true) = _
    simp [betC, e0]
  · skip
    refine vv (.bool false) 9 rfl rfl (ex_bin (u := (.int .i64 (m : Nat))) (r := (.int .i64 0)) rfl rfl rfl (eg3 _ _ _ _ _ _) (eql3 _ (decide_eq_false (by omega)))) ?_; refine vm (.bool false) 10 rfl rfl rfl rfl ?_; refine vv (Pz b1 4) 11 rfl rfl (ex_fa (p := (Pz b1 0)) rfl rfl (fa36_4 _ _)) ?_; refine vv (.float .f64 co) 12 rfl rfl (ex_load (p := (Pz b1 4)) rfl rfl (ld34 (at_cell k1 rfl))) ?_; refine vv (Pz b2 4) 13 rfl rfl (ex_fa (p := (Pz b2 0)) rfl rfl (fa36_4 _ _)) ?_; refine vv (.float .f64 cb) 14 rfl rfl (ex_load (p := (Pz b2 4)) rfl rfl (ld34 (at_cell k2 rfl))) ?_
    by_cases e1 : lsN co cb = true
    · skip
      refine st_call (some 15) rfl rfl (sless_any co cb W2 e1) (ex_call (f := 26) (vs := [(.float .f64 co), (.float .f64 cb)]) rfl (cf26 _) rfl) ?_; rintro e W3 ⟨rfl, B⟩; refine ⟨_, rfl, ?_⟩; simp only [zp]; replace E := below_next E B; replace k1 := keep B k1; replace k2 := keep B k2; refine vv (.bool true) 16 rfl rfl (ex_pkF rfl rfl rfl) ?_; refine vg (.bool true) 5 rfl rfl rfl rfl ?_; refine st_end ?_; subst hQ; refine wp_cond_true rfl ?_; refine wq fun Q hQ => ?_; refine vg (.bool true) 4 rfl rfl rfl rfl ?_; refine st_end ?_; subst hQ; refine wp_ret ?_
      repeat (first | refine ret_out ?_ | refine ret_blk ?_)
      refine bodyPost_ret (results_tmp Try.results38 _ _ _) rfl ⟨?_, E⟩
      show Ending.returned (.bool true) = _
      simp [betC, e0, e1]
    · skip
      replace e1 := Bool.eq_false_iff.2 e1; refine st_call (some 15) rfl rfl (sless_any co cb W2 e1) (ex_call (f := 26) (vs := [(.float .f64 co), (.float .f64 cb)]) rfl (cf26 _) rfl) ?_; rintro e W3 ⟨rfl, B⟩; refine ⟨_, rfl, ?_⟩; simp only [zp]; replace E := below_next E B; replace k1 := keep B k1; replace k2 := keep B k2; refine vv (.bool false) 16 rfl rfl (ex_pkF rfl rfl rfl) ?_; refine vg (.bool false) 5 rfl rfl rfl rfl ?_; refine st_end ?_; subst hQ; refine wp_cond_false rfl ?_; refine wq fun Q hQ => ?_; refine vv (Pz b2 4) 18 rfl rfl (ex_fa (p := (Pz b2 0)) rfl rfl (fa36_4 _ _)) ?_
      refine vv (.float .f64 cb) 19 rfl rfl (ex_load (p := (Pz b2 4)) rfl rfl (ld34 (at_cell k2 rfl))) ?_; refine vv (Pz b1 4) 20 rfl rfl (ex_fa (p := (Pz b1 0)) rfl rfl (fa36_4 _ _)) ?_; refine vv (.float .f64 co) 21 rfl rfl (ex_load (p := (Pz b1 4)) rfl rfl (ld34 (at_cell k1 rfl))) ?_
      by_cases e2 : lsN cb co = true
      · skip
        refine st_call (some 22) rfl rfl (sless_any cb co W3 e2) (ex_call (f := 26) (vs := [(.float .f64 cb), (.float .f64 co)]) rfl (cf26 _) rfl) ?_; rintro e W4 ⟨rfl, B⟩; refine ⟨_, rfl, ?_⟩; simp only [zp]; replace E := below_next E B; replace k1 := keep B k1; replace k2 := keep B k2; refine vg (.bool true) 17 rfl rfl rfl rfl ?_; refine st_end ?_; subst hQ; refine wp_cond_true rfl ?_; refine wq fun Q hQ => ?_; refine vg (.bool false) 4 rfl rfl rfl rfl ?_; refine st_end ?_; subst hQ; refine wp_ret ?_
        repeat (first | refine ret_out ?_ | refine ret_blk ?_)
        refine bodyPost_ret (results_tmp Try.results38 _ _ _) rfl ⟨?_, E⟩
        show Ending.returned (.bool false) = _
        simp [betC, e0, e1, e2]
      · skip
        replace e2 := Bool.eq_false_iff.2 e2; refine st_call (some 22) rfl rfl (sless_any cb co W3 e2) (ex_call (f := 26) (vs := [(.float .f64 cb), (.float .f64 co)]) rfl (cf26 _) rfl) ?_; rintro e W4 ⟨rfl, B⟩; refine ⟨_, rfl, ?_⟩; simp only [zp]; replace E := below_next E B; replace k1 := keep B k1; replace k2 := keep B k2; refine vg (.bool false) 17 rfl rfl rfl rfl ?_; refine st_end ?_; subst hQ; refine wp_cond_false rfl ?_; refine wp_skip ?_; refine wq fun Q hQ => ?_; refine vv (Pz b1 0) 23 rfl rfl (ex_fa (p := (Pz b1 0)) rfl rfl (fa36_0 _ _)) ?_
        refine vv (.slice a1 n c1) 24 rfl rfl (ex_load (p := (Pz b1 0)) rfl rfl (ld33 (at_cell k1 rfl))) ?_; refine vv (.int .i64 (n : Nat)) 25 rfl rfl (ex_len rfl rfl (len33 _ _ _ _ _)) ?_; refine vv (Pz b2 0) 26 rfl rfl (ex_fa (p := (Pz b2 0)) rfl rfl (fa36_0 _ _)) ?_; refine vv (.slice d1 m r1) 27 rfl rfl (ex_load (p := (Pz b2 0)) rfl rfl (ld33 (at_cell k2 rfl))) ?_; refine vv (.int .i64 (m : Nat)) 28 rfl rfl (ex_len rfl rfl (len33 _ _ _ _ _)) ?_
        by_cases e3 : n < m
        · skip
          refine vv (.bool true) 29 rfl rfl (ex_bin (u := (.int .i64 (n : Nat))) (r := (.int .i64 (m : Nat))) rfl rfl rfl (eg3 _ _ _ _ _ _) (lss3 _ (decide_eq_true (by omega)))) ?_; refine vg (.bool true) 4 rfl rfl rfl rfl ?_; refine st_end ?_; subst hQ; refine wp_ret ?_
          repeat (first | refine ret_out ?_ | refine ret_blk ?_)
          refine bodyPost_ret (results_tmp Try.results38 _ _ _) rfl ⟨?_, E⟩
          show Ending.returned (.bool true) = _
          simp [betC, e0, e1, e2, e3]
        · skip
          refine vv (.bool false) 29 rfl rfl (ex_bin (u := (.int .i64 (n : Nat))) (r := (.int .i64 (m : Nat))) rfl rfl rfl (eg3 _ _ _ _ _ _) (lss3 _ (decide_eq_false (by omega)))) ?_; refine vg (.bool false) 4 rfl rfl rfl rfl ?_; refine st_end ?_; subst hQ; refine wp_ret ?_
          repeat (first | refine ret_out ?_ | refine ret_blk ?_)
          refine bodyPost_ret (results_tmp Try.results38 _ _ _) rfl ⟨?_, E⟩
          show Ending.returned (.bool false) = _
          simp [betC, e0, e1, e2, e3]
theorem bsl0 (W : World) : (Instr.buildSlice 33 0 #[]).run Try.prog W = .ok (.slice (some ⟨W.heap.size, 0, none⟩) 0 0) (W.alloc (.cells #[] 49)) := by kernel_rfl
set_option maxHeartbeats 8000000 in
theorem clone_any {bE oE n cE_ N : Nat} {es : List EV} (w : World) (hE : Es w N (some ⟨bE, oE, none⟩) es) (hn : n = es.length) (h1 : 1 ≤ n) (hn2 : n ≤ 64) : Calls Try.prog 39 #[.slice (some ⟨bE, oE, none⟩) n cE_] w fun e w' => ∃ g c, e = .returned (.slice (some ⟨g, 0, none⟩) n c) ∧ w'.ownsRow w.heap.size 49 13 (.slice (some ⟨g, 0, none⟩) n c) n (cE es) ∧ Below w.heap.size w w' := by
  have E : Below w.heap.size w w := Below.refl _ _
  go_enter Try.func39, Try.ntmps39; refine wq fun Q hQ => ?_; refine vg (.slice none 0 0) 2 rfl rfl rfl rfl ?_; refine st_end ?_; subst hQ; refine wp_seq ?_; refine wq fun Q hQ => ?_; refine vm (.slice (some ⟨bE, oE, none⟩) n cE_) 3 rfl rfl rfl rfl ?_; refine vv (.bool false) 4 rfl rfl (ex_snil (t := 0) rfl rfl rfl rfl) ?_; refine st_end ?_; subst hQ; refine wp_cond_false rfl ?_; refine wp_skip ?_; refine wq fun Q hQ => ?_; refine st_new (fun b => .slice (some ⟨b, 0, none⟩) 0 0) (some 5) rfl rfl (ex_bsl0  rfl (bsl0 _)) ?_; intro b1 W1 k1 g1 B; simp only [zp]
  have ge_b1 := Nat.le_trans E.size g1; replace E := below_next E B; clear B; refine vm (.slice (some ⟨bE, oE, none⟩) n cE_) 6 rfl rfl rfl rfl ?_
  have hne : es ≠ [] := fun q => by rw [q] at hn; simp at hn; omega
  rcases (show Es W1 N (some ⟨bE, oE, none⟩) es from hE.blk fun b cur hl hc => E.block b (lt_of hc)) with q | ⟨b', o', q, hbN, ⟨cur0, hcur0⟩, hr⟩
  · exact absurd q hne
  cases q
  obtain ⟨g', cap', W2, hr2, hown2, hK2, hloc2⟩ := own_add (c := cE_) (m := n) (t := 33) (show W1.ownsRow w.heap.size 49 13 (.slice (some ⟨b1, 0, none⟩) 0 0) 0 [] from ⟨rfl, .inr ⟨b1, 0, _, rfl, ge_b1, k1, by decide, by decide, rfl, rfl⟩⟩) hr (by rw [cE_len, hn]) (cE_one1 es) Try.underlying33 Try.inf49b rfl (by decide) (by omega) (by omega) (by simp only [maxLen]; omega) E.size; replace E : Below w.heap.size w W2 := E.trans (hK2.below E.size (fun k e => by have : b1 = k := Option.some.inj e; omega)); rw [Nat.zero_add] at hr2 hown2
  refine sv (.slice (some ⟨g', 0, none⟩) n cap') 7 rfl rfl (ex_app rfl rfl rfl hr2) ?_; simp only [zp]; refine vg (.slice (some ⟨g', 0, none⟩) n cap') 2 rfl rfl rfl rfl ?_; refine st_end ?_; subst hQ; refine wp_ret ?_; exact bodyPost_ret (results_tmp Try.results39 _ _ _) rfl ⟨g', cap', rfl, by simpa using hown2, E⟩
/-- the best one so far -/
def Bst (W : World) (base b : Nat) : Option YV → Prop
  | none => W.heap[b]? = some (.cells #[.slice none 0 0, .slice none 0 0, .slice none 0 0, .int .i64 0, .float .f64 0] 36)
  | some y => ∃ g c bA bX, W.heap[b]? = some (.cells #[.slice (some ⟨g, 0, none⟩) y.es.length c, .slice (some ⟨bA, 0, none⟩) y.es.length y.es.length, .slice (some ⟨bX, 0, none⟩) y.es.length y.es.length, .int .i64 y.fee, .float .f64 y.cost] 36) ∧ W.ownsRow base 49 13 (.slice (some ⟨g, 0, none⟩) y.es.length c) y.es.length (cE y.es) ∧ (base ≤ bA ∧ base ≤ bX) ∧ W.heap[bA]? = some (.cells (Il y.am).toArray 3) ∧ W.heap[bX]? = some (.cells (Il y.xs).toArray 3) ∧ y.es ≠ []
theorem Bst.box {W : World} {base b : Nat} {B : Option YV} (h : Bst W base b B) : ∃ C, W.heap[b]? = some (.cells C 36) := by
  cases B with
  | none => exact ⟨_, h⟩
  | some y =>
    obtain ⟨g, c, bA, bX, h1, _⟩ := h; exact ⟨_, h1⟩
theorem Bst.blk {W W' : World} {base b : Nat} {B : Option YV} (h : Bst W base b B) (h6 : W'.heap[b]? = W.heap[b]?) (hb : ∀ k C T, base ≤ k → W.heap[k]? = some (.cells C T) → T = 49 ∨ T = 3 → W'.heap[k]? = W.heap[k]?) : Bst W' base b B := by
  cases B with
  | none => exact h6.trans h
  | some y =>
    obtain ⟨g, c, bA, bX, h1, h2, h3, h4, h5, h6'⟩ := h; refine ⟨g, c, bA, bX, h6.trans h1, ⟨h2.1, ?_⟩, h3, (hb bA _ _ h3.1 h4 (.inr rfl)).trans h4, (hb bX _ _ h3.2 h5 (.inr rfl)).trans h5, h6'⟩
    rcases h2.2 with q | ⟨g', cap', cur, e, hbg, hh, r⟩
    · exact .inl q
    · exact .inr ⟨g', cap', cur, e, hbg, (hb g' _ _ hbg hh (.inl rfl)).trans hh, r⟩
theorem Bst.keep {W W' : World} {base b : Nat} {B : Option YV} (h : Bst W base b B) (hB : Below W.heap.size W W') : Bst W' base b B := by
  obtain ⟨C, hC⟩ := h.box; exact h.blk (hB.block b (lt_of hC)) (fun k C T _ hk _ => hB.block k (lt_of hk))
theorem bet_some (x : YV) (B : Option YV) (hB : ∀ y, B = some y → y.es ≠ []) : betB x B = betC x.es.length x.cost (match B with | none => 0 | some y => y.es.length) (match B with | none => 0 | some y => y.cost) := by
  cases B with
  | none => rfl
  | some y =>
    have h : ¬ y.es.length = 0 := fun e => hB y rfl (List.eq_nil_of_length_eq_zero e)
    simp [betB, betC, h]
theorem lay_no {ao aE : Option Addr} {nw cw n cE N : Nat} {v : WV} {es : List EV} (w : World) (hE : Es w N aE es) (hN : N ≤ w.heap.size) (hn : n = es.length) (h1 : 1 ≤ n) (hn2 : n ≤ 8) (hb : ∀ e ∈ es, EB e) (hv : WB v) (h : wayN v es = none) : Calls Try.prog 37 #[.agg (WL_ v ao nw cw), .slice aE n cE] w fun e w' => ∃ C : Array Value, e = .returned (.tuple #[.agg C, .bool false]) ∧ C.size = 5 ∧ C.all (·.oneCell') = true ∧ Below w.heap.size w w' := by
  refine (lay_any w hE hN hn h1 hn2 hb hv).mono fun e w' hh => ?_; obtain ⟨hB, hm⟩ := hh; rw [h] at hm; obtain ⟨C, q1, q2, q3⟩ := hm; exact ⟨C, q1, q2, q3, hB⟩
theorem lay_yes {ao aE : Option Addr} {nw cw n cE N : Nat} {v : WV} {es : List EV} (w : World) (hE : Es w N aE es) (hN : N ≤ w.heap.size) (hn : n = es.length) (h1 : 1 ≤ n) (hn2 : n ≤ 8) (hb : ∀ e ∈ es, EB e) (hv : WB v) {y : YV} (h : wayN v es = some y) : Calls Try.prog 37 #[.agg (WL_ v ao nw cw), .slice aE n cE] w fun e w' => ∃ bA bX, e = .returned (.tuple #[.agg #[.slice aE n cE, .slice (some ⟨bA, 0, none⟩) n n, .slice (some ⟨bX, 0, none⟩) n n, .int .i64 y.fee, .float .f64 y.cost], .bool true]) ∧ w.heap.size ≤ bA ∧ w.heap.size ≤ bX ∧ w'.heap[bA]? = some (.cells (Il y.am).toArray 3) ∧ w'.heap[bX]? = some (.cells (Il y.xs).toArray 3) ∧ Below w.heap.size w w' := by
  refine (lay_any w hE hN hn h1 hn2 hb hv).mono fun e w' hh => ?_; obtain ⟨hB, hm⟩ := hh; rw [h] at hm; obtain ⟨bA, bX, q1, q2, q3, q4, q5⟩ := hm; exact ⟨bA, bX, q1, q2, q3, q4, q5, hB⟩
theorem way_es {v : WV} {es : List EV} {y : YV} (h : wayN v es = some y) : y.es = es := by
  unfold wayN at h
  cases h1 : layN v es with
  | none => rw [h1] at h; cases h
  | some z =>
    rw [h1] at h
    have h : (if _ then _ else if _ then _ else _) = _ := h
    split at h
    · cases h
    · split at h
      · cases h; rfl
      · cases h
set_option maxHeartbeats 16000000 in
theorem see_any {bE oE b3 b6 base n c0 N nw cw : Nat} {ao : Option Addr} {v : WV} {B : Option YV} {es : List EV} (w : World) (k3 : w.heap[b3]? = some (.cells (WL_ v ao nw cw) 32)) (hB : Bst w base b6 B) (hbs : base ≤ w.heap.size) (hE : Es w N (some ⟨bE, oE, none⟩) es) (hN : N ≤ w.heap.size) (hn : n = es.length) (h1 : 1 ≤ n) (hn2 : n ≤ 8) (hb : ∀ e ∈ es, EB e) (hv : WB v) (hy : ∀ y, B = some y → y.es ≠ []) : Calls Try.prog 36 #[.slice (some ⟨bE, oE, none⟩) n c0, .pointer (some ⟨b3, 0, none⟩), .pointer (some ⟨b6, 0, none⟩)] w fun e w' => e = .returned (.bool (seeN v B es).isSome) ∧ Bst w' base b6 (seeN v B es) ∧ Kept (· = b6) w w' := by
  have hne : es ≠ [] := fun q => by rw [q] at hn; simp at hn; omega
  cases B with
  | none =>
    have k6 : w.heap[b6]? = some (.cells #[.slice none 0 0, .slice none 0 0, .slice none 0 0, .int .i64 0, .float .f64 0] 36) := hB
    have k60 := k6
    cases hwy : wayN v es with
    | none =>
      have hsee : seeN v none es = none := by unfold seeN; rw [hwy]
      have E : Kept (· = b6) w w := Kept.refl _ _
      go_enter Try.func36, Try.ntmps36; refine wq fun Q hQ => ?_; refine vg (.bool false) 4 rfl rfl rfl rfl ?_; refine st_end ?_; subst hQ; refine wp_seq ?_; refine wq fun Q hQ => ?_; refine vv (.agg (WL_ v ao nw cw)) 8 rfl rfl (ex_load (p := (Pz b3 0)) rfl rfl (ld_all k3 Try.underlying32 rfl inf32)) ?_; refine vm (.slice (some ⟨bE, oE, none⟩) n c0) 9 rfl rfl rfl rfl ?_
      refine st_call (some 10) rfl rfl (lay_no w (Es.blk hE fun b cur hl hc => E.block b (lt_of hc) (fun e => ne_tag k60 hc (by decide) e.symm)) (Nat.le_trans hN E.size) hn h1 hn2 hb hv hwy) (ex_call (f := 37) (vs := [(.agg (WL_ v ao nw cw)), (.slice (some ⟨bE, oE, none⟩) n c0)]) rfl (cf37 _) rfl) ?_; rintro e W1 ⟨C, rfl, hCs, hC1, B⟩; refine ⟨_, rfl, ?_⟩; simp only [zp]; replace E := E.next B; replace k3 := keep B k3; replace k6 := keep B k6; refine vm (.tuple #[(.agg C), (.bool false)]) 7 rfl rfl rfl rfl ?_; refine vv (.agg C) 11 rfl rfl (ex_ext rfl rfl rfl) ?_
      refine vv (.bool false) 12 rfl rfl (ex_ext rfl rfl rfl) ?_; refine st_new (fun b => .pointer (some ⟨b, 0, none⟩)) (some 5) rfl rfl (ex_alloc rfl zero36) ?_; intro b1 W2 k1 g1 B; simp only [zp]
      have ne_b1_b3 : b1 ≠ b3 := fun e => by have := lt_of k3; omega
      have ne_b1_b6 : b1 ≠ b6 := fun e => by have := lt_of k6; omega
      have ge_b1 := Nat.le_trans E.size g1; replace E := E.next B; replace k3 := keep B k3; replace k6 := keep B k6; clear B; obtain ⟨W3, hst, kn, K⟩ := put_all (D := C) k1 (((show (#[.slice none 0 0, .slice none 0 0, .slice none 0 0, .int .i64 0, .float .f64 0] : Array Value).size = 5 from rfl)).trans (hCs).symm) (inf36.trans (congrArg some (hCs).symm)) hC1; refine st_sk rfl rfl (ex_store rfl rfl rfl hst) ?_; replace E := E.putN K ge_b1; replace k3 := keepK K k3 (fun e => ne_tag k3 k1 (by decide) e); replace k6 := keepK K k6 (fun e => by first | exact ne_b6_b1 e | exact ne_b1_b6 e.symm)
      replace k1 := kn; clear kn K hst; refine vg (.bool false) 6 rfl rfl rfl rfl ?_; refine st_end ?_; subst hQ; refine wq fun Q hQ => ?_; refine vm (.bool false) 13 rfl rfl rfl rfl ?_; refine vm (.bool false) 14 rfl rfl rfl rfl ?_; refine vn 15 rfl rfl ?_; refine vn 16 rfl rfl ?_; refine vn 17 rfl rfl ?_; refine vv (.bool false) 18 rfl rfl (ex_pkF rfl rfl rfl) ?_; refine st_end ?_; subst hQ; refine wp_cond_false rfl ?_; refine wp_skip ?_; refine wq fun Q hQ => ?_; refine vv (Pz b6 0) 23 rfl rfl (ex_fa (p := (Pz b6 0)) rfl rfl (fa36_0 _ _)) ?_
      refine vv (.slice none 0 0) 24 rfl rfl (ex_load (p := (Pz b6 0)) rfl rfl (ld33 (at_cell k6 rfl))) ?_; refine vv (.int .i64 (0 : Nat)) 25 rfl rfl (ex_len rfl rfl (len33 _ _ _ _ _)) ?_; refine vv (.bool false) 26 rfl rfl (ex_bin (u := (.int .i64 (0 : Nat))) (r := (.int .i64 0)) rfl rfl rfl (eg3 _ _ _ _ _ _) (gtr3 _ (decide_eq_false (by omega)))) ?_; refine vg (.bool false) 4 rfl rfl rfl rfl ?_; refine st_end ?_; subst hQ; refine wp_ret ?_
      repeat (first | refine ret_out ?_ | refine ret_blk ?_)
      refine bodyPost_ret (results_tmp Try.results36 _ _ _) rfl ⟨?_, ?_, E⟩
      · rw [hsee]
        rfl
      · rw [hsee]
        exact hB.blk (k6.trans k60.symm) (fun k C T _ hk hT => E.block k (lt_of hk) (fun e => by subst e; rw [k60] at hk; cases hk; rcases hT with h | h <;> cases h))
    | some y =>
      have hes := way_es hwy; have hbe := bet_some y none hy; rw [hes, ← hn] at hbe
      cases hbt : betB y none with
      | true =>
        have hsee : seeN v none es = some y := by unfold seeN; rw [hwy]; exact if_pos hbt
        rw [hbe] at hbt
        have E : Kept (· = b6) w w := Kept.refl _ _
        go_enter Try.func36, Try.ntmps36; refine wq fun Q hQ => ?_; refine vg (.bool false) 4 rfl rfl rfl rfl ?_; refine st_end ?_; subst hQ; refine wp_seq ?_; refine wq fun Q hQ => ?_; refine vv (.agg (WL_ v ao nw cw)) 8 rfl rfl (ex_load (p := (Pz b3 0)) rfl rfl (ld_all k3 Try.underlying32 rfl inf32)) ?_; refine vm (.slice (some ⟨bE, oE, none⟩) n c0) 9 rfl rfl rfl rfl ?_
        refine st_call (some 10) rfl rfl (lay_yes w (Es.blk hE fun b cur hl hc => E.block b (lt_of hc) (fun e => ne_tag k60 hc (by decide) e.symm)) (Nat.le_trans hN E.size) hn h1 hn2 hb hv hwy) (ex_call (f := 37) (vs := [(.agg (WL_ v ao nw cw)), (.slice (some ⟨bE, oE, none⟩) n c0)]) rfl (cf37 _) rfl) ?_; rintro e W1 ⟨bA, bX, rfl, gA, gX, kA, kX, B⟩; have gA := Nat.le_trans (Nat.le_trans hbs E.size) gA; have gX := Nat.le_trans (Nat.le_trans hbs E.size) gX; refine ⟨_, rfl, ?_⟩; simp only [zp]; replace E := E.next B; replace k3 := keep B k3; replace k6 := keep B k6
        refine vm (.tuple #[(.agg #[.slice (some ⟨bE, oE, none⟩) n c0, .slice (some ⟨bA, 0, none⟩) n n, .slice (some ⟨bX, 0, none⟩) n n, .int .i64 y.fee, .float .f64 y.cost]), (.bool true)]) 7 rfl rfl rfl rfl ?_; refine vv (.agg #[.slice (some ⟨bE, oE, none⟩) n c0, .slice (some ⟨bA, 0, none⟩) n n, .slice (some ⟨bX, 0, none⟩) n n, .int .i64 y.fee, .float .f64 y.cost]) 11 rfl rfl (ex_ext rfl rfl rfl) ?_; refine vv (.bool true) 12 rfl rfl (ex_ext rfl rfl rfl) ?_; refine st_new (fun b => .pointer (some ⟨b, 0, none⟩)) (some 5) rfl rfl (ex_alloc rfl zero36) ?_; intro b1 W2 k1 g1 B
        simp only [zp]
        have ne_b1_b3 : b1 ≠ b3 := fun e => by have := lt_of k3; omega
        have ne_b1_b6 : b1 ≠ b6 := fun e => by have := lt_of k6; omega
        have ne_b1_bA : b1 ≠ bA := fun e => by have := lt_of kA; omega
        have ne_b1_bX : b1 ≠ bX := fun e => by have := lt_of kX; omega
        have ge_b1 := Nat.le_trans E.size g1; replace E := E.next B; replace k3 := keep B k3; replace k6 := keep B k6; replace kA := keep B kA; replace kX := keep B kX; clear B; obtain ⟨W3, hst, kn, K⟩ := put_all (D := #[.slice (some ⟨bE, oE, none⟩) n c0, .slice (some ⟨bA, 0, none⟩) n n, .slice (some ⟨bX, 0, none⟩) n n, .int .i64 y.fee, .float .f64 y.cost]) k1 rfl inf36 one5; refine st_sk rfl rfl (ex_store rfl rfl rfl hst) ?_; replace E := E.putN K ge_b1; replace k3 := keepK K k3 (fun e => ne_tag k3 k1 (by decide) e)
        replace k6 := keepK K k6 (fun e => by first | exact ne_b6_b1 e | exact ne_b1_b6 e.symm); replace kA := keepK K kA (fun e => ne_tag kA k1 (by decide) e); replace kX := keepK K kX (fun e => ne_tag kX k1 (by decide) e); replace k1 := kn; clear kn K hst; refine vg (.bool true) 6 rfl rfl rfl rfl ?_; refine st_end ?_; subst hQ; refine wq fun Q hQ => ?_; refine vm (.bool true) 13 rfl rfl rfl rfl ?_; refine vm (.bool true) 14 rfl rfl rfl rfl ?_
        refine vv (.agg #[.slice (some ⟨bE, oE, none⟩) n c0, .slice (some ⟨bA, 0, none⟩) n n, .slice (some ⟨bX, 0, none⟩) n n, .int .i64 y.fee, .float .f64 y.cost]) 15 rfl rfl (ex_load (p := (Pz b1 0)) rfl rfl (ld_all k1 Try.underlying36 rfl inf36)) ?_; refine vv (.agg #[.slice none 0 0, .slice none 0 0, .slice none 0 0, .int .i64 0, .float .f64 0]) 16 rfl rfl (ex_load (p := (Pz b6 0)) rfl rfl (ld_all k6 Try.underlying36 rfl inf36)) ?_
        refine st_call (some 17) rfl rfl (better_any W3 hbt) (ex_call (f := 38) (vs := [(.agg #[.slice (some ⟨bE, oE, none⟩) n c0, .slice (some ⟨bA, 0, none⟩) n n, .slice (some ⟨bX, 0, none⟩) n n, .int .i64 y.fee, .float .f64 y.cost]), (.agg #[.slice none 0 0, .slice none 0 0, .slice none 0 0, .int .i64 0, .float .f64 0])]) rfl (cf38 _) rfl) ?_; rintro e W4 ⟨rfl, B⟩; refine ⟨_, rfl, ?_⟩; simp only [zp]; replace E := E.next B; replace k3 := keep B k3; replace k6 := keep B k6; replace kA := keep B kA; replace kX := keep B kX; replace k1 := keep B k1
        refine vv (.bool true) 18 rfl rfl (ex_pkT rfl rfl rfl) ?_; refine st_end ?_; subst hQ; refine wp_cond_true rfl ?_; refine wq fun Q hQ => ?_; refine vm (.slice (some ⟨bE, oE, none⟩) n c0) 19 rfl rfl rfl rfl ?_; refine st_call (some 20) rfl rfl (clone_any W4 (Es.blk hE fun b cur hl hc => E.block b (lt_of hc) (fun e => ne_tag k60 hc (by decide) e.symm)) hn h1 (by omega)) (ex_call (f := 39) (vs := [(.slice (some ⟨bE, oE, none⟩) n c0)]) rfl (cf39 _) rfl) ?_; rintro e W5 ⟨g, cg, rfl, hcl, B⟩; have hsz := E.size; refine ⟨_, rfl, ?_⟩; simp only [zp]; replace E := E.next B
        replace k3 := keep B k3; replace k6 := keep B k6; replace kA := keep B kA; replace kX := keep B kX; replace k1 := keep B k1; refine vv (Pz b1 0) 21 rfl rfl (ex_fa (p := (Pz b1 0)) rfl rfl (fa36_0 _ _)) ?_; obtain ⟨kn, K⟩ := put_cell (i := 0) (.slice (some ⟨g, 0, none⟩) n cg) k1; refine st_sk rfl rfl (ex_store rfl rfl rfl (sto33 (at_cell k1 rfl) (unfrozen k1))) ?_; obtain ⟨W6, hW2⟩ : ∃ W', W5.setCell ⟨b1, 0, none⟩ (.slice (some ⟨g, 0, none⟩) n cg) = W' := ⟨_, rfl⟩; rw [hW2] at kn K ⊢; replace E := E.putN K ge_b1; replace k3 := keepK K k3 (fun e => ne_tag k3 k1 (by decide) e)
        replace k6 := keepK K k6 (fun e => by first | exact ne_b6_b1 e | exact ne_b1_b6 e.symm); replace kA := keepK K kA (fun e => ne_tag kA k1 (by decide) e); replace kX := keepK K kX (fun e => ne_tag kX k1 (by decide) e); replace hcl := own_keepK hcl K (fun q hq e => by have hq : g = q := Option.some.inj hq; subst hq; subst e; exact own_ne hcl k1 (by decide) rfl); replace k1 := kn; clear kn K; refine st_end ?_; subst hQ; refine wl_in (wl_cap fun Q hQ => ?_)
        refine vv (.agg #[(.slice (some ⟨g, 0, none⟩) n cg), (.slice (some ⟨bA, 0, none⟩) n n), (.slice (some ⟨bX, 0, none⟩) n n), (.int .i64 y.fee), (.float .f64 y.cost)]) 22 rfl rfl (ex_load (p := (Pz b1 0)) rfl rfl (ld_all k1 Try.underlying36 rfl inf36)) ?_; obtain ⟨W7, hst, kn, K⟩ := put_all (D := #[(.slice (some ⟨g, 0, none⟩) n cg), (.slice (some ⟨bA, 0, none⟩) n n), (.slice (some ⟨bX, 0, none⟩) n n), (.int .i64 y.fee), (.float .f64 y.cost)]) k6 rfl inf36 (by kernel_rfl); refine st_sk rfl rfl (ex_store rfl rfl rfl hst) ?_; replace E := E.putX K
        replace k3 := keepK K k3 (fun e => ne_tag k3 k6 (by decide) e); replace kA := keepK K kA (fun e => ne_tag kA k6 (by decide) e); replace kX := keepK K kX (fun e => ne_tag kX k6 (by decide) e); replace hcl := own_keepK hcl K (fun q hq e => by have hq : g = q := Option.some.inj hq; subst hq; subst e; exact own_ne hcl k6 (by decide) rfl); replace k1 := keepK K k1 (fun e => by first | exact ne_b1_b6 e | exact ne_b6_b1 e.symm); replace k6 := kn; clear kn K hst; refine st_end ?_; subst hQ; refine wq fun Q hQ => ?_
        refine vv (Pz b6 0) 23 rfl rfl (ex_fa (p := (Pz b6 0)) rfl rfl (fa36_0 _ _)) ?_; refine vv (.slice (some ⟨g, 0, none⟩) n cg) 24 rfl rfl (ex_load (p := (Pz b6 0)) rfl rfl (ld33 (at_cell k6 rfl))) ?_; refine vv (.int .i64 (n : Nat)) 25 rfl rfl (ex_len rfl rfl (len33 _ _ _ _ _)) ?_; refine vv (.bool true) 26 rfl rfl (ex_bin (u := (.int .i64 (n : Nat))) (r := (.int .i64 0)) rfl rfl rfl (eg3 _ _ _ _ _ _) (gtr3 _ (decide_eq_true (by omega)))) ?_; refine vg (.bool true) 4 rfl rfl rfl rfl ?_; refine st_end ?_; subst hQ; refine wp_ret ?_
        repeat (first | refine ret_out ?_ | refine ret_blk ?_)
        refine bodyPost_ret (results_tmp Try.results36 _ _ _) rfl ⟨?_, ?_, E⟩
        · rw [hsee]
          rfl
        · rw [hsee]
          have hes := way_es hwy; refine ⟨g, cg, bA, bX, ?_, ?_, ⟨gA, gX⟩, kA, kX, by rw [hes]; exact hne⟩
          · rw [hes, ← hn]; exact k6
          · rw [hes, ← hn]; exact ⟨hcl.1, hcl.2.imp id (fun ⟨g', cap', cur, e, hbg, r⟩ => ⟨g', cap', cur, e, Nat.le_trans (Nat.le_trans hbs hsz) hbg, r⟩)⟩
      | false =>
        have hsee : seeN v none es = none := by unfold seeN; rw [hwy]; exact if_neg (by rw [hbt]; decide)
        rw [hbe] at hbt
        cases hbt
  | some y0 =>
    have hB' := hB
    obtain ⟨g0, cc0, bA0, bX0, k6, _, _, _, _, hyn⟩ := hB'; have k60 := k6
    have hy0 : 0 < y0.es.length := List.length_pos_iff.2 hyn
    cases hwy : wayN v es with
    | none =>
      have hsee : seeN v (some y0) es = (some y0) := by unfold seeN; rw [hwy]
      have E : Kept (· = b6) w w := Kept.refl _ _
      go_enter Try.func36, Try.ntmps36; refine wq fun Q hQ => ?_; refine vg (.bool false) 4 rfl rfl rfl rfl ?_; refine st_end ?_; subst hQ; refine wp_seq ?_; refine wq fun Q hQ => ?_; refine vv (.agg (WL_ v ao nw cw)) 8 rfl rfl (ex_load (p := (Pz b3 0)) rfl rfl (ld_all k3 Try.underlying32 rfl inf32)) ?_; refine vm (.slice (some ⟨bE, oE, none⟩) n c0) 9 rfl rfl rfl rfl ?_
      refine st_call (some 10) rfl rfl (lay_no w (Es.blk hE fun b cur hl hc => E.block b (lt_of hc) (fun e => ne_tag k60 hc (by decide) e.symm)) (Nat.le_trans hN E.size) hn h1 hn2 hb hv hwy) (ex_call (f := 37) (vs := [(.agg (WL_ v ao nw cw)), (.slice (some ⟨bE, oE, none⟩) n c0)]) rfl (cf37 _) rfl) ?_; rintro e W1 ⟨C, rfl, hCs, hC1, B⟩; refine ⟨_, rfl, ?_⟩; simp only [zp]; replace E := E.next B; replace k3 := keep B k3; replace k6 := keep B k6; refine vm (.tuple #[(.agg C), (.bool false)]) 7 rfl rfl rfl rfl ?_; refine vv (.agg C) 11 rfl rfl (ex_ext rfl rfl rfl) ?_
      refine vv (.bool false) 12 rfl rfl (ex_ext rfl rfl rfl) ?_; refine st_new (fun b => .pointer (some ⟨b, 0, none⟩)) (some 5) rfl rfl (ex_alloc rfl zero36) ?_; intro b1 W2 k1 g1 B; simp only [zp]
      have ne_b1_b3 : b1 ≠ b3 := fun e => by have := lt_of k3; omega
      have ne_b1_b6 : b1 ≠ b6 := fun e => by have := lt_of k6; omega
      have ge_b1 := Nat.le_trans E.size g1; replace E := E.next B; replace k3 := keep B k3; replace k6 := keep B k6; clear B; obtain ⟨W3, hst, kn, K⟩ := put_all (D := C) k1 (((show (#[.slice none 0 0, .slice none 0 0, .slice none 0 0, .int .i64 0, .float .f64 0] : Array Value).size = 5 from rfl)).trans (hCs).symm) (inf36.trans (congrArg some (hCs).symm)) hC1; refine st_sk rfl rfl (ex_store rfl rfl rfl hst) ?_; replace E := E.putN K ge_b1; replace k3 := keepK K k3 (fun e => ne_tag k3 k1 (by decide) e); replace k6 := keepK K k6 (fun e => by first | exact ne_b6_b1 e | exact ne_b1_b6 e.symm)
      replace k1 := kn; clear kn K hst; refine vg (.bool false) 6 rfl rfl rfl rfl ?_; refine st_end ?_; subst hQ; refine wq fun Q hQ => ?_; refine vm (.bool false) 13 rfl rfl rfl rfl ?_; refine vm (.bool false) 14 rfl rfl rfl rfl ?_; refine vn 15 rfl rfl ?_; refine vn 16 rfl rfl ?_; refine vn 17 rfl rfl ?_; refine vv (.bool false) 18 rfl rfl (ex_pkF rfl rfl rfl) ?_; refine st_end ?_; subst hQ; refine wp_cond_false rfl ?_; refine wp_skip ?_; refine wq fun Q hQ => ?_; refine vv (Pz b6 0) 23 rfl rfl (ex_fa (p := (Pz b6 0)) rfl rfl (fa36_0 _ _)) ?_
      refine vv (.slice (some ⟨g0, 0, none⟩) y0.es.length cc0) 24 rfl rfl (ex_load (p := (Pz b6 0)) rfl rfl (ld33 (at_cell k6 rfl))) ?_; refine vv (.int .i64 (y0.es.length : Nat)) 25 rfl rfl (ex_len rfl rfl (len33 _ _ _ _ _)) ?_; refine vv (.bool true) 26 rfl rfl (ex_bin (u := (.int .i64 (y0.es.length : Nat))) (r := (.int .i64 0)) rfl rfl rfl (eg3 _ _ _ _ _ _) (gtr3 _ (decide_eq_true (by omega)))) ?_; refine vg (.bool true) 4 rfl rfl rfl rfl ?_; refine st_end ?_; subst hQ; refine wp_ret ?_
      repeat (first | refine ret_out ?_ | refine ret_blk ?_)
      refine bodyPost_ret (results_tmp Try.results36 _ _ _) rfl ⟨?_, ?_, E⟩
      · rw [hsee]
        rfl
      · rw [hsee]
        exact hB.blk (k6.trans k60.symm) (fun k C T _ hk hT => E.block k (lt_of hk) (fun e => by subst e; rw [k60] at hk; cases hk; rcases hT with h | h <;> cases h))
    | some y =>
      have hes := way_es hwy; have hbe := bet_some y (some y0) hy; rw [hes, ← hn] at hbe
      cases hbt : betB y (some y0) with
      | true =>
        have hsee : seeN v (some y0) es = some y := by unfold seeN; rw [hwy]; exact if_pos hbt
        rw [hbe] at hbt
        have E : Kept (· = b6) w w := Kept.refl _ _
        go_enter Try.func36, Try.ntmps36; refine wq fun Q hQ => ?_; refine vg (.bool false) 4 rfl rfl rfl rfl ?_; refine st_end ?_; subst hQ; refine wp_seq ?_; refine wq fun Q hQ => ?_; refine vv (.agg (WL_ v ao nw cw)) 8 rfl rfl (ex_load (p := (Pz b3 0)) rfl rfl (ld_all k3 Try.underlying32 rfl inf32)) ?_; refine vm (.slice (some ⟨bE, oE, none⟩) n c0) 9 rfl rfl rfl rfl ?_
        refine st_call (some 10) rfl rfl (lay_yes w (Es.blk hE fun b cur hl hc => E.block b (lt_of hc) (fun e => ne_tag k60 hc (by decide) e.symm)) (Nat.le_trans hN E.size) hn h1 hn2 hb hv hwy) (ex_call (f := 37) (vs := [(.agg (WL_ v ao nw cw)), (.slice (some ⟨bE, oE, none⟩) n c0)]) rfl (cf37 _) rfl) ?_; rintro e W1 ⟨bA, bX, rfl, gA, gX, kA, kX, B⟩; have gA := Nat.le_trans (Nat.le_trans hbs E.size) gA; have gX := Nat.le_trans (Nat.le_trans hbs E.size) gX; refine ⟨_, rfl, ?_⟩; simp only [zp]; replace E := E.next B; replace k3 := keep B k3; replace k6 := keep B k6
        refine vm (.tuple #[(.agg #[.slice (some ⟨bE, oE, none⟩) n c0, .slice (some ⟨bA, 0, none⟩) n n, .slice (some ⟨bX, 0, none⟩) n n, .int .i64 y.fee, .float .f64 y.cost]), (.bool true)]) 7 rfl rfl rfl rfl ?_; refine vv (.agg #[.slice (some ⟨bE, oE, none⟩) n c0, .slice (some ⟨bA, 0, none⟩) n n, .slice (some ⟨bX, 0, none⟩) n n, .int .i64 y.fee, .float .f64 y.cost]) 11 rfl rfl (ex_ext rfl rfl rfl) ?_; refine vv (.bool true) 12 rfl rfl (ex_ext rfl rfl rfl) ?_; refine st_new (fun b => .pointer (some ⟨b, 0, none⟩)) (some 5) rfl rfl (ex_alloc rfl zero36) ?_; intro b1 W2 k1 g1 B
        simp only [zp]
        have ne_b1_b3 : b1 ≠ b3 := fun e => by have := lt_of k3; omega
        have ne_b1_b6 : b1 ≠ b6 := fun e => by have := lt_of k6; omega
        have ne_b1_bA : b1 ≠ bA := fun e => by have := lt_of kA; omega
        have ne_b1_bX : b1 ≠ bX := fun e => by have := lt_of kX; omega
        have ge_b1 := Nat.le_trans E.size g1; replace E := E.next B; replace k3 := keep B k3; replace k6 := keep B k6; replace kA := keep B kA; replace kX := keep B kX; clear B; obtain ⟨W3, hst, kn, K⟩ := put_all (D := #[.slice (some ⟨bE, oE, none⟩) n c0, .slice (some ⟨bA, 0, none⟩) n n, .slice (some ⟨bX, 0, none⟩) n n, .int .i64 y.fee, .float .f64 y.cost]) k1 rfl inf36 one5; refine st_sk rfl rfl (ex_store rfl rfl rfl hst) ?_; replace E := E.putN K ge_b1; replace k3 := keepK K k3 (fun e => ne_tag k3 k1 (by decide) e)
        replace k6 := keepK K k6 (fun e => by first | exact ne_b6_b1 e | exact ne_b1_b6 e.symm); replace kA := keepK K kA (fun e => ne_tag kA k1 (by decide) e); replace kX := keepK K kX (fun e => ne_tag kX k1 (by decide) e); replace k1 := kn; clear kn K hst; refine vg (.bool true) 6 rfl rfl rfl rfl ?_; refine st_end ?_; subst hQ; refine wq fun Q hQ => ?_; refine vm (.bool true) 13 rfl rfl rfl rfl ?_; refine vm (.bool true) 14 rfl rfl rfl rfl ?_
        refine vv (.agg #[.slice (some ⟨bE, oE, none⟩) n c0, .slice (some ⟨bA, 0, none⟩) n n, .slice (some ⟨bX, 0, none⟩) n n, .int .i64 y.fee, .float .f64 y.cost]) 15 rfl rfl (ex_load (p := (Pz b1 0)) rfl rfl (ld_all k1 Try.underlying36 rfl inf36)) ?_; refine vv (.agg #[.slice (some ⟨g0, 0, none⟩) y0.es.length cc0, .slice (some ⟨bA0, 0, none⟩) y0.es.length y0.es.length, .slice (some ⟨bX0, 0, none⟩) y0.es.length y0.es.length, .int .i64 y0.fee, .float .f64 y0.cost]) 16 rfl rfl (ex_load (p := (Pz b6 0)) rfl rfl (ld_all k6 Try.underlying36 rfl inf36)) ?_
        refine st_call (some 17) rfl rfl (better_any W3 hbt) (ex_call (f := 38) (vs := [(.agg #[.slice (some ⟨bE, oE, none⟩) n c0, .slice (some ⟨bA, 0, none⟩) n n, .slice (some ⟨bX, 0, none⟩) n n, .int .i64 y.fee, .float .f64 y.cost]), (.agg #[.slice (some ⟨g0, 0, none⟩) y0.es.length cc0, .slice (some ⟨bA0, 0, none⟩) y0.es.length y0.es.length, .slice (some ⟨bX0, 0, none⟩) y0.es.length y0.es.length, .int .i64 y0.fee, .float .f64 y0.cost])]) rfl (cf38 _) rfl) ?_; rintro e W4 ⟨rfl, B⟩; refine ⟨_, rfl, ?_⟩; simp only [zp]; replace E := E.next B; replace k3 := keep B k3
        replace k6 := keep B k6; replace kA := keep B kA; replace kX := keep B kX; replace k1 := keep B k1; refine vv (.bool true) 18 rfl rfl (ex_pkT rfl rfl rfl) ?_; refine st_end ?_; subst hQ; refine wp_cond_true rfl ?_; refine wq fun Q hQ => ?_; refine vm (.slice (some ⟨bE, oE, none⟩) n c0) 19 rfl rfl rfl rfl ?_; refine st_call (some 20) rfl rfl (clone_any W4 (Es.blk hE fun b cur hl hc => E.block b (lt_of hc) (fun e => ne_tag k60 hc (by decide) e.symm)) hn h1 (by omega)) (ex_call (f := 39) (vs := [(.slice (some ⟨bE, oE, none⟩) n c0)]) rfl (cf39 _) rfl) ?_
        rintro e W5 ⟨g, cg, rfl, hcl, B⟩; have hsz := E.size; refine ⟨_, rfl, ?_⟩; simp only [zp]; replace E := E.next B; replace k3 := keep B k3; replace k6 := keep B k6; replace kA := keep B kA; replace kX := keep B kX; replace k1 := keep B k1; refine vv (Pz b1 0) 21 rfl rfl (ex_fa (p := (Pz b1 0)) rfl rfl (fa36_0 _ _)) ?_; obtain ⟨kn, K⟩ := put_cell (i := 0) (.slice (some ⟨g, 0, none⟩) n cg) k1; refine st_sk rfl rfl (ex_store rfl rfl rfl (sto33 (at_cell k1 rfl) (unfrozen k1))) ?_; obtain ⟨W6, hW2⟩ : ∃ W', W5.setCell ⟨b1, 0, none⟩ (.slice (some ⟨g, 0, none⟩) n cg) = W' := ⟨_, rfl⟩
        rw [hW2] at kn K ⊢; replace E := E.putN K ge_b1; replace k3 := keepK K k3 (fun e => ne_tag k3 k1 (by decide) e); replace k6 := keepK K k6 (fun e => by first | exact ne_b6_b1 e | exact ne_b1_b6 e.symm); replace kA := keepK K kA (fun e => ne_tag kA k1 (by decide) e); replace kX := keepK K kX (fun e => ne_tag kX k1 (by decide) e); replace hcl := own_keepK hcl K (fun q hq e => by have hq : g = q := Option.some.inj hq; subst hq; subst e; exact own_ne hcl k1 (by decide) rfl); replace k1 := kn; clear kn K; refine st_end ?_; subst hQ; refine wl_in (wl_cap fun Q hQ => ?_)
        refine vv (.agg #[(.slice (some ⟨g, 0, none⟩) n cg), (.slice (some ⟨bA, 0, none⟩) n n), (.slice (some ⟨bX, 0, none⟩) n n), (.int .i64 y.fee), (.float .f64 y.cost)]) 22 rfl rfl (ex_load (p := (Pz b1 0)) rfl rfl (ld_all k1 Try.underlying36 rfl inf36)) ?_; obtain ⟨W7, hst, kn, K⟩ := put_all (D := #[(.slice (some ⟨g, 0, none⟩) n cg), (.slice (some ⟨bA, 0, none⟩) n n), (.slice (some ⟨bX, 0, none⟩) n n), (.int .i64 y.fee), (.float .f64 y.cost)]) k6 rfl inf36 (by kernel_rfl); refine st_sk rfl rfl (ex_store rfl rfl rfl hst) ?_; replace E := E.putX K
        replace k3 := keepK K k3 (fun e => ne_tag k3 k6 (by decide) e); replace kA := keepK K kA (fun e => ne_tag kA k6 (by decide) e); replace kX := keepK K kX (fun e => ne_tag kX k6 (by decide) e); replace hcl := own_keepK hcl K (fun q hq e => by have hq : g = q := Option.some.inj hq; subst hq; subst e; exact own_ne hcl k6 (by decide) rfl); replace k1 := keepK K k1 (fun e => by first | exact ne_b1_b6 e | exact ne_b6_b1 e.symm); replace k6 := kn; clear kn K hst; refine st_end ?_; subst hQ; refine wq fun Q hQ => ?_
        refine vv (Pz b6 0) 23 rfl rfl (ex_fa (p := (Pz b6 0)) rfl rfl (fa36_0 _ _)) ?_; refine vv (.slice (some ⟨g, 0, none⟩) n cg) 24 rfl rfl (ex_load (p := (Pz b6 0)) rfl rfl (ld33 (at_cell k6 rfl))) ?_; refine vv (.int .i64 (n : Nat)) 25 rfl rfl (ex_len rfl rfl (len33 _ _ _ _ _)) ?_; refine vv (.bool true) 26 rfl rfl (ex_bin (u := (.int .i64 (n : Nat))) (r := (.int .i64 0)) rfl rfl rfl (eg3 _ _ _ _ _ _) (gtr3 _ (decide_eq_true (by omega)))) ?_; refine vg (.bool true) 4 rfl rfl rfl rfl ?_; refine st_end ?_; subst hQ; refine wp_ret ?_
        repeat (first | refine ret_out ?_ | refine ret_blk ?_)
        refine bodyPost_ret (results_tmp Try.results36 _ _ _) rfl ⟨?_, ?_, E⟩
        · rw [hsee]
          rfl
        · rw [hsee]
          have hes := way_es hwy; refine ⟨g, cg, bA, bX, ?_, ?_, ⟨gA, gX⟩, kA, kX, by rw [hes]; exact hne⟩
          · rw [hes, ← hn]; exact k6
          · rw [hes, ← hn]; exact ⟨hcl.1, hcl.2.imp id (fun ⟨g', cap', cur, e, hbg, r⟩ => ⟨g', cap', cur, e, Nat.le_trans (Nat.le_trans hbs hsz) hbg, r⟩)⟩
      | false =>
        have hsee : seeN v (some y0) es = (some y0) := by unfold seeN; rw [hwy]; exact if_neg (by rw [hbt]; decide)
        rw [hbe] at hbt
        have E : Kept (· = b6) w w := Kept.refl _ _
        go_enter Try.func36, Try.ntmps36; refine wq fun Q hQ => ?_; refine vg (.bool false) 4 rfl rfl rfl rfl ?_; refine st_end ?_; subst hQ; refine wp_seq ?_; refine wq fun Q hQ => ?_; refine vv (.agg (WL_ v ao nw cw)) 8 rfl rfl (ex_load (p := (Pz b3 0)) rfl rfl (ld_all k3 Try.underlying32 rfl inf32)) ?_; refine vm (.slice (some ⟨bE, oE, none⟩) n c0) 9 rfl rfl rfl rfl ?_
        refine st_call (some 10) rfl rfl (lay_yes w (Es.blk hE fun b cur hl hc => E.block b (lt_of hc) (fun e => ne_tag k60 hc (by decide) e.symm)) (Nat.le_trans hN E.size) hn h1 hn2 hb hv hwy) (ex_call (f := 37) (vs := [(.agg (WL_ v ao nw cw)), (.slice (some ⟨bE, oE, none⟩) n c0)]) rfl (cf37 _) rfl) ?_; rintro e W1 ⟨bA, bX, rfl, gA, gX, kA, kX, B⟩; have gA := Nat.le_trans (Nat.le_trans hbs E.size) gA; have gX := Nat.le_trans (Nat.le_trans hbs E.size) gX; refine ⟨_, rfl, ?_⟩; simp only [zp]; replace E := E.next B; replace k3 := keep B k3; replace k6 := keep B k6
        refine vm (.tuple #[(.agg #[.slice (some ⟨bE, oE, none⟩) n c0, .slice (some ⟨bA, 0, none⟩) n n, .slice (some ⟨bX, 0, none⟩) n n, .int .i64 y.fee, .float .f64 y.cost]), (.bool true)]) 7 rfl rfl rfl rfl ?_; refine vv (.agg #[.slice (some ⟨bE, oE, none⟩) n c0, .slice (some ⟨bA, 0, none⟩) n n, .slice (some ⟨bX, 0, none⟩) n n, .int .i64 y.fee, .float .f64 y.cost]) 11 rfl rfl (ex_ext rfl rfl rfl) ?_; refine vv (.bool true) 12 rfl rfl (ex_ext rfl rfl rfl) ?_; refine st_new (fun b => .pointer (some ⟨b, 0, none⟩)) (some 5) rfl rfl (ex_alloc rfl zero36) ?_; intro b1 W2 k1 g1 B
        simp only [zp]
        have ne_b1_b3 : b1 ≠ b3 := fun e => by have := lt_of k3; omega
        have ne_b1_b6 : b1 ≠ b6 := fun e => by have := lt_of k6; omega
        have ne_b1_bA : b1 ≠ bA := fun e => by have := lt_of kA; omega
        have ne_b1_bX : b1 ≠ bX := fun e => by have := lt_of kX; omega
        have ge_b1 := Nat.le_trans E.size g1; replace E := E.next B; replace k3 := keep B k3; replace k6 := keep B k6; replace kA := keep B kA; replace kX := keep B kX; clear B; obtain ⟨W3, hst, kn, K⟩ := put_all (D := #[.slice (some ⟨bE, oE, none⟩) n c0, .slice (some ⟨bA, 0, none⟩) n n, .slice (some ⟨bX, 0, none⟩) n n, .int .i64 y.fee, .float .f64 y.cost]) k1 rfl inf36 one5; refine st_sk rfl rfl (ex_store rfl rfl rfl hst) ?_; replace E := E.putN K ge_b1; replace k3 := keepK K k3 (fun e => ne_tag k3 k1 (by decide) e)
        replace k6 := keepK K k6 (fun e => by first | exact ne_b6_b1 e | exact ne_b1_b6 e.symm); replace kA := keepK K kA (fun e => ne_tag kA k1 (by decide) e); replace kX := keepK K kX (fun e => ne_tag kX k1 (by decide) e); replace k1 := kn; clear kn K hst; refine vg (.bool true) 6 rfl rfl rfl rfl ?_; refine st_end ?_; subst hQ; refine wq fun Q hQ => ?_; refine vm (.bool true) 13 rfl rfl rfl rfl ?_; refine vm (.bool true) 14 rfl rfl rfl rfl ?_
        refine vv (.agg #[.slice (some ⟨bE, oE, none⟩) n c0, .slice (some ⟨bA, 0, none⟩) n n, .slice (some ⟨bX, 0, none⟩) n n, .int .i64 y.fee, .float .f64 y.cost]) 15 rfl rfl (ex_load (p := (Pz b1 0)) rfl rfl (ld_all k1 Try.underlying36 rfl inf36)) ?_; refine vv (.agg #[.slice (some ⟨g0, 0, none⟩) y0.es.length cc0, .slice (some ⟨bA0, 0, none⟩) y0.es.length y0.es.length, .slice (some ⟨bX0, 0, none⟩) y0.es.length y0.es.length, .int .i64 y0.fee, .float .f64 y0.cost]) 16 rfl rfl (ex_load (p := (Pz b6 0)) rfl rfl (ld_all k6 Try.underlying36 rfl inf36)) ?_
        refine st_call (some 17) rfl rfl (better_any W3 hbt) (ex_call (f := 38) (vs := [(.agg #[.slice (some ⟨bE, oE, none⟩) n c0, .slice (some ⟨bA, 0, none⟩) n n, .slice (some ⟨bX, 0, none⟩) n n, .int .i64 y.fee, .float .f64 y.cost]), (.agg #[.slice (some ⟨g0, 0, none⟩) y0.es.length cc0, .slice (some ⟨bA0, 0, none⟩) y0.es.length y0.es.length, .slice (some ⟨bX0, 0, none⟩) y0.es.length y0.es.length, .int .i64 y0.fee, .float .f64 y0.cost])]) rfl (cf38 _) rfl) ?_; rintro e W4 ⟨rfl, B⟩; refine ⟨_, rfl, ?_⟩; simp only [zp]; replace E := E.next B; replace k3 := keep B k3
        replace k6 := keep B k6; replace kA := keep B kA; replace kX := keep B kX; replace k1 := keep B k1; refine vv (.bool false) 18 rfl rfl (ex_pkT rfl rfl rfl) ?_; refine st_end ?_; subst hQ; refine wp_cond_false rfl ?_; refine wp_skip ?_; refine wq fun Q hQ => ?_; refine vv (Pz b6 0) 23 rfl rfl (ex_fa (p := (Pz b6 0)) rfl rfl (fa36_0 _ _)) ?_; refine vv (.slice (some ⟨g0, 0, none⟩) y0.es.length cc0) 24 rfl rfl (ex_load (p := (Pz b6 0)) rfl rfl (ld33 (at_cell k6 rfl))) ?_; refine vv (.int .i64 (y0.es.length : Nat)) 25 rfl rfl (ex_len rfl rfl (len33 _ _ _ _ _)) ?_
        refine vv (.bool true) 26 rfl rfl (ex_bin (u := (.int .i64 (y0.es.length : Nat))) (r := (.int .i64 0)) rfl rfl rfl (eg3 _ _ _ _ _ _) (gtr3 _ (decide_eq_true (by omega)))) ?_; refine vg (.bool true) 4 rfl rfl rfl rfl ?_; refine st_end ?_; subst hQ; refine wp_ret ?_
        repeat (first | refine ret_out ?_ | refine ret_blk ?_)
        refine bodyPost_ret (results_tmp Try.results36 _ _ _) rfl ⟨?_, ?_, E⟩
        · rw [hsee]
          rfl
        · rw [hsee]
          exact hB.blk (k6.trans k60.symm) (fun k C T _ hk hT => E.block k (lt_of hk) (fun e => by subst e; rw [k60] at hk; cases hk; rcases hT with h | h <;> cases h))
end Go.Proofs.Ytgnkcmmpbohafaa

/- What a search has in memory: the way, what is left, where one was. -/
namespace Go.Proofs.Ytgnkcmmpbohafaa
open Go.RowKit
set_option linter.unusedVariables false
set_option linter.unusedSimpArgs false
set_option maxRecDepth 100000
theorem ng_ret {Q : Exit → Act → World → Prop} {a : Act} {w : World} (h : Q .ret a w) : Exit.noGoto Q .ret a w := h
/-- the edge that comes from nowhere -/
def E0 (v : WV) : EV := ⟨0, 0, v.fr, 0, ⟨0, 0, 0, 0, 0⟩, ⟨0, 0, 0, 0⟩⟩
/-- where one was: a flag for each node -/
def goA (l : List Int) : List Value := (List.range 8).map fun j : Nat => .bool (decide ((j : Int) ∈ l))
theorem goA_at (l : List Int) (k : Nat) (hk : k < 8) : (goA l).toArray[k]? = some (.bool (decide ((k : Int) ∈ l))) := by simp [goA, hk]
theorem goA_put (l : List Int) (k : Nat) (hk : k < 8) : (goA l).set k (.bool true) = goA ((k : Int) :: l) := by
  apply List.ext_getElem?
  intro j; rw [List.getElem?_set]
  unfold goA
  by_cases e : k = j
  · subst e
    simp [hk]
  · have e2 : ¬ (j : Int) = k := by omega
    by_cases hj : j < 8
    · simp [e, e2, hj]
    · simp [e, hj]
theorem goA_cut (l : List Int) (k : Nat) (hk : k < 8) (hn : ¬ (k : Int) ∈ l) : (goA ((k : Int) :: l)).set k (.bool false) = goA l := by
  apply List.ext_getElem?
  intro j; rw [List.getElem?_set]
  unfold goA
  by_cases e : k = j
  · subst e
    simp [hk, hn]
  · have e2 : ¬ (j : Int) = k := by omega
    by_cases hj : j < 8
    · simp [e, e2, hj]
    · simp [e, hj]
/-- the way: a row with room for nine edges -/
def Wy (W : World) (b : Nat) (p : List EV) : Prop := ∃ cur, W.heap[b]? = some (.cells cur 49) ∧ cur.size = 117 ∧ p.length ≤ 9 ∧ cur.toList.take (p.length * 13) = cE p
section
variable {W W' : World} {b : Nat} {p : List EV}
theorem Wy.keep (h : Wy W b p) (hB : Below W.heap.size W W') : Wy W' b p := by
  obtain ⟨cur, h1, h2⟩ := h; exact ⟨cur, Proofs.Ytgnkcmmpbohafaa.keep hB h1, h2⟩
theorem Wy.keepK {F : Nat → Prop} (h : Wy W b p) (hK : Kept F W W') (hF : ¬ F b) : Wy W' b p := by
  obtain ⟨cur, h1, h2⟩ := h; exact ⟨cur, Proofs.Ytgnkcmmpbohafaa.keepK hK h1 hF, h2⟩
theorem Wy.ne {k T : Nat} {C : Array Value} (h : Wy W b p) (hk : W.heap[k]? = some (.cells C T)) (hT : T ≠ 49) : ¬ b = k := fun e => by
  obtain ⟨cur, h1, _⟩ := h; exact ne_tag hk h1 hT e.symm
theorem Wy.range (h : Wy W b p) : W.rangeAt b 0 (cE p) := fun j v hv => by
  obtain ⟨cur, h1, h2, h3, h4⟩ := h; rw [Nat.zero_add]; refine at_cell h1 ?_; rw [← h4, List.getElem?_take] at hv
  split at hv
  · simpa using hv
  · cases hv
theorem Wy.cut {q : List EV} (h : Wy W b (p ++ q)) : Wy W b p := by
  obtain ⟨cur, h1, h2, h3, h4⟩ := h; refine ⟨cur, h1, h2, by simp at h3; omega, ?_⟩; rw [cE_app] at h4; have h5 := congrArg (List.take (p.length * 13)) h4; rw [List.take_take, List.length_append, Nat.min_eq_left (by omega), List.take_left' (by rw [cE_len])] at h5; exact h5
/-- one more -/
theorem Wy.add {xb xo : Nat} {e : EV} (h : Wy W b p) (hp : p.length ≤ 8) (hx : W.rangeAt xb xo (EL e).toList) : ∃ W', (Builtin.append_ #[33, 33] 33 #[.slice (some ⟨b, 0, none⟩) p.length 9, .slice (some ⟨xb, xo, none⟩) 1 1]).run Try.prog W = .ok (.slice (some ⟨b, 0, none⟩) (p.length + 1) 9) W' ∧ Wy W' b (p ++ [e]) ∧ Kept (· = b) W W' := by
  obtain ⟨cur, h1, h2, h3, h4⟩ := h; obtain ⟨i0, hi, hz0, hz1, hz2⟩ := info_parts Try.inf49b; have hr := run_append_room (P := Try.prog) W 33 33 49 i0 Try.underlying33 hi b p.length 9 cur h1 ⟨xb, xo, none⟩ 1 1 (EL e).toList (by rw [hz1]; rfl) (fun j u hu => by rw [Addr.add_mid]; exact hx j u hu) (by rw [← cE_one]; exact cE_one1 [e]) (by omega) (by rw [hz1, h2]; show p.length * 13 + 13 ≤ 117; omega); rw [hz1] at hr; refine ⟨_, hr, ⟨_, setRow_heap W b cur _ _ _ h1, ?_, by simp; omega, ?_⟩, ⟨rfl, rfl, rfl, by simp, fun k _ hk => setRow_other W b k _ hk⟩⟩
  · have hE : (EL e).size = 13 := rfl
    simp only [List.size_toArray, List.length_append, List.length_take, List.length_drop, Array.length_toList, h2, hE]
    omega
  · simp only [List.length_append, List.length_cons, List.length_nil]
    rw [cE_app, cE_one, ← h4]
    have hl : (cur.toList.take (p.length * 13) ++ (EL e).toList).length = (p.length + (0 + 1)) * 13 := by
      have hcl : cur.toList.length = 117 := by rw [Array.length_toList]; exact h2
      rw [List.length_append, List.length_take, hcl, EL_size]
      omega
    rw [← hl]; exact List.take_left
end
/-- a place of the stack: the edge that led there, what is left to be looked at, where that lies -/
structure SF where
  e : EV
  l : List EV
  a : Option Addr
  c : Nat
def toSt (s : List SF) : St := s.map fun f => (f.e, f.l)
def lvF (f : SF) : Value := .slice f.a f.l.length f.c
def xsF (s : List SF) : List Value := (s.map lvF).reverse
def wayF (s : List SF) : List EV := (s.map (·.e)).reverse
def SSs (W : World) (N : Nat) (s : List SF) : Prop := ∀ f ∈ s, Es W N f.a f.l ∧ f.l.length ≤ f.c
theorem xsF_len (s : List SF) : (xsF s).length = s.length := by simp [xsF]
theorem wayF_len (s : List SF) : (wayF s).length = s.length := by simp [wayF]
theorem xsF_cons (f : SF) (s : List SF) : xsF (f :: s) = xsF s ++ [lvF f] := by simp [xsF]
theorem wayF_cons (f : SF) (s : List SF) : wayF (f :: s) = wayF s ++ [f.e] := by simp [wayF]
theorem pre_way (s : List SF) : pre (toSt s) = (wayF s).drop 1 := by
  unfold pre toSt wayF
  rw [List.map_map]
  rfl
theorem gon_st (s : List SF) : gon (toSt s) = s.map (·.e.to) := by
  unfold gon toSt
  rw [List.map_map]
  rfl
theorem SSs.blk {W W' : World} {N : Nat} {s : List SF} (h : SSs W N s) (hb : ∀ b cur, b < N → W.heap[b]? = some (.cells cur 49) → W'.heap[b]? = W.heap[b]?) : SSs W' N s := fun f hf => ⟨(h f hf).1.blk hb, (h f hf).2⟩
theorem SSs.keep {W W' : World} {N : Nat} {s : List SF} (h : SSs W N s) (hB : Below W.heap.size W W') : SSs W' N s := h.blk fun b _ _ hc => hB.block b (lt_of hc)
theorem SSs.putT {W W' : World} {N k T : Nat} {C : Array Value} {s : List SF} (h : SSs W N s) (hK : Kept (· = k) W W') (hk : W.heap[k]? = some (.cells C T)) (hT : T ≠ 49) : SSs W' N s := fun f hf => ⟨(h f hf).1.keepT hK hk hT, (h f hf).2⟩
theorem SSs.putW {W W' : World} {N k : Nat} {s : List SF} (h : SSs W N s) (hK : Kept (· = k) W W') (hk : N ≤ k) : SSs W' N s := h.blk fun b _ hl hc => hK.block b (lt_of hc) (by omega)
theorem SSs.tail {W : World} {N : Nat} {f : SF} {s : List SF} (h : SSs W N (f :: s)) : SSs W N s := fun g hg => h g (List.mem_cons_of_mem _ hg)
/-- what stays while ways are gone through -/
structure Sta (W : World) (b3 b4 b7 b6 bw N7 base r nw cw : Nat) (v : WV) (ao : Option Addr) (L : List EV) (A : Nat → Option Addr) (K : Nat → Nat) (S : List Int) (B : Option YV) : Prop where
  k3 : W.heap[b3]? = some (.cells (WL_ v ao nw cw) 32)
  k4 : W.heap[b4]? = some (.cells (WL_ v ao nw cw) 32)
  k7 : W.heap[b7]? = some (.cells (rowL L A K 8).toArray 113)
  ro : ∀ j : Nat, j < 8 → Es W N7 (A j) (nxt L j)
  mp : Mp W r S
  bs : Bst W base b6 B
section
variable {W W' : World} {b3 b4 b7 b6 bw N7 base r nw cw : Nat} {v : WV} {ao : Option Addr} {L : List EV} {A : Nat → Option Addr} {K : Nat → Nat} {S : List Int} {B : Option YV}
theorem Sta.keep (h : Sta W b3 b4 b7 b6 bw N7 base r nw cw v ao L A K S B) (hB : Below W.heap.size W W') : Sta W' b3 b4 b7 b6 bw N7 base r nw cw v ao L A K S B :=
  ⟨Proofs.Ytgnkcmmpbohafaa.keep hB h.k3, Proofs.Ytgnkcmmpbohafaa.keep hB h.k4, Proofs.Ytgnkcmmpbohafaa.keep hB h.k7, fun j hj => (h.ro j hj).keepB hB, h.mp.keep hB, h.bs.keep hB⟩
/-- a block that is none of these is stored into -/
theorem Sta.putT {k T : Nat} {C : Array Value} (h : Sta W b3 b4 b7 b6 bw N7 base r nw cw v ao L A K S B) (hK : Kept (· = k) W W') (hk : W.heap[k]? = some (.cells C T)) (hT : T ≠ 32 ∧ T ≠ 113 ∧ T ≠ 49 ∧ T ≠ 36 ∧ T ≠ 3) : Sta W' b3 b4 b7 b6 bw N7 base r nw cw v ao L A K S B := by
  obtain ⟨C6, h6⟩ := h.bs.box
  exact ⟨keepK hK h.k3 (fun e => ne_tag h.k3 hk hT.1.symm e), keepK hK h.k4 (fun e => ne_tag h.k4 hk hT.1.symm e), keepK hK h.k7 (fun e => ne_tag h.k7 hk hT.2.1.symm e), fun j hj => (h.ro j hj).keepT hK hk hT.2.2.1, h.mp.keepT hK hk,
    h.bs.blk (hK.block b6 (lt_of h6) (fun e => ne_tag h6 hk hT.2.2.2.1.symm e)) (fun q D U _ hq hU => hK.block q (lt_of hq) (fun e => by
      refine ne_tag hq hk ?_ e
      rcases hU with rfl | rfl
      · exact hT.2.2.1.symm
      · exact hT.2.2.2.2.symm))⟩
/-- the way is stored into -/
theorem Sta.putW {C : Array Value} (h : Sta W b3 b4 b7 b6 bw N7 base r nw cw v ao L A K S B) (hK : Kept (· = bw) W W') (hk : W.heap[bw]? = some (.cells C 49)) (hN : N7 ≤ bw) (hb : bw < base) : Sta W' b3 b4 b7 b6 bw N7 base r nw cw v ao L A K S B := by
  obtain ⟨C6, h6⟩ := h.bs.box
  exact ⟨keepK hK h.k3 (fun e => ne_tag h.k3 hk (by decide) e), keepK hK h.k4 (fun e => ne_tag h.k4 hk (by decide) e), keepK hK h.k7 (fun e => ne_tag h.k7 hk (by decide) e), fun j hj => (h.ro j hj).keepK hK (fun k hk => by omega), h.mp.keepT hK hk,
    h.bs.blk (hK.block b6 (lt_of h6) (fun e => ne_tag h6 hk (by decide) e)) (fun q D U hq0 hq hU => hK.block q (lt_of hq) (by omega))⟩
/-- a way was seen -/
theorem Sta.see {B' : Option YV} (h : Sta W b3 b4 b7 b6 bw N7 base r nw cw v ao L A K S B) (hK : Kept (· = b6) W W') (hB : Bst W' base b6 B') : Sta W' b3 b4 b7 b6 bw N7 base r nw cw v ao L A K S B' := by
  obtain ⟨C6, h6⟩ := h.bs.box; exact ⟨keepK hK h.k3 (fun e => ne_tag h.k3 h6 (by decide) e), keepK hK h.k4 (fun e => ne_tag h.k4 h6 (by decide) e), keepK hK h.k7 (fun e => ne_tag h.k7 h6 (by decide) e), fun j hj => (h.ro j hj).keepT hK h6 (by decide), h.mp.keepT hK h6, hB⟩
end
section
variable {W : World} {base e g n c i m : Nat} {xs : List Value} {u : Value}
theorem own_set (h : W.ownsRow base e 1 (.slice (some ⟨g, 0, none⟩) n c) n xs) (hi : i < n) : (∃ old, W.cell? ⟨g, i, none⟩ = some old) ∧ W.frozen? ⟨g, i, none⟩ = false ∧ (W.setCell ⟨g, i, none⟩ u).ownsRow base e 1 (.slice (some ⟨g, 0, none⟩) n c) n (xs.set i u) ∧ Kept (· = g) W (W.setCell ⟨g, i, none⟩ u) := by
  rcases h.2 with ⟨q, _⟩ | ⟨g', cap', cur, q, hb, hh, h1, h2, h3, h4⟩
  · cases q
  · cases q
    have hs : i < cur.size := by omega
    refine ⟨⟨cur[i], at_cell hh (Array.getElem?_eq_getElem hs)⟩, unfrozen hh, ⟨by rw [List.length_set]; exact h.1, .inr ⟨g, c, _, rfl, hb, (put_cell u hh).1, h1, h2, by rw [Array.size_setIfInBounds]; exact h3, ?_⟩⟩, (put_cell u hh).2⟩; rw [Array.toList_setIfInBounds, List.take_set, h4]
theorem own_cut (h : W.ownsRow base e 1 (.slice (some ⟨g, 0, none⟩) n c) n xs) (hm : m ≤ n) : W.ownsRow base e 1 (.slice (some ⟨g, 0, none⟩) m c) m (xs.take m) := by
  rcases h.2 with ⟨q, _⟩ | ⟨g', cap', cur, q, hb, hh, h1, h2, h3, h4⟩
  · cases q
  · cases q
    have hx := h.1; refine ⟨by rw [List.length_take]; omega, .inr ⟨g, c, cur, rfl, hb, hh, by omega, h2, h3, ?_⟩⟩; rw [← h4, List.take_take, Nat.min_eq_left (by omega), Nat.mul_one]
theorem own_cell (h : W.ownsRow base e 1 (.slice (some ⟨g, 0, none⟩) n c) n xs) (hu : xs[i]? = some u) : W.cell? ⟨g, i, none⟩ = some u := by
  have := World.ownsRow.cells h (g := g) rfl i u hu
  rw [Addr.add_mid, Nat.zero_add] at this; exact this
end
/-- behind the first one -/
theorem Es_tail {W : World} {N b o c : Nat} {e : EV} {l : List EV} (h : Es W N (some ⟨b, o, none⟩) (e :: l)) (hc : (e :: l).length ≤ c) : Es W N (some ⟨b, if c = 1 then o else o + 1 * 13, none⟩) l := by
  cases l with
  | nil => exact .inl rfl
  | cons d l =>
    rcases h with h | ⟨b', o', q, hl, hcur, hr⟩
    · cases h
    · cases q
      refine .inr ⟨b, o + 1 * 13, ?_, hl, hcur, range_drop hr (k := 1) (by simp)⟩; rw [if_neg (by simp at hc; omega)]
section
variable {o : Oper} {a : Act} {W : World}
theorem ex_mkW {x y : Operand} (ho : o.op = .makeSlice 33 x y) (hx : a.eval x = .int .i64 0) (hy : a.eval y = .int .i64 9) : (execOp a.eval o).run Try.prog W = .ok (.value (.slice (some ⟨W.heap.size, 0, none⟩) 0 9)) (W.alloc (.cells (List.replicate 117 (Value.int .i64 0)).toArray 49)) := by
  obtain ⟨i0, hi, hz0, hz1, hz2⟩ := info_parts Try.inf49b; have h := run_make (P := Try.prog) W 33 49 i0 _ Try.underlying33 hi hz0 .i64 .i64 0 9 (by omega) (by omega) (by rw [hz2]; omega) (by omega); rw [hz1] at h
  have e : madeCells (Value.agg #[.int .i64 0, .int .i64 0, .int .i64 0, .int .i64 0, .int .i64 0, .int .i64 0, .int .i64 0, .int .i64 0, .int .i64 0, .int .i64 0, .int .i64 0, .int .i64 0, .int .i64 0]).cells ((9 : Int).toNat * 13) = (List.replicate 117 (Value.int .i64 0)).toArray := by kernel_rfl
  rw [e] at h
  unfold execOp
  simp only [ho, hx, hy]
  simp [h]
theorem ex_cutw {x y : Operand} {b n : Nat} (ho : o.op = .slice 33 x (some y) none none) (hx : a.eval x = .slice (some ⟨b, 0, none⟩) (n + 1) 9) (hy : a.eval y = .int .i64 1) (hn : n ≤ 8) : (execOp a.eval o).run Try.prog W = .ok (.value (.slice (some ⟨b, 13, none⟩) n 8)) W := by
  have h := ex_cutl (W := W) (k := 1) ho hx hy rfl (by omega) (by omega); rw [h, if_neg (by decide)]
  rfl
end
theorem bE0 (v : WV) (W : World) : (Instr.build 49 #[(2, .int .i64 v.fr)]).run Try.prog W = .ok (.agg (EL (E0 v))) W := run_build W 49 _ _ (by kernel_rfl)
theorem bslS (x : Option Addr) (n c : Nat) (W : World) : (Instr.buildSlice 118 1 #[(0, .slice x n c)]).run Try.prog W = .ok (.slice (some ⟨W.heap.size, 0, none⟩) 1 1) (W.alloc (.cells #[.slice x n c] 33)) := bslice W 118 33 1 _ _ (.slice none 0 0) 1 Try.underlying118 (by kernel_rfl) (by decide) (by decide) (by kernel_rfl)
end Go.Proofs.Ytgnkcmmpbohafaa

/- A search, as numbers: what holds behind each step. -/
namespace Go.Proofs.Ytgnkcmmpbohafaa
open Go.RowKit
set_option linter.unusedVariables false
set_option linter.unusedSimpArgs false
def lenV : Value → Nat
  | .slice _ n _ => n
  | _ => 0
structure Pk (L : List EV) (v : WV) (FB : Option YV) (TOT s : Nat) (B : Option YV) (ss : List SF) : Prop where
  fb : bst v B (rem L v (toSt ss)) = FB
  st : s + lft L v (toSt ss) = TOT
  nd : (gon (toSt ss)).Nodup
  bd : ∀ x ∈ gon (toSt ss), 0 ≤ x ∧ x < 8
  nt : ¬ v.to ∈ gon (toSt ss)
  mem : ∀ f ∈ ss, ∀ x ∈ f.l, x ∈ L
  prs : ∀ x ∈ (wayF ss).drop 1, x ∈ L
section
variable {L : List EV} {v : WV} {FB : Option YV} {TOT s : Nat} {B : Option YV} {r : List SF} {d e : EV} {l : List EV} {a a' a2 : Option Addr} {c c' c2 : Nat}
theorem Pk.len {ss : List SF} (h : Pk L v FB TOT s B ss) (ht : 0 ≤ v.to ∧ v.to < 8) : ss.length ≤ 7 := by
  have h1 := few 8 (v.to :: gon (toSt ss)) (List.nodup_cons.2 ⟨h.nt, h.nd⟩) (fun x hx => by
    rcases List.mem_cons.1 hx with q | q
    · subst q; exact ht
    · exact h.bd x q)
  rw [List.length_cons, gon_st, List.length_map] at h1
  omega
theorem Pk.same {ss : List SF} (h : Pk L v FB TOT s B (⟨d, e :: l, a, c⟩ :: r)) (s' : Nat) (B' : Option YV) (h1 : bst v B' (rem L v (toSt (⟨d, l, a', c'⟩ :: r))) = FB) (h2 : s' + lft L v (toSt (⟨d, l, a', c'⟩ :: r)) = TOT) : Pk L v FB TOT s' B' (⟨d, l, a', c'⟩ :: r) :=
  ⟨h1, h2, h.nd, h.bd, h.nt, fun f hf x hx => by
    rcases List.mem_cons.1 hf with q | q
    · subst q
      exact h.mem ⟨d, e :: l, a, c⟩ (by simp) x (by simp at hx ⊢; exact .inr hx)
    · exact h.mem f (by simp [q]) x hx, fun x hx => h.prs x (by rw [wayF_cons] at hx ⊢; exact hx)⟩
theorem Pk.skp (h : Pk L v FB TOT s B (⟨d, e :: l, a, c⟩ :: r)) (hr : r.length ≤ 8) (hk : skip v (gon (toSt (⟨d, e :: l, a, c⟩ :: r))) e = true) : Pk L v FB TOT (s + 1) B (⟨d, l, a', c'⟩ :: r) := by
  have hl : (toSt r).length ≤ 8 := by simpa [toSt] using hr
  have h1 := rem_skip (L := L) (d := d) (l := l) (r := toSt r) hl hk; have h2 := lft_skip (L := L) (d := d) (l := l) (r := toSt r) hl hk; refine h.same (ss := []) (s + 1) B ?_ ?_
  · rw [← h.fb]
    exact congrArg (bst v B) h1.symm
  · have := h.st
    have h3 : lft L v (toSt (⟨d, e :: l, a, c⟩ :: r)) = 1 + lft L v (toSt (⟨d, l, a', c'⟩ :: r)) := h2
    omega
theorem Pk.there (h : Pk L v FB TOT s B (⟨d, e :: l, a, c⟩ :: r)) (hr : r.length ≤ 8) (hk : skip v (gon (toSt (⟨d, e :: l, a, c⟩ :: r))) e = false) (ht : e.to = v.to) : Pk L v FB TOT (s + 1) (seeN v B ((wayF (⟨d, e :: l, a, c⟩ :: r)).drop 1 ++ [e])) (⟨d, l, a', c'⟩ :: r) := by
  have hl : (toSt r).length ≤ 8 := by simpa [toSt] using hr
  have h1 := rem_there (L := L) (d := d) (l := l) (r := toSt r) hl hk ht; have h2 := lft_there (L := L) (d := d) (l := l) (r := toSt r) hl hk ht; refine h.same (ss := []) (s + 1) _ ?_ ?_
  · rw [← h.fb]
    have h3 : rem L v (toSt (⟨d, e :: l, a, c⟩ :: r)) = (pre (toSt (⟨d, e :: l, a, c⟩ :: r)) ++ [e]) :: rem L v (toSt (⟨d, l, a', c'⟩ :: r)) := h1
    rw [h3, pre_way]
    rfl
  · have := h.st
    have h3 : lft L v (toSt (⟨d, e :: l, a, c⟩ :: r)) = 1 + lft L v (toSt (⟨d, l, a', c'⟩ :: r)) := h2
    omega
theorem Pk.push (h : Pk L v FB TOT s B (⟨d, e :: l, a, c⟩ :: r)) (hr : r.length ≤ 8) (hk : skip v (gon (toSt (⟨d, e :: l, a, c⟩ :: r))) e = false) (ht : ¬ e.to = v.to) (he : 0 ≤ e.to ∧ e.to < 8) : Pk L v FB TOT (s + 1) B (⟨e, nxt L e.to, a2, c2⟩ :: ⟨d, l, a', c'⟩ :: r) := by
  have hl : (toSt r).length ≤ 8 := by simpa [toSt] using hr
  have h1 := rem_push (L := L) (d := d) (l := l) (r := toSt r) hl hk ht; have h2 := lft_push (L := L) (d := d) (l := l) (r := toSt r) hl hk ht
  have hg : gon (toSt (⟨e, nxt L e.to, a2, c2⟩ :: ⟨d, l, a', c'⟩ :: r)) = e.to :: gon (toSt (⟨d, e :: l, a, c⟩ :: r)) := rfl
  have hm := h.mem
  have hel : e ∈ L := hm ⟨d, e :: l, a, c⟩ (by simp) e (by simp)
  refine ⟨?_, ?_, ?_, ?_, ?_, ?_, ?_⟩
  · rw [← h.fb]
    exact congrArg (bst v B) h1.symm
  · have := h.st
    have h3 : lft L v (toSt (⟨d, e :: l, a, c⟩ :: r)) = 1 + lft L v (toSt (⟨e, nxt L e.to, a2, c2⟩ :: ⟨d, l, a', c'⟩ :: r)) := h2
    omega
  · rw [hg]
    refine List.nodup_cons.2 ⟨fun q => ?_, h.nd⟩
    unfold skip at hk
    rw [decide_eq_true q] at hk
    simp at hk
  · rw [hg]
    intro x hx
    rcases List.mem_cons.1 hx with q | q
    · subst q; exact he
    · exact h.bd x q
  · rw [hg]
    intro hx
    rcases List.mem_cons.1 hx with q | q
    · exact ht q.symm
    · exact h.nt q
  · intro f hf x hx
    rcases List.mem_cons.1 hf with q | q
    · subst q
      exact (List.mem_filter.1 hx).1
    · rcases List.mem_cons.1 q with q | q
      · subst q
        exact hm ⟨d, e :: l, a, c⟩ (by simp) x (by simp at hx ⊢; exact .inr hx)
      · exact hm f (by simp [q]) x hx
  · intro x hx
    rw [wayF_cons] at hx
    have hw : wayF (⟨d, l, a', c'⟩ :: r) = wayF (⟨d, e :: l, a, c⟩ :: r) := rfl
    rw [hw] at hx
    have hlen : 1 ≤ (wayF (⟨d, e :: l, a, c⟩ :: r)).length := by rw [wayF_len]; simp
    rw [List.drop_append_of_le_length hlen] at hx
    rcases List.mem_append.1 hx with q | q
    · exact h.prs x q
    · have : x = e := by simpa using q
      subst this; exact hel
theorem Pk.pop (h : Pk L v FB TOT s B (⟨d, [], a, c⟩ :: r)) : Pk L v FB TOT s B r := by
  have hg : gon (toSt (⟨d, [], a, c⟩ :: r)) = d.to :: gon (toSt r) := rfl
  refine ⟨?_, ?_, ?_, fun x hx => h.bd x (by rw [hg]; simp [hx]), fun hx => h.nt (by rw [hg]; simp [hx]), fun f hf x hx => h.mem f (by simp [hf]) x hx, fun x hx => h.prs x ?_⟩
  · rw [← h.fb]
    exact congrArg (bst v B) (rem_pop (L := L) (w := v) d (toSt r)).symm
  · rw [← h.st]
    exact congrArg (s + ·) (lft_pop (L := L) (w := v) d (toSt r)).symm
  · have := h.nd
    rw [hg] at this; exact (List.nodup_cons.1 this).2
  · rw [wayF_cons]
    by_cases hn : (wayF r).length = 0
    · rw [List.eq_nil_of_length_eq_zero hn] at hx
      simp at hx
    · rw [List.drop_append_of_le_length (by omega)]
      exact List.mem_append.2 (.inl hx)
theorem Pk.gone (h : Pk L v FB TOT s B (⟨d, l, a, c⟩ :: r)) : ¬ d.to ∈ gon (toSt r) ∧ 0 ≤ d.to ∧ d.to < 8 := by
  have hg : gon (toSt (⟨d, l, a, c⟩ :: r)) = d.to :: gon (toSt r) := rfl
  have h1 := h.nd; rw [hg] at h1; exact ⟨(List.nodup_cons.1 h1).1, h.bd d.to (by rw [hg]; simp)⟩
theorem Pk.brk {ss : List SF} (h : Pk L v FB TOT s B ss) (hs : B.isSome = true) : FB.isSome = true ∧ s ≤ TOT := by
  refine ⟨?_, by have := h.st; omega⟩; rw [← h.fb]; exact bst_some hs
theorem Pk.one (h : Pk L v FB TOT s B (⟨d, e :: l, a, c⟩ :: r)) (hr : r.length ≤ 8) : s + 1 ≤ TOT := by
  have hl : (toSt r).length ≤ 8 := by simpa [toSt] using hr
  have h0 := h.st
  by_cases hk : skip v (gon (toSt (⟨d, e :: l, a, c⟩ :: r))) e = true
  · have h3 : lft L v (toSt (⟨d, e :: l, a, c⟩ :: r)) = 1 + lft L v (toSt (⟨d, l, a, c⟩ :: r)) := lft_skip (L := L) (d := d) (l := l) (r := toSt r) hl hk
    omega
  · replace hk := Bool.eq_false_iff.2 hk
    by_cases ht : e.to = v.to
    · have h3 : lft L v (toSt (⟨d, e :: l, a, c⟩ :: r)) = 1 + lft L v (toSt (⟨d, l, a, c⟩ :: r)) := lft_there (L := L) (d := d) (l := l) (r := toSt r) hl hk ht
      omega
    · have h3 : lft L v (toSt (⟨d, e :: l, a, c⟩ :: r)) = 1 + lft L v (toSt (⟨e, nxt L e.to, a, c⟩ :: ⟨d, l, a, c⟩ :: r)) := lft_push (L := L) (d := d) (l := l) (r := toSt r) hl hk ht
      omega
theorem Pk.done (h : Pk L v FB TOT s B []) : B = FB ∧ s = TOT := ⟨h.fb, h.st⟩
theorem Pk.begin (hf : 0 ≤ v.fr ∧ v.fr < 8) (hft : ¬ v.fr = v.to) : Pk L v (bst v none (rem L v [(E0 v, nxt L v.fr)])) (lft L v [(E0 v, nxt L v.fr)]) 0 none [⟨E0 v, nxt L v.fr, a, c⟩] := by
  refine ⟨rfl, Nat.zero_add _, ?_, ?_, ?_, ?_, ?_⟩
  · show [v.fr].Nodup
    simp
  · intro x hx
    have : x ∈ [v.fr] := hx
    have : x = v.fr := by simpa using this
    subst this; exact hf
  · intro hx
    have : v.to ∈ [v.fr] := hx
    have : v.to = v.fr := by simpa using this
    exact hft this.symm
  · intro f hf' x hx
    have : f = ⟨E0 v, nxt L v.fr, a, c⟩ := by simpa using hf'
    subst this; exact (List.mem_filter.1 hx).1
  · intro x hx
    simp [wayF] at hx
end
def Mk : Nat → Nat
  | 0 => 0
  | k + 1 => 1 + 64 * Mk k
theorem sumL_le {α : Type} (f : α → Nat) (m : Nat) : ∀ l : List α, (∀ x ∈ l, f x ≤ m) → (l.map f).sum ≤ l.length * m
  | [], _ => by simp
  | a :: l, h => by
    have h1 := sumL_le f m l (fun x hx => h x (by simp [hx])); have h2 := h a (by simp); rw [List.map_cons, List.sum_cons, List.length_cons, Nat.add_mul]
    omega
theorem stp_le {L : List EV} {v : WV} (hL : ∀ x, (nxt L x).length ≤ 64) : ∀ (k : Nat) (gone : List Int) (l : List EV), stp L v k gone l ≤ l.length * Mk k
  | 0, _, _ => by simp [stp]
  | k + 1, gone, l => by
    unfold stp
    refine sumL_le _ _ l fun e _ => ?_
    unfold Mk
    have h1 := stp_le (v := v) hL k (e.to :: gone) (nxt L e.to); have h2 := Nat.mul_le_mul_right (Mk k) (hL e.to)
    split
    · omega
    · split <;> omega
theorem tot_le {L : List EV} {v : WV} (hL : L.length ≤ 64) : lft L v [(E0 v, nxt L v.fr)] ≤ 100000000000000000 := by
  have hx : ∀ x, (nxt L x).length ≤ 64 := fun x => Nat.le_trans (List.length_filter_le _ _) hL
  have h1 := stp_le (v := v) hx 9 (gon [(E0 v, nxt L v.fr)]) (nxt L v.fr); have h2 := Nat.mul_le_mul_right (Mk 9) (hx v.fr)
  have h3 : 64 * Mk 9 ≤ 100000000000000000 := by decide
  show stp L v 9 _ _ + 0 ≤ _
  omega
/-- all that a search has -/
structure Wk (w W : World) (b3 b4 b7 b6 b9 bw N7 base r nw cw : Nat) (v : WV) (ao : Option Addr) (L : List EV) (A : Nat → Option Addr) (K : Nat → Nat) (S : List Int) (FB : Option YV) (TOT s : Nat) (fd : Bool) (B : Option YV) (ss : List SF) (x : Value) : Prop where
  E : Kept (· = b6) w W
  sz : base ≤ W.heap.size
  hI : Sta W b3 b4 b7 b6 bw N7 base r nw cw v ao L A K S B
  hS : SSs W N7 ss
  k9 : W.heap[b9]? = some (.cells (goA (gon (toSt ss))).toArray 117)
  wy : Wy W bw (wayF ss)
  ow : W.ownsRow w.heap.size 33 1 x ss.length (xsF ss)
  fd : fd = B.isSome
  pk : Pk L v FB TOT s B ss
theorem Wk.keep {w W W' : World} {b3 b4 b7 b6 b9 bw N7 base r nw cw : Nat} {v : WV} {ao : Option Addr} {L : List EV} {A : Nat → Option Addr} {K : Nat → Nat} {S : List Int} {FB : Option YV} {TOT s : Nat} {fd : Bool} {B : Option YV} {ss : List SF} {x : Value} (h : Wk w W b3 b4 b7 b6 b9 bw N7 base r nw cw v ao L A K S FB TOT s fd B ss x) (hB : Below W.heap.size W W') : Wk w W' b3 b4 b7 b6 b9 bw N7 base r nw cw v ao L A K S FB TOT s fd B ss x :=
  ⟨h.E.next hB, Nat.le_trans h.sz hB.size, h.hI.keep hB, h.hS.keep hB, Proofs.Ytgnkcmmpbohafaa.keep hB h.k9, h.wy.keep hB, own_keep h.ow hB, h.fd, h.pk⟩
end Go.Proofs.Ytgnkcmmpbohafaa
