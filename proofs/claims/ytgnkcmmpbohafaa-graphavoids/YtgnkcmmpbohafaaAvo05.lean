/- Some texts, in one. -/
import Derived.Test.YtgnkcmmpbohafaaAvo04
/- The edges from a node; from each node. -/
namespace Go.Proofs.Ytgnkcmmpbohafaa
open Go.RowKit
set_option linter.unusedVariables false
set_option linter.unusedSimpArgs false
set_option maxRecDepth 100000

theorem bslE (e : EV) (W : World) : (Instr.buildSlice 33 1 #[(0, .agg (EL e))]).run Try.prog W = .ok (.slice (some ⟨W.heap.size, 0, none⟩) 1 1) (W.alloc (.cells (EL e) 49)) := bslice W 33 49 1 _ _ _ 13 Try.underlying33 zero49 (by decide) (by decide) (by kernel_rfl)
theorem own_ge {W : World} {base e size n k : Nat} {v : Value} {xs : List Value} (h : W.ownsRow base e size v n xs) (hk : v.ownBlock = some k) : base ≤ k := by
  rcases h.2 with ⟨e, rfl⟩ | ⟨g, cap, cur, rfl, hb, hh, r⟩
  · rw [e] at hk; cases hk
  · have : g = k := by simpa [Value.ownBlock] using hk
    omega
theorem own_lt {W : World} {base e size n k : Nat} {v : Value} {xs : List Value} (h : W.ownsRow base e size v n xs) (hk : v.ownBlock = some k) : k < W.heap.size := by
  rcases h.2 with ⟨e, rfl⟩ | ⟨g, cap, cur, rfl, hb, hh, r⟩
  · rw [e] at hk; cases hk
  · have : g = k := by simpa [Value.ownBlock] using hk
    have := lt_of hh
    omega
theorem nxt_take {L : List EV} {i : Nat} {e : EV} (x : Int) (h : L[i]? = some e) : nxt (L.take (i + 1)) x = nxt (L.take i) x ++ (if e.fr = x then [e] else []) := by
  rw [List.take_add_one, h]
  unfold nxt
  rw [List.filter_append]
  by_cases hx : e.fr = x <;> simp [hx]
theorem nxt_len (L : List EV) (i : Nat) (x : Int) : (nxt (L.take i) x).length ≤ i := Nat.le_trans (List.length_filter_le _ _) (by rw [List.length_take]; omega)
set_option maxHeartbeats 8000000 in
theorem from_any {g N n c : Nat} {ad : Addr} {L : List EV} {x : Int} (w : World) (kg : w.heap[g]? = some (.cells #[.slice (some ad) n c] 105)) (hL : Es w N (some ad) L) (hn : n = L.length) (hn2 : n ≤ 64) : Calls Try.prog 60 #[.pointer (some ⟨g, 0, none⟩), .int .i64 x] w fun e w' => ∃ ao c, e = .returned (.slice ao (nxt L x).length c) ∧ (nxt L x).length ≤ c ∧ Es w' w'.heap.size ao (nxt L x) ∧ Below w.heap.size w w' := by
  have kw := kg
  have E : Below w.heap.size w w := Below.refl _ _
  go_enter Try.func60, Try.ntmps60; refine wq fun Q hQ => ?_; refine sg (.slice none 0 0) 4 rfl rfl rfl rfl ?_; simp only [zp]; refine st_end ?_; subst hQ; refine wp_seq ?_; refine wq fun Q hQ => ?_; refine sm (.pointer (some ⟨g, 0, none⟩)) 8 rfl rfl rfl rfl ?_; simp only [zp]; refine st_call (some 9) rfl rfl (closed_any w kg) (ex_call (f := 33) (vs := [(.pointer (some ⟨g, 0, none⟩))]) rfl (cf33 _) rfl) ?_; rintro e W1 ⟨rfl, B⟩; refine ⟨_, rfl, ?_⟩; simp only [zp]; replace E := below_next E B; replace kg := keep B kg; refine st_end ?_; subst hQ; refine wp_cond_false rfl ?_; refine wp_skip ?_
  refine wq fun Q hQ => ?_; refine sg (.slice none 0 0) 5 rfl rfl rfl rfl ?_; simp only [zp]; refine st_end ?_; subst hQ; refine wp_seq ?_; refine wq fun Q hQ => ?_; refine sm (.pointer (some ⟨g, 0, none⟩)) 10 rfl rfl rfl rfl ?_; simp only [zp]; refine sv (.pointer (some ⟨g, 0, none⟩)) 11 rfl rfl (ex_nil (p := (.pointer (some ⟨g, 0, none⟩))) rfl rfl rfl) ?_; simp only [zp]; refine sv (.pointer (some ⟨g, 0, none⟩)) 12 rfl rfl (ex_fa (p := (.pointer (some ⟨g, 0, none⟩))) rfl rfl (fa105_0 _ _)) ?_; simp only [zp]
  refine sv (.slice (some ad) n c) 13 rfl rfl (ex_load (p := (.pointer (some ⟨g, 0, none⟩))) rfl rfl (ld33 (at_cell kg rfl))) ?_; simp only [zp]; refine sv (.int .i64 (n : Nat)) 14 rfl rfl (ex_len rfl rfl (len33 _ _ _ _ _)) ?_; simp only [zp]; refine sm (.int .i64 0) 15 rfl rfl rfl rfl ?_; simp only [zp]; refine st_end ?_; subst hQ; refine wp_block ?_
  go_loopw [5, 15] (fun v5 v15 wr => ∃ i : Nat, i ≤ n ∧ v15 = .int .i64 i ∧ Below w.heap.size w wr ∧ wr.ownsRow w.heap.size 49 13 v5 (nxt (L.take i) x).length (cE (nxt (L.take i) x))) (fun _ v15 _ => n - (intOf v15).toNat)
  case atStart => exact ⟨0, Nat.zero_le _, rfl, E, own_nil _ _ _ _⟩
  case round =>
    clear E; obtain ⟨i, hi, rfl, E, hw⟩ := hrel; have hq0 := fun q => own_lt (k := q) hw
    by_cases hlt : i < n
    · obtain ⟨e, he⟩ : ∃ e, L[i]? = some e := ⟨L[i]'(by omega), List.getElem?_eq_getElem (by omega)⟩
      have hne : L ≠ [] := fun q => by rw [q] at he; simp at he
      have hnx := nxt_take x he; have hnl := nxt_len L i x
      rcases hL with q | ⟨b, off, q, hbN, ⟨cur0, hcur0⟩, hr⟩
      · exact absurd q hne
      cases q
      have hrb := range_below (range_at hr he) E
      by_cases hx : e.fr = x
      · skip
        rw [if_pos hx] at hnx; refine wq fun Q hQ => ?_; refine sv (.bool true) 16 rfl rfl (ex_bin (u := (.int .i64 (i : Nat))) (r := (.int .i64 (n : Nat))) rfl rfl rfl (eg3 _ _ _ _ _ _) (lss3 _ (decide_eq_true (by omega)))) ?_; simp only [zp]; refine st_end ?_; subst hQ; refine wp_seq ?_; refine wp_cond_true rfl ?_; refine wp_skip ?_; refine wp_seq ?_; refine wp_block ?_; refine wq fun Q hQ => ?_; refine sv (.pointer (some ⟨b, (off + i * 13), none⟩)) 17 rfl rfl (ix33 (k := i) rfl rfl rfl (rfl) (hlt)) ?_; simp only [zp]
        refine sv (.agg (EL e)) 18 rfl rfl (ex_load rfl rfl (ld_range hrb Try.underlying49 rfl inf49)) ?_; simp only [zp]; refine st_new (fun b => .pointer (some ⟨b, 0, none⟩)) (some 7) rfl rfl (ex_alloc rfl zero49) ?_; intro b1 W2 k1 g1 B; simp only [zp]; have ge_b1 := Nat.le_trans E.size g1; replace E := below_next E B; replace hw := own_keep hw B; clear B; obtain ⟨W3, hst, kn, K⟩ := put_all (D := (EL e)) k1 rfl inf49 (by kernel_rfl); refine st_sk rfl rfl (ex_store rfl rfl rfl hst) ?_; replace E := below_put E ge_b1 K
        replace hw := own_keepK hw K (fun q hq e => by have := hq0 q hq; omega); replace k1 := kn; clear kn K hst; refine st_end ?_; subst hQ; refine wq fun Q hQ => ?_; refine sv (.pointer (some ⟨b1, 1, none⟩)) 19 rfl rfl (ex_fa (p := (.pointer (some ⟨b1, 0, none⟩))) rfl rfl (fa49_1 _ _)) ?_; simp only [zp]; refine sv (.int .i64 e.fr) 20 rfl rfl (ex_load (p := (.pointer (some ⟨b1, 1, none⟩))) rfl rfl (ld3 (at_cell k1 rfl))) ?_; simp only [zp]; refine sm (.int .i64 x) 21 rfl rfl rfl rfl ?_; simp only [zp]
        refine sv (.bool true) 22 rfl rfl (ex_bin (u := (.int .i64 e.fr)) (r := (.int .i64 x)) rfl rfl rfl (eg3 _ _ _ _ _ _) (eql3 _ (decide_eq_true hx))) ?_; simp only [zp]; refine st_end ?_; subst hQ; refine wp_cond_true rfl ?_; refine wl_in (wl_cap fun Q hQ => ?_); refine sm u5 23 rfl rfl rfl rfl ?_; simp only [zp]; refine sv (.agg (EL e)) 24 rfl rfl (ex_load (p := (.pointer (some ⟨b1, 0, none⟩))) rfl rfl (ld_all k1 Try.underlying49 rfl inf49)) ?_; simp only [zp]
        refine st_new (fun b => .slice (some ⟨b, 0, none⟩) 1 1) (some 25) rfl rfl (ex_bsl1 (u := (.agg (EL e))) rfl rfl (bslE e _)) ?_; intro b2 W4 k2 g2 B; simp only [zp]
        have ne_b2_b1 : b2 ≠ b1 := fun e => by have := lt_of k1; omega
        have ge_b2 := Nat.le_trans E.size g2; replace E := below_next E B; replace hw := own_keep hw B; replace k1 := keep B k1; clear B; obtain ⟨g', cap', W5, hr2, hown2, hK2, hloc2⟩ := own_add (c := 1) (m := 1) (t := 33) hw (show W4.rangeAt b2 0 (EL e).toList from at_range (o := 0) (n := 13) k2 (by show 0 + 13 ≤ _; simp [EL])) rfl (by rw [← cE_one]; exact cE_one1 [e]) Try.underlying33 Try.inf49b rfl (by decide) (by decide) (by omega) (by simp only [maxLen]; omega) E.size; replace E : Below w.heap.size w W5 := E.trans (hK2.below E.size (fun k e => own_ge hw e))
        refine sv (.slice (some ⟨g', 0, none⟩) ((nxt (L.take i) x).length + 1) cap') 26 rfl rfl (ex_app rfl rfl rfl hr2) ?_; simp only [zp]; refine sg (.slice (some ⟨g', 0, none⟩) ((nxt (L.take i) x).length + 1) cap') 5 rfl rfl rfl rfl ?_; simp only [zp]; refine st_end ?_; subst hQ; refine wl_in (wl_cap fun Q hQ => ?_); refine sv (.int .i64 ((i + 1 : Nat) : Int)) 27 rfl rfl (ex_bin rfl rfl rfl (eg3 _ _ _ _ _ _) (add3 _ (by omega) (by omega))) ?_; simp only [zp]; refine sm (.int .i64 ((i + 1 : Nat) : Int)) 15 rfl rfl rfl rfl ?_; simp only [zp]; refine st_end ?_; subst hQ
        refine then_go ?_
        go_roundw
        case rel => exact ⟨i + 1, by omega, rfl, E, by rw [hnx, cE_app, cE_one, List.length_append]; exact hown2⟩
        case measure => simp [intOf]; omega
      · skip
        rw [if_neg hx] at hnx; refine wq fun Q hQ => ?_; refine sv (.bool true) 16 rfl rfl (ex_bin (u := (.int .i64 (i : Nat))) (r := (.int .i64 (n : Nat))) rfl rfl rfl (eg3 _ _ _ _ _ _) (lss3 _ (decide_eq_true (by omega)))) ?_; simp only [zp]; refine st_end ?_; subst hQ; refine wp_seq ?_; refine wp_cond_true rfl ?_; refine wp_skip ?_; refine wp_seq ?_; refine wp_block ?_; refine wq fun Q hQ => ?_; refine sv (.pointer (some ⟨b, (off + i * 13), none⟩)) 17 rfl rfl (ix33 (k := i) rfl rfl rfl (rfl) (hlt)) ?_; simp only [zp]
        refine sv (.agg (EL e)) 18 rfl rfl (ex_load rfl rfl (ld_range hrb Try.underlying49 rfl inf49)) ?_; simp only [zp]; refine st_new (fun b => .pointer (some ⟨b, 0, none⟩)) (some 7) rfl rfl (ex_alloc rfl zero49) ?_; intro b3 W6 k3 g3 B; simp only [zp]; have ge_b3 := Nat.le_trans E.size g3; replace E := below_next E B; replace hw := own_keep hw B; clear B; obtain ⟨W7, hst, kn, K⟩ := put_all (D := (EL e)) k3 rfl inf49 (by kernel_rfl); refine st_sk rfl rfl (ex_store rfl rfl rfl hst) ?_; replace E := below_put E ge_b3 K
        replace hw := own_keepK hw K (fun q hq e => by have := hq0 q hq; omega); replace k3 := kn; clear kn K hst; refine st_end ?_; subst hQ; refine wq fun Q hQ => ?_; refine sv (.pointer (some ⟨b3, 1, none⟩)) 19 rfl rfl (ex_fa (p := (.pointer (some ⟨b3, 0, none⟩))) rfl rfl (fa49_1 _ _)) ?_; simp only [zp]; refine sv (.int .i64 e.fr) 20 rfl rfl (ex_load (p := (.pointer (some ⟨b3, 1, none⟩))) rfl rfl (ld3 (at_cell k3 rfl))) ?_; simp only [zp]; refine sm (.int .i64 x) 21 rfl rfl rfl rfl ?_; simp only [zp]
        refine sv (.bool false) 22 rfl rfl (ex_bin (u := (.int .i64 e.fr)) (r := (.int .i64 x)) rfl rfl rfl (eg3 _ _ _ _ _ _) (eql3 _ (decide_eq_false hx))) ?_; simp only [zp]; refine st_end ?_; subst hQ; refine wp_cond_false rfl ?_; refine wp_skip ?_; refine wl_in (wl_cap fun Q hQ => ?_); refine sv (.int .i64 ((i + 1 : Nat) : Int)) 27 rfl rfl (ex_bin rfl rfl rfl (eg3 _ _ _ _ _ _) (add3 _ (by omega) (by omega))) ?_; simp only [zp]; refine sm (.int .i64 ((i + 1 : Nat) : Int)) 15 rfl rfl rfl rfl ?_; simp only [zp]; refine st_end ?_; subst hQ; refine then_go ?_
        go_roundw
        case rel => exact ⟨i + 1, by omega, rfl, E, by rw [hnx, List.append_nil]; exact hw⟩
        case measure => simp [intOf]; omega
    · have hin : i = n := by omega
      subst i; rw [List.take_of_length_le (by omega)] at hw; refine wq fun Q hQ => ?_; refine sv (.bool false) 16 rfl rfl (ex_bin (u := (.int .i64 (n : Nat))) (r := (.int .i64 (n : Nat))) rfl rfl rfl (eg3 _ _ _ _ _ _) (lss3 _ (decide_eq_false (by omega)))) ?_; simp only [zp]; refine st_end ?_; subst hQ; refine wp_seq ?_; refine wp_cond_false rfl ?_; refine wp_exit ?_; refine ex_then ?_; refine ex_then ?_; refine ex_blk ?_; refine wq fun Q hQ => ?_; refine sm u5 28 rfl rfl rfl rfl ?_; simp only [zp]; refine sg u5 4 rfl rfl rfl rfl ?_; simp only [zp]; refine st_end ?_; subst hQ
      refine wp_ret ?_; obtain ⟨ao, cc, rfl, hcc, hfm⟩ := own_form hw; refine bodyPost_ret (results_tmp Try.results60 _ _ _) rfl ⟨ao, cc, rfl, hcc, ?_, E⟩
      rcases hfm with h0 | ⟨g', cur, rfl, hb', hh, hr'⟩
      · exact .inl (List.eq_nil_of_length_eq_zero h0)
      · exact .inr ⟨g', 0, rfl, lt_of hh, ⟨cur, hh⟩, hr'⟩
/-- the rows of the first i nodes -/
def rowL (L : List EV) (A : Nat → Option Addr) (K : Nat → Nat) (i : Nat) : List Value := (List.range 8).map fun j => if j < i then Value.slice (A j) (nxt L j).length (K j) else .slice none 0 0
theorem rowL_size (L : List EV) (A : Nat → Option Addr) (K : Nat → Nat) (i : Nat) : (rowL L A K i).toArray.size = 8 := by simp [rowL]
theorem rowL_at (L : List EV) (A : Nat → Option Addr) (K : Nat → Nat) (i j : Nat) (hj : j < 8) : (rowL L A K i).toArray[j]? = some (if j < i then Value.slice (A j) (nxt L j).length (K j) else .slice none 0 0) := by
  simp [rowL, hj]
theorem rowL_set (L : List EV) (A : Nat → Option Addr) (K : Nat → Nat) (i : Nat) (hi : i < 8) (ao : Option Addr) (c : Nat) : (rowL L A K i).set i (Value.slice ao (nxt L i).length c) = rowL L (fun j => if j = i then ao else A j) (fun j => if j = i then c else K j) (i + 1) := by
  apply List.ext_getElem?
  intro j; rw [List.getElem?_set]
  unfold rowL
  by_cases hj : j < 8
  · by_cases e : i = j
    · subst e
      simp [hj]
    · by_cases h1 : j < i
      · have : j < i + 1 := by omega
        have : ¬ j = i := by omega
        simp [hj, e, h1, *]
      · have : ¬ j < i + 1 := by omega
        simp [hj, e, h1, *]
  · simp [hj]
    intro h
    omega
theorem rowL_one (L : List EV) (A : Nat → Option Addr) (K : Nat → Nat) (i : Nat) : (rowL L A K i).toArray.all (·.oneCell') = true := by
  rw [List.all_toArray, List.all_eq_true]; intro v hv; obtain ⟨j, _, rfl⟩ := List.mem_map.1 hv
  split <;> rfl
/-- the rows of the first i nodes lie there -/
def Ros (W : World) (L : List EV) (A : Nat → Option Addr) (K : Nat → Nat) (i : Nat) : Prop := ∀ j : Nat, j < i → (nxt L j).length ≤ K j ∧ Es W W.heap.size (A j) (nxt L j)
theorem Ros.keepB {W W' : World} {L : List EV} {A : Nat → Option Addr} {K : Nat → Nat} {i : Nat} (h : Ros W L A K i) (hB : Below W.heap.size W W') : Ros W' L A K i := fun j hj => ⟨(h j hj).1, ((h j hj).2.keepB hB).mono hB.size⟩
theorem Ros.keepT {W W' : World} {L : List EV} {A : Nat → Option Addr} {K : Nat → Nat} {i k T : Nat} {C : Array Value} (h : Ros W L A K i) (hK : Kept (· = k) W W') (hk : W.heap[k]? = some (.cells C T)) (hT : T ≠ 49) : Ros W' L A K i := fun j hj => ⟨(h j hj).1, ((h j hj).2.keepT hK hk hT).mono hK.size⟩
section
variable {o : Oper} {a : Act} {W : World}
theorem ixA {x y : Operand} {b k : Nat} {i : Int} (ho : o.op = .indexAddr 113 x y) (hx : a.eval x = .pointer (some ⟨b, 0, none⟩)) (hy : a.eval y = .int .i64 i) (hi : i = (k : Int)) (hk : k < 8) : (execOp a.eval o).run Try.prog W = .ok (.value (.pointer (some ⟨b, k, none⟩))) W := by
  subst hi
  have h1 : (k : Int) < 8 := by omega
  unfold execOp
  simp only [ho, hx, hy]
  go_simp
theorem ixB {x y : Operand} {b k : Nat} {i : Int} (ho : o.op = .indexAddr 117 x y) (hx : a.eval x = .pointer (some ⟨b, 0, none⟩)) (hy : a.eval y = .int .i64 i) (hi : i = (k : Int)) (hk : k < 8) : (execOp a.eval o).run Try.prog W = .ok (.value (.pointer (some ⟨b, k, none⟩))) W := by
  subst hi
  have h1 : (k : Int) < 8 := by omega
  unfold execOp
  simp only [ho, hx, hy]
  go_simp
end
set_option maxHeartbeats 8000000 in
theorem byFrom_any {g N n c : Nat} {ad : Addr} {L : List EV} (w : World) (kg : w.heap[g]? = some (.cells #[.slice (some ad) n c] 105)) (hL : Es w N (some ad) L) (hN : N ≤ w.heap.size) (hn : n = L.length) (hn2 : n ≤ 64) : Calls Try.prog 74 #[.pointer (some ⟨g, 0, none⟩)] w fun e w' => ∃ A K, e = .returned (.agg (rowL L A K 8).toArray) ∧ Ros w' L A K 8 ∧ Below w.heap.size w w' := by
  have kw := kg
  have E : Below w.heap.size w w := Below.refl _ _
  go_enter Try.func74, Try.ntmps74; refine wq fun Q hQ => ?_; refine st_new (fun b => .pointer (some ⟨b, 0, none⟩)) (some 2) rfl rfl (ex_alloc rfl zero113) ?_; intro b1 W1 k1 g1 B; simp only [zp]; have ge_b1 := Nat.le_trans E.size g1; replace E := below_next E B; clear B; refine st_end ?_; subst hQ; refine wq fun Q hQ => ?_; refine st_new (fun b => .pointer (some ⟨b, 0, none⟩)) (some 3) rfl rfl (ex_alloc rfl zero113) ?_; intro b2 W2 k2 g2 B; simp only [zp]
  have ne_b2_b1 : b2 ≠ b1 := fun e => by have := lt_of k1; omega
  have ge_b2 := Nat.le_trans E.size g2; replace E := below_next E B; replace k1 := keep B k1; clear B; refine st_end ?_; subst hQ; refine wp_seq ?_; refine wq fun Q hQ => ?_; refine sm (.int .i64 0) 5 rfl rfl rfl rfl ?_; simp only [zp]; refine st_end ?_; subst hQ; refine wp_block ?_
  have ne23 : ¬ b1 = b2 := by first | exact ne_b1_b2 | exact fun e => ne_b2_b1 e.symm
  go_loopw [5] (fun v5 wr => ∃ (i : Nat) (A : Nat → Option Addr) (K : Nat → Nat), i ≤ 8 ∧ v5 = .int .i64 i ∧ Below w.heap.size w wr ∧ wr.heap[b1]? = some (.cells #[.slice none 0 0, .slice none 0 0, .slice none 0 0, .slice none 0 0, .slice none 0 0, .slice none 0 0, .slice none 0 0, .slice none 0 0] 113) ∧ wr.heap[b2]? = some (.cells (rowL L A K i).toArray 113) ∧ Ros wr L A K i) (fun v5 _ => 8 - (intOf v5).toNat)
  case atStart => exact ⟨0, fun _ => none, fun _ => 0, Nat.zero_le _, rfl, E, k1, k2, fun j hj => absurd hj (Nat.not_lt_zero _)⟩
  case round =>
    clear E k1 k2; obtain ⟨i, A, K0, hi, rfl, E, k2, k3, hA⟩ := hrel
    by_cases hlt : i < 8
    · skip
      refine wq fun Q hQ => ?_; refine sv (.bool true) 6 rfl rfl (ex_bin (u := (.int .i64 (i : Nat))) (r := (.int .i64 8)) rfl rfl rfl (eg3 _ _ _ _ _ _) (lss3 _ (decide_eq_true (by omega)))) ?_; simp only [zp]; refine st_end ?_; subst hQ; refine wp_seq ?_; refine wp_cond_true rfl ?_; refine wp_skip ?_; refine wp_seq ?_; refine wp_block ?_; refine wq fun Q hQ => ?_; refine sm (.int .i64 (i : Nat)) 7 rfl rfl rfl rfl ?_; simp only [zp]; refine sg (.int .i64 (i : Nat)) 4 rfl rfl rfl rfl ?_; simp only [zp]; refine st_end ?_; subst hQ; refine wl_in (wl_cap fun Q hQ => ?_)
      refine sm (.int .i64 (i : Nat)) 8 rfl rfl rfl rfl ?_; simp only [zp]; refine sm (.pointer (some ⟨g, 0, none⟩)) 9 rfl rfl rfl rfl ?_; simp only [zp]; refine sm (.int .i64 (i : Nat)) 10 rfl rfl rfl rfl ?_; simp only [zp]; refine st_call (some 11) rfl rfl (from_any (x := ((i : Nat) : Int)) wr (keep E kw) (hL.keep E hN) hn hn2) (ex_call (f := 60) (vs := [(.pointer (some ⟨g, 0, none⟩)), (.int .i64 (i : Nat))]) rfl (cf60 _) rfl) ?_; rintro e W3 ⟨ao, cc, rfl, hcc, hEs, B⟩; refine ⟨_, rfl, ?_⟩; simp only [zp]; replace E := below_next E B; replace k2 := keep B k2; replace k3 := keep B k3
      replace hA := hA.keepB B; refine sv (.pointer (some ⟨b2, i, none⟩)) 12 rfl rfl (ixA rfl rfl rfl rfl hlt) ?_; simp only [zp]; obtain ⟨kn, K⟩ := put_cell (i := i) (.slice ao (nxt L ((i : Nat) : Int)).length cc) k3; refine st_sk rfl rfl (ex_store rfl rfl rfl (sto33 (at_cell k3 (rowL_at L A K0 i i hlt)) (unfrozen k3))) ?_; obtain ⟨W4, hW2⟩ : ∃ W', W3.setCell ⟨b2, i, none⟩ (.slice ao (nxt L ((i : Nat) : Int)).length cc) = W' := ⟨_, rfl⟩; rw [hW2] at kn K ⊢; rw [List.setIfInBounds_toArray, rowL_set L A K0 i hlt ao cc] at kn; replace E := below_put E ge_b2 K
      replace k2 := keepK K k2 (fun e => ne23 e); replace hA := hA.keepT K k3 (by decide); replace hEs := (hEs.keepT K k3 (by decide)).mono K.size; replace k3 := kn; clear kn K; refine st_end ?_; subst hQ; refine wl_in (wl_cap fun Q hQ => ?_); refine sv (.int .i64 ((i + 1 : Nat) : Int)) 13 rfl rfl (ex_bin rfl rfl rfl (eg3 _ _ _ _ _ _) (add3 _ (by omega) (by omega))) ?_; simp only [zp]; refine sm (.int .i64 ((i + 1 : Nat) : Int)) 5 rfl rfl rfl rfl ?_; simp only [zp]; refine st_end ?_; subst hQ; refine then_go ?_
      go_roundw
      case rel =>
        refine ⟨i + 1, _, _, by omega, rfl, E, k2, k3, fun j hj => ?_⟩
        by_cases hj' : j = i
        · subst hj'
          simp only [if_pos]; exact ⟨hcc, hEs⟩
        · simp only [if_neg hj']
          exact hA j (by omega)
      case measure => simp [intOf]; omega
    · have hin : i = 8 := by omega
      subst i; refine wq fun Q hQ => ?_; refine sv (.bool false) 6 rfl rfl (ex_bin (u := (.int .i64 (8 : Nat))) (r := (.int .i64 8)) rfl rfl rfl (eg3 _ _ _ _ _ _) (lss3 _ (decide_eq_false (by omega)))) ?_; simp only [zp]; refine st_end ?_; subst hQ; refine wp_seq ?_; refine wp_cond_false rfl ?_; refine wp_exit ?_; refine ex_then ?_; refine ex_then ?_; refine ex_blk ?_; refine wq fun Q hQ => ?_
      refine sv (.agg (rowL L A K0 8).toArray) 14 rfl rfl (ex_load (p := (.pointer (some ⟨b2, 0, none⟩))) rfl rfl (ld_all k3 Try.underlying113 rfl (inf113.trans (congrArg some ((rowL_size L A K0 8)).symm)))) ?_; simp only [zp]; obtain ⟨W5, hst, kn, K⟩ := put_all (D := (rowL L A K0 8).toArray) k2 (((show (#[.slice none 0 0, .slice none 0 0, .slice none 0 0, .slice none 0 0, .slice none 0 0, .slice none 0 0, .slice none 0 0, .slice none 0 0] : Array Value).size = 8 from rfl)).trans ((rowL_size L A K0 8)).symm) (inf113.trans (congrArg some ((rowL_size L A K0 8)).symm)) (rowL_one L A K0 8)
      refine st_sk rfl rfl (ex_store rfl rfl rfl hst) ?_; replace E := below_put E ge_b1 K; replace k3 := keepK K k3 (fun e => ne23 e.symm); replace hA := hA.keepT K k2 (by decide); replace k2 := kn; clear kn K hst; refine st_end ?_; subst hQ; refine wp_ret ?_; refine bodyPost_ret (results_cell_row Try.results74 _ _ b1 _ _ _ _ rfl k2 Try.underlying113 rfl (inf113.trans (congrArg some ((rowL_size L A K0 8)).symm))) rfl ⟨A, K0, rfl, hA, E⟩
end Go.Proofs.Ytgnkcmmpbohafaa

/- A set of numbers, as a map; numbers that lie in a row. -/
namespace Go.Proofs.Ytgnkcmmpbohafaa
open Go.RowKit
set_option linter.unusedVariables false
set_option linter.unusedSimpArgs false
set_option maxRecDepth 100000
def kv (m : MapEntry) : Value × Value := (m.key, m.val)
def kS (x : Int) : Value × Value := (.int .i64 x, .agg #[])
/-- a map whose keys are these numbers -/
def Mp (W : World) (r : Nat) (S : List Int) : Prop := ∃ es c, W.heap[r]? = some (.map es c) ∧ es.toList.map kv = S.map kS
theorem Mp.keep {W W' : World} {r : Nat} {S : List Int} (h : Mp W r S) (hB : Below W.heap.size W W') : Mp W' r S := by
  obtain ⟨es, c, h1, h2⟩ := h; exact ⟨es, c, Proofs.Ytgnkcmmpbohafaa.keep hB h1, h2⟩
theorem Mp.keepT {W W' : World} {r k T : Nat} {C : Array Value} {S : List Int} (h : Mp W r S) (hK : Kept (· = k) W W') (hk : W.heap[k]? = some (.cells C T)) : Mp W' r S := by
  obtain ⟨es, c, h1, h2⟩ := h; refine ⟨es, c, keepK hK h1 (fun e => ?_), h2⟩; rw [e, hk] at h1
  cases h1
theorem fnd (x : Int) : ∀ (es : List MapEntry) (S : List Int) (i : Nat), es.map kv = S.map kS →
    (x ∈ S → ∃ j m, es[j]? = some m ∧ m.key = .int .i64 x ∧ Instr.findNow (.int .i64) (.int .i64 x) es i = some (some (i + j, .agg #[]))) ∧ (¬ x ∈ S → Instr.findNow (.int .i64) (.int .i64 x) es i = some none)
  | [], [], i, _ => ⟨fun h => absurd h (by simp), fun _ => rfl⟩
  | [], _ :: _, _, h => by simp at h
  | _ :: _, [], _, h => by simp at h
  | m :: es, y :: S, i, h => by
    simp only [List.map_cons, List.cons.injEq] at h
    have hk : m.key = .int .i64 y := congrArg Prod.fst h.1
    have hv : m.val = .agg #[] := congrArg Prod.snd h.1
    have ih := fnd x es S (i + 1) h.2
    have hs : Instr.sameNow (.int .i64) (.int .i64 x) m.key = some (x == y) := by rw [hk]; simp [Instr.sameNow]
    by_cases e : x = y
    · subst e
      refine ⟨fun _ => ⟨0, m, rfl, hk, ?_⟩, fun q => absurd (by simp) q⟩
      unfold Instr.findNow
      rw [hs]
      simp [hv]
    · have hf : Instr.findNow (.int .i64) (.int .i64 x) (m :: es) i = Instr.findNow (.int .i64) (.int .i64 x) es (i + 1) := by
        have hb : (x == y) = false := by simpa using e
        rw [Instr.findNow, hs, hb]
      rw [hf]; refine ⟨fun q => ?_, fun q => ih.2 (fun q2 => q (by simp [q2]))⟩
      have q2 : x ∈ S := by
        rcases List.mem_cons.1 q with q | q
        · exact absurd q e
        · exact q
      obtain ⟨j, m', h1, h2, h3⟩ := ih.1 q2; exact ⟨j + 1, m', by simpa using h1, h2, by rw [h3]; congr 3; omega⟩
theorem chk3 (d : Nat) (v : Value) (em : Bool) (W : World) : (Instr.checkKey em (d + 1) 3 v).run Try.prog W = .ok () W := by
  unfold Instr.checkKey
  simp only [Sem.run_bind, run_underlying Try.underlying3, Result.andThen_ok]
  cases v <;> rfl
theorem zeroV0 (W : World) : (zeroValue 119).run Try.prog W = .ok (.agg #[]) W := by kernel_rfl
theorem look_set {W : World} {r : Nat} {S : List Int} {x : Int} {c : Bool} (h : Mp W r S) (hc : decide (x ∈ S) = c) : (Instr.lookup 115 (.map (some r)) (.int .i64 x) true).run Try.prog W = .ok (.tuple #[.agg #[], .bool c]) W := by
  obtain ⟨es, cl, h1, h2⟩ := h; have hf := fnd x es.toList S 0 h2; have hk := fun em => chk3 9999 (.int .i64 x) em W
  by_cases hx : x ∈ S
  · obtain ⟨j, m, _, _, h3⟩ := hf.1 hx
    have : c = true := by rw [← hc]; simpa using hx
    subst this
    simp [Instr.lookup, run_underlying Try.underlying115, run_underlying Try.underlying3, MapKept.run_getObj_map h1, hk, Instr.findKey, h3]
  · have h3 := hf.2 hx
    have : c = false := by rw [← hc]; simpa using hx
    subst this
    simp [Instr.lookup, run_underlying Try.underlying115, run_underlying Try.underlying3, MapKept.run_getObj_map h1, hk, Instr.findKey, h3, zeroV0]
theorem map_put {W : World} {r : Nat} {es es' : Array MapEntry} {c c' : Nat} (h : W.heap[r]? = some (.map es c)) : ({ W with heap := W.heap.setIfInBounds r (.map es' c') } : World).heap[r]? = some (.map es' c') ∧ Kept (· = r) W { W with heap := W.heap.setIfInBounds r (.map es' c') } := by
  have hr : r < W.heap.size := (Array.getElem?_eq_some_iff.1 h).1
  refine ⟨by simp [hr], ⟨rfl, rfl, rfl, by simp, fun j hj hn => ?_⟩⟩
  show (W.heap.setIfInBounds r _)[j]? = _
  rw [Array.getElem?_setIfInBounds, if_neg (fun e => hn e.symm)]
theorem put_set {W : World} {r : Nat} {S : List Int} {x : Int} (h : Mp W r S) : ∃ W', (Instr.mapUpdate 115 (.map (some r)) (.int .i64 x) (.agg #[])).run Try.prog W = .ok () W' ∧ Mp W' r (if x ∈ S then S else S ++ [x]) ∧ Kept (· = r) W W' := by
  obtain ⟨es, cl, h1, h2⟩ := h; have hf := fnd x es.toList S 0 h2; have hk := fun em => chk3 9999 (.int .i64 x) em W
  by_cases hx : x ∈ S
  · obtain ⟨j, m, hj, hm, h3⟩ := hf.1 hx
    rw [if_pos hx]
    have hj' : es[j]? = some m := by simpa using hj
    refine ⟨_, ?_, ⟨es.modify j fun e => { e with key := .int .i64 x, val := .agg #[] }, cl, (map_put h1).1, ?_⟩, (map_put h1).2⟩
    · simp [Instr.mapUpdate, run_underlying Try.underlying115, run_underlying Try.underlying3, MapKept.run_getObj_map h1, hk, Instr.findKey, h3, hj', hm, Instr.keyThatStays, Instr.sameBits, MapKept.run_setObj_map _ h1]
    · rw [← h2]
      apply List.ext_getElem?
      intro i; rw [List.getElem?_map, List.getElem?_map, Array.toList_modify, List.getElem?_modify]
      by_cases e : j = i
      · subst e
        rw [hj]
        have hv : m.val = .agg #[] := by
          have := congrArg (fun l => l[j]?) h2
          simp only [List.getElem?_map, hj, Option.map_some] at this
          cases hS : S[j]? with
          | none => rw [hS] at this; cases this
          | some y =>
            rw [hS] at this; exact congrArg Prod.snd (Option.some.inj this)
        simp [kv, hm, hv]
      · simp [e]
  · have h3 := hf.2 hx
    rw [if_neg hx]; refine ⟨_, ?_, ⟨es.push { key := .int .i64 x, val := .agg #[], born := cl }, cl + 1, (map_put h1).1, ?_⟩, (map_put h1).2⟩
    · simp [Instr.mapUpdate, run_underlying Try.underlying115, run_underlying Try.underlying3, MapKept.run_getObj_map h1, hk, Instr.findKey, h3, MapKept.run_setObj_map _ h1]
    · simp [h2, kv, kS]
/-- these numbers lie there -/
def Is (W : World) (ao : Option Addr) (l : List Int) : Prop := l = [] ∨ ∃ b o, ao = some ⟨b, o, none⟩ ∧ W.rangeAt b o (l.map fun x => .int .i64 x)
theorem Is.keep {W W' : World} {ao : Option Addr} {l : List Int} (h : Is W ao l) (hB : Below W.heap.size W W') : Is W' ao l := by
  rcases h with h | ⟨b, o, e, h⟩
  · exact .inl h
  · by_cases hl : l = []
    · exact .inl hl
    · exact .inr ⟨b, o, e, range_cell h (cell_blk (hB.block b (range_lt h (by simpa using hl))))⟩
section
variable {o : Oper} {a : Act} {W W' : World}
theorem ex_mm (ho : o.op = .makeMap 115 none) : (execOp a.eval o).run Try.prog W = .ok (.value (.map (some W.heap.size))) (W.alloc (.map #[] 0)) := by
  unfold execOp
  have hr : (Instr.makeMap 115 none).run Try.prog W = .ok (.map (some W.heap.size)) (W.alloc (.map #[] 0)) := rfl
  simp [ho, hr]
theorem ex_mu {m k v : Operand} {u x z : Value} (ho : o.op = .mapUpdate 115 m k v) (hm : a.eval m = u) (hk : a.eval k = x) (hv : a.eval v = z) (hr : (Instr.mapUpdate 115 u x z).run Try.prog W = .ok () W') : (execOp a.eval o).run Try.prog W = .ok .skip W' := by
  unfold execOp
  simp [ho, hm, hk, hv, hr]
theorem ex_lk {m k : Operand} {u x z : Value} (ho : o.op = .lookup 115 m k true) (hm : a.eval m = u) (hk : a.eval k = x) (hr : (Instr.lookup 115 u x true).run Try.prog W = .ok z W) : (execOp a.eval o).run Try.prog W = .ok (.value z) W := by
  unfold execOp
  simp [ho, hm, hk, hr]
end
theorem b119 (W : World) : (Instr.build 119 #[]).run Try.prog W = .ok (.agg #[]) W := run_build W 119 _ _ (by kernel_rfl)
end Go.Proofs.Ytgnkcmmpbohafaa

/- What is avoided, as a set. -/
namespace Go.Proofs.Ytgnkcmmpbohafaa
open Go.RowKit
set_option linter.unusedVariables false
set_option linter.unusedSimpArgs false
set_option maxRecDepth 100000

theorem mem_take {l : List Int} {i : Nat} {y : Int} (h : l[i]? = some y) (x : Int) : x ∈ l.take (i + 1) ↔ x ∈ l.take i ∨ x = y := by
  rw [List.take_add_one, h]
  simp
set_option maxHeartbeats 8000000 in
theorem channels_any {ao : Option Addr} {n c : Nat} {av : List Int} (w : World) (hA : Is w ao av) (hn : n = av.length) (hn2 : n ≤ 140737488355328) : Calls Try.prog 75 #[.slice ao n c] w fun e w' => ∃ r S, e = .returned (.map (some r)) ∧ Mp w' r S ∧ (∀ x, x ∈ S ↔ x ∈ av ∧ chanB x = true) ∧ Below w.heap.size w w' := by
  have E : Below w.heap.size w w := Below.refl _ _
  go_enter Try.func75, Try.ntmps75; refine wq fun Q hQ => ?_; refine sg (.map none) 2 rfl rfl rfl rfl ?_; simp only [zp]; refine st_end ?_; subst hQ; refine wq fun Q hQ => ?_; obtain ⟨r, W1, hr, hW2, hM, hge, B⟩ : ∃ r W', w.heap.size = r ∧ w.alloc (.map #[] 0) = W' ∧ Mp W' r [] ∧ w.heap.size ≤ r ∧ Below w.heap.size w W' := ⟨_, _, rfl, rfl, ⟨#[], 0, heap_alloc_last _ _, rfl⟩, E.size, (Below.refl _ _).alloc (Nat.le_refl _) _⟩; refine st_to (v := (.map (some r))) (W' := W1) (some 6) rfl rfl (by rw [← hr, ← hW2]; exact ex_mm rfl) ?_; simp only [zp]; replace E := below_next E B
  refine sg (.map (some r)) 3 rfl rfl rfl rfl ?_; simp only [zp]; refine st_end ?_; subst hQ; refine wp_seq ?_; refine wq fun Q hQ => ?_; refine sm (.slice ao n c) 7 rfl rfl rfl rfl ?_; simp only [zp]; refine sv (.int .i64 (n : Nat)) 8 rfl rfl (ex_len rfl rfl (len30 _ _ _ _ _)) ?_; simp only [zp]; refine sm (.int .i64 0) 9 rfl rfl rfl rfl ?_; simp only [zp]; refine st_end ?_; subst hQ; refine wp_block ?_
  go_loopw [9] (fun v9 wr => ∃ (i : Nat) (S : List Int), i ≤ n ∧ v9 = .int .i64 i ∧ Below w.heap.size w wr ∧ Mp wr r S ∧ ∀ x, x ∈ S ↔ x ∈ av.take i ∧ chanB x = true) (fun v9 _ => n - (intOf v9).toNat)
  case atStart => exact ⟨0, [], Nat.zero_le _, rfl, E, hM, fun x => by simp⟩
  case round =>
    clear E hM; obtain ⟨i, S, hi, rfl, E, hM, hS⟩ := hrel
    by_cases hlt : i < n
    · obtain ⟨y, hy⟩ : ∃ y, av[i]? = some y := ⟨av[i]'(by omega), List.getElem?_eq_getElem (by omega)⟩
      have hT := mem_take hy
      rcases hA with q | ⟨b, off, rfl, hr⟩
      · rw [q] at hy; simp at hy
      have hcell : w.cell? ⟨b, off + i, none⟩ = some (.int .i64 y) := hr i _ (by simp [hy])
      by_cases hc : chanB y = true
      · skip
        refine wq fun Q hQ => ?_; refine sv (.bool true) 10 rfl rfl (ex_bin (u := (.int .i64 (i : Nat))) (r := (.int .i64 (n : Nat))) rfl rfl rfl (eg3 _ _ _ _ _ _) (lss3 _ (decide_eq_true (by omega)))) ?_; simp only [zp]; refine st_end ?_; subst hQ; refine wp_seq ?_; refine wp_cond_true rfl ?_; refine wp_skip ?_; refine wp_seq ?_; refine wp_block ?_; refine wq fun Q hQ => ?_; refine sv (.pointer (some ⟨b, (off + i), none⟩)) 11 rfl rfl (ix30 (k := i) rfl rfl rfl (rfl) (hlt)) ?_; simp only [zp]
        refine sv (.int .i64 y) 12 rfl rfl (ex_load rfl rfl (ld3 ((E.cell (block_lt_of_cell hcell)).trans hcell))) ?_; simp only [zp]; refine sg (.int .i64 y) 5 rfl rfl rfl rfl ?_; simp only [zp]; refine st_end ?_; subst hQ; refine wq fun Q hQ => ?_; refine sm (.int .i64 y) 13 rfl rfl rfl rfl ?_; simp only [zp]; refine st_call (some 14) rfl rfl (chan_any y wr hc) (ex_call (f := 85) (vs := [(.int .i64 y)]) rfl (cf85 _) rfl) ?_; rintro e W2 ⟨rfl, B⟩; refine ⟨_, rfl, ?_⟩; simp only [zp]; replace E := below_next E B; replace hM := hM.keep B; refine st_end ?_; subst hQ
        refine wp_cond_true rfl ?_; refine wl_in (wl_cap fun Q hQ => ?_); refine sm (.map (some r)) 15 rfl rfl rfl rfl ?_; simp only [zp]; refine sm (.int .i64 y) 16 rfl rfl rfl rfl ?_; simp only [zp]; refine sv (.agg #[]) 17 rfl rfl (ex_build0  rfl (b119 _)) ?_; simp only [zp]; obtain ⟨W3, hp, hM2, hK2⟩ := put_set (x := y) hM; refine st_sk rfl rfl (ex_mu rfl rfl rfl rfl hp) ?_; replace E : Below w.heap.size w W3 := below_put E hge hK2; refine st_end ?_; subst hQ; refine wl_in (wl_cap fun Q hQ => ?_)
        refine sv (.int .i64 ((i + 1 : Nat) : Int)) 18 rfl rfl (ex_bin rfl rfl rfl (eg3 _ _ _ _ _ _) (add3 _ (by omega) (by omega))) ?_; simp only [zp]; refine sm (.int .i64 ((i + 1 : Nat) : Int)) 9 rfl rfl rfl rfl ?_; simp only [zp]; refine st_end ?_; subst hQ; refine then_go ?_
        go_roundw
        case rel =>
          refine ⟨i + 1, _, by omega, rfl, E, hM2, fun x => ?_⟩; rw [hT]
          by_cases hyS : y ∈ S
          · rw [if_pos hyS, hS]
            constructor
            · exact fun h => ⟨.inl h.1, h.2⟩
            · rintro ⟨h | h, h2⟩
              · exact ⟨h, h2⟩
              · subst h; exact (hS _).1 hyS
          · rw [if_neg hyS, List.mem_append, hS]
            constructor
            · rintro (h | h)
              · exact ⟨.inl h.1, h.2⟩
              · have : x = y := by simpa using h
                subst this; exact ⟨.inr rfl, hc⟩
            · rintro ⟨h | h, h2⟩
              · exact .inl ⟨h, h2⟩
              · exact .inr (by simpa using h)
        case measure => simp [intOf]; omega
      · skip
        replace hc := Bool.eq_false_iff.2 hc; refine wq fun Q hQ => ?_; refine sv (.bool true) 10 rfl rfl (ex_bin (u := (.int .i64 (i : Nat))) (r := (.int .i64 (n : Nat))) rfl rfl rfl (eg3 _ _ _ _ _ _) (lss3 _ (decide_eq_true (by omega)))) ?_; simp only [zp]; refine st_end ?_; subst hQ; refine wp_seq ?_; refine wp_cond_true rfl ?_; refine wp_skip ?_; refine wp_seq ?_; refine wp_block ?_; refine wq fun Q hQ => ?_; refine sv (.pointer (some ⟨b, (off + i), none⟩)) 11 rfl rfl (ix30 (k := i) rfl rfl rfl (rfl) (hlt)) ?_; simp only [zp]
        refine sv (.int .i64 y) 12 rfl rfl (ex_load rfl rfl (ld3 ((E.cell (block_lt_of_cell hcell)).trans hcell))) ?_; simp only [zp]; refine sg (.int .i64 y) 5 rfl rfl rfl rfl ?_; simp only [zp]; refine st_end ?_; subst hQ; refine wq fun Q hQ => ?_; refine sm (.int .i64 y) 13 rfl rfl rfl rfl ?_; simp only [zp]; refine st_call (some 14) rfl rfl (chan_any y wr hc) (ex_call (f := 85) (vs := [(.int .i64 y)]) rfl (cf85 _) rfl) ?_; rintro e W4 ⟨rfl, B⟩; refine ⟨_, rfl, ?_⟩; simp only [zp]; replace E := below_next E B; replace hM := hM.keep B; refine st_end ?_; subst hQ
        refine wp_cond_false rfl ?_; refine wp_skip ?_; refine wl_in (wl_cap fun Q hQ => ?_); refine sv (.int .i64 ((i + 1 : Nat) : Int)) 18 rfl rfl (ex_bin rfl rfl rfl (eg3 _ _ _ _ _ _) (add3 _ (by omega) (by omega))) ?_; simp only [zp]; refine sm (.int .i64 ((i + 1 : Nat) : Int)) 9 rfl rfl rfl rfl ?_; simp only [zp]; refine st_end ?_; subst hQ; refine then_go ?_
        go_roundw
        case rel =>
          refine ⟨i + 1, _, by omega, rfl, E, hM, fun x => ?_⟩; rw [hT, hS]
          constructor
          · exact fun h => ⟨.inl h.1, h.2⟩
          · rintro ⟨h | h, h2⟩
            · exact ⟨h, h2⟩
            · subst h; rw [hc] at h2; cases h2
        case measure => simp [intOf]; omega
    · have hin : i = n := by omega
      subst i; rw [List.take_of_length_le (by omega)] at hS; refine wq fun Q hQ => ?_; refine sv (.bool false) 10 rfl rfl (ex_bin (u := (.int .i64 (n : Nat))) (r := (.int .i64 (n : Nat))) rfl rfl rfl (eg3 _ _ _ _ _ _) (lss3 _ (decide_eq_false (by omega)))) ?_; simp only [zp]; refine st_end ?_; subst hQ; refine wp_seq ?_; refine wp_cond_false rfl ?_; refine wp_exit ?_; refine ex_then ?_; refine ex_then ?_; refine ex_blk ?_; refine wq fun Q hQ => ?_; refine sm (.map (some r)) 19 rfl rfl rfl rfl ?_; simp only [zp]; refine sg (.map (some r)) 2 rfl rfl rfl rfl ?_; simp only [zp]
      refine st_end ?_; subst hQ; refine wp_ret ?_; refine bodyPost_ret (results_tmp Try.results75 _ _ _) rfl ⟨r, S, rfl, hM, hS, E⟩
end Go.Proofs.Ytgnkcmmpbohafaa

/- What a way costs. -/
namespace Go.Proofs.Ytgnkcmmpbohafaa
open Go.RowKit
set_option linter.unusedVariables false
set_option linter.unusedSimpArgs false
set_option maxRecDepth 100000

theorem cell_kept {F : Nat → Prop} {W W' : World} {b o : Nat} {v : Value} (hK : Kept F W W') (h : W.cell? ⟨b, o, none⟩ = some v) (hn : ¬ F b) : W'.cell? ⟨b, o, none⟩ = some v := by
  have hl := block_lt_of_cell h
  unfold World.cell? at h ⊢
  rw [hK.block b hl hn]; exact h
def prv (b : Option Int) (am : List Int) : Nat → Option Int
  | 0 => b
  | k + 1 => am[k]?
theorem cst_at (t : Int) : ∀ (es : List EV) (am : List Int) (b : Option Int) (i : Nat) (e : EV) (a : Int), es[i]? = some e → am[i]? = some a → (cstN t b es am)[i]? = some (costN (match prv b am i with | none => 0 | some c => c - a) (match prv b am i with | none => 0 | some _ => e.q.d) (chN e.p a e.cap t))
  | [], _, _, _, _, _, h, _ => by simp at h
  | _ :: _, [], _, _, _, _, _, h => by simp at h
  | e0 :: es, a0 :: am, b, 0, e, a, h1, h2 => by
    have : e0 = e := by simpa using h1
    subst this
    have : a0 = a := by simpa using h2
    subst this
    rfl
  | e0 :: es, a0 :: am, b, i + 1, e, a, h1, h2 => by
    have ih := cst_at t es am (some a0) i e a (by simpa using h1) (by simpa using h2)
    show (cstN t (some a0) es am)[i]? = _
    rw [ih]
    cases i with
    | zero => rfl
    | succ k => simp [prv]
theorem cst_len (t : Int) : ∀ (es : List EV) (am : List Int) (b : Option Int), es.length = am.length → (cstN t b es am).length = es.length
  | [], [], _, _ => rfl
  | [], _ :: _, _, h => by simp at h
  | _ :: _, [], _, h => by simp at h
  | e :: es, a :: am, b, h => by
    show (cstN t (some a) es am).length + 1 = es.length + 1
    rw [cst_len t es am (some a) (by simpa using h)]
def Fl (l : List Nat) : List Value := l.map fun x => .float .f64 x
theorem bslF (x : Nat) (W : World) : (Instr.buildSlice 50 1 #[(0, .float .f64 x)]).run Try.prog W = .ok (.slice (some ⟨W.heap.size, 0, none⟩) 1 1) (W.alloc (.cells #[.float .f64 x] 34)) := bslice W 50 34 1 _ _ (.float .f64 0) 1 Try.underlying50 (by kernel_rfl) (by decide) (by decide) (by kernel_rfl)
section
variable {o : Oper} {a : Act} {W : World}
theorem ex_mkF {x y : Operand} (ho : o.op = .makeSlice 50 x y) (hx : a.eval x = .int .i64 0) (hy : a.eval y = .int .i64 8) : (execOp a.eval o).run Try.prog W = .ok (.value (.slice (some ⟨W.heap.size, 0, none⟩) 0 8)) (W.alloc (.cells #[.float .f64 0, .float .f64 0, .float .f64 0, .float .f64 0, .float .f64 0, .float .f64 0, .float .f64 0, .float .f64 0] 34)) := by
  obtain ⟨i0, hi, hz0, hz1, hz2⟩ := info_parts Try.inf34b; have h := run_make (P := Try.prog) W 50 34 i0 (.float .f64 0) Try.underlying50 hi hz0 .i64 .i64 0 8 (by omega) (by omega) (by rw [hz2]; omega) (by omega); rw [hz1] at h
  have e : madeCells (Value.float .f64 0).cells ((8 : Int).toNat * 1) = #[.float .f64 0, .float .f64 0, .float .f64 0, .float .f64 0, .float .f64 0, .float .f64 0, .float .f64 0, .float .f64 0] := by kernel_rfl
  rw [e] at h
  unfold execOp
  simp only [ho, hx, hy]
  simp [h]
end
theorem jk_list (l : List Nat) : jk (fun j => l.getD j 0) l.length 0 0 = jn l 0 := by
  rw [jk_jn, ← List.range_eq_range']
  congr 1
  apply List.ext_getElem?
  intro i
  by_cases h : i < l.length
  · simp [h, List.getD_eq_getElem?_getD]
  · simp [h]
/-- what an edge has is within an int -/
structure EB (e : EV) : Prop where
  ok : mayE e = true
  b : e.q.b ≤ 9223372036854775807
  cap : e.cap ≤ 9223372036854775807
  g1 : -9223372036854775808 ≤ e.p.gat
  g2 : e.p.gat ≤ 9223372036854775807
  h1 : -9223372036854775808 ≤ e.p.bat
  h2 : e.p.bat ≤ 9223372036854775807
theorem EB.delta {e : EV} (h : EB e) : 1 ≤ e.q.d ∧ e.q.d ≤ 1000 := by
  have := h.ok
  unfold mayE mayR at this
  simp only [Bool.and_eq_true, decide_eq_true_eq] at this
  omega
set_option maxHeartbeats 16000000 in
theorem cost_any {aE aA aX : Option Addr} {n cE cA cX N co : Nat} {fe t : Int} {es : List EV} {am : List Int} (w : World) (hE : Es w N aE es) (hN : N ≤ w.heap.size) (hA : Is w aA am) (ne : n = es.length) (na : n = am.length) (hn : n ≤ 8) (hb : ∀ e ∈ es, EB e) (ha : ∀ a ∈ am, 0 ≤ a ∧ a ≤ 9223372036854775807) (t1 : -9223372036854775808 ≤ t) (t2 : t ≤ 9223372036854775807) : Calls Try.prog 77 #[.agg #[.slice aE n cE, .slice aA n cA, .slice aX n cX, .int .i64 fe, .float .f64 co], .int .i64 t] w fun e w' => e = .returned (.float .f64 (jn (cstN t none es am) 0)) ∧ Below w.heap.size w w' := by
  obtain ⟨CS, hCS⟩ : ∃ CS, cstN t none es am = CS := ⟨_, rfl⟩; have hCL := cst_len t es am none (by omega); have hCA := cst_at t es am none; rw [hCS] at hCL hCA ⊢
  have E : Below w.heap.size w w := Below.refl _ _
  go_enter Try.func77, Try.ntmps77; refine wq fun Q hQ => ?_; refine st_new (fun b => .pointer (some ⟨b, 0, none⟩)) (some 2) rfl rfl (ex_box rfl rfl) ?_; intro b1 W1 k1 g1 B; simp only [zp]; have ge_b1 := Nat.le_trans E.size g1; replace E := below_next E B; clear B; refine sg (.float .f64 0) 4 rfl rfl rfl rfl ?_; simp only [zp]; refine st_end ?_; subst hQ; refine wq fun Q hQ => ?_; refine st_new (fun b => .slice (some ⟨b, 0, none⟩) 0 8) (some 11) rfl rfl (ex_mkF rfl rfl rfl) ?_; intro b2 W2 k2 g2 B; simp only [zp]
  have ne_b2_b1 : b2 ≠ b1 := fun e => by have := lt_of k1; omega
  have ge_b2 := Nat.le_trans E.size g2; replace E := below_next E B; replace k1 := keep B k1; clear B; refine sg (.slice (some ⟨b2, 0, none⟩) 0 8) 5 rfl rfl rfl rfl ?_; simp only [zp]; refine st_end ?_; subst hQ; refine wp_seq ?_; refine wq fun Q hQ => ?_; refine sv (.pointer (some ⟨b1, 0, none⟩)) 12 rfl rfl (ex_fa (p := (.pointer (some ⟨b1, 0, none⟩))) rfl rfl (fa36_0 _ _)) ?_; simp only [zp]; refine sv (.slice aE n cE) 13 rfl rfl (ex_load (p := (.pointer (some ⟨b1, 0, none⟩))) rfl rfl (ld33 (at_cell k1 rfl))) ?_; simp only [zp]
  refine sv (.int .i64 (n : Nat)) 14 rfl rfl (ex_len rfl rfl (len33 _ _ _ _ _)) ?_; simp only [zp]; refine sm (.int .i64 0) 15 rfl rfl rfl rfl ?_; simp only [zp]; refine st_end ?_; subst hQ; refine wp_block ?_
  go_loopw [5, 15] (fun v5 v15 wr => ∃ i : Nat, i ≤ n ∧ v15 = .int .i64 i ∧ Below w.heap.size w wr ∧ wr.heap[b1]? = some (.cells #[.slice aE n cE, .slice aA n cA, .slice aX n cX, .int .i64 fe, .float .f64 co] 36) ∧ wr.ownsRow w.heap.size 34 1 v5 i (Fl (CS.take i))) (fun _ v15 _ => n - (intOf v15).toNat)
  case atStart => exact ⟨0, Nat.zero_le _, rfl, E, k1, ⟨by simp [Fl], .inr ⟨b2, 8, _, rfl, ge_b2, k2, by decide, by decide, rfl, rfl⟩⟩⟩
  case round =>
    clear E k1 k2; obtain ⟨i, hi, rfl, E, k2, hw⟩ := hrel; have hq0 := fun q => own_lt (k := q) hw
    by_cases hlt : i < n
    · obtain ⟨e, he⟩ : ∃ e, es[i]? = some e := ⟨es[i]'(by omega), List.getElem?_eq_getElem (by omega)⟩
      obtain ⟨a, hai⟩ : ∃ a, am[i]? = some a := ⟨am[i]'(by omega), List.getElem?_eq_getElem (by omega)⟩; have heb := hb e (List.mem_of_getElem? he); have hab := ha a (List.mem_of_getElem? hai); have hdl := heb.delta; have hcs := hCA i e a he hai
      rcases hE with q | ⟨bE, oE, rfl, hbN, ⟨cur0, hcur0⟩, hr⟩
      · rw [q] at he; simp at he
      rcases hA with q | ⟨bA, oA, rfl, hra⟩
      · rw [q] at hai; simp at hai
      have hrb := range_below (range_at hr he) E
      have hca : w.cell? ⟨bA, oA + i, none⟩ = some (.int .i64 a) := hra i _ (by simp [hai])
      by_cases hz : i = 0
      · skip
        have hcs : CS[i]? = some (costN 0 0 (chN e.p a e.cap t)) := by subst hz; exact hcs
        refine wq fun Q hQ => ?_; refine sv (.bool true) 16 rfl rfl (ex_bin (u := (.int .i64 (i : Nat))) (r := (.int .i64 (n : Nat))) rfl rfl rfl (eg3 _ _ _ _ _ _) (lss3 _ (decide_eq_true (by omega)))) ?_; simp only [zp]; refine st_end ?_; subst hQ; refine wp_seq ?_; refine wp_cond_true rfl ?_; refine wp_skip ?_; refine wp_seq ?_; refine wp_block ?_; refine wq fun Q hQ => ?_; refine sm (.int .i64 (i : Nat)) 17 rfl rfl rfl rfl ?_; simp only [zp]; refine sv (.pointer (some ⟨bE, (oE + i * 13), none⟩)) 18 rfl rfl (ix33 (k := i) rfl rfl rfl (rfl) (hlt)) ?_; simp only [zp]
        refine sv (.agg (EL e)) 19 rfl rfl (ex_load rfl rfl (ld_range hrb Try.underlying49 rfl inf49)) ?_; simp only [zp]; refine st_new (fun b => .pointer (some ⟨b, 0, none⟩)) (some 7) rfl rfl (ex_alloc rfl zero49) ?_; intro b3 W3 k3 g3 B; simp only [zp]
        have ne_b3_b1 : b3 ≠ b1 := fun e => by have := lt_of k2; omega
        have ge_b3 := Nat.le_trans E.size g3; replace E := below_next E B; replace k2 := keep B k2; replace hw := own_keep hw B; clear B; refine sg (.int .i64 (i : Nat)) 6 rfl rfl rfl rfl ?_; simp only [zp]; obtain ⟨W4, hst, kn, K⟩ := put_all (D := (EL e)) k3 rfl inf49 (by kernel_rfl); refine st_sk rfl rfl (ex_store rfl rfl rfl hst) ?_; replace E := below_put E ge_b3 K; replace k2 := keepK K k2 (fun e => ne_tag k2 k3 (by decide) e); replace hw := own_keepK hw K (fun q hq e => by have := hq0 q hq; omega); replace k3 := kn; clear kn K hst; refine st_end ?_; subst hQ
        refine wq fun Q hQ => ?_; refine sg (.int .i64 0) 8 rfl rfl rfl rfl ?_; simp only [zp]; refine sg (.int .i64 0) 9 rfl rfl rfl rfl ?_; simp only [zp]; refine st_end ?_; subst hQ; refine wp_seq ?_; refine wq fun Q hQ => ?_; refine sm (.int .i64 (i : Nat)) 20 rfl rfl rfl rfl ?_; simp only [zp]; refine sv (.bool false) 21 rfl rfl (ex_bin (u := (.int .i64 (i : Nat))) (r := (.int .i64 0)) rfl rfl rfl (eg3 _ _ _ _ _ _) (gtr3 _ (decide_eq_false (by omega)))) ?_; simp only [zp]; refine st_end ?_; subst hQ; refine wp_cond_false rfl ?_; refine wp_skip ?_; refine wp_seq ?_
        obtain ⟨W5, hwd⟩ : ∃ wd, W4.drew = wd := ⟨_, rfl⟩; refine wp_region_held (S := fun W => Kept Nil W5 W) (by kernel_rfl) ?_
        show wpAnyH _ _ _ _ _ _ _ _ W4.drew
        rw [hwd]; refine capQ fun Q hQ => ?_
        have hQP : ∀ c (a : Act) (d : Nat) v w, Q (.panic c) (a.put (some d) v) w → Q (.panic c) a w := by
          subst hQ; exact fun _ _ _ _ _ h => h
        have BD : Below W4.heap.size W4 W5 := by rw [← hwd]; exact below_drewB (Below.refl _ _)
        clear hwd; replace E := below_next E BD; replace k2 := keep BD k2; replace hw := own_keep hw BD; replace k3 := keep BD k3; clear BD
        have S : Kept Nil W5 W5 := Kept.refl _ _
        have d_k2 := k2; have d_k3 := k3; have d_hw := hw
        have hcA : W5.cell? ⟨bA, oA + i, none⟩ = some (.int .i64 a) := (E.cell (block_lt_of_cell hca)).trans hca
        refine tk (.pointer (some ⟨b3, 9, none⟩)) 0 37 rfl rfl rfl (fun W hK => ex_fa (p := (.pointer (some ⟨b3, 0, none⟩))) rfl rfl (fa49_5 _ _)) S hQP ?_; simp only [zp]; refine tk (.agg (PL e.p)) 1 38 rfl rfl rfl (fun W hK => ex_load (p := (.pointer (some ⟨b3, 9, none⟩))) rfl rfl (ldEP (keepK hK d_k3 (nilN _)))) S hQP ?_; simp only [zp]; refine tk (.pointer (some ⟨b1, 1, none⟩)) 2 39 rfl rfl rfl (fun W hK => ex_fa (p := (.pointer (some ⟨b1, 0, none⟩))) rfl rfl (fa36_1 _ _)) S hQP ?_; simp only [zp]
        refine tk (.slice (some ⟨bA, oA, none⟩) n cA) 3 40 rfl rfl rfl (fun W hK => ex_load (p := (.pointer (some ⟨b1, 1, none⟩))) rfl rfl (ld30 (at_cell (keepK hK d_k2 (nilN _)) rfl))) S hQP ?_; simp only [zp]; refine tk (.int .i64 (i : Nat)) 4 41 rfl rfl rfl (fun W hK => ex_mv rfl rfl) S hQP ?_; simp only [zp]; refine tk (.pointer (some ⟨bA, (oA + i), none⟩)) 5 42 rfl rfl rfl (fun W hK => ix30 (k := i) rfl rfl rfl (rfl) (hlt)) S hQP ?_; simp only [zp]; refine tk (.int .i64 a) 6 43 rfl rfl rfl (fun W hK => ex_load rfl rfl (ld3 (cell_kept hK hcA (nilN _)))) S hQP ?_; simp only [zp]
        refine tk (.pointer (some ⟨b3, 3, none⟩)) 7 44 rfl rfl rfl (fun W hK => ex_fa (p := (.pointer (some ⟨b3, 0, none⟩))) rfl rfl (fa49_3 _ _)) S hQP ?_; simp only [zp]; refine tk (.int .i64 e.cap) 8 45 rfl rfl rfl (fun W hK => ex_load (p := (.pointer (some ⟨b3, 3, none⟩))) rfl rfl (ld3 (at_cell (keepK hK d_k3 (nilN _)) rfl))) S hQP ?_; simp only [zp]; refine tk (.int .i64 t) 9 46 rfl rfl rfl (fun W hK => ex_mv rfl rfl) S hQP ?_; simp only [zp]; refine ah_or1 (i := 10) (by kernel_rfl) ?_
        refine nx_call (some 47) rfl rfl rfl (schance_any (p := e.p) (a := a) (c := e.cap) (t := t) W5 heb.cap t1 t2 heb.g1 heb.g2 heb.h1 heb.h2) (ex_call (f := 17) (vs := [(.agg (PL e.p)), (.int .i64 a), (.int .i64 e.cap), (.int .i64 t)]) rfl (cf17 _) rfl) ?_; rintro e W6 ⟨rfl, B⟩; refine ⟨_, rfl, S.next B, ?_⟩; simp only [zp]; replace E := below_next E B; replace k2 := keep B k2; replace hw := own_keep hw B; replace k3 := keep B k3; replace S := S.next B; refine tk (.float .f64 (chN e.p a e.cap t)) 11 10 rfl rfl rfl (fun W hK => ex_asg rfl rfl) S hQP ?_; simp only [zp]
        refine ah_done (by kernel_rfl) ?_; clear hQP; subst hQ; clear S d_k2 d_k3 d_hw; refine wl_in (wl_cap fun Q hQ => ?_); refine sm u5 48 rfl rfl rfl rfl ?_; simp only [zp]; refine sm (.int .i64 0) 49 rfl rfl rfl rfl ?_; simp only [zp]; refine sm (.int .i64 0) 50 rfl rfl rfl rfl ?_; simp only [zp]; refine sm (.float .f64 (chN e.p a e.cap t)) 51 rfl rfl rfl rfl ?_; simp only [zp]
        refine st_call (some 52) rfl rfl (scost_any 0 0 (chN e.p a e.cap t) W6 (by have := chN_le e.p a e.cap t heb.cap; have := F1_lt; omega) (by omega) (by omega)) (ex_call (f := 16) (vs := [(.int .i64 0), (.int .i64 0), (.float .f64 (chN e.p a e.cap t))]) rfl (cf16 _) rfl) ?_; rintro e W7 ⟨rfl, B⟩; refine ⟨_, rfl, ?_⟩; simp only [zp]; replace E := below_next E B; replace k2 := keep B k2; replace hw := own_keep hw B; replace k3 := keep B k3
        refine st_new (fun b => .slice (some ⟨b, 0, none⟩) 1 1) (some 53) rfl rfl (ex_bsl1 (u := (.float .f64 (costN 0 0 (chN e.p a e.cap t)))) rfl rfl (bslF (costN 0 0 (chN e.p a e.cap t)) _)) ?_; intro b4 W8 k4 g4 B; simp only [zp]
        have ne_b4_b1 : b4 ≠ b1 := fun e => by have := lt_of k2; omega
        have ne_b4_b3 : b4 ≠ b3 := fun e => by have := lt_of k3; omega
        have ge_b4 := Nat.le_trans E.size g4; replace E := below_next E B; replace k2 := keep B k2; replace hw := own_keep hw B; replace k3 := keep B k3; clear B; obtain ⟨g', cap', W9, hr2, hown2, hK2, hloc2⟩ := own_add (c := 1) (m := 1) (t := 50) hw (show W8.rangeAt b4 0 (#[(.float .f64 (costN 0 0 (chN e.p a e.cap t)))] : Array Value).toList from at_range (o := 0) (n := 1) k4 (by show 0 + 1 ≤ 1; decide)) rfl (by intro u hu; have := List.mem_singleton.1 hu; subst this; rfl) Try.underlying50 Try.inf34b rfl (by decide) (by decide) (by omega) (by simp only [maxLen]; omega) E.size
        replace k2 := keepK hK2 k2 (fun e => absurd e (own_ne hw k2 (by decide))); replace E : Below w.heap.size w W9 := E.trans (hK2.below E.size (fun k e => own_ge hw e)); refine sv (.slice (some ⟨g', 0, none⟩) (i + 1) cap') 54 rfl rfl (ex_app rfl rfl rfl hr2) ?_; simp only [zp]; refine sg (.slice (some ⟨g', 0, none⟩) (i + 1) cap') 5 rfl rfl rfl rfl ?_; simp only [zp]; refine st_end ?_; subst hQ; refine wl_in (wl_cap fun Q hQ => ?_); refine sv (.int .i64 ((i + 1 : Nat) : Int)) 55 rfl rfl (ex_bin rfl rfl rfl (eg3 _ _ _ _ _ _) (add3 _ (by omega) (by omega))) ?_; simp only [zp]
        refine sm (.int .i64 ((i + 1 : Nat) : Int)) 15 rfl rfl rfl rfl ?_; simp only [zp]; refine st_end ?_; subst hQ; refine then_go ?_
        go_roundw
        case rel =>
          refine ⟨i + 1, by omega, rfl, E, k2, ?_⟩
          have e1 : CS.take (i + 1) = CS.take i ++ [costN 0 0 (chN e.p a e.cap t)] := by
            rw [List.take_add_one, hcs]
            rfl
          rw [e1]
          unfold Fl at hown2 ⊢
          rw [List.map_append]; exact hown2
        case measure => simp [intOf]; omega
      · skip
        obtain ⟨k, hk⟩ : ∃ k, i = k + 1 := ⟨i - 1, by omega⟩; obtain ⟨a1, ha1⟩ : ∃ a1, am[k]? = some a1 := ⟨am[k]'(by omega), List.getElem?_eq_getElem (by omega)⟩; have hab1 := ha a1 (List.mem_of_getElem? ha1)
        have hcs : CS[i]? = some (costN (a1 - a) e.q.d (chN e.p a e.cap t)) := by rw [hk] at hcs ⊢; simp only [prv, ha1] at hcs; exact hcs
        have hca1 : w.cell? ⟨bA, oA + k, none⟩ = some (.int .i64 a1) := hra k _ (by simp [ha1])
        refine wq fun Q hQ => ?_; refine sv (.bool true) 16 rfl rfl (ex_bin (u := (.int .i64 (i : Nat))) (r := (.int .i64 (n : Nat))) rfl rfl rfl (eg3 _ _ _ _ _ _) (lss3 _ (decide_eq_true (by omega)))) ?_; simp only [zp]; refine st_end ?_; subst hQ; refine wp_seq ?_; refine wp_cond_true rfl ?_; refine wp_skip ?_; refine wp_seq ?_; refine wp_block ?_; refine wq fun Q hQ => ?_; refine sm (.int .i64 (i : Nat)) 17 rfl rfl rfl rfl ?_; simp only [zp]; refine sv (.pointer (some ⟨bE, (oE + i * 13), none⟩)) 18 rfl rfl (ix33 (k := i) rfl rfl rfl (rfl) (hlt)) ?_; simp only [zp]
        refine sv (.agg (EL e)) 19 rfl rfl (ex_load rfl rfl (ld_range hrb Try.underlying49 rfl inf49)) ?_; simp only [zp]; refine st_new (fun b => .pointer (some ⟨b, 0, none⟩)) (some 7) rfl rfl (ex_alloc rfl zero49) ?_; intro b5 W10 k5 g5 B; simp only [zp]
        have ne_b5_b1 : b5 ≠ b1 := fun e => by have := lt_of k2; omega
        have ge_b5 := Nat.le_trans E.size g5; replace E := below_next E B; replace k2 := keep B k2; replace hw := own_keep hw B; clear B; refine sg (.int .i64 (i : Nat)) 6 rfl rfl rfl rfl ?_; simp only [zp]; obtain ⟨W11, hst, kn, K⟩ := put_all (D := (EL e)) k5 rfl inf49 (by kernel_rfl); refine st_sk rfl rfl (ex_store rfl rfl rfl hst) ?_; replace E := below_put E ge_b5 K; replace k2 := keepK K k2 (fun e => ne_tag k2 k5 (by decide) e); replace hw := own_keepK hw K (fun q hq e => by have := hq0 q hq; omega); replace k5 := kn; clear kn K hst; refine st_end ?_; subst hQ
        refine wq fun Q hQ => ?_; refine sg (.int .i64 0) 8 rfl rfl rfl rfl ?_; simp only [zp]; refine sg (.int .i64 0) 9 rfl rfl rfl rfl ?_; simp only [zp]; refine st_end ?_; subst hQ; refine wp_seq ?_; refine wq fun Q hQ => ?_; refine sm (.int .i64 (i : Nat)) 20 rfl rfl rfl rfl ?_; simp only [zp]; refine sv (.bool true) 21 rfl rfl (ex_bin (u := (.int .i64 (i : Nat))) (r := (.int .i64 0)) rfl rfl rfl (eg3 _ _ _ _ _ _) (gtr3 _ (decide_eq_true (by omega)))) ?_; simp only [zp]; refine st_end ?_; subst hQ; refine wp_cond_true rfl ?_; obtain ⟨W12, hwd⟩ : ∃ wd, W11.drew = wd := ⟨_, rfl⟩
        refine wp_region_held (S := fun W => Kept Nil W12 W) (by kernel_rfl) ?_
        show wpAnyH _ _ _ _ _ _ _ _ W11.drew
        rw [hwd]; refine capQ fun Q hQ => ?_
        have hQP : ∀ c (a : Act) (d : Nat) v w, Q (.panic c) (a.put (some d) v) w → Q (.panic c) a w := by
          subst hQ; exact fun _ _ _ _ _ h => h
        have BD : Below W11.heap.size W11 W12 := by rw [← hwd]; exact below_drewB (Below.refl _ _)
        clear hwd; replace E := below_next E BD; replace k2 := keep BD k2; replace hw := own_keep hw BD; replace k5 := keep BD k5; clear BD
        have S : Kept Nil W12 W12 := Kept.refl _ _
        have d_k2 := k2; have d_k5 := k5; have d_hw := hw
        have hcA : W12.cell? ⟨bA, oA + i, none⟩ = some (.int .i64 a) := (E.cell (block_lt_of_cell hca)).trans hca
        have hcA1 : W12.cell? ⟨bA, oA + k, none⟩ = some (.int .i64 a1) := (E.cell (block_lt_of_cell hca1)).trans hca1
        refine tk (.pointer (some ⟨b1, 1, none⟩)) 0 22 rfl rfl rfl (fun W hK => ex_fa (p := (.pointer (some ⟨b1, 0, none⟩))) rfl rfl (fa36_1 _ _)) S hQP ?_; simp only [zp]; refine tk (.slice (some ⟨bA, oA, none⟩) n cA) 1 23 rfl rfl rfl (fun W hK => ex_load (p := (.pointer (some ⟨b1, 1, none⟩))) rfl rfl (ld30 (at_cell (keepK hK d_k2 (nilN _)) rfl))) S hQP ?_; simp only [zp]; refine tk (.int .i64 (i : Nat)) 2 24 rfl rfl rfl (fun W hK => ex_mv rfl rfl) S hQP ?_; simp only [zp]
        refine tk (.int .i64 ((k : Nat) : Int)) 3 25 rfl rfl rfl (fun W hK => ex_bin rfl rfl rfl (eg3 _ _ _ _ _ _) (sub3 _ (by omega) (by omega))) S hQP ?_; simp only [zp]; refine tk (.pointer (some ⟨bA, (oA + k), none⟩)) 4 26 rfl rfl rfl (fun W hK => ix30 (k := k) rfl rfl rfl (rfl) ((by omega))) S hQP ?_; simp only [zp]; refine tk (.int .i64 a1) 5 27 rfl rfl rfl (fun W hK => ex_load rfl rfl (ld3 (cell_kept hK hcA1 (nilN _)))) S hQP ?_; simp only [zp]
        refine tk (.pointer (some ⟨b1, 1, none⟩)) 6 28 rfl rfl rfl (fun W hK => ex_fa (p := (.pointer (some ⟨b1, 0, none⟩))) rfl rfl (fa36_1 _ _)) S hQP ?_; simp only [zp]; refine tk (.slice (some ⟨bA, oA, none⟩) n cA) 7 29 rfl rfl rfl (fun W hK => ex_load (p := (.pointer (some ⟨b1, 1, none⟩))) rfl rfl (ld30 (at_cell (keepK hK d_k2 (nilN _)) rfl))) S hQP ?_; simp only [zp]; refine tk (.int .i64 (i : Nat)) 8 30 rfl rfl rfl (fun W hK => ex_mv rfl rfl) S hQP ?_; simp only [zp]
        refine tk (.pointer (some ⟨bA, (oA + i), none⟩)) 9 31 rfl rfl rfl (fun W hK => ix30 (k := i) rfl rfl rfl (rfl) (hlt)) S hQP ?_; simp only [zp]; refine tk (.int .i64 a) 10 32 rfl rfl rfl (fun W hK => ex_load rfl rfl (ld3 (cell_kept hK hcA (nilN _)))) S hQP ?_; simp only [zp]; refine tk (.int .i64 (a1 - a)) 11 33 rfl rfl rfl (fun W hK => ex_bin rfl rfl rfl (eg3 _ _ _ _ _ _) (sub3 _ rfl (by omega))) S hQP ?_; simp only [zp]; refine tk (.pointer (some ⟨b5, 4, none⟩)) 12 34 rfl rfl rfl (fun W hK => ex_fa (p := (.pointer (some ⟨b5, 0, none⟩))) rfl rfl (fa49_4 _ _)) S hQP ?_
        simp only [zp]; refine tk (.pointer (some ⟨b5, 6, none⟩)) 13 35 rfl rfl rfl (fun W hK => ex_fa (p := (.pointer (some ⟨b5, 4, none⟩))) rfl rfl (fg45_1 _ _ _)) S hQP ?_; simp only [zp]; refine tk (.int .i64 e.q.d) 14 36 rfl rfl rfl (fun W hK => ex_load (p := (.pointer (some ⟨b5, 6, none⟩))) rfl rfl (ld3 (at_cell (keepK hK d_k5 (nilN _)) rfl))) S hQP ?_; simp only [zp]; refine tk (.int .i64 (a1 - a)) 15 8 rfl rfl rfl (fun W hK => ex_asg rfl rfl) S hQP ?_; simp only [zp]; refine tk (.int .i64 e.q.d) 16 9 rfl rfl rfl (fun W hK => ex_asg rfl rfl) S hQP ?_; simp only [zp]
        refine ah_done (by kernel_rfl) ?_; clear hQP; subst hQ; clear S d_k2 d_k5 d_hw; refine wp_seq ?_; obtain ⟨W13, hwd⟩ : ∃ wd, W12.drew = wd := ⟨_, rfl⟩; refine wp_region_held (S := fun W => Kept Nil W13 W) (by kernel_rfl) ?_
        show wpAnyH _ _ _ _ _ _ _ _ W12.drew
        rw [hwd]; refine capQ fun Q hQ => ?_
        have hQP : ∀ c (a : Act) (d : Nat) v w, Q (.panic c) (a.put (some d) v) w → Q (.panic c) a w := by
          subst hQ; exact fun _ _ _ _ _ h => h
        have BD : Below W12.heap.size W12 W13 := by rw [← hwd]; exact below_drewB (Below.refl _ _)
        clear hwd; replace E := below_next E BD; replace k2 := keep BD k2; replace hw := own_keep hw BD; replace k5 := keep BD k5; clear BD
        have S : Kept Nil W13 W13 := Kept.refl _ _
        have d_k2 := k2; have d_k5 := k5; have d_hw := hw
        have hcA : W13.cell? ⟨bA, oA + i, none⟩ = some (.int .i64 a) := (E.cell (block_lt_of_cell hca)).trans hca
        refine tk (.pointer (some ⟨b5, 9, none⟩)) 0 37 rfl rfl rfl (fun W hK => ex_fa (p := (.pointer (some ⟨b5, 0, none⟩))) rfl rfl (fa49_5 _ _)) S hQP ?_; simp only [zp]; refine tk (.agg (PL e.p)) 1 38 rfl rfl rfl (fun W hK => ex_load (p := (.pointer (some ⟨b5, 9, none⟩))) rfl rfl (ldEP (keepK hK d_k5 (nilN _)))) S hQP ?_; simp only [zp]; refine tk (.pointer (some ⟨b1, 1, none⟩)) 2 39 rfl rfl rfl (fun W hK => ex_fa (p := (.pointer (some ⟨b1, 0, none⟩))) rfl rfl (fa36_1 _ _)) S hQP ?_; simp only [zp]
        refine tk (.slice (some ⟨bA, oA, none⟩) n cA) 3 40 rfl rfl rfl (fun W hK => ex_load (p := (.pointer (some ⟨b1, 1, none⟩))) rfl rfl (ld30 (at_cell (keepK hK d_k2 (nilN _)) rfl))) S hQP ?_; simp only [zp]; refine tk (.int .i64 (i : Nat)) 4 41 rfl rfl rfl (fun W hK => ex_mv rfl rfl) S hQP ?_; simp only [zp]; refine tk (.pointer (some ⟨bA, (oA + i), none⟩)) 5 42 rfl rfl rfl (fun W hK => ix30 (k := i) rfl rfl rfl (rfl) (hlt)) S hQP ?_; simp only [zp]; refine tk (.int .i64 a) 6 43 rfl rfl rfl (fun W hK => ex_load rfl rfl (ld3 (cell_kept hK hcA (nilN _)))) S hQP ?_; simp only [zp]
        refine tk (.pointer (some ⟨b5, 3, none⟩)) 7 44 rfl rfl rfl (fun W hK => ex_fa (p := (.pointer (some ⟨b5, 0, none⟩))) rfl rfl (fa49_3 _ _)) S hQP ?_; simp only [zp]; refine tk (.int .i64 e.cap) 8 45 rfl rfl rfl (fun W hK => ex_load (p := (.pointer (some ⟨b5, 3, none⟩))) rfl rfl (ld3 (at_cell (keepK hK d_k5 (nilN _)) rfl))) S hQP ?_; simp only [zp]; refine tk (.int .i64 t) 9 46 rfl rfl rfl (fun W hK => ex_mv rfl rfl) S hQP ?_; simp only [zp]; refine ah_or1 (i := 10) (by kernel_rfl) ?_
        refine nx_call (some 47) rfl rfl rfl (schance_any (p := e.p) (a := a) (c := e.cap) (t := t) W13 heb.cap t1 t2 heb.g1 heb.g2 heb.h1 heb.h2) (ex_call (f := 17) (vs := [(.agg (PL e.p)), (.int .i64 a), (.int .i64 e.cap), (.int .i64 t)]) rfl (cf17 _) rfl) ?_; rintro e W14 ⟨rfl, B⟩; refine ⟨_, rfl, S.next B, ?_⟩; simp only [zp]; replace E := below_next E B; replace k2 := keep B k2; replace hw := own_keep hw B; replace k5 := keep B k5; replace S := S.next B; refine tk (.float .f64 (chN e.p a e.cap t)) 11 10 rfl rfl rfl (fun W hK => ex_asg rfl rfl) S hQP ?_; simp only [zp]
        refine ah_done (by kernel_rfl) ?_; clear hQP; subst hQ; clear S d_k2 d_k5 d_hw; refine wl_in (wl_cap fun Q hQ => ?_); refine sm u5 48 rfl rfl rfl rfl ?_; simp only [zp]; refine sm (.int .i64 (a1 - a)) 49 rfl rfl rfl rfl ?_; simp only [zp]; refine sm (.int .i64 e.q.d) 50 rfl rfl rfl rfl ?_; simp only [zp]; refine sm (.float .f64 (chN e.p a e.cap t)) 51 rfl rfl rfl rfl ?_; simp only [zp]
        refine st_call (some 52) rfl rfl (scost_any (a1 - a) e.q.d (chN e.p a e.cap t) W14 (by have := chN_le e.p a e.cap t heb.cap; have := F1_lt; omega) (by omega) (by omega)) (ex_call (f := 16) (vs := [(.int .i64 (a1 - a)), (.int .i64 e.q.d), (.float .f64 (chN e.p a e.cap t))]) rfl (cf16 _) rfl) ?_; rintro e W15 ⟨rfl, B⟩; refine ⟨_, rfl, ?_⟩; simp only [zp]; replace E := below_next E B; replace k2 := keep B k2; replace hw := own_keep hw B; replace k5 := keep B k5
        refine st_new (fun b => .slice (some ⟨b, 0, none⟩) 1 1) (some 53) rfl rfl (ex_bsl1 (u := (.float .f64 (costN (a1 - a) e.q.d (chN e.p a e.cap t)))) rfl rfl (bslF (costN (a1 - a) e.q.d (chN e.p a e.cap t)) _)) ?_; intro b6 W16 k6 g6 B; simp only [zp]
        have ne_b6_b1 : b6 ≠ b1 := fun e => by have := lt_of k2; omega
        have ne_b6_b5 : b6 ≠ b5 := fun e => by have := lt_of k5; omega
        have ge_b6 := Nat.le_trans E.size g6; replace E := below_next E B; replace k2 := keep B k2; replace hw := own_keep hw B; replace k5 := keep B k5; clear B
        obtain ⟨g', cap', W17, hr2, hown2, hK2, hloc2⟩ := own_add (c := 1) (m := 1) (t := 50) hw (show W16.rangeAt b6 0 (#[(.float .f64 (costN (a1 - a) e.q.d (chN e.p a e.cap t)))] : Array Value).toList from at_range (o := 0) (n := 1) k6 (by show 0 + 1 ≤ 1; decide)) rfl (by intro u hu; have := List.mem_singleton.1 hu; subst this; rfl) Try.underlying50 Try.inf34b rfl (by decide) (by decide) (by omega) (by simp only [maxLen]; omega) E.size; replace k2 := keepK hK2 k2 (fun e => absurd e (own_ne hw k2 (by decide)))
        replace E : Below w.heap.size w W17 := E.trans (hK2.below E.size (fun k e => own_ge hw e)); refine sv (.slice (some ⟨g', 0, none⟩) (i + 1) cap') 54 rfl rfl (ex_app rfl rfl rfl hr2) ?_; simp only [zp]; refine sg (.slice (some ⟨g', 0, none⟩) (i + 1) cap') 5 rfl rfl rfl rfl ?_; simp only [zp]; refine st_end ?_; subst hQ; refine wl_in (wl_cap fun Q hQ => ?_); refine sv (.int .i64 ((i + 1 : Nat) : Int)) 55 rfl rfl (ex_bin rfl rfl rfl (eg3 _ _ _ _ _ _) (add3 _ (by omega) (by omega))) ?_; simp only [zp]; refine sm (.int .i64 ((i + 1 : Nat) : Int)) 15 rfl rfl rfl rfl ?_; simp only [zp]
        refine st_end ?_; subst hQ; refine then_go ?_
        go_roundw
        case rel =>
          refine ⟨i + 1, by omega, rfl, E, k2, ?_⟩
          have e1 : CS.take (i + 1) = CS.take i ++ [costN (a1 - a) e.q.d (chN e.p a e.cap t)] := by
            rw [List.take_add_one, hcs]
            rfl
          rw [e1]
          unfold Fl at hown2 ⊢
          rw [List.map_append]; exact hown2
        case measure => simp [intOf]; omega
    · have hin : i = n := by omega
      subst i; rw [List.take_of_length_le (by omega)] at hw; obtain ⟨ao5, c5, rfl, hc5, hf5⟩ := own_form hw; refine wq fun Q hQ => ?_; refine sv (.bool false) 16 rfl rfl (ex_bin (u := (.int .i64 (n : Nat))) (r := (.int .i64 (n : Nat))) rfl rfl rfl (eg3 _ _ _ _ _ _) (lss3 _ (decide_eq_false (by omega)))) ?_; simp only [zp]; refine st_end ?_; subst hQ; refine wp_seq ?_; refine wp_cond_false rfl ?_; refine wp_exit ?_; refine ex_then ?_; refine ex_then ?_; refine ex_blk ?_
      have hF : Fs wr ao5 n (fun j => CS.getD j 0) := by
        rcases hf5 with h0 | ⟨g5, cur, rfl, hb5, hh5, hr5⟩
        · exact .inl h0
        · refine .inr ⟨g5, 0, rfl, fun j hj => hr5 j _ ?_⟩
          unfold Fl
          have hj2 : j < CS.length := by omega
          simp [hj2, List.getD_eq_getElem?_getD]
      have hJ : jk (fun j => CS.getD j 0) n 0 0 = jn CS 0 := by rw [show n = CS.length by omega]; exact jk_list CS
      rw [← hJ]
      have hz9 : ∀ j, j < n → (fun j => CS.getD j 0) j < 18446744073709551616 := fun j hj => by
        obtain ⟨e, he⟩ : ∃ e, es[j]? = some e := ⟨es[j]'(by omega), List.getElem?_eq_getElem (by omega)⟩; obtain ⟨a, hai⟩ : ∃ a, am[j]? = some a := ⟨am[j]'(by omega), List.getElem?_eq_getElem (by omega)⟩; have heb := hb e (List.mem_of_getElem? he); have hdl := heb.delta; have hab := ha a (List.mem_of_getElem? hai); have hc := hCA j e a he hai
        show CS.getD j 0 < _
        rw [List.getD_eq_getElem?_getD, hc]
        have hx : chN e.p a e.cap t < 18446744073709551616 := by have := chN_le e.p a e.cap t heb.cap; have := F1_lt; omega
        cases j with
        | zero => exact Nat.lt_of_le_of_lt (costN_le _ _ _ hx (by show (0 : Int) ≤ _; omega) (by show (0 : Int) ≤ _; omega)) (by decide)
        | succ k =>
          obtain ⟨a1, ha1⟩ : ∃ a1, am[k]? = some a1 := ⟨am[k]'(by omega), List.getElem?_eq_getElem (by omega)⟩; have hab1 := ha a1 (List.mem_of_getElem? ha1); simp only [prv, ha1, Option.getD_some]; exact Nat.lt_of_le_of_lt (costN_le _ _ _ hx (by omega) (by omega)) (by decide)
      refine wq fun Q hQ => ?_; refine sm (.slice ao5 n c5) 56 rfl rfl rfl rfl ?_; simp only [zp]; refine st_call (some 57) rfl rfl (sjoin_any wr hF (by omega) hz9) (ex_call (f := 18) (vs := [(.slice ao5 n c5)]) rfl (cf18 _) rfl) ?_; rintro e W18 ⟨rfl, B⟩; refine ⟨_, rfl, ?_⟩; simp only [zp]; replace E := below_next E B; refine sg (.float .f64 (jk (fun j => CS.getD j 0) n 0 0)) 4 rfl rfl rfl rfl ?_; simp only [zp]; refine st_end ?_; subst hQ; refine wp_ret ?_
      repeat (first | refine ret_out ?_ | refine ret_blk ?_)
      exact bodyPost_ret (results_tmp Try.results77 _ _ _) rfl ⟨rfl, E⟩
end Go.Proofs.Ytgnkcmmpbohafaa
