/- The edges from a node; from each node. -/
import Derived.Test.YtgnkcmmpbohafaaGFun
namespace Go.Proofs.Ytgnkcmmpbohafaa
open Go.RowKit
set_option linter.unusedVariables false
set_option linter.unusedSimpArgs false
set_option maxRecDepth 100000

theorem bslE (e : EV) (W : World) : (Instr.buildSlice 33 1 #[(0, .agg (EL e))]).run Try.prog W = .ok (.slice (some ⟨W.heap.size, 0, none⟩) 1 1) (W.alloc (.cells (EL e) 49)) := bslice W 33 49 1 _ _ _ 13 Try.underlying33 zero49 (by decide) (by decide) (by kernel_rfl)
theorem own_ge {W : World} {base e size n k : Nat} {v : Value} {xs : List Value} (h : W.ownsRow base e size v n xs) (hk : v.ownBlock = some k) : base ≤ k := by
  rcases h.2 with ⟨e, rfl⟩ | ⟨g, cap, cur, rfl, hb, hh, r⟩
  · rw [e] at hk; cases hk
  · have : g = k := by simpa [Value.ownBlock] using hk
    omega
theorem own_lt {W : World} {base e size n k : Nat} {v : Value} {xs : List Value} (h : W.ownsRow base e size v n xs) (hk : v.ownBlock = some k) : k < W.heap.size := by
  rcases h.2 with ⟨e, rfl⟩ | ⟨g, cap, cur, rfl, hb, hh, r⟩
  · rw [e] at hk; cases hk
  · have : g = k := by simpa [Value.ownBlock] using hk
    have := lt_of hh
    omega
theorem nxt_take {L : List EV} {i : Nat} {e : EV} (x : Int) (h : L[i]? = some e) : nxt (L.take (i + 1)) x = nxt (L.take i) x ++ (if e.fr = x then [e] else []) := by
  rw [List.take_add_one, h]
  unfold nxt
  rw [List.filter_append]
  by_cases hx : e.fr = x <;> simp [hx]
theorem nxt_len (L : List EV) (i : Nat) (x : Int) : (nxt (L.take i) x).length ≤ i := Nat.le_trans (List.length_filter_le _ _) (by rw [List.length_take]; omega)
set_option maxHeartbeats 8000000 in
theorem from_any {g N n c : Nat} {ad : Addr} {L : List EV} {x : Int} (w : World) (kg : w.heap[g]? = some (.cells #[.slice (some ad) n c] 105)) (hL : Es w N (some ad) L) (hn : n = L.length) (hn2 : n ≤ 64) : Calls Try.prog 60 #[.pointer (some ⟨g, 0, none⟩), .int .i64 x] w fun e w' => ∃ ao c, e = .returned (.slice ao (nxt L x).length c) ∧ (nxt L x).length ≤ c ∧ Es w' w'.heap.size ao (nxt L x) ∧ Below w.heap.size w w' := by
  have kw := kg
  have E : Below w.heap.size w w := Below.refl _ _
  go_enter Try.func60, Try.ntmps60
  refine wq fun Q hQ => ?_
  refine sg (.slice none 0 0) 4 rfl rfl rfl rfl ?_
  simp only [zp]
  refine st_end ?_
  subst hQ
  refine wp_seq ?_
  refine wq fun Q hQ => ?_
  refine sm (.pointer (some ⟨g, 0, none⟩)) 8 rfl rfl rfl rfl ?_
  simp only [zp]
  refine st_call (some 9) rfl rfl (closed_any w kg) (ex_call (f := 33) (vs := [(.pointer (some ⟨g, 0, none⟩))]) rfl (cf33 _) rfl) ?_
  rintro e W1 ⟨rfl, B⟩
  refine ⟨_, rfl, ?_⟩
  simp only [zp]
  replace E := below_next E B
  replace kg := keep B kg
  refine st_end ?_
  subst hQ
  refine wp_cond_false rfl ?_
  refine wp_skip ?_
  refine wq fun Q hQ => ?_
  refine sg (.slice none 0 0) 5 rfl rfl rfl rfl ?_
  simp only [zp]
  refine st_end ?_
  subst hQ
  refine wp_seq ?_
  refine wq fun Q hQ => ?_
  refine sm (.pointer (some ⟨g, 0, none⟩)) 10 rfl rfl rfl rfl ?_
  simp only [zp]
  refine sv (.pointer (some ⟨g, 0, none⟩)) 11 rfl rfl (ex_nil (p := (.pointer (some ⟨g, 0, none⟩))) rfl rfl rfl) ?_
  simp only [zp]
  refine sv (.pointer (some ⟨g, 0, none⟩)) 12 rfl rfl (ex_fa (p := (.pointer (some ⟨g, 0, none⟩))) rfl rfl (fa105_0 _ _)) ?_
  simp only [zp]
  refine sv (.slice (some ad) n c) 13 rfl rfl (ex_load (p := (.pointer (some ⟨g, 0, none⟩))) rfl rfl (ld33 (at_cell kg rfl))) ?_
  simp only [zp]
  refine sv (.int .i64 (n : Nat)) 14 rfl rfl (ex_len rfl rfl (len33 _ _ _ _ _)) ?_
  simp only [zp]
  refine sm (.int .i64 0) 15 rfl rfl rfl rfl ?_
  simp only [zp]
  refine st_end ?_
  subst hQ
  refine wp_block ?_
  go_loopw [5, 15] (fun v5 v15 wr => ∃ i : Nat, i ≤ n ∧ v15 = .int .i64 i ∧ Below w.heap.size w wr ∧ wr.ownsRow w.heap.size 49 13 v5 (nxt (L.take i) x).length (cE (nxt (L.take i) x))) (fun _ v15 _ => n - (intOf v15).toNat)
  case atStart => exact ⟨0, Nat.zero_le _, rfl, E, own_nil _ _ _ _⟩
  case round =>
    clear E
    obtain ⟨i, hi, rfl, E, hw⟩ := hrel
    have hq0 := fun q => own_lt (k := q) hw
    by_cases hlt : i < n
    · obtain ⟨e, he⟩ : ∃ e, L[i]? = some e := ⟨L[i]'(by omega), List.getElem?_eq_getElem (by omega)⟩
      have hne : L ≠ [] := fun q => by rw [q] at he; simp at he
      have hnx := nxt_take x he
      have hnl := nxt_len L i x
      rcases hL with q | ⟨b, off, q, hbN, ⟨cur0, hcur0⟩, hr⟩
      · exact absurd q hne
      cases q
      have hrb := range_below (range_at hr he) E
      by_cases hx : e.fr = x
      · skip
        rw [if_pos hx] at hnx
        refine wq fun Q hQ => ?_
        refine sv (.bool true) 16 rfl rfl (ex_bin (u := (.int .i64 (i : Nat))) (r := (.int .i64 (n : Nat))) rfl rfl rfl (eg3 _ _ _ _ _ _) (lss3 _ (decide_eq_true (by omega)))) ?_
        simp only [zp]
        refine st_end ?_
        subst hQ
        refine wp_seq ?_
        refine wp_cond_true rfl ?_
        refine wp_skip ?_
        refine wp_seq ?_
        refine wp_block ?_
        refine wq fun Q hQ => ?_
        refine sv (.pointer (some ⟨b, (off + i * 13), none⟩)) 17 rfl rfl (ix33 (k := i) rfl rfl rfl (rfl) (hlt)) ?_
        simp only [zp]
        refine sv (.agg (EL e)) 18 rfl rfl (ex_load rfl rfl (ld_range hrb Try.underlying49 rfl inf49)) ?_
        simp only [zp]
        refine st_new (fun b => .pointer (some ⟨b, 0, none⟩)) (some 7) rfl rfl (ex_alloc rfl zero49) ?_
        intro b1 W2 k1 g1 B
        simp only [zp]
        have ge_b1 := Nat.le_trans E.size g1
        replace E := below_next E B
        replace hw := own_keep hw B
        clear B
        obtain ⟨W3, hst, kn, K⟩ := put_all (D := (EL e)) k1 rfl inf49 (by kernel_rfl)
        refine st_sk rfl rfl (ex_store rfl rfl rfl hst) ?_
        replace E := below_put E ge_b1 K
        replace hw := own_keepK hw K (fun q hq e => by have := hq0 q hq; omega)
        replace k1 := kn
        clear kn K hst
        refine st_end ?_
        subst hQ
        refine wq fun Q hQ => ?_
        refine sv (.pointer (some ⟨b1, 1, none⟩)) 19 rfl rfl (ex_fa (p := (.pointer (some ⟨b1, 0, none⟩))) rfl rfl (fa49_1 _ _)) ?_
        simp only [zp]
        refine sv (.int .i64 e.fr) 20 rfl rfl (ex_load (p := (.pointer (some ⟨b1, 1, none⟩))) rfl rfl (ld3 (at_cell k1 rfl))) ?_
        simp only [zp]
        refine sm (.int .i64 x) 21 rfl rfl rfl rfl ?_
        simp only [zp]
        refine sv (.bool true) 22 rfl rfl (ex_bin (u := (.int .i64 e.fr)) (r := (.int .i64 x)) rfl rfl rfl (eg3 _ _ _ _ _ _) (eql3 _ (decide_eq_true hx))) ?_
        simp only [zp]
        refine st_end ?_
        subst hQ
        refine wp_cond_true rfl ?_
        refine wl_in (wl_cap fun Q hQ => ?_)
        refine sm u5 23 rfl rfl rfl rfl ?_
        simp only [zp]
        refine sv (.agg (EL e)) 24 rfl rfl (ex_load (p := (.pointer (some ⟨b1, 0, none⟩))) rfl rfl (ld_all k1 Try.underlying49 rfl inf49)) ?_
        simp only [zp]
        refine st_new (fun b => .slice (some ⟨b, 0, none⟩) 1 1) (some 25) rfl rfl (ex_bsl1 (u := (.agg (EL e))) rfl rfl (bslE e _)) ?_
        intro b2 W4 k2 g2 B
        simp only [zp]
        have ne_b2_b1 : b2 ≠ b1 := fun e => by have := lt_of k1; omega
        have ge_b2 := Nat.le_trans E.size g2
        replace E := below_next E B
        replace hw := own_keep hw B
        replace k1 := keep B k1
        clear B
        obtain ⟨g', cap', W5, hr2, hown2, hK2, hloc2⟩ := own_add (c := 1) (m := 1) (t := 33) hw (show W4.rangeAt b2 0 (EL e).toList from at_range (o := 0) (n := 13) k2 (by show 0 + 13 ≤ _; simp [EL])) rfl (by rw [← cE_one]; exact cE_one1 [e]) Try.underlying33 Try.inf49b rfl (by decide) (by decide) (by omega) (by simp only [maxLen]; omega) E.size
        replace E : Below w.heap.size w W5 := E.trans (hK2.below E.size (fun k e => own_ge hw e))
        refine st_to (v := (.slice (some ⟨g', 0, none⟩) ((nxt (L.take i) x).length + 1) cap')) (some 26) rfl rfl (ex_app rfl rfl rfl hr2) ?_
        simp only [zp]
        refine sg (.slice (some ⟨g', 0, none⟩) ((nxt (L.take i) x).length + 1) cap') 5 rfl rfl rfl rfl ?_
        simp only [zp]
        refine st_end ?_
        subst hQ
        refine wl_in (wl_cap fun Q hQ => ?_)
        refine sv (.int .i64 ((i + 1 : Nat) : Int)) 27 rfl rfl (ex_bin rfl rfl rfl (eg3 _ _ _ _ _ _) (add3 _ (by omega) (by omega))) ?_
        simp only [zp]
        refine sm (.int .i64 ((i + 1 : Nat) : Int)) 15 rfl rfl rfl rfl ?_
        simp only [zp]
        refine st_end ?_
        subst hQ
        refine then_go ?_
        go_roundw
        case rel => exact ⟨i + 1, by omega, rfl, E, by rw [hnx, cE_app, cE_one, List.length_append]; exact hown2⟩
        case measure => simp [intOf]; omega
      · skip
        rw [if_neg hx] at hnx
        refine wq fun Q hQ => ?_
        refine sv (.bool true) 16 rfl rfl (ex_bin (u := (.int .i64 (i : Nat))) (r := (.int .i64 (n : Nat))) rfl rfl rfl (eg3 _ _ _ _ _ _) (lss3 _ (decide_eq_true (by omega)))) ?_
        simp only [zp]
        refine st_end ?_
        subst hQ
        refine wp_seq ?_
        refine wp_cond_true rfl ?_
        refine wp_skip ?_
        refine wp_seq ?_
        refine wp_block ?_
        refine wq fun Q hQ => ?_
        refine sv (.pointer (some ⟨b, (off + i * 13), none⟩)) 17 rfl rfl (ix33 (k := i) rfl rfl rfl (rfl) (hlt)) ?_
        simp only [zp]
        refine sv (.agg (EL e)) 18 rfl rfl (ex_load rfl rfl (ld_range hrb Try.underlying49 rfl inf49)) ?_
        simp only [zp]
        refine st_new (fun b => .pointer (some ⟨b, 0, none⟩)) (some 7) rfl rfl (ex_alloc rfl zero49) ?_
        intro b3 W6 k3 g3 B
        simp only [zp]
        have ge_b3 := Nat.le_trans E.size g3
        replace E := below_next E B
        replace hw := own_keep hw B
        clear B
        obtain ⟨W7, hst, kn, K⟩ := put_all (D := (EL e)) k3 rfl inf49 (by kernel_rfl)
        refine st_sk rfl rfl (ex_store rfl rfl rfl hst) ?_
        replace E := below_put E ge_b3 K
        replace hw := own_keepK hw K (fun q hq e => by have := hq0 q hq; omega)
        replace k3 := kn
        clear kn K hst
        refine st_end ?_
        subst hQ
        refine wq fun Q hQ => ?_
        refine sv (.pointer (some ⟨b3, 1, none⟩)) 19 rfl rfl (ex_fa (p := (.pointer (some ⟨b3, 0, none⟩))) rfl rfl (fa49_1 _ _)) ?_
        simp only [zp]
        refine sv (.int .i64 e.fr) 20 rfl rfl (ex_load (p := (.pointer (some ⟨b3, 1, none⟩))) rfl rfl (ld3 (at_cell k3 rfl))) ?_
        simp only [zp]
        refine sm (.int .i64 x) 21 rfl rfl rfl rfl ?_
        simp only [zp]
        refine sv (.bool false) 22 rfl rfl (ex_bin (u := (.int .i64 e.fr)) (r := (.int .i64 x)) rfl rfl rfl (eg3 _ _ _ _ _ _) (eql3 _ (decide_eq_false hx))) ?_
        simp only [zp]
        refine st_end ?_
        subst hQ
        refine wp_cond_false rfl ?_
        refine wp_skip ?_
        refine wl_in (wl_cap fun Q hQ => ?_)
        refine sv (.int .i64 ((i + 1 : Nat) : Int)) 27 rfl rfl (ex_bin rfl rfl rfl (eg3 _ _ _ _ _ _) (add3 _ (by omega) (by omega))) ?_
        simp only [zp]
        refine sm (.int .i64 ((i + 1 : Nat) : Int)) 15 rfl rfl rfl rfl ?_
        simp only [zp]
        refine st_end ?_
        subst hQ
        refine then_go ?_
        go_roundw
        case rel => exact ⟨i + 1, by omega, rfl, E, by rw [hnx, List.append_nil]; exact hw⟩
        case measure => simp [intOf]; omega
    · have hin : i = n := by omega
      subst i
      rw [List.take_of_length_le (by omega)] at hw
      refine wq fun Q hQ => ?_
      refine sv (.bool false) 16 rfl rfl (ex_bin (u := (.int .i64 (n : Nat))) (r := (.int .i64 (n : Nat))) rfl rfl rfl (eg3 _ _ _ _ _ _) (lss3 _ (decide_eq_false (by omega)))) ?_
      simp only [zp]
      refine st_end ?_
      subst hQ
      refine wp_seq ?_
      refine wp_cond_false rfl ?_
      refine wp_exit ?_
      refine ex_then ?_
      refine ex_then ?_
      refine ex_blk ?_
      refine wq fun Q hQ => ?_
      refine sm u5 28 rfl rfl rfl rfl ?_
      simp only [zp]
      refine sg u5 4 rfl rfl rfl rfl ?_
      simp only [zp]
      refine st_end ?_
      subst hQ
      refine wp_ret ?_
      obtain ⟨ao, cc, rfl, hcc, hfm⟩ := own_form hw
      refine bodyPost_ret (results_tmp Try.results60 _ _ _) rfl ⟨ao, cc, rfl, hcc, ?_, E⟩
      rcases hfm with h0 | ⟨g', cur, rfl, hb', hh, hr'⟩
      · exact .inl (List.eq_nil_of_length_eq_zero h0)
      · exact .inr ⟨g', 0, rfl, lt_of hh, ⟨cur, hh⟩, hr'⟩
/-- the rows of the first i nodes -/
def rowL (L : List EV) (A : Nat → Option Addr) (K : Nat → Nat) (i : Nat) : List Value := (List.range 8).map fun j => if j < i then Value.slice (A j) (nxt L j).length (K j) else .slice none 0 0
theorem rowL_size (L : List EV) (A : Nat → Option Addr) (K : Nat → Nat) (i : Nat) : (rowL L A K i).toArray.size = 8 := by simp [rowL]
theorem rowL_zero (L : List EV) (A : Nat → Option Addr) (K : Nat → Nat) : (rowL L A K 0).toArray = #[.slice none 0 0, .slice none 0 0, .slice none 0 0, .slice none 0 0, .slice none 0 0, .slice none 0 0, .slice none 0 0, .slice none 0 0] := rfl
theorem rowL_at (L : List EV) (A : Nat → Option Addr) (K : Nat → Nat) (i j : Nat) (hj : j < 8) : (rowL L A K i).toArray[j]? = some (if j < i then Value.slice (A j) (nxt L j).length (K j) else .slice none 0 0) := by
  simp [rowL, hj]
theorem rowL_set (L : List EV) (A : Nat → Option Addr) (K : Nat → Nat) (i : Nat) (hi : i < 8) (ao : Option Addr) (c : Nat) : (rowL L A K i).set i (Value.slice ao (nxt L i).length c) = rowL L (fun j => if j = i then ao else A j) (fun j => if j = i then c else K j) (i + 1) := by
  apply List.ext_getElem?
  intro j
  rw [List.getElem?_set]
  unfold rowL
  by_cases hj : j < 8
  · by_cases e : i = j
    · subst e
      simp [hj]
    · by_cases h1 : j < i
      · have : j < i + 1 := by omega
        have : ¬ j = i := by omega
        simp [hj, e, h1, *]
      · have : ¬ j < i + 1 := by omega
        simp [hj, e, h1, *]
  · simp [hj]
    intro h
    omega
theorem rowL_one (L : List EV) (A : Nat → Option Addr) (K : Nat → Nat) (i : Nat) : (rowL L A K i).toArray.all (·.oneCell') = true := by
  rw [List.all_toArray, List.all_eq_true]
  intro v hv
  obtain ⟨j, _, rfl⟩ := List.mem_map.1 hv
  split <;> rfl
/-- the rows of the first i nodes lie there -/
def Ros (W : World) (L : List EV) (A : Nat → Option Addr) (K : Nat → Nat) (i : Nat) : Prop := ∀ j : Nat, j < i → (nxt L j).length ≤ K j ∧ Es W W.heap.size (A j) (nxt L j)
theorem Ros.keepB {W W' : World} {L : List EV} {A : Nat → Option Addr} {K : Nat → Nat} {i : Nat} (h : Ros W L A K i) (hB : Below W.heap.size W W') : Ros W' L A K i := fun j hj => ⟨(h j hj).1, ((h j hj).2.keepB hB).mono hB.size⟩
theorem Ros.keepT {W W' : World} {L : List EV} {A : Nat → Option Addr} {K : Nat → Nat} {i k T : Nat} {C : Array Value} (h : Ros W L A K i) (hK : Kept (· = k) W W') (hk : W.heap[k]? = some (.cells C T)) (hT : T ≠ 49) : Ros W' L A K i := fun j hj => ⟨(h j hj).1, ((h j hj).2.keepT hK hk hT).mono hK.size⟩
section
variable {o : Oper} {a : Act} {W : World}
theorem ixA {x y : Operand} {b k : Nat} {i : Int} (ho : o.op = .indexAddr 113 x y) (hx : a.eval x = .pointer (some ⟨b, 0, none⟩)) (hy : a.eval y = .int .i64 i) (hi : i = (k : Int)) (hk : k < 8) : (execOp a.eval o).run Try.prog W = .ok (.value (.pointer (some ⟨b, k, none⟩))) W := by
  subst hi
  have h1 : (k : Int) < 8 := by omega
  unfold execOp
  simp only [ho, hx, hy]
  go_simp
theorem ixB {x y : Operand} {b k : Nat} {i : Int} (ho : o.op = .indexAddr 117 x y) (hx : a.eval x = .pointer (some ⟨b, 0, none⟩)) (hy : a.eval y = .int .i64 i) (hi : i = (k : Int)) (hk : k < 8) : (execOp a.eval o).run Try.prog W = .ok (.value (.pointer (some ⟨b, k, none⟩))) W := by
  subst hi
  have h1 : (k : Int) < 8 := by omega
  unfold execOp
  simp only [ho, hx, hy]
  go_simp
end
set_option maxHeartbeats 8000000 in
theorem byFrom_any {g N n c : Nat} {ad : Addr} {L : List EV} (w : World) (kg : w.heap[g]? = some (.cells #[.slice (some ad) n c] 105)) (hL : Es w N (some ad) L) (hN : N ≤ w.heap.size) (hn : n = L.length) (hn2 : n ≤ 64) : Calls Try.prog 74 #[.pointer (some ⟨g, 0, none⟩)] w fun e w' => ∃ A K, e = .returned (.agg (rowL L A K 8).toArray) ∧ Ros w' L A K 8 ∧ Below w.heap.size w w' := by
  have kw := kg
  have E : Below w.heap.size w w := Below.refl _ _
  go_enter Try.func74, Try.ntmps74
  refine wq fun Q hQ => ?_
  refine st_new (fun b => .pointer (some ⟨b, 0, none⟩)) (some 2) rfl rfl (ex_alloc rfl zero113) ?_
  intro b1 W1 k1 g1 B
  simp only [zp]
  have ge_b1 := Nat.le_trans E.size g1
  replace E := below_next E B
  clear B
  refine st_end ?_
  subst hQ
  refine wq fun Q hQ => ?_
  refine st_new (fun b => .pointer (some ⟨b, 0, none⟩)) (some 3) rfl rfl (ex_alloc rfl zero113) ?_
  intro b2 W2 k2 g2 B
  simp only [zp]
  have ne_b2_b1 : b2 ≠ b1 := fun e => by have := lt_of k1; omega
  have ge_b2 := Nat.le_trans E.size g2
  replace E := below_next E B
  replace k1 := keep B k1
  clear B
  refine st_end ?_
  subst hQ
  refine wp_seq ?_
  refine wq fun Q hQ => ?_
  refine sm (.int .i64 0) 5 rfl rfl rfl rfl ?_
  simp only [zp]
  refine st_end ?_
  subst hQ
  refine wp_block ?_
  have ne23 : ¬ b1 = b2 := by first | exact ne_b1_b2 | exact fun e => ne_b2_b1 e.symm
  go_loopw [5] (fun v5 wr => ∃ (i : Nat) (A : Nat → Option Addr) (K : Nat → Nat), i ≤ 8 ∧ v5 = .int .i64 i ∧ Below w.heap.size w wr ∧ wr.heap[b1]? = some (.cells #[.slice none 0 0, .slice none 0 0, .slice none 0 0, .slice none 0 0, .slice none 0 0, .slice none 0 0, .slice none 0 0, .slice none 0 0] 113) ∧ wr.heap[b2]? = some (.cells (rowL L A K i).toArray 113) ∧ Ros wr L A K i) (fun v5 _ => 8 - (intOf v5).toNat)
  case atStart => exact ⟨0, fun _ => none, fun _ => 0, Nat.zero_le _, rfl, E, k1, k2, fun j hj => absurd hj (Nat.not_lt_zero _)⟩
  case round =>
    clear E k1 k2
    obtain ⟨i, A, K0, hi, rfl, E, k2, k3, hA⟩ := hrel
    by_cases hlt : i < 8
    · skip
      refine wq fun Q hQ => ?_
      refine sv (.bool true) 6 rfl rfl (ex_bin (u := (.int .i64 (i : Nat))) (r := (.int .i64 8)) rfl rfl rfl (eg3 _ _ _ _ _ _) (lss3 _ (decide_eq_true (by omega)))) ?_
      simp only [zp]
      refine st_end ?_
      subst hQ
      refine wp_seq ?_
      refine wp_cond_true rfl ?_
      refine wp_skip ?_
      refine wp_seq ?_
      refine wp_block ?_
      refine wq fun Q hQ => ?_
      refine sm (.int .i64 (i : Nat)) 7 rfl rfl rfl rfl ?_
      simp only [zp]
      refine sg (.int .i64 (i : Nat)) 4 rfl rfl rfl rfl ?_
      simp only [zp]
      refine st_end ?_
      subst hQ
      refine wl_in (wl_cap fun Q hQ => ?_)
      refine sm (.int .i64 (i : Nat)) 8 rfl rfl rfl rfl ?_
      simp only [zp]
      refine sm (.pointer (some ⟨g, 0, none⟩)) 9 rfl rfl rfl rfl ?_
      simp only [zp]
      refine sm (.int .i64 (i : Nat)) 10 rfl rfl rfl rfl ?_
      simp only [zp]
      refine st_call (some 11) rfl rfl (from_any (x := ((i : Nat) : Int)) wr (keep E kw) (hL.keep E hN) hn hn2) (ex_call (f := 60) (vs := [(.pointer (some ⟨g, 0, none⟩)), (.int .i64 (i : Nat))]) rfl (cf60 _) rfl) ?_
      rintro e W3 ⟨ao, cc, rfl, hcc, hEs, B⟩
      refine ⟨_, rfl, ?_⟩
      simp only [zp]
      replace E := below_next E B
      replace k2 := keep B k2
      replace k3 := keep B k3
      replace hA := hA.keepB B
      refine sv (.pointer (some ⟨b2, i, none⟩)) 12 rfl rfl (ixA rfl rfl rfl rfl hlt) ?_
      simp only [zp]
      obtain ⟨kn, K⟩ := put_cell (i := i) (.slice ao (nxt L ((i : Nat) : Int)).length cc) k3
      refine st_sk rfl rfl (ex_store rfl rfl rfl (sto33 (at_cell k3 (rowL_at L A K0 i i hlt)) (unfrozen k3))) ?_
      obtain ⟨W4, hW2⟩ : ∃ W', W3.setCell ⟨b2, i, none⟩ (.slice ao (nxt L ((i : Nat) : Int)).length cc) = W' := ⟨_, rfl⟩
      rw [hW2] at kn K ⊢
      rw [List.setIfInBounds_toArray, rowL_set L A K0 i hlt ao cc] at kn
      replace E := below_put E ge_b2 K
      replace k2 := keepK K k2 (fun e => ne23 e)
      replace hA := hA.keepT K k3 (by decide)
      replace hEs := (hEs.keepT K k3 (by decide)).mono K.size
      replace k3 := kn
      clear kn K
      refine st_end ?_
      subst hQ
      refine wl_in (wl_cap fun Q hQ => ?_)
      refine sv (.int .i64 ((i + 1 : Nat) : Int)) 13 rfl rfl (ex_bin rfl rfl rfl (eg3 _ _ _ _ _ _) (add3 _ (by omega) (by omega))) ?_
      simp only [zp]
      refine sm (.int .i64 ((i + 1 : Nat) : Int)) 5 rfl rfl rfl rfl ?_
      simp only [zp]
      refine st_end ?_
      subst hQ
      refine then_go ?_
      go_roundw
      case rel =>
        refine ⟨i + 1, _, _, by omega, rfl, E, k2, k3, fun j hj => ?_⟩
        by_cases hj' : j = i
        · subst hj'
          simp only [if_pos]
          exact ⟨hcc, hEs⟩
        · simp only [if_neg hj']
          exact hA j (by omega)
      case measure => simp [intOf]; omega
    · have hin : i = 8 := by omega
      subst i
      refine wq fun Q hQ => ?_
      refine sv (.bool false) 6 rfl rfl (ex_bin (u := (.int .i64 (8 : Nat))) (r := (.int .i64 8)) rfl rfl rfl (eg3 _ _ _ _ _ _) (lss3 _ (decide_eq_false (by omega)))) ?_
      simp only [zp]
      refine st_end ?_
      subst hQ
      refine wp_seq ?_
      refine wp_cond_false rfl ?_
      refine wp_exit ?_
      refine ex_then ?_
      refine ex_then ?_
      refine ex_blk ?_
      refine wq fun Q hQ => ?_
      refine sv (.agg (rowL L A K0 8).toArray) 14 rfl rfl (ex_load (p := (.pointer (some ⟨b2, 0, none⟩))) rfl rfl (ld_all k3 Try.underlying113 rfl (inf113.trans (congrArg some ((rowL_size L A K0 8)).symm)))) ?_
      simp only [zp]
      obtain ⟨W5, hst, kn, K⟩ := put_all (D := (rowL L A K0 8).toArray) k2 (((show (#[.slice none 0 0, .slice none 0 0, .slice none 0 0, .slice none 0 0, .slice none 0 0, .slice none 0 0, .slice none 0 0, .slice none 0 0] : Array Value).size = 8 from rfl)).trans ((rowL_size L A K0 8)).symm) (inf113.trans (congrArg some ((rowL_size L A K0 8)).symm)) (rowL_one L A K0 8)
      refine st_sk rfl rfl (ex_store rfl rfl rfl hst) ?_
      replace E := below_put E ge_b1 K
      replace k3 := keepK K k3 (fun e => ne23 e.symm)
      replace hA := hA.keepT K k2 (by decide)
      replace k2 := kn
      clear kn K hst
      refine st_end ?_
      subst hQ
      refine wp_ret ?_
      refine bodyPost_ret (results_cell_row Try.results74 _ _ b1 _ _ _ _ rfl k2 Try.underlying113 rfl (inf113.trans (congrArg some ((rowL_size L A K0 8)).symm))) rfl ⟨A, K0, rfl, hA, E⟩
end Go.Proofs.Ytgnkcmmpbohafaa
