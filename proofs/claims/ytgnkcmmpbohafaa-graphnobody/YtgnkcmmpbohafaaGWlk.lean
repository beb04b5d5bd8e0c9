/- A search goes through all ways. -/
import Derived.Test.YtgnkcmmpbohafaaGWkc
namespace Go.Proofs.Ytgnkcmmpbohafaa
open Go.RowKit
set_option linter.unusedVariables false
set_option linter.unusedSimpArgs false
set_option maxRecDepth 100000

theorem rowL_at8 (L : List EV) (A : Nat → Option Addr) (K : Nat → Nat) (j : Nat) (hj : j < 8) : (rowL L A K 8).toArray[j]? = some (Value.slice (A j) (nxt L j).length (K j)) := by
  rw [rowL_at L A K 8 j hj, if_pos hj]
section
variable {o : Oper} {a : Act} {W : World}
theorem ixS0 {x y : Operand} {b n c k : Nat} {i : Int} (ho : o.op = .indexAddr 118 x y) (hx : a.eval x = .slice (some ⟨b, 0, none⟩) n c) (hy : a.eval y = .int .i64 i) (hi : i = (k : Int)) (hk : k < n) : (execOp a.eval o).run Try.prog W = .ok (.value (.pointer (some ⟨b, k, none⟩))) W := by
  have h := ix118 (W := W) ho hx hy hi hk
  rw [Nat.zero_add] at h
  exact h
end
theorem nrm_b2 {Q : Exit → Act → World → Prop} {a : Act} {w : World} {i : Nat} (h : Q .normal a w) : Exit.inBlock i Q .normal a w := h
theorem own_blk {W : World} {base e sz g n c : Nat} {xs : List Value} (h : W.ownsRow base e sz (.slice (some ⟨g, 0, none⟩) n c) n xs) : ∃ cur, W.heap[g]? = some (.cells cur e) := by
  rcases h.2 with ⟨q, _⟩ | ⟨g', cap', cur, q, hb, hh, r⟩
  · cases q
  · cases q
    exact ⟨cur, hh⟩
theorem bst_ne {W : World} {base b : Nat} {B : Option YV} (h : Bst W base b B) : ∀ y, B = some y → y.es ≠ [] := fun y e => by
  subst e
  obtain ⟨g, c, bA, bX, h1, h2, h3, h4, h5, h6⟩ := h
  exact h6
theorem EB.nodes {e : EV} (h : EB e) : chanB e.ch = true ∧ 0 ≤ e.to ∧ e.to < 8 := by
  have := h.ok
  unfold mayE nodeB at this
  simp only [Bool.and_eq_true, decide_eq_true_eq] at this
  exact ⟨this.1.1.1, this.1.1.2.1.2⟩
theorem WB.nodes {v : WV} (h : WB v) : (0 ≤ v.fr ∧ v.fr < 8) ∧ (0 ≤ v.to ∧ v.to < 8) ∧ ¬ v.fr = v.to := by
  have := h.ok
  unfold mayW nodeB at this
  simp only [Bool.and_eq_true, decide_eq_true_eq] at this
  exact ⟨this.1.1.1.1.1.1, this.1.1.1.1.1.2, this.1.1.1.1.2⟩
set_option maxHeartbeats 64000000 in
theorem walk_any {g N n c b3 b6 nw cw : Nat} {ad : Addr} {ao : Option Addr} {L : List EV} {v : WV} (w : World) (kg : w.heap[g]? = some (.cells #[.slice (some ad) n c] 105)) (hL : Es w N (some ad) L) (hN : N ≤ w.heap.size) (hn : n = L.length) (hn2 : n ≤ 64) (hLb : ∀ e ∈ L, EB e) (hA : Is w ao v.av) (hnw : nw = v.av.length) (hnw2 : nw ≤ 140737488355328) (hv : WB v) (k3 : w.heap[b3]? = some (.cells (WL_ v ao nw cw) 32)) (k6 : w.heap[b6]? = some (.cells #[.slice none 0 0, .slice none 0 0, .slice none 0 0, .int .i64 0, .float .f64 0] 36)) :
    Calls Try.prog 35 #[.pointer (some ⟨g, 0, none⟩), .agg (WL_ v ao nw cw), .func (.func 36) #[] #[.pointer (some ⟨b3, 0, none⟩), .pointer (some ⟨b6, 0, none⟩)]] w fun e w' => ∃ B base, e = .returned (.bool (decide (100000 < (lft L v [(E0 v, nxt L v.fr)])))) ∧ Bst w' base b6 B ∧ w.heap.size ≤ base ∧ B.isSome = (bst v none (rem L v [(E0 v, nxt L v.fr)])).isSome ∧ ((lft L v [(E0 v, nxt L v.fr)]) ≤ 100000 → B = (bst v none (rem L v [(E0 v, nxt L v.fr)]))) ∧ Kept (· = b6) w w' := by
  obtain ⟨FB, hFB⟩ : ∃ x, (bst v none (rem L v [(E0 v, nxt L v.fr)])) = x := ⟨_, rfl⟩
  obtain ⟨TOT, hTOT⟩ : ∃ x, (lft L v [(E0 v, nxt L v.fr)]) = x := ⟨_, rfl⟩
  rw [hFB, hTOT]
  obtain ⟨hf, ht, hft⟩ := hv.nodes
  obtain ⟨f0, hf0⟩ : ∃ k : Nat, v.fr = (k : Int) := ⟨v.fr.toNat, by omega⟩
  have hf8 : f0 < 8 := by omega
  have hTb : TOT ≤ 100000000000000000 := by rw [← hTOT]; exact tot_le (by omega)
  have k30 := k3
  have k60 := k6
  have E : Below w.heap.size w w := Below.refl _ _
  go_enter Try.func35, Try.ntmps35
  refine wq fun Q hQ => ?_
  refine st_new (fun b => .pointer (some ⟨b, 0, none⟩)) (some 4) rfl rfl (ex_box rfl rfl) ?_
  intro b21 W1 k21 g21 B
  simp only [zp]
  have ne_b21_g : b21 ≠ g := fun e => by have := lt_of kg; omega
  have ge_b21 := Nat.le_trans E.size g21
  replace E := below_next E B
  replace kg := keep B kg
  clear B
  refine sg (.bool false) 6 rfl rfl rfl rfl ?_
  simp only [zp]
  refine st_end ?_
  subst hQ
  refine wp_scope_straight ?_
  refine wp_seq ?_
  obtain ⟨W2, hwd⟩ : ∃ wd, W1.drew = wd := ⟨_, rfl⟩
  refine wp_region_held (S := fun W => Kept Nil W2 W) (by kernel_rfl) ?_
  show wpAnyH _ _ _ _ _ _ _ _ W1.drew
  rw [hwd]
  refine capQ fun Q hQ => ?_
  have hQP : ∀ c (a : Act) (d : Nat) v w, Q (.panic c) (a.put (some d) v) w → Q (.panic c) a w := by
    subst hQ
    exact fun _ _ _ _ _ h => h
  have BD : Below W1.heap.size W1 W2 := by rw [← hwd]; exact below_drewB (Below.refl _ _)
  clear hwd
  replace E := below_next E BD
  replace kg := keep BD kg
  replace k21 := keep BD k21
  clear BD
  have S : Kept Nil W2 W2 := Kept.refl _ _
  have d_kg := kg
  have d_k21 := k21
  refine ah_take (v := (.pointer (some ⟨g, 0, none⟩))) (i := 0) (some 18) rfl rfl (by kernel_rfl) (by kernel_rfl) (by kernel_rfl) rfl (fun W hK => ex_mv rfl rfl) S (fun c a w h => hQP c a _ _ w h) ?_
  simp only [zp]
  refine ah_take (v := (.pointer (some ⟨b21, 5, none⟩))) (i := 2) (some 20) rfl rfl (by kernel_rfl) (by kernel_rfl) (by kernel_rfl) rfl (fun W hK => ex_fa (p := (.pointer (some ⟨b21, 0, none⟩))) rfl rfl (fa32_5 _ _)) S (fun c a w h => hQP c a _ _ w h) ?_
  simp only [zp]
  refine ah_take (v := (.slice ao nw cw)) (i := 3) (some 21) rfl rfl (by kernel_rfl) (by kernel_rfl) (by kernel_rfl) rfl (fun W hK => ex_load (p := (.pointer (some ⟨b21, 5, none⟩))) rfl rfl (ld30 (at_cell (keepK hK d_k21 (nilN _)) rfl))) S (fun c a w h => hQP c a _ _ w h) ?_
  simp only [zp]
  refine cap2 fun ops SS hops hS => ?_
  suffices FIN : ∀ (A : Nat → Option Addr) (K0 : Nat → Nat) (r : Nat) (Sv : List Int) (bt7 : Nat) (Wq : World) (hSm : ∀ x, x ∈ Sv ↔ x ∈ v.av ∧ chanB x = true) (gd_bt7 : W2.heap.size ≤ bt7) (ge_bt7 : w.heap.size ≤ bt7) (E : Below w.heap.size w Wq) (kg : Wq.heap[g]? = some (.cells #[.slice (some ad) n c] 105)) (k21 : Wq.heap[b21]? = some (.cells (WL_ v ao nw cw) 32)) (S : Kept Nil W2 Wq) (hRo : Ros Wq L A K0 8) (hMp : Mp Wq r Sv) (kt7 : Wq.heap[bt7]? = some (.cells (rowL L A K0 8).toArray 113)), wpAnyH Try.prog .any ops Q SS 0 #[true, true, true, true, true, true, true, true] { tmps := #[(.pointer (some ⟨g, 0, none⟩)), (.agg (WL_ v ao nw cw)), (.func (.func 36) #[] #[(.pointer (some ⟨b3, 0, none⟩)), (.pointer (some ⟨b6, 0, none⟩))]), undef, (.pointer (some ⟨b21, 0, none⟩)), undef, (.bool false), (.pointer (some ⟨bt7, 0, none⟩)), (.map (some r)), undef, undef, undef, undef, undef, undef, undef, undef, undef, (.pointer (some ⟨g, 0, none⟩)), (.agg (rowL L A K0 8).toArray), (.pointer (some ⟨b21, 5, none⟩)), (.slice ao nw cw), (.map (some r)), undef, undef, undef, undef, undef, undef, undef, undef, undef, undef, undef, undef, undef, undef, undef, undef, undef, undef, undef, undef, undef, undef, undef, undef, undef, undef, undef, undef, undef, undef, undef, undef, undef, undef, undef, undef, undef, undef, undef, undef, undef, undef, undef, undef, undef, undef, undef, undef, undef, undef, undef, undef, undef, undef, undef, undef, undef, undef, undef, undef, undef, undef, undef, undef, undef, undef, undef, undef, undef, undef, undef, undef, undef, undef, undef, undef, undef, undef, undef, undef, undef, undef, undef, undef, undef, undef, undef, undef, undef, undef, undef, undef, undef, undef, undef, undef, undef, undef, undef, undef, undef], defers := [] } Wq by
    have ST1 : ∀ (A : Nat → Option Addr) (K0 : Nat → Nat) (r : Nat) (Sv : List Int) (bt7 : Nat) (Wq : World) (hSm : ∀ x, x ∈ Sv ↔ x ∈ v.av ∧ chanB x = true) (gd_bt7 : W2.heap.size ≤ bt7) (ge_bt7 : w.heap.size ≤ bt7) (E : Below w.heap.size w Wq) (kg : Wq.heap[g]? = some (.cells #[.slice (some ad) n c] 105)) (k21 : Wq.heap[b21]? = some (.cells (WL_ v ao nw cw) 32)) (S : Kept Nil W2 Wq) (hRo : Ros Wq L A K0 8) (hMp : Mp Wq r Sv) (kt7 : Wq.heap[bt7]? = some (.cells #[.slice none 0 0, .slice none 0 0, .slice none 0 0, .slice none 0 0, .slice none 0 0, .slice none 0 0, .slice none 0 0, .slice none 0 0] 113)), wpAnyH Try.prog .any ops Q SS 2 #[true, true, true, true, true, true, false, false] { tmps := #[(.pointer (some ⟨g, 0, none⟩)), (.agg (WL_ v ao nw cw)), (.func (.func 36) #[] #[(.pointer (some ⟨b3, 0, none⟩)), (.pointer (some ⟨b6, 0, none⟩))]), undef, (.pointer (some ⟨b21, 0, none⟩)), undef, (.bool false), (.pointer (some ⟨bt7, 0, none⟩)), undef, undef, undef, undef, undef, undef, undef, undef, undef, undef, (.pointer (some ⟨g, 0, none⟩)), (.agg (rowL L A K0 8).toArray), (.pointer (some ⟨b21, 5, none⟩)), (.slice ao nw cw), (.map (some r)), undef, undef, undef, undef, undef, undef, undef, undef, undef, undef, undef, undef, undef, undef, undef, undef, undef, undef, undef, undef, undef, undef, undef, undef, undef, undef, undef, undef, undef, undef, undef, undef, undef, undef, undef, undef, undef, undef, undef, undef, undef, undef, undef, undef, undef, undef, undef, undef, undef, undef, undef, undef, undef, undef, undef, undef, undef, undef, undef, undef, undef, undef, undef, undef, undef, undef, undef, undef, undef, undef, undef, undef, undef, undef, undef, undef, undef, undef, undef, undef, undef, undef, undef, undef, undef, undef, undef, undef, undef, undef, undef, undef, undef, undef, undef, undef, undef, undef, undef, undef, undef], defers := [] } Wq := by
      intro A K0 r Sv bt7 Wq hSm gd_bt7 ge_bt7 E kg k21 S hRo hMp kt7
      refine ops_in hops hS ?_
      refine ah_or1 (i := 6) (by kernel_rfl) ?_
      · skip
        obtain ⟨W11, hst, kn, K⟩ := put_all (D := (rowL L A K0 8).toArray) kt7 (((show (#[.slice none 0 0, .slice none 0 0, .slice none 0 0, .slice none 0 0, .slice none 0 0, .slice none 0 0, .slice none 0 0, .slice none 0 0] : Array Value).size = 8 from rfl)).trans ((rowL_size L A K0 8)).symm) (inf113.trans (congrArg some ((rowL_size L A K0 8)).symm)) (rowL_one L A K0 8)
        refine nx_sk rfl rfl rfl (ex_store rfl rfl rfl hst) (S.putN K gd_bt7) ?_
        replace E := below_put E ge_bt7 K
        replace kg := keepK K kg (fun e => ne_tag kg kt7 (by decide) e)
        replace k21 := keepK K k21 (fun e => ne_tag k21 kt7 (by decide) e)
        replace S := S.putN K gd_bt7
        replace hRo := hRo.keepT K kt7 (by decide)
        replace hMp := hMp.keepT K kt7
        replace kt7 := kn
        clear kn K hst
        refine ah_take (v := (.map (some r))) (i := 7) (some 8) rfl rfl (by kernel_rfl) (by kernel_rfl) (by kernel_rfl) rfl (fun W hK => ex_asg rfl rfl) S (fun c a w h => hQP c a _ _ w h) ?_
        simp only [zp]
        refine ah_L (L' := #[true, true, true, true, true, true, true, true]) (by kernel_rfl) ?_
        refine ops_out hops hS ?_
        exact FIN A K0 r Sv bt7 W11 hSm gd_bt7 ge_bt7 E kg k21 S hRo hMp kt7
    have ST2 : ∀ (A : Nat → Option Addr) (K0 : Nat → Nat) (r : Nat) (Sv : List Int) (Wq : World) (hSm : ∀ x, x ∈ Sv ↔ x ∈ v.av ∧ chanB x = true) (E : Below w.heap.size w Wq) (kg : Wq.heap[g]? = some (.cells #[.slice (some ad) n c] 105)) (k21 : Wq.heap[b21]? = some (.cells (WL_ v ao nw cw) 32)) (S : Kept Nil W2 Wq) (hRo : Ros Wq L A K0 8) (hMp : Mp Wq r Sv), wpAnyH Try.prog .any ops Q SS 3 #[true, true, true, true, true, false, false, false] { tmps := #[(.pointer (some ⟨g, 0, none⟩)), (.agg (WL_ v ao nw cw)), (.func (.func 36) #[] #[(.pointer (some ⟨b3, 0, none⟩)), (.pointer (some ⟨b6, 0, none⟩))]), undef, (.pointer (some ⟨b21, 0, none⟩)), undef, (.bool false), undef, undef, undef, undef, undef, undef, undef, undef, undef, undef, undef, (.pointer (some ⟨g, 0, none⟩)), (.agg (rowL L A K0 8).toArray), (.pointer (some ⟨b21, 5, none⟩)), (.slice ao nw cw), (.map (some r)), undef, undef, undef, undef, undef, undef, undef, undef, undef, undef, undef, undef, undef, undef, undef, undef, undef, undef, undef, undef, undef, undef, undef, undef, undef, undef, undef, undef, undef, undef, undef, undef, undef, undef, undef, undef, undef, undef, undef, undef, undef, undef, undef, undef, undef, undef, undef, undef, undef, undef, undef, undef, undef, undef, undef, undef, undef, undef, undef, undef, undef, undef, undef, undef, undef, undef, undef, undef, undef, undef, undef, undef, undef, undef, undef, undef, undef, undef, undef, undef, undef, undef, undef, undef, undef, undef, undef, undef, undef, undef, undef, undef, undef, undef, undef, undef, undef, undef, undef, undef, undef], defers := [] } Wq := by
      intro A K0 r Sv Wq hSm E kg k21 S hRo hMp
      refine ops_in hops hS ?_
      refine ah_or1 (i := 5) (by kernel_rfl) ?_
      · skip
        refine nx_new (fun b => .pointer (some ⟨b, 0, none⟩)) (some 7) rfl rfl rfl (ex_alloc rfl zero113) ?_
        intro bt7 W12 kt7 gt7 B
        refine ⟨S.next B, ?_⟩
        simp only [zp]
        have gd_bt7 := Nat.le_trans S.size gt7
        have ge_bt7 := Nat.le_trans E.size gt7
        replace E := below_next E B
        replace kg := keep B kg
        replace k21 := keep B k21
        replace S := S.next B
        replace hRo := hRo.keepB B
        replace hMp := hMp.keep B
        clear B
        refine ah_L (L' := #[true, true, true, true, true, true, false, false]) (by kernel_rfl) ?_
        refine ops_out hops hS ?_
        exact ST1 A K0 r Sv bt7 W12 hSm gd_bt7 ge_bt7 E kg k21 S hRo hMp kt7
    have ST3 : ∀ (A : Nat → Option Addr) (K0 : Nat → Nat) (bt7 : Nat) (Wq : World) (gd_bt7 : W2.heap.size ≤ bt7) (ge_bt7 : w.heap.size ≤ bt7) (E : Below w.heap.size w Wq) (kg : Wq.heap[g]? = some (.cells #[.slice (some ad) n c] 105)) (k21 : Wq.heap[b21]? = some (.cells (WL_ v ao nw cw) 32)) (S : Kept Nil W2 Wq) (hRo : Ros Wq L A K0 8) (kt7 : Wq.heap[bt7]? = some (.cells #[.slice none 0 0, .slice none 0 0, .slice none 0 0, .slice none 0 0, .slice none 0 0, .slice none 0 0, .slice none 0 0, .slice none 0 0] 113)), wpAnyH Try.prog .any ops Q SS 3 #[true, true, true, true, false, true, false, false] { tmps := #[(.pointer (some ⟨g, 0, none⟩)), (.agg (WL_ v ao nw cw)), (.func (.func 36) #[] #[(.pointer (some ⟨b3, 0, none⟩)), (.pointer (some ⟨b6, 0, none⟩))]), undef, (.pointer (some ⟨b21, 0, none⟩)), undef, (.bool false), (.pointer (some ⟨bt7, 0, none⟩)), undef, undef, undef, undef, undef, undef, undef, undef, undef, undef, (.pointer (some ⟨g, 0, none⟩)), (.agg (rowL L A K0 8).toArray), (.pointer (some ⟨b21, 5, none⟩)), (.slice ao nw cw), undef, undef, undef, undef, undef, undef, undef, undef, undef, undef, undef, undef, undef, undef, undef, undef, undef, undef, undef, undef, undef, undef, undef, undef, undef, undef, undef, undef, undef, undef, undef, undef, undef, undef, undef, undef, undef, undef, undef, undef, undef, undef, undef, undef, undef, undef, undef, undef, undef, undef, undef, undef, undef, undef, undef, undef, undef, undef, undef, undef, undef, undef, undef, undef, undef, undef, undef, undef, undef, undef, undef, undef, undef, undef, undef, undef, undef, undef, undef, undef, undef, undef, undef, undef, undef, undef, undef, undef, undef, undef, undef, undef, undef, undef, undef, undef, undef, undef, undef, undef, undef, undef], defers := [] } Wq := by
      intro A K0 bt7 Wq gd_bt7 ge_bt7 E kg k21 S hRo kt7
      refine ops_in hops hS ?_
      refine ah_or1 (i := 4) (by kernel_rfl) ?_
      · skip
        refine nx_call (some 22) rfl rfl rfl (channels_any Wq (hA.keep E) hnw hnw2) (ex_call (f := 75) (vs := [(.slice ao nw cw)]) rfl (cf75 _) rfl) ?_
        rintro e W13 ⟨r, Sv, rfl, hMp, hSm, B⟩
        refine ⟨_, rfl, S.next B, ?_⟩
        simp only [zp]
        replace E := below_next E B
        replace kg := keep B kg
        replace k21 := keep B k21
        replace S := S.next B
        replace hRo := hRo.keepB B
        replace kt7 := keep B kt7
        refine ah_L (L' := #[true, true, true, true, true, true, false, false]) (by kernel_rfl) ?_
        refine ops_out hops hS ?_
        exact ST1 A K0 r Sv bt7 W13 hSm gd_bt7 ge_bt7 E kg k21 S hRo hMp kt7
    have ST4 : ∀ (A : Nat → Option Addr) (K0 : Nat → Nat) (Wq : World) (E : Below w.heap.size w Wq) (kg : Wq.heap[g]? = some (.cells #[.slice (some ad) n c] 105)) (k21 : Wq.heap[b21]? = some (.cells (WL_ v ao nw cw) 32)) (S : Kept Nil W2 Wq) (hRo : Ros Wq L A K0 8), wpAnyH Try.prog .any ops Q SS 4 #[true, true, true, true, false, false, false, false] { tmps := #[(.pointer (some ⟨g, 0, none⟩)), (.agg (WL_ v ao nw cw)), (.func (.func 36) #[] #[(.pointer (some ⟨b3, 0, none⟩)), (.pointer (some ⟨b6, 0, none⟩))]), undef, (.pointer (some ⟨b21, 0, none⟩)), undef, (.bool false), undef, undef, undef, undef, undef, undef, undef, undef, undef, undef, undef, (.pointer (some ⟨g, 0, none⟩)), (.agg (rowL L A K0 8).toArray), (.pointer (some ⟨b21, 5, none⟩)), (.slice ao nw cw), undef, undef, undef, undef, undef, undef, undef, undef, undef, undef, undef, undef, undef, undef, undef, undef, undef, undef, undef, undef, undef, undef, undef, undef, undef, undef, undef, undef, undef, undef, undef, undef, undef, undef, undef, undef, undef, undef, undef, undef, undef, undef, undef, undef, undef, undef, undef, undef, undef, undef, undef, undef, undef, undef, undef, undef, undef, undef, undef, undef, undef, undef, undef, undef, undef, undef, undef, undef, undef, undef, undef, undef, undef, undef, undef, undef, undef, undef, undef, undef, undef, undef, undef, undef, undef, undef, undef, undef, undef, undef, undef, undef, undef, undef, undef, undef, undef, undef, undef, undef, undef, undef], defers := [] } Wq := by
      intro A K0 Wq E kg k21 S hRo
      refine ops_in hops hS ?_
      refine ah_or2 (i := 4) (j := 5) (by kernel_rfl) ?_ ?_
      · skip
        refine nx_call (some 22) rfl rfl rfl (channels_any Wq (hA.keep E) hnw hnw2) (ex_call (f := 75) (vs := [(.slice ao nw cw)]) rfl (cf75 _) rfl) ?_
        rintro e W14 ⟨r, Sv, rfl, hMp, hSm, B⟩
        refine ⟨_, rfl, S.next B, ?_⟩
        simp only [zp]
        replace E := below_next E B
        replace kg := keep B kg
        replace k21 := keep B k21
        replace S := S.next B
        replace hRo := hRo.keepB B
        refine ah_L (L' := #[true, true, true, true, true, false, false, false]) (by kernel_rfl) ?_
        refine ops_out hops hS ?_
        exact ST2 A K0 r Sv W14 hSm E kg k21 S hRo hMp
      · skip
        refine nx_new (fun b => .pointer (some ⟨b, 0, none⟩)) (some 7) rfl rfl rfl (ex_alloc rfl zero113) ?_
        intro bt7 W15 kt7 gt7 B
        refine ⟨S.next B, ?_⟩
        simp only [zp]
        have gd_bt7 := Nat.le_trans S.size gt7
        have ge_bt7 := Nat.le_trans E.size gt7
        replace E := below_next E B
        replace kg := keep B kg
        replace k21 := keep B k21
        replace S := S.next B
        replace hRo := hRo.keepB B
        clear B
        refine ah_L (L' := #[true, true, true, true, false, true, false, false]) (by kernel_rfl) ?_
        refine ops_out hops hS ?_
        exact ST3 A K0 bt7 W15 gd_bt7 ge_bt7 E kg k21 S hRo kt7
    have ST5 : ∀ (bt7 : Nat) (Wq : World) (gd_bt7 : W2.heap.size ≤ bt7) (ge_bt7 : w.heap.size ≤ bt7) (E : Below w.heap.size w Wq) (kg : Wq.heap[g]? = some (.cells #[.slice (some ad) n c] 105)) (k21 : Wq.heap[b21]? = some (.cells (WL_ v ao nw cw) 32)) (S : Kept Nil W2 Wq) (kt7 : Wq.heap[bt7]? = some (.cells #[.slice none 0 0, .slice none 0 0, .slice none 0 0, .slice none 0 0, .slice none 0 0, .slice none 0 0, .slice none 0 0, .slice none 0 0] 113)), wpAnyH Try.prog .any ops Q SS 4 #[true, false, true, true, false, true, false, false] { tmps := #[(.pointer (some ⟨g, 0, none⟩)), (.agg (WL_ v ao nw cw)), (.func (.func 36) #[] #[(.pointer (some ⟨b3, 0, none⟩)), (.pointer (some ⟨b6, 0, none⟩))]), undef, (.pointer (some ⟨b21, 0, none⟩)), undef, (.bool false), (.pointer (some ⟨bt7, 0, none⟩)), undef, undef, undef, undef, undef, undef, undef, undef, undef, undef, (.pointer (some ⟨g, 0, none⟩)), undef, (.pointer (some ⟨b21, 5, none⟩)), (.slice ao nw cw), undef, undef, undef, undef, undef, undef, undef, undef, undef, undef, undef, undef, undef, undef, undef, undef, undef, undef, undef, undef, undef, undef, undef, undef, undef, undef, undef, undef, undef, undef, undef, undef, undef, undef, undef, undef, undef, undef, undef, undef, undef, undef, undef, undef, undef, undef, undef, undef, undef, undef, undef, undef, undef, undef, undef, undef, undef, undef, undef, undef, undef, undef, undef, undef, undef, undef, undef, undef, undef, undef, undef, undef, undef, undef, undef, undef, undef, undef, undef, undef, undef, undef, undef, undef, undef, undef, undef, undef, undef, undef, undef, undef, undef, undef, undef, undef, undef, undef, undef, undef, undef, undef], defers := [] } Wq := by
      intro bt7 Wq gd_bt7 ge_bt7 E kg k21 S kt7
      refine ops_in hops hS ?_
      refine ah_or1 (i := 1) (by kernel_rfl) ?_
      · skip
        refine nx_call (some 19) rfl rfl rfl (byFrom_any Wq kg (hL.keep E hN) (Nat.le_trans hN E.size) hn hn2) (ex_call (f := 74) (vs := [(.pointer (some ⟨g, 0, none⟩))]) rfl (cf74 _) rfl) ?_
        rintro e W16 ⟨A, K0, rfl, hRo, B⟩
        refine ⟨_, rfl, S.next B, ?_⟩
        simp only [zp]
        replace E := below_next E B
        replace kg := keep B kg
        replace k21 := keep B k21
        replace S := S.next B
        replace kt7 := keep B kt7
        refine ah_L (L' := #[true, true, true, true, false, true, false, false]) (by kernel_rfl) ?_
        refine ops_out hops hS ?_
        exact ST3 A K0 bt7 W16 gd_bt7 ge_bt7 E kg k21 S hRo kt7
    refine ops_in hops hS ?_
    refine ah_or2 (i := 1) (j := 5) (by kernel_rfl) ?_ ?_
    · skip
      refine nx_call (some 19) rfl rfl rfl (byFrom_any W2 kg (hL.keep E hN) (Nat.le_trans hN E.size) hn hn2) (ex_call (f := 74) (vs := [(.pointer (some ⟨g, 0, none⟩))]) rfl (cf74 _) rfl) ?_
      rintro e W17 ⟨A, K0, rfl, hRo, B⟩
      refine ⟨_, rfl, S.next B, ?_⟩
      simp only [zp]
      replace E := below_next E B
      replace kg := keep B kg
      replace k21 := keep B k21
      replace S := S.next B
      refine ah_L (L' := #[true, true, true, true, false, false, false, false]) (by kernel_rfl) ?_
      refine ops_out hops hS ?_
      exact ST4 A K0 W17 E kg k21 S hRo
    · skip
      refine nx_new (fun b => .pointer (some ⟨b, 0, none⟩)) (some 7) rfl rfl rfl (ex_alloc rfl zero113) ?_
      intro bt7 W18 kt7 gt7 B
      refine ⟨S.next B, ?_⟩
      simp only [zp]
      have gd_bt7 := Nat.le_trans S.size gt7
      have ge_bt7 := Nat.le_trans E.size gt7
      replace E := below_next E B
      replace kg := keep B kg
      replace k21 := keep B k21
      replace S := S.next B
      clear B
      refine ah_L (L' := #[true, false, true, true, false, true, false, false]) (by kernel_rfl) ?_
      refine ops_out hops hS ?_
      exact ST5 bt7 W18 gd_bt7 ge_bt7 E kg k21 S kt7
  intro A K0 r Sv bt7 Wq hSm gd_bt7 ge_bt7 E kg k21 S hRo hMp kt7
  try dsimp only
  refine ops_in hops hS ?_
  refine ah_done (by kernel_rfl) ?_
  clear hQP hops hS
  subst hQ
  clear S d_kg d_k21 
  refine wp_seq ?_
  obtain ⟨N7, hN7⟩ : ∃ q, Wq.heap.size = q := ⟨_, rfl⟩
  have hro : ∀ j : Nat, j < 8 → Es Wq N7 (A j) (nxt L j) := fun j hj => by have := (hRo j hj).2; rw [hN7] at this; exact this
  have hlk : ∀ j : Nat, j < 8 → (nxt L j).length ≤ K0 j := fun j hj => (hRo j hj).1
  have hN7s : N7 ≤ Wq.heap.size := Nat.le_of_eq hN7.symm
  clear hRo hN7
  refine wl_in (wl_cap fun Q hQ => ?_)
  refine st_new (fun b => .pointer (some ⟨b, 0, none⟩)) (some 9) rfl rfl (ex_alloc rfl zero117) ?_
  intro b22 W19 k22 g22 B
  simp only [zp]
  have n7_b22 := Nat.le_trans hN7s g22
  have ne_b22_g : b22 ≠ g := fun e => by have := lt_of kg; omega
  have ne_b22_b21 : b22 ≠ b21 := fun e => by have := lt_of k21; omega
  have ne_b22_bt7 : b22 ≠ bt7 := fun e => by have := lt_of kt7; omega
  have ge_b22 := Nat.le_trans E.size g22
  replace E := below_next E B
  replace kg := keep B kg
  replace k21 := keep B k21
  replace hMp := hMp.keep B
  replace kt7 := keep B kt7
  replace hro := fun j hj => (hro j hj).keepB B
  replace hN7s := Nat.le_trans hN7s (B).size
  clear B
  refine st_end ?_
  subst hQ
  refine wp_seq ?_
  replace k22 : W19.heap[b22]? = some (.cells (goA []).toArray 117) := k22
  refine wl_in (wl_cap fun Q hQ => ?_)
  refine sv (.pointer (some ⟨b21, 0, none⟩)) 23 rfl rfl (ex_fa (p := (.pointer (some ⟨b21, 0, none⟩))) rfl rfl (fa32_0 _ _)) ?_
  simp only [zp]
  refine sv (.int .i64 v.fr) 24 rfl rfl (ex_load (p := (.pointer (some ⟨b21, 0, none⟩))) rfl rfl (ld3 (at_cell k21 rfl))) ?_
  simp only [zp]
  refine sv (.pointer (some ⟨b22, f0, none⟩)) 25 rfl rfl (ixB rfl rfl rfl hf0 hf8) ?_
  simp only [zp]
  obtain ⟨kn, K⟩ := put_cell (i := f0) (.bool true) k22
  refine st_sk rfl rfl (ex_store rfl rfl rfl (sto4 (at_cell k22 (goA_at [] f0 hf8)) (unfrozen k22))) ?_
  obtain ⟨W20, hW2⟩ : ∃ W', W19.setCell ⟨b22, f0, none⟩ (.bool true) = W' := ⟨_, rfl⟩
  rw [hW2] at kn K ⊢
  rw [List.setIfInBounds_toArray, goA_put [] f0 hf8] at kn
  replace E := below_put E ge_b22 K
  replace kg := keepK K kg (fun e => ne_tag kg k22 (by decide) e)
  replace k21 := keepK K k21 (fun e => ne_tag k21 k22 (by decide) e)
  replace hMp := hMp.keepT K k22
  replace kt7 := keepK K kt7 (fun e => ne_tag kt7 k22 (by decide) e)
  replace hro := fun j hj => (hro j hj).keepT K k22 (by decide)
  replace hN7s := Nat.le_trans hN7s K.size
  replace k22 := kn
  clear kn K
  refine st_end ?_
  subst hQ
  refine wp_seq ?_
  obtain ⟨W21, hwd⟩ : ∃ wd, W20.drew = wd := ⟨_, rfl⟩
  refine wp_region_held (S := fun W => Kept Nil W21 W) (by kernel_rfl) ?_
  show wpAnyH _ _ _ _ _ _ _ _ W20.drew
  rw [hwd]
  refine capQ fun Q hQ => ?_
  have hQP : ∀ c (a : Act) (d : Nat) v w, Q (.panic c) (a.put (some d) v) w → Q (.panic c) a w := by
    subst hQ
    exact fun _ _ _ _ _ h => h
  have BD : Below W20.heap.size W20 W21 := by rw [← hwd]; exact below_drewB (Below.refl _ _)
  clear hwd
  replace E := below_next E BD
  replace kg := keep BD kg
  replace k21 := keep BD k21
  replace hMp := hMp.keep BD
  replace kt7 := keep BD kt7
  replace hro := fun j hj => (hro j hj).keepB BD
  replace hN7s := Nat.le_trans hN7s (BD).size
  replace k22 := keep BD k22
  clear BD
  have S : Kept Nil W21 W21 := Kept.refl _ _
  have d_kg := kg
  have d_k21 := k21
  have d_kt7 := kt7
  have d_k22 := k22
  have d_hMp := hMp
  have d_hro := hro
  have d_hN7s := hN7s
  refine ah_take (v := (.pointer (some ⟨b21, 0, none⟩))) (i := 1) (some 27) rfl rfl (by kernel_rfl) (by kernel_rfl) (by kernel_rfl) rfl (fun W hK => ex_fa (p := (.pointer (some ⟨b21, 0, none⟩))) rfl rfl (fa32_0 _ _)) S (fun c a w h => hQP c a _ _ w h) ?_
  simp only [zp]
  refine ah_take (v := (.int .i64 v.fr)) (i := 2) (some 28) rfl rfl (by kernel_rfl) (by kernel_rfl) (by kernel_rfl) rfl (fun W hK => ex_load (p := (.pointer (some ⟨b21, 0, none⟩))) rfl rfl (ld3 (at_cell (keepK hK d_k21 (nilN _)) rfl))) S (fun c a w h => hQP c a _ _ w h) ?_
  simp only [zp]
  refine ah_take (v := (.agg (EL (E0 v)))) (i := 3) (some 29) rfl rfl (by kernel_rfl) (by kernel_rfl) (by kernel_rfl) rfl (fun W hK => ex_build1 (v1 := (.int .i64 v.fr)) rfl rfl (bE0 v _)) S (fun c a w h => hQP c a _ _ w h) ?_
  simp only [zp]
  refine cap2 fun ops SS hops hS => ?_
  suffices FIN : ∀ (bt26 : Nat) (bt30 : Nat) (Wq : World) (gd_bt26 : W21.heap.size ≤ bt26) (ge_bt26 : w.heap.size ≤ bt26) (n7_bt26 : N7 ≤ bt26) (gd_bt30 : W21.heap.size ≤ bt30) (ge_bt30 : w.heap.size ≤ bt30) (n7_bt30 : N7 ≤ bt30) (ne_bt26_bt30 : bt26 ≠ bt30) (ne_bt30_bt26 : bt30 ≠ bt26) (E : Below w.heap.size w Wq) (kg : Wq.heap[g]? = some (.cells #[.slice (some ad) n c] 105)) (k21 : Wq.heap[b21]? = some (.cells (WL_ v ao nw cw) 32)) (hMp : Mp Wq r Sv) (kt7 : Wq.heap[bt7]? = some (.cells (rowL L A K0 8).toArray 113)) (hro : ∀ j : Nat, j < 8 → Es Wq N7 (A j) (nxt L j)) (hN7s : N7 ≤ Wq.heap.size) (k22 : Wq.heap[b22]? = some (.cells (goA ((f0 : Int) :: [])).toArray 117)) (S : Kept Nil W21 Wq) (kt30 : Wq.heap[bt30]? = some (.cells (EL (E0 v)) 49)) (hWy : Wy Wq bt26 [E0 v]), wpAnyH Try.prog .any ops Q SS 0 #[true, true, true, true, true, true, true] { tmps := #[(.pointer (some ⟨g, 0, none⟩)), (.agg (WL_ v ao nw cw)), (.func (.func 36) #[] #[(.pointer (some ⟨b3, 0, none⟩)), (.pointer (some ⟨b6, 0, none⟩))]), undef, (.pointer (some ⟨b21, 0, none⟩)), undef, (.bool false), (.pointer (some ⟨bt7, 0, none⟩)), (.map (some r)), (.pointer (some ⟨b22, 0, none⟩)), (.slice (some ⟨bt26, 0, none⟩) 1 9), undef, undef, undef, undef, undef, undef, undef, (.pointer (some ⟨g, 0, none⟩)), (.agg (rowL L A K0 8).toArray), (.pointer (some ⟨b21, 5, none⟩)), (.slice ao nw cw), (.map (some r)), (.pointer (some ⟨b21, 0, none⟩)), (.int .i64 v.fr), (.pointer (some ⟨b22, f0, none⟩)), (.slice (some ⟨bt26, 0, none⟩) 0 9), (.pointer (some ⟨b21, 0, none⟩)), (.int .i64 v.fr), (.agg (EL (E0 v))), (.slice (some ⟨bt30, 0, none⟩) 1 1), (.slice (some ⟨bt26, 0, none⟩) 1 9), undef, undef, undef, undef, undef, undef, undef, undef, undef, undef, undef, undef, undef, undef, undef, undef, undef, undef, undef, undef, undef, undef, undef, undef, undef, undef, undef, undef, undef, undef, undef, undef, undef, undef, undef, undef, undef, undef, undef, undef, undef, undef, undef, undef, undef, undef, undef, undef, undef, undef, undef, undef, undef, undef, undef, undef, undef, undef, undef, undef, undef, undef, undef, undef, undef, undef, undef, undef, undef, undef, undef, undef, undef, undef, undef, undef, undef, undef, undef, undef, undef, undef, undef, undef, undef, undef, undef, undef, undef, undef, undef, undef], defers := [] } Wq by
    have ST1 : ∀ (bt26 : Nat) (bt30 : Nat) (Wq : World) (gd_bt26 : W21.heap.size ≤ bt26) (ge_bt26 : w.heap.size ≤ bt26) (n7_bt26 : N7 ≤ bt26) (gd_bt30 : W21.heap.size ≤ bt30) (ge_bt30 : w.heap.size ≤ bt30) (n7_bt30 : N7 ≤ bt30) (ne_bt26_bt30 : bt26 ≠ bt30) (ne_bt30_bt26 : bt30 ≠ bt26) (E : Below w.heap.size w Wq) (kg : Wq.heap[g]? = some (.cells #[.slice (some ad) n c] 105)) (k21 : Wq.heap[b21]? = some (.cells (WL_ v ao nw cw) 32)) (hMp : Mp Wq r Sv) (kt7 : Wq.heap[bt7]? = some (.cells (rowL L A K0 8).toArray 113)) (hro : ∀ j : Nat, j < 8 → Es Wq N7 (A j) (nxt L j)) (hN7s : N7 ≤ Wq.heap.size) (k22 : Wq.heap[b22]? = some (.cells (goA ((f0 : Int) :: [])).toArray 117)) (S : Kept Nil W21 Wq) (kt26 : Wq.heap[bt26]? = some (.cells (List.replicate 117 (Value.int .i64 0)).toArray 49)) (kt30 : Wq.heap[bt30]? = some (.cells (EL (E0 v)) 49)), wpAnyH Try.prog .any ops Q SS 2 #[true, true, true, true, true, false, false] { tmps := #[(.pointer (some ⟨g, 0, none⟩)), (.agg (WL_ v ao nw cw)), (.func (.func 36) #[] #[(.pointer (some ⟨b3, 0, none⟩)), (.pointer (some ⟨b6, 0, none⟩))]), undef, (.pointer (some ⟨b21, 0, none⟩)), undef, (.bool false), (.pointer (some ⟨bt7, 0, none⟩)), (.map (some r)), (.pointer (some ⟨b22, 0, none⟩)), undef, undef, undef, undef, undef, undef, undef, undef, (.pointer (some ⟨g, 0, none⟩)), (.agg (rowL L A K0 8).toArray), (.pointer (some ⟨b21, 5, none⟩)), (.slice ao nw cw), (.map (some r)), (.pointer (some ⟨b21, 0, none⟩)), (.int .i64 v.fr), (.pointer (some ⟨b22, f0, none⟩)), (.slice (some ⟨bt26, 0, none⟩) 0 9), (.pointer (some ⟨b21, 0, none⟩)), (.int .i64 v.fr), (.agg (EL (E0 v))), (.slice (some ⟨bt30, 0, none⟩) 1 1), undef, undef, undef, undef, undef, undef, undef, undef, undef, undef, undef, undef, undef, undef, undef, undef, undef, undef, undef, undef, undef, undef, undef, undef, undef, undef, undef, undef, undef, undef, undef, undef, undef, undef, undef, undef, undef, undef, undef, undef, undef, undef, undef, undef, undef, undef, undef, undef, undef, undef, undef, undef, undef, undef, undef, undef, undef, undef, undef, undef, undef, undef, undef, undef, undef, undef, undef, undef, undef, undef, undef, undef, undef, undef, undef, undef, undef, undef, undef, undef, undef, undef, undef, undef, undef, undef, undef, undef, undef, undef, undef, undef, undef], defers := [] } Wq := by
      intro bt26 bt30 Wq gd_bt26 ge_bt26 n7_bt26 gd_bt30 ge_bt30 n7_bt30 ne_bt26_bt30 ne_bt30_bt26 E kg k21 hMp kt7 hro hN7s k22 S kt26 kt30
      refine ops_in hops hS ?_
      refine ah_or1 (i := 5) (by kernel_rfl) ?_
      · skip
        obtain ⟨W27, hr2, hWy, hK2⟩ := Wy.add (e := E0 v) (show Wy Wq bt26 [] from ⟨_, kt26, by kernel_rfl, by decide, rfl⟩) (by decide) (show Wq.rangeAt bt30 0 (EL (E0 v)).toList from at_range (o := 0) (n := 13) kt30 (by show 0 + 13 ≤ _; simp [EL]))
        replace E := below_put E ge_bt26 hK2
        replace kg := keepK hK2 kg (fun e => ne_tag kg kt26 (by decide) e)
        replace k21 := keepK hK2 k21 (fun e => ne_tag k21 kt26 (by decide) e)
        replace hMp := hMp.keepT hK2 kt26
        replace kt7 := keepK hK2 kt7 (fun e => ne_tag kt7 kt26 (by decide) e)
        replace hro := fun j hj => (hro j hj).keepK hK2 (fun k hk => by omega)
        replace hN7s := Nat.le_trans hN7s hK2.size
        replace k22 := keepK hK2 k22 (fun e => ne_tag k22 kt26 (by decide) e)
        replace S := S.putN hK2 gd_bt26
        replace kt30 := keepK hK2 kt30 (fun e => by first | exact ne_bt30_bt26 e | exact ne_bt26_bt30 e.symm)
        refine nx_to (v := (.slice (some ⟨bt26, 0, none⟩) 1 9)) (some 31) rfl rfl rfl (ex_app rfl rfl rfl hr2) S ?_
        simp only [zp]
        clear hr2 hK2
        refine ah_take (v := (.slice (some ⟨bt26, 0, none⟩) 1 9)) (i := 6) (some 10) rfl rfl (by kernel_rfl) (by kernel_rfl) (by kernel_rfl) rfl (fun W hK => ex_asg rfl rfl) S (fun c a w h => hQP c a _ _ w h) ?_
        simp only [zp]
        refine ah_L (L' := #[true, true, true, true, true, true, true]) (by kernel_rfl) ?_
        refine ops_out hops hS ?_
        exact FIN bt26 bt30 W27 gd_bt26 ge_bt26 n7_bt26 gd_bt30 ge_bt30 n7_bt30 ne_bt26_bt30 ne_bt30_bt26 E kg k21 hMp kt7 hro hN7s k22 S kt30 hWy
    have ST2 : ∀ (bt26 : Nat) (Wq : World) (gd_bt26 : W21.heap.size ≤ bt26) (ge_bt26 : w.heap.size ≤ bt26) (n7_bt26 : N7 ≤ bt26) (E : Below w.heap.size w Wq) (kg : Wq.heap[g]? = some (.cells #[.slice (some ad) n c] 105)) (k21 : Wq.heap[b21]? = some (.cells (WL_ v ao nw cw) 32)) (hMp : Mp Wq r Sv) (kt7 : Wq.heap[bt7]? = some (.cells (rowL L A K0 8).toArray 113)) (hro : ∀ j : Nat, j < 8 → Es Wq N7 (A j) (nxt L j)) (hN7s : N7 ≤ Wq.heap.size) (k22 : Wq.heap[b22]? = some (.cells (goA ((f0 : Int) :: [])).toArray 117)) (S : Kept Nil W21 Wq) (kt26 : Wq.heap[bt26]? = some (.cells (List.replicate 117 (Value.int .i64 0)).toArray 49)), wpAnyH Try.prog .any ops Q SS 3 #[true, true, true, true, false, false, false] { tmps := #[(.pointer (some ⟨g, 0, none⟩)), (.agg (WL_ v ao nw cw)), (.func (.func 36) #[] #[(.pointer (some ⟨b3, 0, none⟩)), (.pointer (some ⟨b6, 0, none⟩))]), undef, (.pointer (some ⟨b21, 0, none⟩)), undef, (.bool false), (.pointer (some ⟨bt7, 0, none⟩)), (.map (some r)), (.pointer (some ⟨b22, 0, none⟩)), undef, undef, undef, undef, undef, undef, undef, undef, (.pointer (some ⟨g, 0, none⟩)), (.agg (rowL L A K0 8).toArray), (.pointer (some ⟨b21, 5, none⟩)), (.slice ao nw cw), (.map (some r)), (.pointer (some ⟨b21, 0, none⟩)), (.int .i64 v.fr), (.pointer (some ⟨b22, f0, none⟩)), (.slice (some ⟨bt26, 0, none⟩) 0 9), (.pointer (some ⟨b21, 0, none⟩)), (.int .i64 v.fr), (.agg (EL (E0 v))), undef, undef, undef, undef, undef, undef, undef, undef, undef, undef, undef, undef, undef, undef, undef, undef, undef, undef, undef, undef, undef, undef, undef, undef, undef, undef, undef, undef, undef, undef, undef, undef, undef, undef, undef, undef, undef, undef, undef, undef, undef, undef, undef, undef, undef, undef, undef, undef, undef, undef, undef, undef, undef, undef, undef, undef, undef, undef, undef, undef, undef, undef, undef, undef, undef, undef, undef, undef, undef, undef, undef, undef, undef, undef, undef, undef, undef, undef, undef, undef, undef, undef, undef, undef, undef, undef, undef, undef, undef, undef, undef, undef, undef, undef], defers := [] } Wq := by
      intro bt26 Wq gd_bt26 ge_bt26 n7_bt26 E kg k21 hMp kt7 hro hN7s k22 S kt26
      refine ops_in hops hS ?_
      refine ah_or1 (i := 4) (by kernel_rfl) ?_
      · skip
        refine nx_new (fun b => .slice (some ⟨b, 0, none⟩) 1 1) (some 30) rfl rfl rfl (ex_bsl1 (u := (.agg (EL (E0 v)))) rfl rfl (bslE (E0 v) _)) ?_
        intro bt30 W28 kt30 gt30 B
        refine ⟨S.next B, ?_⟩
        simp only [zp]
        have gd_bt30 := Nat.le_trans S.size gt30
        have n7_bt30 := Nat.le_trans hN7s gt30
        have ne_bt30_bt26 : bt30 ≠ bt26 := fun e => by have := lt_of kt26; omega
        have ne_bt26_bt30 := ne_bt30_bt26.symm
        have ge_bt30 := Nat.le_trans E.size gt30
        replace E := below_next E B
        replace kg := keep B kg
        replace k21 := keep B k21
        replace hMp := hMp.keep B
        replace kt7 := keep B kt7
        replace hro := fun j hj => (hro j hj).keepB B
        replace hN7s := Nat.le_trans hN7s (B).size
        replace k22 := keep B k22
        replace S := S.next B
        replace kt26 := keep B kt26
        clear B
        refine ah_L (L' := #[true, true, true, true, true, false, false]) (by kernel_rfl) ?_
        refine ops_out hops hS ?_
        exact ST1 bt26 bt30 W28 gd_bt26 ge_bt26 n7_bt26 gd_bt30 ge_bt30 n7_bt30 ne_bt26_bt30 ne_bt30_bt26 E kg k21 hMp kt7 hro hN7s k22 S kt26 kt30
    have ST3 : ∀ (bt30 : Nat) (Wq : World) (gd_bt30 : W21.heap.size ≤ bt30) (ge_bt30 : w.heap.size ≤ bt30) (n7_bt30 : N7 ≤ bt30) (E : Below w.heap.size w Wq) (kg : Wq.heap[g]? = some (.cells #[.slice (some ad) n c] 105)) (k21 : Wq.heap[b21]? = some (.cells (WL_ v ao nw cw) 32)) (hMp : Mp Wq r Sv) (kt7 : Wq.heap[bt7]? = some (.cells (rowL L A K0 8).toArray 113)) (hro : ∀ j : Nat, j < 8 → Es Wq N7 (A j) (nxt L j)) (hN7s : N7 ≤ Wq.heap.size) (k22 : Wq.heap[b22]? = some (.cells (goA ((f0 : Int) :: [])).toArray 117)) (S : Kept Nil W21 Wq) (kt30 : Wq.heap[bt30]? = some (.cells (EL (E0 v)) 49)), wpAnyH Try.prog .any ops Q SS 3 #[false, true, true, true, true, false, false] { tmps := #[(.pointer (some ⟨g, 0, none⟩)), (.agg (WL_ v ao nw cw)), (.func (.func 36) #[] #[(.pointer (some ⟨b3, 0, none⟩)), (.pointer (some ⟨b6, 0, none⟩))]), undef, (.pointer (some ⟨b21, 0, none⟩)), undef, (.bool false), (.pointer (some ⟨bt7, 0, none⟩)), (.map (some r)), (.pointer (some ⟨b22, 0, none⟩)), undef, undef, undef, undef, undef, undef, undef, undef, (.pointer (some ⟨g, 0, none⟩)), (.agg (rowL L A K0 8).toArray), (.pointer (some ⟨b21, 5, none⟩)), (.slice ao nw cw), (.map (some r)), (.pointer (some ⟨b21, 0, none⟩)), (.int .i64 v.fr), (.pointer (some ⟨b22, f0, none⟩)), undef, (.pointer (some ⟨b21, 0, none⟩)), (.int .i64 v.fr), (.agg (EL (E0 v))), (.slice (some ⟨bt30, 0, none⟩) 1 1), undef, undef, undef, undef, undef, undef, undef, undef, undef, undef, undef, undef, undef, undef, undef, undef, undef, undef, undef, undef, undef, undef, undef, undef, undef, undef, undef, undef, undef, undef, undef, undef, undef, undef, undef, undef, undef, undef, undef, undef, undef, undef, undef, undef, undef, undef, undef, undef, undef, undef, undef, undef, undef, undef, undef, undef, undef, undef, undef, undef, undef, undef, undef, undef, undef, undef, undef, undef, undef, undef, undef, undef, undef, undef, undef, undef, undef, undef, undef, undef, undef, undef, undef, undef, undef, undef, undef, undef, undef, undef, undef, undef, undef], defers := [] } Wq := by
      intro bt30 Wq gd_bt30 ge_bt30 n7_bt30 E kg k21 hMp kt7 hro hN7s k22 S kt30
      refine ops_in hops hS ?_
      refine ah_or1 (i := 0) (by kernel_rfl) ?_
      · skip
        refine nx_new (fun b => .slice (some ⟨b, 0, none⟩) 0 9) (some 26) rfl rfl rfl (ex_mkW rfl rfl rfl) ?_
        intro bt26 W29 kt26 gt26 B
        refine ⟨S.next B, ?_⟩
        simp only [zp]
        have gd_bt26 := Nat.le_trans S.size gt26
        have n7_bt26 := Nat.le_trans hN7s gt26
        have ne_bt26_bt30 : bt26 ≠ bt30 := fun e => by have := lt_of kt30; omega
        have ne_bt30_bt26 := ne_bt26_bt30.symm
        have ge_bt26 := Nat.le_trans E.size gt26
        replace E := below_next E B
        replace kg := keep B kg
        replace k21 := keep B k21
        replace hMp := hMp.keep B
        replace kt7 := keep B kt7
        replace hro := fun j hj => (hro j hj).keepB B
        replace hN7s := Nat.le_trans hN7s (B).size
        replace k22 := keep B k22
        replace S := S.next B
        replace kt30 := keep B kt30
        clear B
        refine ah_L (L' := #[true, true, true, true, true, false, false]) (by kernel_rfl) ?_
        refine ops_out hops hS ?_
        exact ST1 bt26 bt30 W29 gd_bt26 ge_bt26 n7_bt26 gd_bt30 ge_bt30 n7_bt30 ne_bt26_bt30 ne_bt30_bt26 E kg k21 hMp kt7 hro hN7s k22 S kt26 kt30
    refine ops_in hops hS ?_
    refine ah_or2 (i := 0) (j := 4) (by kernel_rfl) ?_ ?_
    · skip
      refine nx_new (fun b => .slice (some ⟨b, 0, none⟩) 0 9) (some 26) rfl rfl rfl (ex_mkW rfl rfl rfl) ?_
      intro bt26 W30 kt26 gt26 B
      refine ⟨S.next B, ?_⟩
      simp only [zp]
      have gd_bt26 := Nat.le_trans S.size gt26
      have n7_bt26 := Nat.le_trans hN7s gt26
      have ge_bt26 := Nat.le_trans E.size gt26
      replace E := below_next E B
      replace kg := keep B kg
      replace k21 := keep B k21
      replace hMp := hMp.keep B
      replace kt7 := keep B kt7
      replace hro := fun j hj => (hro j hj).keepB B
      replace hN7s := Nat.le_trans hN7s (B).size
      replace k22 := keep B k22
      replace S := S.next B
      clear B
      refine ah_L (L' := #[true, true, true, true, false, false, false]) (by kernel_rfl) ?_
      refine ops_out hops hS ?_
      exact ST2 bt26 W30 gd_bt26 ge_bt26 n7_bt26 E kg k21 hMp kt7 hro hN7s k22 S kt26
    · skip
      refine nx_new (fun b => .slice (some ⟨b, 0, none⟩) 1 1) (some 30) rfl rfl rfl (ex_bsl1 (u := (.agg (EL (E0 v)))) rfl rfl (bslE (E0 v) _)) ?_
      intro bt30 W31 kt30 gt30 B
      refine ⟨S.next B, ?_⟩
      simp only [zp]
      have gd_bt30 := Nat.le_trans S.size gt30
      have n7_bt30 := Nat.le_trans hN7s gt30
      have ge_bt30 := Nat.le_trans E.size gt30
      replace E := below_next E B
      replace kg := keep B kg
      replace k21 := keep B k21
      replace hMp := hMp.keep B
      replace kt7 := keep B kt7
      replace hro := fun j hj => (hro j hj).keepB B
      replace hN7s := Nat.le_trans hN7s (B).size
      replace k22 := keep B k22
      replace S := S.next B
      clear B
      refine ah_L (L' := #[false, true, true, true, true, false, false]) (by kernel_rfl) ?_
      refine ops_out hops hS ?_
      exact ST3 bt30 W31 gd_bt30 ge_bt30 n7_bt30 E kg k21 hMp kt7 hro hN7s k22 S kt30
  intro bt26 bt30 Wq gd_bt26 ge_bt26 n7_bt26 gd_bt30 ge_bt30 n7_bt30 ne_bt26_bt30 ne_bt30_bt26 E kg k21 hMp kt7 hro hN7s k22 S kt30 hWy
  try dsimp only
  refine ops_in hops hS ?_
  refine ah_done (by kernel_rfl) ?_
  clear hQP hops hS
  subst hQ
  clear S d_kg d_k21 d_kt7 d_k22 d_hMp d_hro d_hN7s
  refine wq fun Q hQ => ?_
  refine sv (.pointer (some ⟨b21, 0, none⟩)) 32 rfl rfl (ex_fa (p := (.pointer (some ⟨b21, 0, none⟩))) rfl rfl (fa32_0 _ _)) ?_
  simp only [zp]
  refine sv (.int .i64 v.fr) 33 rfl rfl (ex_load (p := (.pointer (some ⟨b21, 0, none⟩))) rfl rfl (ld3 (at_cell k21 rfl))) ?_
  simp only [zp]
  refine sv (.pointer (some ⟨bt7, f0, none⟩)) 34 rfl rfl (ixA rfl rfl rfl hf0 hf8) ?_
  simp only [zp]
  refine sv (.slice (A f0) (nxt L ((f0 : Nat) : Int)).length (K0 f0)) 35 rfl rfl (ex_load rfl rfl (ld33 (at_cell kt7 (rowL_at8 L A K0 f0 hf8)))) ?_
  simp only [zp]
  refine st_new (fun b => .slice (some ⟨b, 0, none⟩) 1 1) (some 36) rfl rfl (ex_bsl1 (u := (.slice (A f0) (nxt L ((f0 : Nat) : Int)).length (K0 f0))) rfl rfl (bslS _ _ _ _)) ?_
  intro b23 W32 k23 g23 B
  simp only [zp]
  have n7_b23 := Nat.le_trans hN7s g23
  have ne_b23_g : b23 ≠ g := fun e => by have := lt_of kg; omega
  have ne_b23_b21 : b23 ≠ b21 := fun e => by have := lt_of k21; omega
  have ne_b23_bt7 : b23 ≠ bt7 := fun e => by have := lt_of kt7; omega
  have ne_b23_b22 : b23 ≠ b22 := fun e => by have := lt_of k22; omega
  have ne_b23_bt30 : b23 ≠ bt30 := fun e => by have := lt_of kt30; omega
  have ge_b23 := Nat.le_trans E.size g23
  replace E := below_next E B
  replace kg := keep B kg
  replace k21 := keep B k21
  replace hMp := hMp.keep B
  replace kt7 := keep B kt7
  replace hro := fun j hj => (hro j hj).keepB B
  replace hN7s := Nat.le_trans hN7s (B).size
  replace k22 := keep B k22
  replace kt30 := keep B kt30
  replace hWy := hWy.keep B
  clear B
  refine sg (.slice (some ⟨b23, 0, none⟩) 1 1) 11 rfl rfl rfl rfl ?_
  simp only [zp]
  refine st_end ?_
  subst hQ
  refine wq fun Q hQ => ?_
  refine sg (.int .i64 0) 12 rfl rfl rfl rfl ?_
  simp only [zp]
  refine sg (.bool false) 13 rfl rfl rfl rfl ?_
  simp only [zp]
  refine st_end ?_
  subst hQ
  refine wp_seq ?_
  refine wp_label ?_
  refine wp_seq ?_
  refine wp_block ?_
  obtain ⟨base, hbase⟩ : ∃ q, W32.heap.size = q := ⟨_, rfl⟩
  have hbw : bt26 < base := by obtain ⟨cur, h1, _⟩ := hWy; rw [← hbase]; exact lt_of h1
  have hbb : w.heap.size ≤ base := by rw [← hbase]; exact E.size
  have ge_bw : w.heap.size ≤ bt26 := ge_bt26
  have hN7w : N7 ≤ bt26 := n7_bt26
  have H0 : Wk w W32 b3 b21 bt7 b6 b22 bt26 N7 base r nw cw v ao L A K0 Sv FB TOT 0 false none [⟨E0 v, nxt L v.fr, A f0, K0 f0⟩] (.slice (some ⟨b23, 0, none⟩) 1 1) := by
    refine ⟨⟨E.os, E.tape, E.output, E.size, fun k hk _ => E.block k hk⟩, Nat.le_of_eq hbase.symm, ⟨keep E k30, k21, kt7, hro, hMp, keep E k60⟩, ?_, ?_, hWy, ⟨rfl, .inr ⟨b23, 1, _, rfl, ge_b23, k23, Nat.le_refl _, by decide, rfl, ?_⟩⟩, rfl, ?_⟩
    · intro f hf
      have : f = ⟨E0 v, nxt L v.fr, A f0, K0 f0⟩ := by simpa using hf
      subst this
      rw [hf0]
      exact ⟨hro f0 hf8, hlk f0 hf8⟩
    · show _ = some (Obj.cells (goA [v.fr]).toArray 117)
      rw [hf0]
      exact k22
    · show _ = [Value.slice (A f0) (nxt L v.fr).length (K0 f0)]
      rw [hf0]
      rfl
    · rw [← hFB, ← hTOT]
      exact Pk.begin hf hft
  go_loopw [10, 11, 12, 13] (fun v10 v11 v12 v13 wr => ∃ (s : Nat) (fd : Bool) (B : Option YV) (ss : List SF), v10 = .slice (some ⟨bt26, 0, none⟩) ss.length 9 ∧ v12 = .int .i64 s ∧ v13 = .bool fd ∧ Wk w wr b3 b21 bt7 b6 b22 bt26 N7 base r nw cw v ao L A K0 Sv FB TOT s fd B ss v11) (fun v10 _ v12 _ _ => 2 * (TOT - (intOf v12).toNat) + lenV v10)
  case atStart => exact ⟨0, false, none, _, rfl, rfl, rfl, H0⟩
  case round =>
    clear H0 E kg k21 hMp kt7 hro hN7s k22 kt30 hWy k23
    obtain ⟨s, fd, B, ss, rfl, rfl, rfl, H⟩ := hrel
    by_cases hss : ss ≠ []
    · obtain ⟨⟨d, l, a, c2⟩, r2, rfl⟩ := List.exists_cons_of_ne_nil hss
      have hlen := H.pk.len ht
      simp only [List.length_cons] at hlen ⊢
      obtain ⟨ao5, cl, rfl, hcl, hfm⟩ := own_form H.ow
      obtain ⟨bl, curl, rfl, hbl, hhl, hrl⟩ : ∃ g cur, ao5 = some ⟨g, 0, none⟩ ∧ w.heap.size ≤ g ∧ wr.heap[g]? = some (.cells cur 33) ∧ wr.rangeAt g 0 (xsF (⟨d, l, a, c2⟩ :: r2)) := by
        rcases hfm with q | q
        · simp at q
        · exact q
      simp only [List.length_cons] at hcl
      have hs0 : s ≤ TOT := by have := H.pk.st; omega
      refine wp_seq ?_
      refine wq fun Q hQ => ?_
      refine sm (.slice (some ⟨bt26, 0, none⟩) (r2.length + 1) 9) 37 rfl rfl rfl rfl ?_
      simp only [zp]
      refine sv (.int .i64 ((r2.length + 1) : Nat)) 38 rfl rfl (ex_len rfl rfl (len33 _ _ _ _ _)) ?_
      simp only [zp]
      refine sv (.bool true) 39 rfl rfl (ex_bin (u := (.int .i64 ((r2.length + 1) : Nat))) (r := (.int .i64 0)) rfl rfl rfl (eg3 _ _ _ _ _ _) (gtr3 _ (decide_eq_true (by omega)))) ?_
      simp only [zp]
      refine st_end ?_
      subst hQ
      refine wp_cond_true rfl ?_
      refine wp_skip ?_
      refine wp_block ?_
      refine wq fun Q hQ => ?_
      refine sm (.slice (some ⟨bt26, 0, none⟩) (r2.length + 1) 9) 40 rfl rfl rfl rfl ?_
      simp only [zp]
      refine sv (.int .i64 ((r2.length + 1) : Nat)) 41 rfl rfl (ex_len rfl rfl (len33 _ _ _ _ _)) ?_
      simp only [zp]
      refine sv (.int .i64 ((r2.length : Nat) : Int)) 42 rfl rfl (ex_bin rfl rfl rfl (eg3 _ _ _ _ _ _) (sub3 _ (by omega) (by omega))) ?_
      simp only [zp]
      refine sg (.int .i64 ((r2.length : Nat) : Int)) 14 rfl rfl rfl rfl ?_
      simp only [zp]
      refine st_end ?_
      subst hQ
      refine wp_seq ?_
      refine wp_block ?_
      go_loopw [10, 11, 12, 13] (fun v10 v11 v12 v13 wr => ∃ (s' : Nat) (fd : Bool) (B : Option YV) (l : List EV) (a : Option Addr) (c2 : Nat), v10 = .slice (some ⟨bt26, 0, none⟩) (r2.length + 1) 9 ∧ v11 = (.slice (some ⟨bl, 0, none⟩) (r2.length + 1) cl) ∧ v12 = .int .i64 s' ∧ v13 = .bool fd ∧ s ≤ s' ∧ Wk w wr b3 b21 bt7 b6 b22 bt26 N7 base r nw cw v ao L A K0 Sv FB TOT s' fd B (⟨d, l, a, c2⟩ :: r2) (.slice (some ⟨bl, 0, none⟩) (r2.length + 1) cl)) (fun _ _ v12 _ _ => TOT - (intOf v12).toNat)
      case atStart => exact ⟨s, fd, B, l, a, c2, rfl, rfl, rfl, rfl, Nat.le_refl _, H⟩
      case round =>
        clear H hhl hrl hfm
        obtain ⟨s', fd', B', l, a, c2, rfl, rfl, rfl, rfl, hss', H⟩ := hrel
        have hs1 : s' ≤ TOT := by have := H.pk.st; omega
        by_cases hl : l ≠ []
        · obtain ⟨e, l, rfl⟩ := List.exists_cons_of_ne_nil hl
          have hOw := H.ow
          have hlast : (xsF (⟨d, e :: l, a, c2⟩ :: r2))[r2.length]? = some (.slice a (l.length + 1) c2) := by
            rw [xsF_cons, List.getElem?_append_right (by rw [xsF_len]; exact Nat.le_refl _), xsF_len, Nat.sub_self]
            rfl
          have hrs := H.hS ⟨d, e :: l, a, c2⟩ (by simp)
          have hc2 : l.length + 1 ≤ c2 := hrs.2
          have hel : e ∈ L := H.pk.mem ⟨d, e :: l, a, c2⟩ (by simp) e (by simp)
          have heb := hLb e hel
          obtain ⟨hch, het⟩ := heb.nodes
          obtain ⟨k, hk⟩ : ∃ k : Nat, e.to = (k : Int) := ⟨e.to.toNat, by omega⟩
          have hk8 : k < 8 := by omega
          have hr8 : r2.length ≤ 8 := by omega
          have hone := H.pk.one hr8
          obtain ⟨b, o2, rfl, hbN, ⟨cur0, hcur0⟩, hr⟩ : ∃ b o, a = some ⟨b, o, none⟩ ∧ b < N7 ∧ (∃ cur, wr.heap[b]? = some (.cells cur 49)) ∧ wr.rangeAt b o (cE (e :: l)) := by
            rcases hrs.1 with q | q
            · cases q
            · exact q
          have hrE : wr.rangeAt b (o2 + 0 * 13) (EL e).toList := range_at hr (k := 0) rfl
          have hEs : Es wr N7 (some ⟨b, o2, none⟩) (e :: l) := .inr ⟨b, o2, rfl, hbN, ⟨cur0, hcur0⟩, hr⟩
          by_cases hbr : 100000 < s' + 1 ∧ fd' = true
          · obtain ⟨hbr, rfl⟩ := hbr
            have E := H.E
            have D := Below.refl wr.heap.size wr
            refine wp_seq ?_
            refine wq fun Q hQ => ?_
            refine sm (.slice (some ⟨bl, 0, none⟩) (r2.length + 1) cl) 43 rfl rfl rfl rfl ?_
            simp only [zp]
            refine sm (.int .i64 ((r2.length : Nat) : Int)) 44 rfl rfl rfl rfl ?_
            simp only [zp]
            refine sv (.pointer (some ⟨bl, r2.length, none⟩)) 45 rfl rfl (ixS0 (k := r2.length) rfl rfl rfl rfl (by omega)) ?_
            simp only [zp]
            refine sv (.slice (some ⟨b, o2, none⟩) (l.length + 1) c2) 46 rfl rfl (ex_load rfl rfl (ld33 (own_cell hOw hlast))) ?_
            simp only [zp]
            refine sv (.int .i64 ((l.length + 1) : Nat)) 47 rfl rfl (ex_len rfl rfl (len33 _ _ _ _ _)) ?_
            simp only [zp]
            refine sv (.bool true) 48 rfl rfl (ex_bin (u := (.int .i64 ((l.length + 1) : Nat))) (r := (.int .i64 0)) rfl rfl rfl (eg3 _ _ _ _ _ _) (gtr3 _ (decide_eq_true (by omega)))) ?_
            simp only [zp]
            refine st_end ?_
            subst hQ
            refine wp_cond_true rfl ?_
            refine wp_skip ?_
            refine wp_block ?_
            refine wq fun Q hQ => ?_
            refine sm (.slice (some ⟨bl, 0, none⟩) (r2.length + 1) cl) 49 rfl rfl rfl rfl ?_
            simp only [zp]
            refine sm (.int .i64 ((r2.length : Nat) : Int)) 50 rfl rfl rfl rfl ?_
            simp only [zp]
            refine sv (.pointer (some ⟨bl, r2.length, none⟩)) 51 rfl rfl (ixS0 (k := r2.length) rfl rfl rfl rfl (by omega)) ?_
            simp only [zp]
            refine sv (.slice (some ⟨b, o2, none⟩) (l.length + 1) c2) 52 rfl rfl (ex_load rfl rfl (ld33 (own_cell hOw hlast))) ?_
            simp only [zp]
            refine sv (.pointer (some ⟨b, (o2 + 0 * 13), none⟩)) 53 rfl rfl (ix33 (k := 0) rfl rfl rfl (rfl) ((by omega))) ?_
            simp only [zp]
            refine sv (.agg (EL e)) 54 rfl rfl (ex_load rfl rfl (ld_range hrE Try.underlying49 rfl inf49)) ?_
            simp only [zp]
            refine st_new (fun b => .pointer (some ⟨b, 0, none⟩)) (some 15) rfl rfl (ex_alloc rfl zero49) ?_
            intro b24 W33 k24 g24 B
            simp only [zp]
            have gD_b24 := Nat.le_trans D.size g24
            have ge_b24 := Nat.le_trans E.size g24
            replace E := E.next B
            replace D := below_next D B
            clear B
            obtain ⟨W34, hst, kn, K⟩ := put_all (D := (EL e)) k24 rfl inf49 (by kernel_rfl)
            refine st_sk rfl rfl (ex_store rfl rfl rfl hst) ?_
            replace E := E.putN K ge_b24
            replace D := below_put D gD_b24 K
            replace k24 := kn
            clear kn K hst
            refine st_end ?_
            subst hQ
            refine wp_seq ?_
            have H1 := H.keep D
            have hOw := H1.ow
            have hI := H1.hI
            have hQs := H1.hS
            have k9 := H1.k9
            have hWy := H1.wy
            have hsz := H1.sz
            have k4 := hI.k4
            obtain ⟨curl, kbl⟩ := own_blk hOw
            obtain ⟨curw, kbw, _⟩ := id hWy
            have ge_bl : w.heap.size ≤ bl := hbl
            have hwlt : bt26 < wr.heap.size := Nat.lt_of_lt_of_le hbw H.sz
            have ne15 : ¬ b24 = bt26 := by have := gD_b24; omega
            clear D
            refine wl_in (wl_cap fun Q hQ => ?_)
            refine sm (.slice (some ⟨bl, 0, none⟩) (r2.length + 1) cl) 55 rfl rfl rfl rfl ?_
            simp only [zp]
            refine sm (.int .i64 ((r2.length : Nat) : Int)) 56 rfl rfl rfl rfl ?_
            simp only [zp]
            refine sm (.slice (some ⟨bl, 0, none⟩) (r2.length + 1) cl) 57 rfl rfl rfl rfl ?_
            simp only [zp]
            refine sm (.int .i64 ((r2.length : Nat) : Int)) 58 rfl rfl rfl rfl ?_
            simp only [zp]
            refine sv (.pointer (some ⟨bl, r2.length, none⟩)) 59 rfl rfl (ixS0 (k := r2.length) rfl rfl rfl rfl (by omega)) ?_
            simp only [zp]
            refine sv (.slice (some ⟨b, o2, none⟩) (l.length + 1) c2) 60 rfl rfl (ex_load rfl rfl (ld33 (own_cell hOw hlast))) ?_
            simp only [zp]
            refine sv (.slice (some ⟨b, if c2 = 1 then o2 else o2 + 1 * 13, none⟩) (l.length + 1 - 1) (c2 - 1)) 61 rfl rfl (ex_cutl (k := 1) rfl rfl rfl rfl (by omega) (by omega)) ?_
            simp only [zp]
            refine sv (.pointer (some ⟨bl, r2.length, none⟩)) 62 rfl rfl (ixS0 (k := r2.length) rfl rfl rfl rfl (by omega)) ?_
            simp only [zp]
            obtain ⟨⟨old, hold⟩, hfz, hOw2, hK2⟩ := own_set (u := (.slice (some ⟨b, if c2 = 1 then o2 else o2 + 1 * 13, none⟩) (l.length + 1 - 1) (c2 - 1))) (i := r2.length) hOw (by omega)
            refine st_sk rfl rfl (ex_store rfl rfl rfl (sto33 hold hfz)) ?_
            obtain ⟨W35, hW2⟩ : ∃ W', W34.setCell ⟨bl, r2.length, none⟩ (.slice (some ⟨b, if c2 = 1 then o2 else o2 + 1 * 13, none⟩) (l.length + 1 - 1) (c2 - 1)) = W' := ⟨_, rfl⟩
            rw [hW2] at hOw2 hK2 ⊢
            replace E := E.putN hK2 ge_bl
            replace hsz := Nat.le_trans hsz hK2.size
            replace hI := hI.putT hK2 kbl (by decide)
            replace hQs := hQs.putT hK2 kbl (by decide)
            replace hWy := hWy.keepK hK2 (fun e => hWy.ne kbl (by decide) e)
            replace k24 := keepK hK2 k24 (fun e => ne_tag k24 kbl (by decide) e)
            replace k9 := keepK hK2 k9 (fun e => ne_tag k9 kbl (by decide) e)
            replace k4 := keepK hK2 k4 (fun e => ne_tag k4 kbl (by decide) e)
            replace kbw := keepK hK2 kbw (fun e => ne_tag kbw kbl (by decide) e)
            have hxs : (xsF (⟨d, e :: l, some ⟨b, o2, none⟩, c2⟩ :: r2)).set r2.length (.slice (some ⟨b, if c2 = 1 then o2 else o2 + 1 * 13, none⟩) (l.length + 1 - 1) (c2 - 1)) = xsF (⟨d, l, some ⟨b, if c2 = 1 then o2 else o2 + 1 * 13, none⟩, c2 - 1⟩ :: r2) := by
              rw [xsF_cons, xsF_cons, List.set_append_right _ _ (by rw [xsF_len]; exact Nat.le_refl _), xsF_len, Nat.sub_self]
              rfl
            rw [hxs] at hOw2
            replace hOw := hOw2
            obtain ⟨curl, kbl⟩ := own_blk hOw
            clear hW2 hK2 hold hfz hxs hOw2
            replace hQs : SSs W35 N7 (⟨d, l, some ⟨b, if c2 = 1 then o2 else o2 + 1 * 13, none⟩, c2 - 1⟩ :: r2) := fun q hq => by
              rcases List.mem_cons.1 hq with hq | hq
              · subst hq
                have hq := hQs ⟨d, e :: l, some ⟨b, o2, none⟩, c2⟩ (by simp)
                exact ⟨Es_tail hq.1 hq.2, by show l.length ≤ c2 - 1; omega⟩
              · exact hQs q (by simp [hq])
            replace hWy : Wy W35 bt26 (wayF (⟨d, l, some ⟨b, if c2 = 1 then o2 else o2 + 1 * 13, none⟩, c2 - 1⟩ :: r2)) := hWy
            replace k9 : W35.heap[b22]? = some (.cells (goA (gon (toSt (⟨d, l, some ⟨b, if c2 = 1 then o2 else o2 + 1 * 13, none⟩, c2 - 1⟩ :: r2)))).toArray 117) := k9
            refine st_end ?_
            subst hQ
            refine wq fun Q hQ => ?_
            refine sm (.int .i64 (s' : Nat)) 63 rfl rfl rfl rfl ?_
            simp only [zp]
            refine sv (.int .i64 ((s' + 1 : Nat) : Int)) 64 rfl rfl (ex_bin rfl rfl rfl (eg3 _ _ _ _ _ _) (add3 _ (by omega) (by omega))) ?_
            simp only [zp]
            refine sg (.int .i64 ((s' + 1 : Nat) : Int)) 12 rfl rfl rfl rfl ?_
            simp only [zp]
            refine st_end ?_
            subst hQ
            refine wp_seq ?_
            refine wq fun Q hQ => ?_
            refine sm (.int .i64 ((s' + 1 : Nat) : Int)) 65 rfl rfl rfl rfl ?_
            simp only [zp]
            refine sv (.bool true) 66 rfl rfl (ex_bin (u := (.int .i64 ((s' + 1 : Nat) : Int))) (r := (.int .i64 100000)) rfl rfl rfl (eg3 _ _ _ _ _ _) (gtr3 _ (decide_eq_true (by omega)))) ?_
            simp only [zp]
            refine sm (.bool true) 67 rfl rfl rfl rfl ?_
            simp only [zp]
            refine sm (.bool true) 68 rfl rfl rfl rfl ?_
            simp only [zp]
            refine sv (.bool true) 69 rfl rfl (ex_pkT rfl rfl rfl) ?_
            simp only [zp]
            refine st_end ?_
            subst hQ
            refine wp_cond_true rfl ?_
            refine wp_exit ?_
            refine ex_then ?_
            refine ex_pass (by decide) ?_
            refine ex_then ?_
            refine ex_pass (by decide) ?_
            refine ex_then ?_
            refine ex_pass (by decide) ?_
            refine ex_then ?_
            refine ex_blk ?_
            have hbk := H.pk.brk (by rw [← H.fd])
            have hd : decide ((100000 : Int) < ((s' + 1 : Nat) : Int)) = decide (100000 < TOT) := decide_eq_decide.2 (by omega)
            refine wq fun Q hQ => ?_
            refine sm (.int .i64 ((s' + 1 : Nat) : Int)) 122 rfl rfl rfl rfl ?_
            simp only [zp]
            refine sv (.bool (decide (100000 < TOT))) 123 rfl rfl (ex_bin (u := (.int .i64 ((s' + 1 : Nat) : Int))) (r := (.int .i64 100000)) rfl rfl rfl (eg3 _ _ _ _ _ _) (gtr3 _ hd)) ?_
            simp only [zp]
            refine sg (.bool (decide (100000 < TOT))) 6 rfl rfl rfl rfl ?_
            simp only [zp]
            refine st_end ?_
            subst hQ
            refine wp_ret ?_
            refine ng_ret ?_
            refine bodyPost_ret (results_tmp Try.results35 _ _ _) rfl ⟨B', base, rfl, hI.bs, hbb, by rw [hbk.1, ← H.fd], fun q => by omega, E⟩
          have hnb : 100000 < s' + 1 → fd' = false := fun q => by
            cases hq : fd'
            · rfl
            · exact absurd ⟨q, hq⟩ hbr
          by_cases hav : e.ch ∈ v.av
          · have hsk : skip v (gon (toSt (⟨d, e :: l, some ⟨b, o2, none⟩, c2⟩ :: r2))) e = true := by unfold skip; rw [decide_eq_true hav]; rfl
            have E := H.E
            have D := Below.refl wr.heap.size wr
            refine wp_seq ?_
            refine wq fun Q hQ => ?_
            refine sm (.slice (some ⟨bl, 0, none⟩) (r2.length + 1) cl) 43 rfl rfl rfl rfl ?_
            simp only [zp]
            refine sm (.int .i64 ((r2.length : Nat) : Int)) 44 rfl rfl rfl rfl ?_
            simp only [zp]
            refine sv (.pointer (some ⟨bl, r2.length, none⟩)) 45 rfl rfl (ixS0 (k := r2.length) rfl rfl rfl rfl (by omega)) ?_
            simp only [zp]
            refine sv (.slice (some ⟨b, o2, none⟩) (l.length + 1) c2) 46 rfl rfl (ex_load rfl rfl (ld33 (own_cell hOw hlast))) ?_
            simp only [zp]
            refine sv (.int .i64 ((l.length + 1) : Nat)) 47 rfl rfl (ex_len rfl rfl (len33 _ _ _ _ _)) ?_
            simp only [zp]
            refine sv (.bool true) 48 rfl rfl (ex_bin (u := (.int .i64 ((l.length + 1) : Nat))) (r := (.int .i64 0)) rfl rfl rfl (eg3 _ _ _ _ _ _) (gtr3 _ (decide_eq_true (by omega)))) ?_
            simp only [zp]
            refine st_end ?_
            subst hQ
            refine wp_cond_true rfl ?_
            refine wp_skip ?_
            refine wp_block ?_
            refine wq fun Q hQ => ?_
            refine sm (.slice (some ⟨bl, 0, none⟩) (r2.length + 1) cl) 49 rfl rfl rfl rfl ?_
            simp only [zp]
            refine sm (.int .i64 ((r2.length : Nat) : Int)) 50 rfl rfl rfl rfl ?_
            simp only [zp]
            refine sv (.pointer (some ⟨bl, r2.length, none⟩)) 51 rfl rfl (ixS0 (k := r2.length) rfl rfl rfl rfl (by omega)) ?_
            simp only [zp]
            refine sv (.slice (some ⟨b, o2, none⟩) (l.length + 1) c2) 52 rfl rfl (ex_load rfl rfl (ld33 (own_cell hOw hlast))) ?_
            simp only [zp]
            refine sv (.pointer (some ⟨b, (o2 + 0 * 13), none⟩)) 53 rfl rfl (ix33 (k := 0) rfl rfl rfl (rfl) ((by omega))) ?_
            simp only [zp]
            refine sv (.agg (EL e)) 54 rfl rfl (ex_load rfl rfl (ld_range hrE Try.underlying49 rfl inf49)) ?_
            simp only [zp]
            refine st_new (fun b => .pointer (some ⟨b, 0, none⟩)) (some 15) rfl rfl (ex_alloc rfl zero49) ?_
            intro b25 W36 k25 g25 B
            simp only [zp]
            have gD_b25 := Nat.le_trans D.size g25
            have ge_b25 := Nat.le_trans E.size g25
            replace E := E.next B
            replace D := below_next D B
            clear B
            obtain ⟨W37, hst, kn, K⟩ := put_all (D := (EL e)) k25 rfl inf49 (by kernel_rfl)
            refine st_sk rfl rfl (ex_store rfl rfl rfl hst) ?_
            replace E := E.putN K ge_b25
            replace D := below_put D gD_b25 K
            replace k25 := kn
            clear kn K hst
            refine st_end ?_
            subst hQ
            refine wp_seq ?_
            have H1 := H.keep D
            have hOw := H1.ow
            have hI := H1.hI
            have hQs := H1.hS
            have k9 := H1.k9
            have hWy := H1.wy
            have hsz := H1.sz
            have k4 := hI.k4
            obtain ⟨curl, kbl⟩ := own_blk hOw
            obtain ⟨curw, kbw, _⟩ := id hWy
            have ge_bl : w.heap.size ≤ bl := hbl
            have hwlt : bt26 < wr.heap.size := Nat.lt_of_lt_of_le hbw H.sz
            have ne15 : ¬ b25 = bt26 := by have := gD_b25; omega
            clear D
            refine wl_in (wl_cap fun Q hQ => ?_)
            refine sm (.slice (some ⟨bl, 0, none⟩) (r2.length + 1) cl) 55 rfl rfl rfl rfl ?_
            simp only [zp]
            refine sm (.int .i64 ((r2.length : Nat) : Int)) 56 rfl rfl rfl rfl ?_
            simp only [zp]
            refine sm (.slice (some ⟨bl, 0, none⟩) (r2.length + 1) cl) 57 rfl rfl rfl rfl ?_
            simp only [zp]
            refine sm (.int .i64 ((r2.length : Nat) : Int)) 58 rfl rfl rfl rfl ?_
            simp only [zp]
            refine sv (.pointer (some ⟨bl, r2.length, none⟩)) 59 rfl rfl (ixS0 (k := r2.length) rfl rfl rfl rfl (by omega)) ?_
            simp only [zp]
            refine sv (.slice (some ⟨b, o2, none⟩) (l.length + 1) c2) 60 rfl rfl (ex_load rfl rfl (ld33 (own_cell hOw hlast))) ?_
            simp only [zp]
            refine sv (.slice (some ⟨b, if c2 = 1 then o2 else o2 + 1 * 13, none⟩) (l.length + 1 - 1) (c2 - 1)) 61 rfl rfl (ex_cutl (k := 1) rfl rfl rfl rfl (by omega) (by omega)) ?_
            simp only [zp]
            refine sv (.pointer (some ⟨bl, r2.length, none⟩)) 62 rfl rfl (ixS0 (k := r2.length) rfl rfl rfl rfl (by omega)) ?_
            simp only [zp]
            obtain ⟨⟨old, hold⟩, hfz, hOw2, hK2⟩ := own_set (u := (.slice (some ⟨b, if c2 = 1 then o2 else o2 + 1 * 13, none⟩) (l.length + 1 - 1) (c2 - 1))) (i := r2.length) hOw (by omega)
            refine st_sk rfl rfl (ex_store rfl rfl rfl (sto33 hold hfz)) ?_
            obtain ⟨W38, hW2⟩ : ∃ W', W37.setCell ⟨bl, r2.length, none⟩ (.slice (some ⟨b, if c2 = 1 then o2 else o2 + 1 * 13, none⟩) (l.length + 1 - 1) (c2 - 1)) = W' := ⟨_, rfl⟩
            rw [hW2] at hOw2 hK2 ⊢
            replace E := E.putN hK2 ge_bl
            replace hsz := Nat.le_trans hsz hK2.size
            replace hI := hI.putT hK2 kbl (by decide)
            replace hQs := hQs.putT hK2 kbl (by decide)
            replace hWy := hWy.keepK hK2 (fun e => hWy.ne kbl (by decide) e)
            replace k25 := keepK hK2 k25 (fun e => ne_tag k25 kbl (by decide) e)
            replace k9 := keepK hK2 k9 (fun e => ne_tag k9 kbl (by decide) e)
            replace k4 := keepK hK2 k4 (fun e => ne_tag k4 kbl (by decide) e)
            replace kbw := keepK hK2 kbw (fun e => ne_tag kbw kbl (by decide) e)
            have hxs : (xsF (⟨d, e :: l, some ⟨b, o2, none⟩, c2⟩ :: r2)).set r2.length (.slice (some ⟨b, if c2 = 1 then o2 else o2 + 1 * 13, none⟩) (l.length + 1 - 1) (c2 - 1)) = xsF (⟨d, l, some ⟨b, if c2 = 1 then o2 else o2 + 1 * 13, none⟩, c2 - 1⟩ :: r2) := by
              rw [xsF_cons, xsF_cons, List.set_append_right _ _ (by rw [xsF_len]; exact Nat.le_refl _), xsF_len, Nat.sub_self]
              rfl
            rw [hxs] at hOw2
            replace hOw := hOw2
            obtain ⟨curl, kbl⟩ := own_blk hOw
            clear hW2 hK2 hold hfz hxs hOw2
            replace hQs : SSs W38 N7 (⟨d, l, some ⟨b, if c2 = 1 then o2 else o2 + 1 * 13, none⟩, c2 - 1⟩ :: r2) := fun q hq => by
              rcases List.mem_cons.1 hq with hq | hq
              · subst hq
                have hq := hQs ⟨d, e :: l, some ⟨b, o2, none⟩, c2⟩ (by simp)
                exact ⟨Es_tail hq.1 hq.2, by show l.length ≤ c2 - 1; omega⟩
              · exact hQs q (by simp [hq])
            replace hWy : Wy W38 bt26 (wayF (⟨d, l, some ⟨b, if c2 = 1 then o2 else o2 + 1 * 13, none⟩, c2 - 1⟩ :: r2)) := hWy
            replace k9 : W38.heap[b22]? = some (.cells (goA (gon (toSt (⟨d, l, some ⟨b, if c2 = 1 then o2 else o2 + 1 * 13, none⟩, c2 - 1⟩ :: r2)))).toArray 117) := k9
            refine st_end ?_
            subst hQ
            refine wq fun Q hQ => ?_
            refine sm (.int .i64 (s' : Nat)) 63 rfl rfl rfl rfl ?_
            simp only [zp]
            refine sv (.int .i64 ((s' + 1 : Nat) : Int)) 64 rfl rfl (ex_bin rfl rfl rfl (eg3 _ _ _ _ _ _) (add3 _ (by omega) (by omega))) ?_
            simp only [zp]
            refine sg (.int .i64 ((s' + 1 : Nat) : Int)) 12 rfl rfl rfl rfl ?_
            simp only [zp]
            refine st_end ?_
            subst hQ
            refine wp_seq ?_
            refine wp_seq ?_
            refine wl_in ?_
            refine wl_cap fun Q hQ => ?_
            suffices JOIN : ∀ (j65 j66 j67 j68 : Value), Q .normal { tmps := #[(.pointer (some ⟨g, 0, none⟩)), (.agg (WL_ v ao nw cw)), (.func (.func 36) #[] #[(.pointer (some ⟨b3, 0, none⟩)), (.pointer (some ⟨b6, 0, none⟩))]), undef, (.pointer (some ⟨b21, 0, none⟩)), undef, (.bool false), (.pointer (some ⟨bt7, 0, none⟩)), (.map (some r)), (.pointer (some ⟨b22, 0, none⟩)), (.slice (some ⟨bt26, 0, none⟩) (r2.length + 1) 9), (.slice (some ⟨bl, 0, none⟩) (r2.length + 1) cl), (.int .i64 ((s' + 1 : Nat) : Int)), (.bool fd'), (.int .i64 ((r2.length : Nat) : Int)), (.pointer (some ⟨b25, 0, none⟩)), u16, u17, (.pointer (some ⟨g, 0, none⟩)), (.agg (rowL L A K0 8).toArray), (.pointer (some ⟨b21, 5, none⟩)), (.slice ao nw cw), (.map (some r)), (.pointer (some ⟨b21, 0, none⟩)), (.int .i64 v.fr), (.pointer (some ⟨b22, f0, none⟩)), (.slice (some ⟨bt26, 0, none⟩) 0 9), (.pointer (some ⟨b21, 0, none⟩)), (.int .i64 v.fr), (.agg (EL (E0 v))), (.slice (some ⟨bt30, 0, none⟩) 1 1), (.slice (some ⟨bt26, 0, none⟩) 1 9), (.pointer (some ⟨b21, 0, none⟩)), (.int .i64 v.fr), (.pointer (some ⟨bt7, f0, none⟩)), (.slice (A f0) (nxt L ((f0 : Nat) : Int)).length (K0 f0)), (.slice (some ⟨b23, 0, none⟩) 1 1), (.slice (some ⟨bt26, 0, none⟩) (r2.length + 1) 9), (.int .i64 ((r2.length + 1) : Nat)), (.bool true), (.slice (some ⟨bt26, 0, none⟩) (r2.length + 1) 9), (.int .i64 ((r2.length + 1) : Nat)), (.int .i64 ((r2.length : Nat) : Int)), (.slice (some ⟨bl, 0, none⟩) (r2.length + 1) cl), (.int .i64 ((r2.length : Nat) : Int)), (.pointer (some ⟨bl, r2.length, none⟩)), (.slice (some ⟨b, o2, none⟩) (l.length + 1) c2), (.int .i64 ((l.length + 1) : Nat)), (.bool true), (.slice (some ⟨bl, 0, none⟩) (r2.length + 1) cl), (.int .i64 ((r2.length : Nat) : Int)), (.pointer (some ⟨bl, r2.length, none⟩)), (.slice (some ⟨b, o2, none⟩) (l.length + 1) c2), (.pointer (some ⟨b, (o2 + 0 * 13), none⟩)), (.agg (EL e)), (.slice (some ⟨bl, 0, none⟩) (r2.length + 1) cl), (.int .i64 ((r2.length : Nat) : Int)), (.slice (some ⟨bl, 0, none⟩) (r2.length + 1) cl), (.int .i64 ((r2.length : Nat) : Int)), (.pointer (some ⟨bl, r2.length, none⟩)), (.slice (some ⟨b, o2, none⟩) (l.length + 1) c2), (.slice (some ⟨b, if c2 = 1 then o2 else o2 + 1 * 13, none⟩) (l.length + 1 - 1) (c2 - 1)), (.pointer (some ⟨bl, r2.length, none⟩)), (.int .i64 (s' : Nat)), (.int .i64 ((s' + 1 : Nat) : Int)), j65, j66, j67, j68, (.bool false), u70, u71, u72, u73, u74, u75, u76, u77, u78, u79, u80, u81, u82, u83, u84, u85, u86, u87, u88, u89, u90, u91, u92, u93, u94, u95, u96, u97, u98, u99, u100, u101, u102, u103, u104, u105, u106, u107, u108, u109, u110, u111, u112, u113, u114, u115, u116, u117, u118, u119, u120, u121, undef, undef], defers := [] } W38 by
              by_cases e0 : 100000 < s' + 1
              · skip
                obtain rfl : fd' = false := hnb e0
                refine sm (.int .i64 ((s' + 1 : Nat) : Int)) 65 rfl rfl rfl rfl ?_
                simp only [zp]
                refine sv (.bool true) 66 rfl rfl (ex_bin (u := (.int .i64 ((s' + 1 : Nat) : Int))) (r := (.int .i64 100000)) rfl rfl rfl (eg3 _ _ _ _ _ _) (gtr3 _ (decide_eq_true (by omega)))) ?_
                simp only [zp]
                refine sm (.bool true) 67 rfl rfl rfl rfl ?_
                simp only [zp]
                refine sm (.bool false) 68 rfl rfl rfl rfl ?_
                simp only [zp]
                refine sv (.bool false) 69 rfl rfl (ex_pkT rfl rfl rfl) ?_
                simp only [zp]
                refine st_end ?_
                exact JOIN _ _ _ _
              · skip
                refine sm (.int .i64 ((s' + 1 : Nat) : Int)) 65 rfl rfl rfl rfl ?_
                simp only [zp]
                refine sv (.bool false) 66 rfl rfl (ex_bin (u := (.int .i64 ((s' + 1 : Nat) : Int))) (r := (.int .i64 100000)) rfl rfl rfl (eg3 _ _ _ _ _ _) (gtr3 _ (decide_eq_false (by omega)))) ?_
                simp only [zp]
                refine sm (.bool false) 67 rfl rfl rfl rfl ?_
                simp only [zp]
                refine sn 68 rfl rfl ?_
                simp only [zp]
                refine sv (.bool false) 69 rfl rfl (ex_pkF rfl rfl rfl) ?_
                simp only [zp]
                refine st_end ?_
                exact JOIN _ _ _ _
            intro j65 j66 j67 j68
            subst hQ
            refine wp_cond_false rfl ?_
            refine wp_skip ?_
            refine wp_seq ?_
            refine wq fun Q hQ => ?_
            refine sm (.map (some r)) 71 rfl rfl rfl rfl ?_
            simp only [zp]
            refine sv (.pointer (some ⟨b25, 0, none⟩)) 72 rfl rfl (ex_fa (p := (.pointer (some ⟨b25, 0, none⟩))) rfl rfl (fa49_0 _ _)) ?_
            simp only [zp]
            refine sv (.int .i64 e.ch) 73 rfl rfl (ex_load (p := (.pointer (some ⟨b25, 0, none⟩))) rfl rfl (ld3 (at_cell k25 rfl))) ?_
            simp only [zp]
            refine sv (.tuple #[(.agg #[]), (.bool true)]) 74 rfl rfl (ex_lk rfl rfl rfl (look_set hI.mp (decide_eq_true ((hSm e.ch).2 ⟨hav, hch⟩)))) ?_
            simp only [zp]
            refine sm (.tuple #[(.agg #[]), (.bool true)]) 70 rfl rfl rfl rfl ?_
            simp only [zp]
            refine sv (.agg #[]) 75 rfl rfl (ex_ext rfl rfl rfl) ?_
            simp only [zp]
            refine sv (.bool true) 76 rfl rfl (ex_ext rfl rfl rfl) ?_
            simp only [zp]
            refine st_new (fun b => .pointer (some ⟨b, 0, none⟩)) (some 16) rfl rfl (ex_alloc rfl zero119) ?_
            intro b26 W39 k26 g26 B
            simp only [zp]
            have ne_b26_b25 : b26 ≠ b25 := fun e => by have := lt_of k25; omega
            have ne_b26_b22 : b26 ≠ b22 := fun e => by have := lt_of k9; omega
            have ne_b26_b21 : b26 ≠ b21 := fun e => by have := lt_of k4; omega
            have ne_b26_bl : b26 ≠ bl := fun e => by have := lt_of kbl; omega
            have ne_b26_bt26 : b26 ≠ bt26 := fun e => by have := lt_of kbw; omega
            have ge_b26 := Nat.le_trans E.size g26
            replace E := E.next B
            replace hsz := Nat.le_trans hsz (B).size
            replace hI := hI.keep B
            replace hQs := hQs.keep B
            replace hWy := hWy.keep B
            replace hOw := own_keep hOw B
            replace k25 := keep B k25
            replace k9 := keep B k9
            replace k4 := keep B k4
            replace kbl := keep B kbl
            replace kbw := keep B kbw
            clear B
            obtain ⟨W40, hst, kn, K⟩ := put_all (D := #[]) k26 rfl inf119 (by kernel_rfl)
            refine st_sk rfl rfl (ex_store rfl rfl rfl hst) ?_
            replace E := E.putN K ge_b26
            replace hsz := Nat.le_trans hsz K.size
            replace hI := hI.putT K k26 (by decide)
            replace hQs := hQs.putT K k26 (by decide)
            replace hWy := hWy.keepK K (fun e => hWy.ne k26 (by decide) e)
            replace hOw := own_keepK hOw K (fun q hq e => own_ne hOw k26 (by decide) (by rw [hq, e]))
            replace k25 := keepK K k25 (fun e => ne_tag k25 k26 (by decide) e)
            replace k9 := keepK K k9 (fun e => ne_tag k9 k26 (by decide) e)
            replace k4 := keepK K k4 (fun e => ne_tag k4 k26 (by decide) e)
            replace kbl := keepK K kbl (fun e => ne_tag kbl k26 (by decide) e)
            replace kbw := keepK K kbw (fun e => ne_tag kbw k26 (by decide) e)
            replace k26 := kn
            clear kn K hst
            refine sg (.bool true) 17 rfl rfl rfl rfl ?_
            simp only [zp]
            refine st_end ?_
            subst hQ
            refine wq fun Q hQ => ?_
            refine sm (.bool true) 77 rfl rfl rfl rfl ?_
            simp only [zp]
            refine sm (.bool true) 78 rfl rfl rfl rfl ?_
            simp only [zp]
            refine sn 79 rfl rfl ?_
            simp only [zp]
            refine sn 80 rfl rfl ?_
            simp only [zp]
            refine sn 81 rfl rfl ?_
            simp only [zp]
            refine sn 82 rfl rfl ?_
            simp only [zp]
            refine sv (.bool true) 83 rfl rfl (ex_pkT rfl rfl rfl) ?_
            simp only [zp]
            refine st_end ?_
            subst hQ
            refine wp_cond_true rfl ?_
            refine wp_exit ?_
            refine ex_then ?_
            refine ex_blk ?_
            refine then_go ?_
            go_roundw
            case rel => exact ⟨s' + 1, fd', B', l, (some ⟨b, if c2 = 1 then o2 else o2 + 1 * 13, none⟩), c2 - 1, rfl, rfl, rfl, rfl, by omega, ⟨E, hsz, hI, hQs, k9, hWy, hOw, H.fd, H.pk.skp hr8 hsk⟩⟩
            case measure => simp [intOf]; omega
          by_cases hgo : e.to ∈ gon (toSt (⟨d, e :: l, some ⟨b, o2, none⟩, c2⟩ :: r2))
          · have hsk : skip v (gon (toSt (⟨d, e :: l, some ⟨b, o2, none⟩, c2⟩ :: r2))) e = true := by unfold skip; rw [decide_eq_true hgo, Bool.or_true]
            have E := H.E
            have D := Below.refl wr.heap.size wr
            refine wp_seq ?_
            refine wq fun Q hQ => ?_
            refine sm (.slice (some ⟨bl, 0, none⟩) (r2.length + 1) cl) 43 rfl rfl rfl rfl ?_
            simp only [zp]
            refine sm (.int .i64 ((r2.length : Nat) : Int)) 44 rfl rfl rfl rfl ?_
            simp only [zp]
            refine sv (.pointer (some ⟨bl, r2.length, none⟩)) 45 rfl rfl (ixS0 (k := r2.length) rfl rfl rfl rfl (by omega)) ?_
            simp only [zp]
            refine sv (.slice (some ⟨b, o2, none⟩) (l.length + 1) c2) 46 rfl rfl (ex_load rfl rfl (ld33 (own_cell hOw hlast))) ?_
            simp only [zp]
            refine sv (.int .i64 ((l.length + 1) : Nat)) 47 rfl rfl (ex_len rfl rfl (len33 _ _ _ _ _)) ?_
            simp only [zp]
            refine sv (.bool true) 48 rfl rfl (ex_bin (u := (.int .i64 ((l.length + 1) : Nat))) (r := (.int .i64 0)) rfl rfl rfl (eg3 _ _ _ _ _ _) (gtr3 _ (decide_eq_true (by omega)))) ?_
            simp only [zp]
            refine st_end ?_
            subst hQ
            refine wp_cond_true rfl ?_
            refine wp_skip ?_
            refine wp_block ?_
            refine wq fun Q hQ => ?_
            refine sm (.slice (some ⟨bl, 0, none⟩) (r2.length + 1) cl) 49 rfl rfl rfl rfl ?_
            simp only [zp]
            refine sm (.int .i64 ((r2.length : Nat) : Int)) 50 rfl rfl rfl rfl ?_
            simp only [zp]
            refine sv (.pointer (some ⟨bl, r2.length, none⟩)) 51 rfl rfl (ixS0 (k := r2.length) rfl rfl rfl rfl (by omega)) ?_
            simp only [zp]
            refine sv (.slice (some ⟨b, o2, none⟩) (l.length + 1) c2) 52 rfl rfl (ex_load rfl rfl (ld33 (own_cell hOw hlast))) ?_
            simp only [zp]
            refine sv (.pointer (some ⟨b, (o2 + 0 * 13), none⟩)) 53 rfl rfl (ix33 (k := 0) rfl rfl rfl (rfl) ((by omega))) ?_
            simp only [zp]
            refine sv (.agg (EL e)) 54 rfl rfl (ex_load rfl rfl (ld_range hrE Try.underlying49 rfl inf49)) ?_
            simp only [zp]
            refine st_new (fun b => .pointer (some ⟨b, 0, none⟩)) (some 15) rfl rfl (ex_alloc rfl zero49) ?_
            intro b27 W41 k27 g27 B
            simp only [zp]
            have gD_b27 := Nat.le_trans D.size g27
            have ge_b27 := Nat.le_trans E.size g27
            replace E := E.next B
            replace D := below_next D B
            clear B
            obtain ⟨W42, hst, kn, K⟩ := put_all (D := (EL e)) k27 rfl inf49 (by kernel_rfl)
            refine st_sk rfl rfl (ex_store rfl rfl rfl hst) ?_
            replace E := E.putN K ge_b27
            replace D := below_put D gD_b27 K
            replace k27 := kn
            clear kn K hst
            refine st_end ?_
            subst hQ
            refine wp_seq ?_
            have H1 := H.keep D
            have hOw := H1.ow
            have hI := H1.hI
            have hQs := H1.hS
            have k9 := H1.k9
            have hWy := H1.wy
            have hsz := H1.sz
            have k4 := hI.k4
            obtain ⟨curl, kbl⟩ := own_blk hOw
            obtain ⟨curw, kbw, _⟩ := id hWy
            have ge_bl : w.heap.size ≤ bl := hbl
            have hwlt : bt26 < wr.heap.size := Nat.lt_of_lt_of_le hbw H.sz
            have ne15 : ¬ b27 = bt26 := by have := gD_b27; omega
            clear D
            refine wl_in (wl_cap fun Q hQ => ?_)
            refine sm (.slice (some ⟨bl, 0, none⟩) (r2.length + 1) cl) 55 rfl rfl rfl rfl ?_
            simp only [zp]
            refine sm (.int .i64 ((r2.length : Nat) : Int)) 56 rfl rfl rfl rfl ?_
            simp only [zp]
            refine sm (.slice (some ⟨bl, 0, none⟩) (r2.length + 1) cl) 57 rfl rfl rfl rfl ?_
            simp only [zp]
            refine sm (.int .i64 ((r2.length : Nat) : Int)) 58 rfl rfl rfl rfl ?_
            simp only [zp]
            refine sv (.pointer (some ⟨bl, r2.length, none⟩)) 59 rfl rfl (ixS0 (k := r2.length) rfl rfl rfl rfl (by omega)) ?_
            simp only [zp]
            refine sv (.slice (some ⟨b, o2, none⟩) (l.length + 1) c2) 60 rfl rfl (ex_load rfl rfl (ld33 (own_cell hOw hlast))) ?_
            simp only [zp]
            refine sv (.slice (some ⟨b, if c2 = 1 then o2 else o2 + 1 * 13, none⟩) (l.length + 1 - 1) (c2 - 1)) 61 rfl rfl (ex_cutl (k := 1) rfl rfl rfl rfl (by omega) (by omega)) ?_
            simp only [zp]
            refine sv (.pointer (some ⟨bl, r2.length, none⟩)) 62 rfl rfl (ixS0 (k := r2.length) rfl rfl rfl rfl (by omega)) ?_
            simp only [zp]
            obtain ⟨⟨old, hold⟩, hfz, hOw2, hK2⟩ := own_set (u := (.slice (some ⟨b, if c2 = 1 then o2 else o2 + 1 * 13, none⟩) (l.length + 1 - 1) (c2 - 1))) (i := r2.length) hOw (by omega)
            refine st_sk rfl rfl (ex_store rfl rfl rfl (sto33 hold hfz)) ?_
            obtain ⟨W43, hW2⟩ : ∃ W', W42.setCell ⟨bl, r2.length, none⟩ (.slice (some ⟨b, if c2 = 1 then o2 else o2 + 1 * 13, none⟩) (l.length + 1 - 1) (c2 - 1)) = W' := ⟨_, rfl⟩
            rw [hW2] at hOw2 hK2 ⊢
            replace E := E.putN hK2 ge_bl
            replace hsz := Nat.le_trans hsz hK2.size
            replace hI := hI.putT hK2 kbl (by decide)
            replace hQs := hQs.putT hK2 kbl (by decide)
            replace hWy := hWy.keepK hK2 (fun e => hWy.ne kbl (by decide) e)
            replace k27 := keepK hK2 k27 (fun e => ne_tag k27 kbl (by decide) e)
            replace k9 := keepK hK2 k9 (fun e => ne_tag k9 kbl (by decide) e)
            replace k4 := keepK hK2 k4 (fun e => ne_tag k4 kbl (by decide) e)
            replace kbw := keepK hK2 kbw (fun e => ne_tag kbw kbl (by decide) e)
            have hxs : (xsF (⟨d, e :: l, some ⟨b, o2, none⟩, c2⟩ :: r2)).set r2.length (.slice (some ⟨b, if c2 = 1 then o2 else o2 + 1 * 13, none⟩) (l.length + 1 - 1) (c2 - 1)) = xsF (⟨d, l, some ⟨b, if c2 = 1 then o2 else o2 + 1 * 13, none⟩, c2 - 1⟩ :: r2) := by
              rw [xsF_cons, xsF_cons, List.set_append_right _ _ (by rw [xsF_len]; exact Nat.le_refl _), xsF_len, Nat.sub_self]
              rfl
            rw [hxs] at hOw2
            replace hOw := hOw2
            obtain ⟨curl, kbl⟩ := own_blk hOw
            clear hW2 hK2 hold hfz hxs hOw2
            replace hQs : SSs W43 N7 (⟨d, l, some ⟨b, if c2 = 1 then o2 else o2 + 1 * 13, none⟩, c2 - 1⟩ :: r2) := fun q hq => by
              rcases List.mem_cons.1 hq with hq | hq
              · subst hq
                have hq := hQs ⟨d, e :: l, some ⟨b, o2, none⟩, c2⟩ (by simp)
                exact ⟨Es_tail hq.1 hq.2, by show l.length ≤ c2 - 1; omega⟩
              · exact hQs q (by simp [hq])
            replace hWy : Wy W43 bt26 (wayF (⟨d, l, some ⟨b, if c2 = 1 then o2 else o2 + 1 * 13, none⟩, c2 - 1⟩ :: r2)) := hWy
            replace k9 : W43.heap[b22]? = some (.cells (goA (gon (toSt (⟨d, l, some ⟨b, if c2 = 1 then o2 else o2 + 1 * 13, none⟩, c2 - 1⟩ :: r2)))).toArray 117) := k9
            refine st_end ?_
            subst hQ
            refine wq fun Q hQ => ?_
            refine sm (.int .i64 (s' : Nat)) 63 rfl rfl rfl rfl ?_
            simp only [zp]
            refine sv (.int .i64 ((s' + 1 : Nat) : Int)) 64 rfl rfl (ex_bin rfl rfl rfl (eg3 _ _ _ _ _ _) (add3 _ (by omega) (by omega))) ?_
            simp only [zp]
            refine sg (.int .i64 ((s' + 1 : Nat) : Int)) 12 rfl rfl rfl rfl ?_
            simp only [zp]
            refine st_end ?_
            subst hQ
            refine wp_seq ?_
            refine wp_seq ?_
            refine wl_in ?_
            refine wl_cap fun Q hQ => ?_
            suffices JOIN : ∀ (j65 j66 j67 j68 : Value), Q .normal { tmps := #[(.pointer (some ⟨g, 0, none⟩)), (.agg (WL_ v ao nw cw)), (.func (.func 36) #[] #[(.pointer (some ⟨b3, 0, none⟩)), (.pointer (some ⟨b6, 0, none⟩))]), undef, (.pointer (some ⟨b21, 0, none⟩)), undef, (.bool false), (.pointer (some ⟨bt7, 0, none⟩)), (.map (some r)), (.pointer (some ⟨b22, 0, none⟩)), (.slice (some ⟨bt26, 0, none⟩) (r2.length + 1) 9), (.slice (some ⟨bl, 0, none⟩) (r2.length + 1) cl), (.int .i64 ((s' + 1 : Nat) : Int)), (.bool fd'), (.int .i64 ((r2.length : Nat) : Int)), (.pointer (some ⟨b27, 0, none⟩)), u16, u17, (.pointer (some ⟨g, 0, none⟩)), (.agg (rowL L A K0 8).toArray), (.pointer (some ⟨b21, 5, none⟩)), (.slice ao nw cw), (.map (some r)), (.pointer (some ⟨b21, 0, none⟩)), (.int .i64 v.fr), (.pointer (some ⟨b22, f0, none⟩)), (.slice (some ⟨bt26, 0, none⟩) 0 9), (.pointer (some ⟨b21, 0, none⟩)), (.int .i64 v.fr), (.agg (EL (E0 v))), (.slice (some ⟨bt30, 0, none⟩) 1 1), (.slice (some ⟨bt26, 0, none⟩) 1 9), (.pointer (some ⟨b21, 0, none⟩)), (.int .i64 v.fr), (.pointer (some ⟨bt7, f0, none⟩)), (.slice (A f0) (nxt L ((f0 : Nat) : Int)).length (K0 f0)), (.slice (some ⟨b23, 0, none⟩) 1 1), (.slice (some ⟨bt26, 0, none⟩) (r2.length + 1) 9), (.int .i64 ((r2.length + 1) : Nat)), (.bool true), (.slice (some ⟨bt26, 0, none⟩) (r2.length + 1) 9), (.int .i64 ((r2.length + 1) : Nat)), (.int .i64 ((r2.length : Nat) : Int)), (.slice (some ⟨bl, 0, none⟩) (r2.length + 1) cl), (.int .i64 ((r2.length : Nat) : Int)), (.pointer (some ⟨bl, r2.length, none⟩)), (.slice (some ⟨b, o2, none⟩) (l.length + 1) c2), (.int .i64 ((l.length + 1) : Nat)), (.bool true), (.slice (some ⟨bl, 0, none⟩) (r2.length + 1) cl), (.int .i64 ((r2.length : Nat) : Int)), (.pointer (some ⟨bl, r2.length, none⟩)), (.slice (some ⟨b, o2, none⟩) (l.length + 1) c2), (.pointer (some ⟨b, (o2 + 0 * 13), none⟩)), (.agg (EL e)), (.slice (some ⟨bl, 0, none⟩) (r2.length + 1) cl), (.int .i64 ((r2.length : Nat) : Int)), (.slice (some ⟨bl, 0, none⟩) (r2.length + 1) cl), (.int .i64 ((r2.length : Nat) : Int)), (.pointer (some ⟨bl, r2.length, none⟩)), (.slice (some ⟨b, o2, none⟩) (l.length + 1) c2), (.slice (some ⟨b, if c2 = 1 then o2 else o2 + 1 * 13, none⟩) (l.length + 1 - 1) (c2 - 1)), (.pointer (some ⟨bl, r2.length, none⟩)), (.int .i64 (s' : Nat)), (.int .i64 ((s' + 1 : Nat) : Int)), j65, j66, j67, j68, (.bool false), u70, u71, u72, u73, u74, u75, u76, u77, u78, u79, u80, u81, u82, u83, u84, u85, u86, u87, u88, u89, u90, u91, u92, u93, u94, u95, u96, u97, u98, u99, u100, u101, u102, u103, u104, u105, u106, u107, u108, u109, u110, u111, u112, u113, u114, u115, u116, u117, u118, u119, u120, u121, undef, undef], defers := [] } W43 by
              by_cases e0 : 100000 < s' + 1
              · skip
                obtain rfl : fd' = false := hnb e0
                refine sm (.int .i64 ((s' + 1 : Nat) : Int)) 65 rfl rfl rfl rfl ?_
                simp only [zp]
                refine sv (.bool true) 66 rfl rfl (ex_bin (u := (.int .i64 ((s' + 1 : Nat) : Int))) (r := (.int .i64 100000)) rfl rfl rfl (eg3 _ _ _ _ _ _) (gtr3 _ (decide_eq_true (by omega)))) ?_
                simp only [zp]
                refine sm (.bool true) 67 rfl rfl rfl rfl ?_
                simp only [zp]
                refine sm (.bool false) 68 rfl rfl rfl rfl ?_
                simp only [zp]
                refine sv (.bool false) 69 rfl rfl (ex_pkT rfl rfl rfl) ?_
                simp only [zp]
                refine st_end ?_
                exact JOIN _ _ _ _
              · skip
                refine sm (.int .i64 ((s' + 1 : Nat) : Int)) 65 rfl rfl rfl rfl ?_
                simp only [zp]
                refine sv (.bool false) 66 rfl rfl (ex_bin (u := (.int .i64 ((s' + 1 : Nat) : Int))) (r := (.int .i64 100000)) rfl rfl rfl (eg3 _ _ _ _ _ _) (gtr3 _ (decide_eq_false (by omega)))) ?_
                simp only [zp]
                refine sm (.bool false) 67 rfl rfl rfl rfl ?_
                simp only [zp]
                refine sn 68 rfl rfl ?_
                simp only [zp]
                refine sv (.bool false) 69 rfl rfl (ex_pkF rfl rfl rfl) ?_
                simp only [zp]
                refine st_end ?_
                exact JOIN _ _ _ _
            intro j65 j66 j67 j68
            subst hQ
            refine wp_cond_false rfl ?_
            refine wp_skip ?_
            refine wp_seq ?_
            refine wq fun Q hQ => ?_
            refine sm (.map (some r)) 71 rfl rfl rfl rfl ?_
            simp only [zp]
            refine sv (.pointer (some ⟨b27, 0, none⟩)) 72 rfl rfl (ex_fa (p := (.pointer (some ⟨b27, 0, none⟩))) rfl rfl (fa49_0 _ _)) ?_
            simp only [zp]
            refine sv (.int .i64 e.ch) 73 rfl rfl (ex_load (p := (.pointer (some ⟨b27, 0, none⟩))) rfl rfl (ld3 (at_cell k27 rfl))) ?_
            simp only [zp]
            refine sv (.tuple #[(.agg #[]), (.bool false)]) 74 rfl rfl (ex_lk rfl rfl rfl (look_set hI.mp (decide_eq_false (fun q => hav ((hSm e.ch).1 q).1)))) ?_
            simp only [zp]
            refine sm (.tuple #[(.agg #[]), (.bool false)]) 70 rfl rfl rfl rfl ?_
            simp only [zp]
            refine sv (.agg #[]) 75 rfl rfl (ex_ext rfl rfl rfl) ?_
            simp only [zp]
            refine sv (.bool false) 76 rfl rfl (ex_ext rfl rfl rfl) ?_
            simp only [zp]
            refine st_new (fun b => .pointer (some ⟨b, 0, none⟩)) (some 16) rfl rfl (ex_alloc rfl zero119) ?_
            intro b28 W44 k28 g28 B
            simp only [zp]
            have ne_b28_b27 : b28 ≠ b27 := fun e => by have := lt_of k27; omega
            have ne_b28_b22 : b28 ≠ b22 := fun e => by have := lt_of k9; omega
            have ne_b28_b21 : b28 ≠ b21 := fun e => by have := lt_of k4; omega
            have ne_b28_bl : b28 ≠ bl := fun e => by have := lt_of kbl; omega
            have ne_b28_bt26 : b28 ≠ bt26 := fun e => by have := lt_of kbw; omega
            have ge_b28 := Nat.le_trans E.size g28
            replace E := E.next B
            replace hsz := Nat.le_trans hsz (B).size
            replace hI := hI.keep B
            replace hQs := hQs.keep B
            replace hWy := hWy.keep B
            replace hOw := own_keep hOw B
            replace k27 := keep B k27
            replace k9 := keep B k9
            replace k4 := keep B k4
            replace kbl := keep B kbl
            replace kbw := keep B kbw
            clear B
            obtain ⟨W45, hst, kn, K⟩ := put_all (D := #[]) k28 rfl inf119 (by kernel_rfl)
            refine st_sk rfl rfl (ex_store rfl rfl rfl hst) ?_
            replace E := E.putN K ge_b28
            replace hsz := Nat.le_trans hsz K.size
            replace hI := hI.putT K k28 (by decide)
            replace hQs := hQs.putT K k28 (by decide)
            replace hWy := hWy.keepK K (fun e => hWy.ne k28 (by decide) e)
            replace hOw := own_keepK hOw K (fun q hq e => own_ne hOw k28 (by decide) (by rw [hq, e]))
            replace k27 := keepK K k27 (fun e => ne_tag k27 k28 (by decide) e)
            replace k9 := keepK K k9 (fun e => ne_tag k9 k28 (by decide) e)
            replace k4 := keepK K k4 (fun e => ne_tag k4 k28 (by decide) e)
            replace kbl := keepK K kbl (fun e => ne_tag kbl k28 (by decide) e)
            replace kbw := keepK K kbw (fun e => ne_tag kbw k28 (by decide) e)
            replace k28 := kn
            clear kn K hst
            refine sg (.bool false) 17 rfl rfl rfl rfl ?_
            simp only [zp]
            refine st_end ?_
            subst hQ
            refine wq fun Q hQ => ?_
            refine sm (.bool false) 77 rfl rfl rfl rfl ?_
            simp only [zp]
            refine sm (.bool false) 78 rfl rfl rfl rfl ?_
            simp only [zp]
            refine sv (.pointer (some ⟨b27, 2, none⟩)) 79 rfl rfl (ex_fa (p := (.pointer (some ⟨b27, 0, none⟩))) rfl rfl (fa49_2 _ _)) ?_
            simp only [zp]
            refine sv (.int .i64 e.to) 80 rfl rfl (ex_load (p := (.pointer (some ⟨b27, 2, none⟩))) rfl rfl (ld3 (at_cell k27 rfl))) ?_
            simp only [zp]
            refine sv (.pointer (some ⟨b22, k, none⟩)) 81 rfl rfl (ixB rfl rfl rfl hk hk8) ?_
            simp only [zp]
            refine sv (.bool true) 82 rfl rfl (ex_load rfl rfl (ld4 (n := true) (at_cell k9 (by rw [goA_at _ k hk8, ← hk]; exact congrArg (fun q => some (Value.bool q)) (decide_eq_true hgo))))) ?_
            simp only [zp]
            refine sv (.bool true) 83 rfl rfl (ex_pkF rfl rfl rfl) ?_
            simp only [zp]
            refine st_end ?_
            subst hQ
            refine wp_cond_true rfl ?_
            refine wp_exit ?_
            refine ex_then ?_
            refine ex_blk ?_
            refine then_go ?_
            go_roundw
            case rel => exact ⟨s' + 1, fd', B', l, (some ⟨b, if c2 = 1 then o2 else o2 + 1 * 13, none⟩), c2 - 1, rfl, rfl, rfl, rfl, by omega, ⟨E, hsz, hI, hQs, k9, hWy, hOw, H.fd, H.pk.skp hr8 hsk⟩⟩
            case measure => simp [intOf]; omega
          have hsk : skip v (gon (toSt (⟨d, e :: l, some ⟨b, o2, none⟩, c2⟩ :: r2))) e = false := by unfold skip; rw [decide_eq_false hav, decide_eq_false hgo]; rfl
          by_cases hto : e.to = v.to
          · skip
            have E := H.E
            have D := Below.refl wr.heap.size wr
            refine wp_seq ?_
            refine wq fun Q hQ => ?_
            refine sm (.slice (some ⟨bl, 0, none⟩) (r2.length + 1) cl) 43 rfl rfl rfl rfl ?_
            simp only [zp]
            refine sm (.int .i64 ((r2.length : Nat) : Int)) 44 rfl rfl rfl rfl ?_
            simp only [zp]
            refine sv (.pointer (some ⟨bl, r2.length, none⟩)) 45 rfl rfl (ixS0 (k := r2.length) rfl rfl rfl rfl (by omega)) ?_
            simp only [zp]
            refine sv (.slice (some ⟨b, o2, none⟩) (l.length + 1) c2) 46 rfl rfl (ex_load rfl rfl (ld33 (own_cell hOw hlast))) ?_
            simp only [zp]
            refine sv (.int .i64 ((l.length + 1) : Nat)) 47 rfl rfl (ex_len rfl rfl (len33 _ _ _ _ _)) ?_
            simp only [zp]
            refine sv (.bool true) 48 rfl rfl (ex_bin (u := (.int .i64 ((l.length + 1) : Nat))) (r := (.int .i64 0)) rfl rfl rfl (eg3 _ _ _ _ _ _) (gtr3 _ (decide_eq_true (by omega)))) ?_
            simp only [zp]
            refine st_end ?_
            subst hQ
            refine wp_cond_true rfl ?_
            refine wp_skip ?_
            refine wp_block ?_
            refine wq fun Q hQ => ?_
            refine sm (.slice (some ⟨bl, 0, none⟩) (r2.length + 1) cl) 49 rfl rfl rfl rfl ?_
            simp only [zp]
            refine sm (.int .i64 ((r2.length : Nat) : Int)) 50 rfl rfl rfl rfl ?_
            simp only [zp]
            refine sv (.pointer (some ⟨bl, r2.length, none⟩)) 51 rfl rfl (ixS0 (k := r2.length) rfl rfl rfl rfl (by omega)) ?_
            simp only [zp]
            refine sv (.slice (some ⟨b, o2, none⟩) (l.length + 1) c2) 52 rfl rfl (ex_load rfl rfl (ld33 (own_cell hOw hlast))) ?_
            simp only [zp]
            refine sv (.pointer (some ⟨b, (o2 + 0 * 13), none⟩)) 53 rfl rfl (ix33 (k := 0) rfl rfl rfl (rfl) ((by omega))) ?_
            simp only [zp]
            refine sv (.agg (EL e)) 54 rfl rfl (ex_load rfl rfl (ld_range hrE Try.underlying49 rfl inf49)) ?_
            simp only [zp]
            refine st_new (fun b => .pointer (some ⟨b, 0, none⟩)) (some 15) rfl rfl (ex_alloc rfl zero49) ?_
            intro b29 W46 k29 g29 B
            simp only [zp]
            have gD_b29 := Nat.le_trans D.size g29
            have ge_b29 := Nat.le_trans E.size g29
            replace E := E.next B
            replace D := below_next D B
            clear B
            obtain ⟨W47, hst, kn, K⟩ := put_all (D := (EL e)) k29 rfl inf49 (by kernel_rfl)
            refine st_sk rfl rfl (ex_store rfl rfl rfl hst) ?_
            replace E := E.putN K ge_b29
            replace D := below_put D gD_b29 K
            replace k29 := kn
            clear kn K hst
            refine st_end ?_
            subst hQ
            refine wp_seq ?_
            have H1 := H.keep D
            have hOw := H1.ow
            have hI := H1.hI
            have hQs := H1.hS
            have k9 := H1.k9
            have hWy := H1.wy
            have hsz := H1.sz
            have k4 := hI.k4
            obtain ⟨curl, kbl⟩ := own_blk hOw
            obtain ⟨curw, kbw, _⟩ := id hWy
            have ge_bl : w.heap.size ≤ bl := hbl
            have hwlt : bt26 < wr.heap.size := Nat.lt_of_lt_of_le hbw H.sz
            have ne15 : ¬ b29 = bt26 := by have := gD_b29; omega
            clear D
            refine wl_in (wl_cap fun Q hQ => ?_)
            refine sm (.slice (some ⟨bl, 0, none⟩) (r2.length + 1) cl) 55 rfl rfl rfl rfl ?_
            simp only [zp]
            refine sm (.int .i64 ((r2.length : Nat) : Int)) 56 rfl rfl rfl rfl ?_
            simp only [zp]
            refine sm (.slice (some ⟨bl, 0, none⟩) (r2.length + 1) cl) 57 rfl rfl rfl rfl ?_
            simp only [zp]
            refine sm (.int .i64 ((r2.length : Nat) : Int)) 58 rfl rfl rfl rfl ?_
            simp only [zp]
            refine sv (.pointer (some ⟨bl, r2.length, none⟩)) 59 rfl rfl (ixS0 (k := r2.length) rfl rfl rfl rfl (by omega)) ?_
            simp only [zp]
            refine sv (.slice (some ⟨b, o2, none⟩) (l.length + 1) c2) 60 rfl rfl (ex_load rfl rfl (ld33 (own_cell hOw hlast))) ?_
            simp only [zp]
            refine sv (.slice (some ⟨b, if c2 = 1 then o2 else o2 + 1 * 13, none⟩) (l.length + 1 - 1) (c2 - 1)) 61 rfl rfl (ex_cutl (k := 1) rfl rfl rfl rfl (by omega) (by omega)) ?_
            simp only [zp]
            refine sv (.pointer (some ⟨bl, r2.length, none⟩)) 62 rfl rfl (ixS0 (k := r2.length) rfl rfl rfl rfl (by omega)) ?_
            simp only [zp]
            obtain ⟨⟨old, hold⟩, hfz, hOw2, hK2⟩ := own_set (u := (.slice (some ⟨b, if c2 = 1 then o2 else o2 + 1 * 13, none⟩) (l.length + 1 - 1) (c2 - 1))) (i := r2.length) hOw (by omega)
            refine st_sk rfl rfl (ex_store rfl rfl rfl (sto33 hold hfz)) ?_
            obtain ⟨W48, hW2⟩ : ∃ W', W47.setCell ⟨bl, r2.length, none⟩ (.slice (some ⟨b, if c2 = 1 then o2 else o2 + 1 * 13, none⟩) (l.length + 1 - 1) (c2 - 1)) = W' := ⟨_, rfl⟩
            rw [hW2] at hOw2 hK2 ⊢
            replace E := E.putN hK2 ge_bl
            replace hsz := Nat.le_trans hsz hK2.size
            replace hI := hI.putT hK2 kbl (by decide)
            replace hQs := hQs.putT hK2 kbl (by decide)
            replace hWy := hWy.keepK hK2 (fun e => hWy.ne kbl (by decide) e)
            replace k29 := keepK hK2 k29 (fun e => ne_tag k29 kbl (by decide) e)
            replace k9 := keepK hK2 k9 (fun e => ne_tag k9 kbl (by decide) e)
            replace k4 := keepK hK2 k4 (fun e => ne_tag k4 kbl (by decide) e)
            replace kbw := keepK hK2 kbw (fun e => ne_tag kbw kbl (by decide) e)
            have hxs : (xsF (⟨d, e :: l, some ⟨b, o2, none⟩, c2⟩ :: r2)).set r2.length (.slice (some ⟨b, if c2 = 1 then o2 else o2 + 1 * 13, none⟩) (l.length + 1 - 1) (c2 - 1)) = xsF (⟨d, l, some ⟨b, if c2 = 1 then o2 else o2 + 1 * 13, none⟩, c2 - 1⟩ :: r2) := by
              rw [xsF_cons, xsF_cons, List.set_append_right _ _ (by rw [xsF_len]; exact Nat.le_refl _), xsF_len, Nat.sub_self]
              rfl
            rw [hxs] at hOw2
            replace hOw := hOw2
            obtain ⟨curl, kbl⟩ := own_blk hOw
            clear hW2 hK2 hold hfz hxs hOw2
            replace hQs : SSs W48 N7 (⟨d, l, some ⟨b, if c2 = 1 then o2 else o2 + 1 * 13, none⟩, c2 - 1⟩ :: r2) := fun q hq => by
              rcases List.mem_cons.1 hq with hq | hq
              · subst hq
                have hq := hQs ⟨d, e :: l, some ⟨b, o2, none⟩, c2⟩ (by simp)
                exact ⟨Es_tail hq.1 hq.2, by show l.length ≤ c2 - 1; omega⟩
              · exact hQs q (by simp [hq])
            replace hWy : Wy W48 bt26 (wayF (⟨d, l, some ⟨b, if c2 = 1 then o2 else o2 + 1 * 13, none⟩, c2 - 1⟩ :: r2)) := hWy
            replace k9 : W48.heap[b22]? = some (.cells (goA (gon (toSt (⟨d, l, some ⟨b, if c2 = 1 then o2 else o2 + 1 * 13, none⟩, c2 - 1⟩ :: r2)))).toArray 117) := k9
            refine st_end ?_
            subst hQ
            refine wq fun Q hQ => ?_
            refine sm (.int .i64 (s' : Nat)) 63 rfl rfl rfl rfl ?_
            simp only [zp]
            refine sv (.int .i64 ((s' + 1 : Nat) : Int)) 64 rfl rfl (ex_bin rfl rfl rfl (eg3 _ _ _ _ _ _) (add3 _ (by omega) (by omega))) ?_
            simp only [zp]
            refine sg (.int .i64 ((s' + 1 : Nat) : Int)) 12 rfl rfl rfl rfl ?_
            simp only [zp]
            refine st_end ?_
            subst hQ
            refine wp_seq ?_
            refine wp_seq ?_
            refine wl_in ?_
            refine wl_cap fun Q hQ => ?_
            suffices JOIN : ∀ (j65 j66 j67 j68 : Value), Q .normal { tmps := #[(.pointer (some ⟨g, 0, none⟩)), (.agg (WL_ v ao nw cw)), (.func (.func 36) #[] #[(.pointer (some ⟨b3, 0, none⟩)), (.pointer (some ⟨b6, 0, none⟩))]), undef, (.pointer (some ⟨b21, 0, none⟩)), undef, (.bool false), (.pointer (some ⟨bt7, 0, none⟩)), (.map (some r)), (.pointer (some ⟨b22, 0, none⟩)), (.slice (some ⟨bt26, 0, none⟩) (r2.length + 1) 9), (.slice (some ⟨bl, 0, none⟩) (r2.length + 1) cl), (.int .i64 ((s' + 1 : Nat) : Int)), (.bool fd'), (.int .i64 ((r2.length : Nat) : Int)), (.pointer (some ⟨b29, 0, none⟩)), u16, u17, (.pointer (some ⟨g, 0, none⟩)), (.agg (rowL L A K0 8).toArray), (.pointer (some ⟨b21, 5, none⟩)), (.slice ao nw cw), (.map (some r)), (.pointer (some ⟨b21, 0, none⟩)), (.int .i64 v.fr), (.pointer (some ⟨b22, f0, none⟩)), (.slice (some ⟨bt26, 0, none⟩) 0 9), (.pointer (some ⟨b21, 0, none⟩)), (.int .i64 v.fr), (.agg (EL (E0 v))), (.slice (some ⟨bt30, 0, none⟩) 1 1), (.slice (some ⟨bt26, 0, none⟩) 1 9), (.pointer (some ⟨b21, 0, none⟩)), (.int .i64 v.fr), (.pointer (some ⟨bt7, f0, none⟩)), (.slice (A f0) (nxt L ((f0 : Nat) : Int)).length (K0 f0)), (.slice (some ⟨b23, 0, none⟩) 1 1), (.slice (some ⟨bt26, 0, none⟩) (r2.length + 1) 9), (.int .i64 ((r2.length + 1) : Nat)), (.bool true), (.slice (some ⟨bt26, 0, none⟩) (r2.length + 1) 9), (.int .i64 ((r2.length + 1) : Nat)), (.int .i64 ((r2.length : Nat) : Int)), (.slice (some ⟨bl, 0, none⟩) (r2.length + 1) cl), (.int .i64 ((r2.length : Nat) : Int)), (.pointer (some ⟨bl, r2.length, none⟩)), (.slice (some ⟨b, o2, none⟩) (l.length + 1) c2), (.int .i64 ((l.length + 1) : Nat)), (.bool true), (.slice (some ⟨bl, 0, none⟩) (r2.length + 1) cl), (.int .i64 ((r2.length : Nat) : Int)), (.pointer (some ⟨bl, r2.length, none⟩)), (.slice (some ⟨b, o2, none⟩) (l.length + 1) c2), (.pointer (some ⟨b, (o2 + 0 * 13), none⟩)), (.agg (EL e)), (.slice (some ⟨bl, 0, none⟩) (r2.length + 1) cl), (.int .i64 ((r2.length : Nat) : Int)), (.slice (some ⟨bl, 0, none⟩) (r2.length + 1) cl), (.int .i64 ((r2.length : Nat) : Int)), (.pointer (some ⟨bl, r2.length, none⟩)), (.slice (some ⟨b, o2, none⟩) (l.length + 1) c2), (.slice (some ⟨b, if c2 = 1 then o2 else o2 + 1 * 13, none⟩) (l.length + 1 - 1) (c2 - 1)), (.pointer (some ⟨bl, r2.length, none⟩)), (.int .i64 (s' : Nat)), (.int .i64 ((s' + 1 : Nat) : Int)), j65, j66, j67, j68, (.bool false), u70, u71, u72, u73, u74, u75, u76, u77, u78, u79, u80, u81, u82, u83, u84, u85, u86, u87, u88, u89, u90, u91, u92, u93, u94, u95, u96, u97, u98, u99, u100, u101, u102, u103, u104, u105, u106, u107, u108, u109, u110, u111, u112, u113, u114, u115, u116, u117, u118, u119, u120, u121, undef, undef], defers := [] } W48 by
              by_cases e0 : 100000 < s' + 1
              · skip
                obtain rfl : fd' = false := hnb e0
                refine sm (.int .i64 ((s' + 1 : Nat) : Int)) 65 rfl rfl rfl rfl ?_
                simp only [zp]
                refine sv (.bool true) 66 rfl rfl (ex_bin (u := (.int .i64 ((s' + 1 : Nat) : Int))) (r := (.int .i64 100000)) rfl rfl rfl (eg3 _ _ _ _ _ _) (gtr3 _ (decide_eq_true (by omega)))) ?_
                simp only [zp]
                refine sm (.bool true) 67 rfl rfl rfl rfl ?_
                simp only [zp]
                refine sm (.bool false) 68 rfl rfl rfl rfl ?_
                simp only [zp]
                refine sv (.bool false) 69 rfl rfl (ex_pkT rfl rfl rfl) ?_
                simp only [zp]
                refine st_end ?_
                exact JOIN _ _ _ _
              · skip
                refine sm (.int .i64 ((s' + 1 : Nat) : Int)) 65 rfl rfl rfl rfl ?_
                simp only [zp]
                refine sv (.bool false) 66 rfl rfl (ex_bin (u := (.int .i64 ((s' + 1 : Nat) : Int))) (r := (.int .i64 100000)) rfl rfl rfl (eg3 _ _ _ _ _ _) (gtr3 _ (decide_eq_false (by omega)))) ?_
                simp only [zp]
                refine sm (.bool false) 67 rfl rfl rfl rfl ?_
                simp only [zp]
                refine sn 68 rfl rfl ?_
                simp only [zp]
                refine sv (.bool false) 69 rfl rfl (ex_pkF rfl rfl rfl) ?_
                simp only [zp]
                refine st_end ?_
                exact JOIN _ _ _ _
            intro j65 j66 j67 j68
            subst hQ
            refine wp_cond_false rfl ?_
            refine wp_skip ?_
            refine wp_seq ?_
            refine wq fun Q hQ => ?_
            refine sm (.map (some r)) 71 rfl rfl rfl rfl ?_
            simp only [zp]
            refine sv (.pointer (some ⟨b29, 0, none⟩)) 72 rfl rfl (ex_fa (p := (.pointer (some ⟨b29, 0, none⟩))) rfl rfl (fa49_0 _ _)) ?_
            simp only [zp]
            refine sv (.int .i64 e.ch) 73 rfl rfl (ex_load (p := (.pointer (some ⟨b29, 0, none⟩))) rfl rfl (ld3 (at_cell k29 rfl))) ?_
            simp only [zp]
            refine sv (.tuple #[(.agg #[]), (.bool false)]) 74 rfl rfl (ex_lk rfl rfl rfl (look_set hI.mp (decide_eq_false (fun q => hav ((hSm e.ch).1 q).1)))) ?_
            simp only [zp]
            refine sm (.tuple #[(.agg #[]), (.bool false)]) 70 rfl rfl rfl rfl ?_
            simp only [zp]
            refine sv (.agg #[]) 75 rfl rfl (ex_ext rfl rfl rfl) ?_
            simp only [zp]
            refine sv (.bool false) 76 rfl rfl (ex_ext rfl rfl rfl) ?_
            simp only [zp]
            refine st_new (fun b => .pointer (some ⟨b, 0, none⟩)) (some 16) rfl rfl (ex_alloc rfl zero119) ?_
            intro b30 W49 k30 g30 B
            simp only [zp]
            have ne_b30_b29 : b30 ≠ b29 := fun e => by have := lt_of k29; omega
            have ne_b30_b22 : b30 ≠ b22 := fun e => by have := lt_of k9; omega
            have ne_b30_b21 : b30 ≠ b21 := fun e => by have := lt_of k4; omega
            have ne_b30_bl : b30 ≠ bl := fun e => by have := lt_of kbl; omega
            have ne_b30_bt26 : b30 ≠ bt26 := fun e => by have := lt_of kbw; omega
            have ge_b30 := Nat.le_trans E.size g30
            replace E := E.next B
            replace hsz := Nat.le_trans hsz (B).size
            replace hI := hI.keep B
            replace hQs := hQs.keep B
            replace hWy := hWy.keep B
            replace hOw := own_keep hOw B
            replace k29 := keep B k29
            replace k9 := keep B k9
            replace k4 := keep B k4
            replace kbl := keep B kbl
            replace kbw := keep B kbw
            clear B
            obtain ⟨W50, hst, kn, K⟩ := put_all (D := #[]) k30 rfl inf119 (by kernel_rfl)
            refine st_sk rfl rfl (ex_store rfl rfl rfl hst) ?_
            replace E := E.putN K ge_b30
            replace hsz := Nat.le_trans hsz K.size
            replace hI := hI.putT K k30 (by decide)
            replace hQs := hQs.putT K k30 (by decide)
            replace hWy := hWy.keepK K (fun e => hWy.ne k30 (by decide) e)
            replace hOw := own_keepK hOw K (fun q hq e => own_ne hOw k30 (by decide) (by rw [hq, e]))
            replace k29 := keepK K k29 (fun e => ne_tag k29 k30 (by decide) e)
            replace k9 := keepK K k9 (fun e => ne_tag k9 k30 (by decide) e)
            replace k4 := keepK K k4 (fun e => ne_tag k4 k30 (by decide) e)
            replace kbl := keepK K kbl (fun e => ne_tag kbl k30 (by decide) e)
            replace kbw := keepK K kbw (fun e => ne_tag kbw k30 (by decide) e)
            replace k30 := kn
            clear kn K hst
            refine sg (.bool false) 17 rfl rfl rfl rfl ?_
            simp only [zp]
            refine st_end ?_
            subst hQ
            refine wq fun Q hQ => ?_
            refine sm (.bool false) 77 rfl rfl rfl rfl ?_
            simp only [zp]
            refine sm (.bool false) 78 rfl rfl rfl rfl ?_
            simp only [zp]
            refine sv (.pointer (some ⟨b29, 2, none⟩)) 79 rfl rfl (ex_fa (p := (.pointer (some ⟨b29, 0, none⟩))) rfl rfl (fa49_2 _ _)) ?_
            simp only [zp]
            refine sv (.int .i64 e.to) 80 rfl rfl (ex_load (p := (.pointer (some ⟨b29, 2, none⟩))) rfl rfl (ld3 (at_cell k29 rfl))) ?_
            simp only [zp]
            refine sv (.pointer (some ⟨b22, k, none⟩)) 81 rfl rfl (ixB rfl rfl rfl hk hk8) ?_
            simp only [zp]
            refine sv (.bool false) 82 rfl rfl (ex_load rfl rfl (ld4 (n := false) (at_cell k9 (by rw [goA_at _ k hk8, ← hk]; exact congrArg (fun q => some (Value.bool q)) (decide_eq_false hgo))))) ?_
            simp only [zp]
            refine sv (.bool false) 83 rfl rfl (ex_pkF rfl rfl rfl) ?_
            simp only [zp]
            refine st_end ?_
            subst hQ
            refine wp_cond_false rfl ?_
            refine wp_skip ?_
            refine wp_seq ?_
            refine wq fun Q hQ => ?_
            refine sv (.pointer (some ⟨b29, 2, none⟩)) 84 rfl rfl (ex_fa (p := (.pointer (some ⟨b29, 0, none⟩))) rfl rfl (fa49_2 _ _)) ?_
            simp only [zp]
            refine sv (.int .i64 e.to) 85 rfl rfl (ex_load (p := (.pointer (some ⟨b29, 2, none⟩))) rfl rfl (ld3 (at_cell k29 rfl))) ?_
            simp only [zp]
            refine sv (.pointer (some ⟨b21, 1, none⟩)) 86 rfl rfl (ex_fa (p := (.pointer (some ⟨b21, 0, none⟩))) rfl rfl (fa32_1 _ _)) ?_
            simp only [zp]
            refine sv (.int .i64 v.to) 87 rfl rfl (ex_load (p := (.pointer (some ⟨b21, 1, none⟩))) rfl rfl (ld3 (at_cell k4 rfl))) ?_
            simp only [zp]
            refine sv (.bool true) 88 rfl rfl (ex_bin (u := (.int .i64 e.to)) (r := (.int .i64 v.to)) rfl rfl rfl (eg3 _ _ _ _ _ _) (eql3 _ (decide_eq_true hto))) ?_
            simp only [zp]
            refine st_end ?_
            subst hQ
            refine wp_cond_true rfl ?_
            refine wq fun Q hQ => ?_
            refine sm (.func (.func 36) #[] #[(.pointer (some ⟨b3, 0, none⟩)), (.pointer (some ⟨b6, 0, none⟩))]) 89 rfl rfl rfl rfl ?_
            simp only [zp]
            refine sm (.slice (some ⟨bt26, 0, none⟩) (r2.length + 1) 9) 90 rfl rfl rfl rfl ?_
            simp only [zp]
            refine sv (.agg (EL e)) 91 rfl rfl (ex_load (p := (.pointer (some ⟨b29, 0, none⟩))) rfl rfl (ld_all k29 Try.underlying49 rfl inf49)) ?_
            simp only [zp]
            refine st_new (fun b => .slice (some ⟨b, 0, none⟩) 1 1) (some 92) rfl rfl (ex_bsl1 (u := (.agg (EL e))) rfl rfl (bslE e _)) ?_
            intro b31 W51 k31 g31 B
            simp only [zp]
            have ne_b31_b29 : b31 ≠ b29 := fun e => by have := lt_of k29; omega
            have ne_b31_b22 : b31 ≠ b22 := fun e => by have := lt_of k9; omega
            have ne_b31_b21 : b31 ≠ b21 := fun e => by have := lt_of k4; omega
            have ne_b31_bl : b31 ≠ bl := fun e => by have := lt_of kbl; omega
            have ne_b31_bt26 : b31 ≠ bt26 := fun e => by have := lt_of kbw; omega
            have ne_b31_b30 : b31 ≠ b30 := fun e => by have := lt_of k30; omega
            have ge_b31 := Nat.le_trans E.size g31
            replace E := E.next B
            replace hsz := Nat.le_trans hsz (B).size
            replace hI := hI.keep B
            replace hQs := hQs.keep B
            replace hWy := hWy.keep B
            replace hOw := own_keep hOw B
            replace k29 := keep B k29
            replace k9 := keep B k9
            replace k4 := keep B k4
            replace kbl := keep B kbl
            replace kbw := keep B kbw
            replace k30 := keep B k30
            clear B
            have hwl : (wayF (⟨d, l, some ⟨b, if c2 = 1 then o2 else o2 + 1 * 13, none⟩, c2 - 1⟩ :: r2)).length = r2.length + 1 := by rw [wayF_len]; rfl
            obtain ⟨W52, hr2, hWy2, hK2⟩ := hWy.add (e := e) (by omega) (show W51.rangeAt b31 0 (EL e).toList from at_range (o := 0) (n := 13) k31 (by show 0 + 13 ≤ _; simp [EL]))
            rw [hwl] at hr2
            replace E := E.putN hK2 ge_bt26
            replace hsz := Nat.le_trans hsz hK2.size
            replace hI := hI.putW hK2 kbw hN7w hbw
            replace hQs := hQs.putW hK2 hN7w
            replace hOw := own_keepK hOw hK2 (fun q hq e => own_ne hOw kbw (by decide) (by rw [hq, e]))
            replace k29 := keepK hK2 k29 (fun e => ne15 e)
            replace k9 := keepK hK2 k9 (fun e => ne_tag k9 kbw (by decide) e)
            replace k4 := keepK hK2 k4 (fun e => ne_tag k4 kbw (by decide) e)
            replace kbl := keepK hK2 kbl (fun e => ne_tag kbl kbw (by decide) e)
            replace k30 := keepK hK2 k30 (fun e => ne_tag k30 kbw (by decide) e)
            replace k31 := keepK hK2 k31 (fun e => by omega)
            replace hWy := hWy2.cut
            obtain ⟨curw, kbw, _⟩ := id hWy
            refine st_to (v := (.slice (some ⟨bt26, 0, none⟩) (r2.length + 1 + 1) 9)) (some 93) rfl rfl (ex_app rfl rfl rfl hr2) ?_
            simp only [zp]
            refine sv (.slice (some ⟨bt26, 13, none⟩) (r2.length + 1) 8) 94 rfl rfl (ex_cutw rfl rfl rfl (by omega)) ?_
            simp only [zp]
            obtain ⟨C6, k6c⟩ := hI.bs.box
            have ge_b6 : True := trivial
            have hdp : (wayF (⟨d, l, some ⟨b, if c2 = 1 then o2 else o2 + 1 * 13, none⟩, c2 - 1⟩ :: r2) ++ [e]).drop 1 = (wayF (⟨d, l, some ⟨b, if c2 = 1 then o2 else o2 + 1 * 13, none⟩, c2 - 1⟩ :: r2)).drop 1 ++ [e] := List.drop_append_of_le_length (by omega)
            have hEw : Es W52 W52.heap.size (some ⟨bt26, 13, none⟩) ((wayF (⟨d, l, some ⟨b, if c2 = 1 then o2 else o2 + 1 * 13, none⟩, c2 - 1⟩ :: r2)).drop 1 ++ [e]) := by
              have q := range_drop hWy2.range (k := 1) (by rw [List.length_append]; omega)
              rw [hdp] at q
              obtain ⟨cur, hc, _⟩ := id hWy2
              exact .inr ⟨bt26, 13, rfl, lt_of hc, ⟨cur, hc⟩, q⟩
            refine st_call (some 95) rfl rfl (see_any (n := r2.length + 1) (c0 := 8) W52 hI.k3 hI.bs hsz hEw (Nat.le_refl _) (by rw [List.length_append, List.length_drop, hwl]; simp) (by omega) (by omega) (fun x hx => by
              rcases List.mem_append.1 hx with q | q
              · exact hLb x (H.pk.prs x q)
              · have : x = e := by simpa using q
                subst this
                exact heb) hv (bst_ne hI.bs)) (ex_callv (f := 36) (vs := [(.slice (some ⟨bt26, 13, none⟩) (r2.length + 1) 8)]) (cap := #[(.pointer (some ⟨b3, 0, none⟩)), (.pointer (some ⟨b6, 0, none⟩))]) rfl rfl (cf36 _) rfl) ?_
            rintro e W53 ⟨rfl, hBs, hKs⟩
            refine ⟨_, rfl, ?_⟩
            simp only [zp]
            replace E := E.putX hKs
            replace hsz := Nat.le_trans hsz hKs.size
            replace hI := hI.see hKs hBs
            replace hQs := hQs.putT hKs k6c (by decide)
            replace hWy := hWy.keepK hKs (fun e => hWy.ne k6c (by decide) e)
            replace hOw := own_keepK hOw hKs (fun q hq e => own_ne hOw k6c (by decide) (by rw [hq, e]))
            replace k29 := keepK hKs k29 (fun e => ne_tag k29 k6c (by decide) e)
            replace k9 := keepK hKs k9 (fun e => ne_tag k9 k6c (by decide) e)
            replace k4 := keepK hKs k4 (fun e => ne_tag k4 k6c (by decide) e)
            replace kbl := keepK hKs kbl (fun e => ne_tag kbl k6c (by decide) e)
            replace kbw := keepK hKs kbw (fun e => ne_tag kbw k6c (by decide) e)
            replace k30 := keepK hKs k30 (fun e => ne_tag k30 k6c (by decide) e)
            replace k31 := keepK hKs k31 (fun e => ne_tag k31 k6c (by decide) e)
            replace hWy2 := hWy2.keepK hKs (fun e => hWy2.ne k6c (by decide) e)
            refine sg (.bool (seeN v B' ((wayF (⟨d, l, some ⟨b, if c2 = 1 then o2 else o2 + 1 * 13, none⟩, c2 - 1⟩ :: r2)).drop 1 ++ [e])).isSome) 13 rfl rfl rfl rfl ?_
            simp only [zp]
            refine st_end ?_
            subst hQ
            refine wp_exit ?_
            refine ex_then ?_
            refine ex_blk ?_
            refine then_go ?_
            go_roundw
            case rel => exact ⟨s' + 1, _, _, l, (some ⟨b, if c2 = 1 then o2 else o2 + 1 * 13, none⟩), c2 - 1, rfl, rfl, rfl, rfl, by omega, ⟨E, hsz, hI, hQs, k9, hWy, hOw, rfl, H.pk.there hr8 hsk hto⟩⟩
            case measure => simp [intOf]; omega
          · skip
            have E := H.E
            have D := Below.refl wr.heap.size wr
            refine wp_seq ?_
            refine wq fun Q hQ => ?_
            refine sm (.slice (some ⟨bl, 0, none⟩) (r2.length + 1) cl) 43 rfl rfl rfl rfl ?_
            simp only [zp]
            refine sm (.int .i64 ((r2.length : Nat) : Int)) 44 rfl rfl rfl rfl ?_
            simp only [zp]
            refine sv (.pointer (some ⟨bl, r2.length, none⟩)) 45 rfl rfl (ixS0 (k := r2.length) rfl rfl rfl rfl (by omega)) ?_
            simp only [zp]
            refine sv (.slice (some ⟨b, o2, none⟩) (l.length + 1) c2) 46 rfl rfl (ex_load rfl rfl (ld33 (own_cell hOw hlast))) ?_
            simp only [zp]
            refine sv (.int .i64 ((l.length + 1) : Nat)) 47 rfl rfl (ex_len rfl rfl (len33 _ _ _ _ _)) ?_
            simp only [zp]
            refine sv (.bool true) 48 rfl rfl (ex_bin (u := (.int .i64 ((l.length + 1) : Nat))) (r := (.int .i64 0)) rfl rfl rfl (eg3 _ _ _ _ _ _) (gtr3 _ (decide_eq_true (by omega)))) ?_
            simp only [zp]
            refine st_end ?_
            subst hQ
            refine wp_cond_true rfl ?_
            refine wp_skip ?_
            refine wp_block ?_
            refine wq fun Q hQ => ?_
            refine sm (.slice (some ⟨bl, 0, none⟩) (r2.length + 1) cl) 49 rfl rfl rfl rfl ?_
            simp only [zp]
            refine sm (.int .i64 ((r2.length : Nat) : Int)) 50 rfl rfl rfl rfl ?_
            simp only [zp]
            refine sv (.pointer (some ⟨bl, r2.length, none⟩)) 51 rfl rfl (ixS0 (k := r2.length) rfl rfl rfl rfl (by omega)) ?_
            simp only [zp]
            refine sv (.slice (some ⟨b, o2, none⟩) (l.length + 1) c2) 52 rfl rfl (ex_load rfl rfl (ld33 (own_cell hOw hlast))) ?_
            simp only [zp]
            refine sv (.pointer (some ⟨b, (o2 + 0 * 13), none⟩)) 53 rfl rfl (ix33 (k := 0) rfl rfl rfl (rfl) ((by omega))) ?_
            simp only [zp]
            refine sv (.agg (EL e)) 54 rfl rfl (ex_load rfl rfl (ld_range hrE Try.underlying49 rfl inf49)) ?_
            simp only [zp]
            refine st_new (fun b => .pointer (some ⟨b, 0, none⟩)) (some 15) rfl rfl (ex_alloc rfl zero49) ?_
            intro b32 W54 k32 g32 B
            simp only [zp]
            have gD_b32 := Nat.le_trans D.size g32
            have ge_b32 := Nat.le_trans E.size g32
            replace E := E.next B
            replace D := below_next D B
            clear B
            obtain ⟨W55, hst, kn, K⟩ := put_all (D := (EL e)) k32 rfl inf49 (by kernel_rfl)
            refine st_sk rfl rfl (ex_store rfl rfl rfl hst) ?_
            replace E := E.putN K ge_b32
            replace D := below_put D gD_b32 K
            replace k32 := kn
            clear kn K hst
            refine st_end ?_
            subst hQ
            refine wp_seq ?_
            have H1 := H.keep D
            have hOw := H1.ow
            have hI := H1.hI
            have hQs := H1.hS
            have k9 := H1.k9
            have hWy := H1.wy
            have hsz := H1.sz
            have k4 := hI.k4
            obtain ⟨curl, kbl⟩ := own_blk hOw
            obtain ⟨curw, kbw, _⟩ := id hWy
            have ge_bl : w.heap.size ≤ bl := hbl
            have hwlt : bt26 < wr.heap.size := Nat.lt_of_lt_of_le hbw H.sz
            have ne15 : ¬ b32 = bt26 := by have := gD_b32; omega
            clear D
            refine wl_in (wl_cap fun Q hQ => ?_)
            refine sm (.slice (some ⟨bl, 0, none⟩) (r2.length + 1) cl) 55 rfl rfl rfl rfl ?_
            simp only [zp]
            refine sm (.int .i64 ((r2.length : Nat) : Int)) 56 rfl rfl rfl rfl ?_
            simp only [zp]
            refine sm (.slice (some ⟨bl, 0, none⟩) (r2.length + 1) cl) 57 rfl rfl rfl rfl ?_
            simp only [zp]
            refine sm (.int .i64 ((r2.length : Nat) : Int)) 58 rfl rfl rfl rfl ?_
            simp only [zp]
            refine sv (.pointer (some ⟨bl, r2.length, none⟩)) 59 rfl rfl (ixS0 (k := r2.length) rfl rfl rfl rfl (by omega)) ?_
            simp only [zp]
            refine sv (.slice (some ⟨b, o2, none⟩) (l.length + 1) c2) 60 rfl rfl (ex_load rfl rfl (ld33 (own_cell hOw hlast))) ?_
            simp only [zp]
            refine sv (.slice (some ⟨b, if c2 = 1 then o2 else o2 + 1 * 13, none⟩) (l.length + 1 - 1) (c2 - 1)) 61 rfl rfl (ex_cutl (k := 1) rfl rfl rfl rfl (by omega) (by omega)) ?_
            simp only [zp]
            refine sv (.pointer (some ⟨bl, r2.length, none⟩)) 62 rfl rfl (ixS0 (k := r2.length) rfl rfl rfl rfl (by omega)) ?_
            simp only [zp]
            obtain ⟨⟨old, hold⟩, hfz, hOw2, hK2⟩ := own_set (u := (.slice (some ⟨b, if c2 = 1 then o2 else o2 + 1 * 13, none⟩) (l.length + 1 - 1) (c2 - 1))) (i := r2.length) hOw (by omega)
            refine st_sk rfl rfl (ex_store rfl rfl rfl (sto33 hold hfz)) ?_
            obtain ⟨W56, hW2⟩ : ∃ W', W55.setCell ⟨bl, r2.length, none⟩ (.slice (some ⟨b, if c2 = 1 then o2 else o2 + 1 * 13, none⟩) (l.length + 1 - 1) (c2 - 1)) = W' := ⟨_, rfl⟩
            rw [hW2] at hOw2 hK2 ⊢
            replace E := E.putN hK2 ge_bl
            replace hsz := Nat.le_trans hsz hK2.size
            replace hI := hI.putT hK2 kbl (by decide)
            replace hQs := hQs.putT hK2 kbl (by decide)
            replace hWy := hWy.keepK hK2 (fun e => hWy.ne kbl (by decide) e)
            replace k32 := keepK hK2 k32 (fun e => ne_tag k32 kbl (by decide) e)
            replace k9 := keepK hK2 k9 (fun e => ne_tag k9 kbl (by decide) e)
            replace k4 := keepK hK2 k4 (fun e => ne_tag k4 kbl (by decide) e)
            replace kbw := keepK hK2 kbw (fun e => ne_tag kbw kbl (by decide) e)
            have hxs : (xsF (⟨d, e :: l, some ⟨b, o2, none⟩, c2⟩ :: r2)).set r2.length (.slice (some ⟨b, if c2 = 1 then o2 else o2 + 1 * 13, none⟩) (l.length + 1 - 1) (c2 - 1)) = xsF (⟨d, l, some ⟨b, if c2 = 1 then o2 else o2 + 1 * 13, none⟩, c2 - 1⟩ :: r2) := by
              rw [xsF_cons, xsF_cons, List.set_append_right _ _ (by rw [xsF_len]; exact Nat.le_refl _), xsF_len, Nat.sub_self]
              rfl
            rw [hxs] at hOw2
            replace hOw := hOw2
            obtain ⟨curl, kbl⟩ := own_blk hOw
            clear hW2 hK2 hold hfz hxs hOw2
            replace hQs : SSs W56 N7 (⟨d, l, some ⟨b, if c2 = 1 then o2 else o2 + 1 * 13, none⟩, c2 - 1⟩ :: r2) := fun q hq => by
              rcases List.mem_cons.1 hq with hq | hq
              · subst hq
                have hq := hQs ⟨d, e :: l, some ⟨b, o2, none⟩, c2⟩ (by simp)
                exact ⟨Es_tail hq.1 hq.2, by show l.length ≤ c2 - 1; omega⟩
              · exact hQs q (by simp [hq])
            replace hWy : Wy W56 bt26 (wayF (⟨d, l, some ⟨b, if c2 = 1 then o2 else o2 + 1 * 13, none⟩, c2 - 1⟩ :: r2)) := hWy
            replace k9 : W56.heap[b22]? = some (.cells (goA (gon (toSt (⟨d, l, some ⟨b, if c2 = 1 then o2 else o2 + 1 * 13, none⟩, c2 - 1⟩ :: r2)))).toArray 117) := k9
            refine st_end ?_
            subst hQ
            refine wq fun Q hQ => ?_
            refine sm (.int .i64 (s' : Nat)) 63 rfl rfl rfl rfl ?_
            simp only [zp]
            refine sv (.int .i64 ((s' + 1 : Nat) : Int)) 64 rfl rfl (ex_bin rfl rfl rfl (eg3 _ _ _ _ _ _) (add3 _ (by omega) (by omega))) ?_
            simp only [zp]
            refine sg (.int .i64 ((s' + 1 : Nat) : Int)) 12 rfl rfl rfl rfl ?_
            simp only [zp]
            refine st_end ?_
            subst hQ
            refine wp_seq ?_
            refine wp_seq ?_
            refine wl_in ?_
            refine wl_cap fun Q hQ => ?_
            suffices JOIN : ∀ (j65 j66 j67 j68 : Value), Q .normal { tmps := #[(.pointer (some ⟨g, 0, none⟩)), (.agg (WL_ v ao nw cw)), (.func (.func 36) #[] #[(.pointer (some ⟨b3, 0, none⟩)), (.pointer (some ⟨b6, 0, none⟩))]), undef, (.pointer (some ⟨b21, 0, none⟩)), undef, (.bool false), (.pointer (some ⟨bt7, 0, none⟩)), (.map (some r)), (.pointer (some ⟨b22, 0, none⟩)), (.slice (some ⟨bt26, 0, none⟩) (r2.length + 1) 9), (.slice (some ⟨bl, 0, none⟩) (r2.length + 1) cl), (.int .i64 ((s' + 1 : Nat) : Int)), (.bool fd'), (.int .i64 ((r2.length : Nat) : Int)), (.pointer (some ⟨b32, 0, none⟩)), u16, u17, (.pointer (some ⟨g, 0, none⟩)), (.agg (rowL L A K0 8).toArray), (.pointer (some ⟨b21, 5, none⟩)), (.slice ao nw cw), (.map (some r)), (.pointer (some ⟨b21, 0, none⟩)), (.int .i64 v.fr), (.pointer (some ⟨b22, f0, none⟩)), (.slice (some ⟨bt26, 0, none⟩) 0 9), (.pointer (some ⟨b21, 0, none⟩)), (.int .i64 v.fr), (.agg (EL (E0 v))), (.slice (some ⟨bt30, 0, none⟩) 1 1), (.slice (some ⟨bt26, 0, none⟩) 1 9), (.pointer (some ⟨b21, 0, none⟩)), (.int .i64 v.fr), (.pointer (some ⟨bt7, f0, none⟩)), (.slice (A f0) (nxt L ((f0 : Nat) : Int)).length (K0 f0)), (.slice (some ⟨b23, 0, none⟩) 1 1), (.slice (some ⟨bt26, 0, none⟩) (r2.length + 1) 9), (.int .i64 ((r2.length + 1) : Nat)), (.bool true), (.slice (some ⟨bt26, 0, none⟩) (r2.length + 1) 9), (.int .i64 ((r2.length + 1) : Nat)), (.int .i64 ((r2.length : Nat) : Int)), (.slice (some ⟨bl, 0, none⟩) (r2.length + 1) cl), (.int .i64 ((r2.length : Nat) : Int)), (.pointer (some ⟨bl, r2.length, none⟩)), (.slice (some ⟨b, o2, none⟩) (l.length + 1) c2), (.int .i64 ((l.length + 1) : Nat)), (.bool true), (.slice (some ⟨bl, 0, none⟩) (r2.length + 1) cl), (.int .i64 ((r2.length : Nat) : Int)), (.pointer (some ⟨bl, r2.length, none⟩)), (.slice (some ⟨b, o2, none⟩) (l.length + 1) c2), (.pointer (some ⟨b, (o2 + 0 * 13), none⟩)), (.agg (EL e)), (.slice (some ⟨bl, 0, none⟩) (r2.length + 1) cl), (.int .i64 ((r2.length : Nat) : Int)), (.slice (some ⟨bl, 0, none⟩) (r2.length + 1) cl), (.int .i64 ((r2.length : Nat) : Int)), (.pointer (some ⟨bl, r2.length, none⟩)), (.slice (some ⟨b, o2, none⟩) (l.length + 1) c2), (.slice (some ⟨b, if c2 = 1 then o2 else o2 + 1 * 13, none⟩) (l.length + 1 - 1) (c2 - 1)), (.pointer (some ⟨bl, r2.length, none⟩)), (.int .i64 (s' : Nat)), (.int .i64 ((s' + 1 : Nat) : Int)), j65, j66, j67, j68, (.bool false), u70, u71, u72, u73, u74, u75, u76, u77, u78, u79, u80, u81, u82, u83, u84, u85, u86, u87, u88, u89, u90, u91, u92, u93, u94, u95, u96, u97, u98, u99, u100, u101, u102, u103, u104, u105, u106, u107, u108, u109, u110, u111, u112, u113, u114, u115, u116, u117, u118, u119, u120, u121, undef, undef], defers := [] } W56 by
              by_cases e0 : 100000 < s' + 1
              · skip
                obtain rfl : fd' = false := hnb e0
                refine sm (.int .i64 ((s' + 1 : Nat) : Int)) 65 rfl rfl rfl rfl ?_
                simp only [zp]
                refine sv (.bool true) 66 rfl rfl (ex_bin (u := (.int .i64 ((s' + 1 : Nat) : Int))) (r := (.int .i64 100000)) rfl rfl rfl (eg3 _ _ _ _ _ _) (gtr3 _ (decide_eq_true (by omega)))) ?_
                simp only [zp]
                refine sm (.bool true) 67 rfl rfl rfl rfl ?_
                simp only [zp]
                refine sm (.bool false) 68 rfl rfl rfl rfl ?_
                simp only [zp]
                refine sv (.bool false) 69 rfl rfl (ex_pkT rfl rfl rfl) ?_
                simp only [zp]
                refine st_end ?_
                exact JOIN _ _ _ _
              · skip
                refine sm (.int .i64 ((s' + 1 : Nat) : Int)) 65 rfl rfl rfl rfl ?_
                simp only [zp]
                refine sv (.bool false) 66 rfl rfl (ex_bin (u := (.int .i64 ((s' + 1 : Nat) : Int))) (r := (.int .i64 100000)) rfl rfl rfl (eg3 _ _ _ _ _ _) (gtr3 _ (decide_eq_false (by omega)))) ?_
                simp only [zp]
                refine sm (.bool false) 67 rfl rfl rfl rfl ?_
                simp only [zp]
                refine sn 68 rfl rfl ?_
                simp only [zp]
                refine sv (.bool false) 69 rfl rfl (ex_pkF rfl rfl rfl) ?_
                simp only [zp]
                refine st_end ?_
                exact JOIN _ _ _ _
            intro j65 j66 j67 j68
            subst hQ
            refine wp_cond_false rfl ?_
            refine wp_skip ?_
            refine wp_seq ?_
            refine wq fun Q hQ => ?_
            refine sm (.map (some r)) 71 rfl rfl rfl rfl ?_
            simp only [zp]
            refine sv (.pointer (some ⟨b32, 0, none⟩)) 72 rfl rfl (ex_fa (p := (.pointer (some ⟨b32, 0, none⟩))) rfl rfl (fa49_0 _ _)) ?_
            simp only [zp]
            refine sv (.int .i64 e.ch) 73 rfl rfl (ex_load (p := (.pointer (some ⟨b32, 0, none⟩))) rfl rfl (ld3 (at_cell k32 rfl))) ?_
            simp only [zp]
            refine sv (.tuple #[(.agg #[]), (.bool false)]) 74 rfl rfl (ex_lk rfl rfl rfl (look_set hI.mp (decide_eq_false (fun q => hav ((hSm e.ch).1 q).1)))) ?_
            simp only [zp]
            refine sm (.tuple #[(.agg #[]), (.bool false)]) 70 rfl rfl rfl rfl ?_
            simp only [zp]
            refine sv (.agg #[]) 75 rfl rfl (ex_ext rfl rfl rfl) ?_
            simp only [zp]
            refine sv (.bool false) 76 rfl rfl (ex_ext rfl rfl rfl) ?_
            simp only [zp]
            refine st_new (fun b => .pointer (some ⟨b, 0, none⟩)) (some 16) rfl rfl (ex_alloc rfl zero119) ?_
            intro b33 W57 k33 g33 B
            simp only [zp]
            have ne_b33_b32 : b33 ≠ b32 := fun e => by have := lt_of k32; omega
            have ne_b33_b22 : b33 ≠ b22 := fun e => by have := lt_of k9; omega
            have ne_b33_b21 : b33 ≠ b21 := fun e => by have := lt_of k4; omega
            have ne_b33_bl : b33 ≠ bl := fun e => by have := lt_of kbl; omega
            have ne_b33_bt26 : b33 ≠ bt26 := fun e => by have := lt_of kbw; omega
            have ge_b33 := Nat.le_trans E.size g33
            replace E := E.next B
            replace hsz := Nat.le_trans hsz (B).size
            replace hI := hI.keep B
            replace hQs := hQs.keep B
            replace hWy := hWy.keep B
            replace hOw := own_keep hOw B
            replace k32 := keep B k32
            replace k9 := keep B k9
            replace k4 := keep B k4
            replace kbl := keep B kbl
            replace kbw := keep B kbw
            clear B
            obtain ⟨W58, hst, kn, K⟩ := put_all (D := #[]) k33 rfl inf119 (by kernel_rfl)
            refine st_sk rfl rfl (ex_store rfl rfl rfl hst) ?_
            replace E := E.putN K ge_b33
            replace hsz := Nat.le_trans hsz K.size
            replace hI := hI.putT K k33 (by decide)
            replace hQs := hQs.putT K k33 (by decide)
            replace hWy := hWy.keepK K (fun e => hWy.ne k33 (by decide) e)
            replace hOw := own_keepK hOw K (fun q hq e => own_ne hOw k33 (by decide) (by rw [hq, e]))
            replace k32 := keepK K k32 (fun e => ne_tag k32 k33 (by decide) e)
            replace k9 := keepK K k9 (fun e => ne_tag k9 k33 (by decide) e)
            replace k4 := keepK K k4 (fun e => ne_tag k4 k33 (by decide) e)
            replace kbl := keepK K kbl (fun e => ne_tag kbl k33 (by decide) e)
            replace kbw := keepK K kbw (fun e => ne_tag kbw k33 (by decide) e)
            replace k33 := kn
            clear kn K hst
            refine sg (.bool false) 17 rfl rfl rfl rfl ?_
            simp only [zp]
            refine st_end ?_
            subst hQ
            refine wq fun Q hQ => ?_
            refine sm (.bool false) 77 rfl rfl rfl rfl ?_
            simp only [zp]
            refine sm (.bool false) 78 rfl rfl rfl rfl ?_
            simp only [zp]
            refine sv (.pointer (some ⟨b32, 2, none⟩)) 79 rfl rfl (ex_fa (p := (.pointer (some ⟨b32, 0, none⟩))) rfl rfl (fa49_2 _ _)) ?_
            simp only [zp]
            refine sv (.int .i64 e.to) 80 rfl rfl (ex_load (p := (.pointer (some ⟨b32, 2, none⟩))) rfl rfl (ld3 (at_cell k32 rfl))) ?_
            simp only [zp]
            refine sv (.pointer (some ⟨b22, k, none⟩)) 81 rfl rfl (ixB rfl rfl rfl hk hk8) ?_
            simp only [zp]
            refine sv (.bool false) 82 rfl rfl (ex_load rfl rfl (ld4 (n := false) (at_cell k9 (by rw [goA_at _ k hk8, ← hk]; exact congrArg (fun q => some (Value.bool q)) (decide_eq_false hgo))))) ?_
            simp only [zp]
            refine sv (.bool false) 83 rfl rfl (ex_pkF rfl rfl rfl) ?_
            simp only [zp]
            refine st_end ?_
            subst hQ
            refine wp_cond_false rfl ?_
            refine wp_skip ?_
            refine wp_seq ?_
            refine wq fun Q hQ => ?_
            refine sv (.pointer (some ⟨b32, 2, none⟩)) 84 rfl rfl (ex_fa (p := (.pointer (some ⟨b32, 0, none⟩))) rfl rfl (fa49_2 _ _)) ?_
            simp only [zp]
            refine sv (.int .i64 e.to) 85 rfl rfl (ex_load (p := (.pointer (some ⟨b32, 2, none⟩))) rfl rfl (ld3 (at_cell k32 rfl))) ?_
            simp only [zp]
            refine sv (.pointer (some ⟨b21, 1, none⟩)) 86 rfl rfl (ex_fa (p := (.pointer (some ⟨b21, 0, none⟩))) rfl rfl (fa32_1 _ _)) ?_
            simp only [zp]
            refine sv (.int .i64 v.to) 87 rfl rfl (ex_load (p := (.pointer (some ⟨b21, 1, none⟩))) rfl rfl (ld3 (at_cell k4 rfl))) ?_
            simp only [zp]
            refine sv (.bool false) 88 rfl rfl (ex_bin (u := (.int .i64 e.to)) (r := (.int .i64 v.to)) rfl rfl rfl (eg3 _ _ _ _ _ _) (eql3 _ (decide_eq_false hto))) ?_
            simp only [zp]
            refine st_end ?_
            subst hQ
            refine wp_cond_false rfl ?_
            refine wp_skip ?_
            refine wq fun Q hQ => ?_
            refine sv (.pointer (some ⟨b32, 2, none⟩)) 96 rfl rfl (ex_fa (p := (.pointer (some ⟨b32, 0, none⟩))) rfl rfl (fa49_2 _ _)) ?_
            simp only [zp]
            refine sv (.int .i64 e.to) 97 rfl rfl (ex_load (p := (.pointer (some ⟨b32, 2, none⟩))) rfl rfl (ld3 (at_cell k32 rfl))) ?_
            simp only [zp]
            refine sv (.pointer (some ⟨b22, k, none⟩)) 98 rfl rfl (ixB rfl rfl rfl hk hk8) ?_
            simp only [zp]
            obtain ⟨kn, K⟩ := put_cell (i := k) (.bool true) k9
            refine st_sk rfl rfl (ex_store rfl rfl rfl (sto4 (at_cell k9 (goA_at _ k hk8)) (unfrozen k9))) ?_
            obtain ⟨W59, hW2⟩ : ∃ W', W58.setCell ⟨b22, k, none⟩ (.bool true) = W' := ⟨_, rfl⟩
            rw [hW2] at kn K ⊢
            rw [List.setIfInBounds_toArray, goA_put _ k hk8] at kn
            replace E := E.putN K ge_b22
            replace hsz := Nat.le_trans hsz K.size
            replace hI := hI.putT K k9 (by decide)
            replace hQs := hQs.putT K k9 (by decide)
            replace hWy := hWy.keepK K (fun e => hWy.ne k9 (by decide) e)
            replace hOw := own_keepK hOw K (fun q hq e => own_ne hOw k9 (by decide) (by rw [hq, e]))
            replace k32 := keepK K k32 (fun e => ne_tag k32 k9 (by decide) e)
            replace k4 := keepK K k4 (fun e => ne_tag k4 k9 (by decide) e)
            replace kbl := keepK K kbl (fun e => ne_tag kbl k9 (by decide) e)
            replace kbw := keepK K kbw (fun e => ne_tag kbw k9 (by decide) e)
            replace k33 := keepK K k33 (fun e => ne_tag k33 k9 (by decide) e)
            replace k9 := kn
            clear kn K
            refine st_end ?_
            subst hQ
            refine wp_seq ?_
            obtain ⟨W60, hwd⟩ : ∃ wd, W59.drew = wd := ⟨_, rfl⟩
            refine wp_region_held (S := fun W => Kept (fun k => k = bt26 ∨ k = bl) W60 W) (by kernel_rfl) ?_
            show wpAnyH _ _ _ _ _ _ _ _ W59.drew
            rw [hwd]
            refine capQ fun Q hQ => ?_
            have hQP : ∀ c (a : Act) (d : Nat) v w, Q (.panic c) (a.put (some d) v) w → Q (.panic c) a w := by
              subst hQ
              exact fun _ _ _ _ _ h => h
            have BD : Below W59.heap.size W59 W60 := by rw [← hwd]; exact below_drewB (Below.refl _ _)
            clear hwd
            replace E := E.next BD
            replace hsz := Nat.le_trans hsz (BD).size
            replace hI := hI.keep BD
            replace hQs := hQs.keep BD
            replace hWy := hWy.keep BD
            replace hOw := own_keep hOw BD
            replace k32 := keep BD k32
            replace k4 := keep BD k4
            replace kbl := keep BD kbl
            replace kbw := keep BD kbw
            replace k33 := keep BD k33
            replace k9 := keep BD k9
            clear BD
            have S : Kept (fun k => k = bt26 ∨ k = bl) W60 W60 := Kept.refl _ _
            have d_k32 := k32
            have d_k9 := k9
            have d_k4 := k4
            have d_kbl := kbl
            have d_kbw := kbw
            have d_k33 := k33
            have d_hsz := hsz
            have d_hI := hI
            have d_hQs := hQs
            have d_hWy := hWy
            have d_hOw := hOw
            have hc7 : W60.cell? ⟨bt7, k, none⟩ = some (.slice (A k) (nxt L ((k : Nat) : Int)).length (K0 k)) := at_cell hI.k7 (rowL_at8 L A K0 k hk8)
            obtain ⟨_, h7w⟩ : ∃ q, W60.heap[bt7]? = some (.cells q 113) := ⟨_, hI.k7⟩
            have n7w : ¬ (bt7 = bt26 ∨ bt7 = bl) := fun q => q.elim (fun q => ne_tag hI.k7 kbw (by decide) q) (fun q => ne_tag hI.k7 kbl (by decide) q)
            refine ah_take (v := (.slice (some ⟨bt26, 0, none⟩) (r2.length + 1) 9)) (i := 0) (some 99) rfl rfl (by kernel_rfl) (by kernel_rfl) (by kernel_rfl) rfl (fun W hK => ex_mv rfl rfl) S (fun c a w h => hQP c a _ _ w h) ?_
            simp only [zp]
            refine ah_take (v := (.agg (EL e))) (i := 1) (some 100) rfl rfl (by kernel_rfl) (by kernel_rfl) (by kernel_rfl) rfl (fun W hK => ex_load (p := (.pointer (some ⟨b32, 0, none⟩))) rfl rfl (ld_all (keepK hK d_k32 (fun e => e.elim (fun e => ne15 e) (fun e => ne_tag d_k32 d_kbl (by decide) e))) Try.underlying49 rfl inf49)) S (fun c a w h => hQP c a _ _ w h) ?_
            simp only [zp]
            refine ah_take (v := (.slice (some ⟨bl, 0, none⟩) (r2.length + 1) cl)) (i := 4) (some 103) rfl rfl (by kernel_rfl) (by kernel_rfl) (by kernel_rfl) rfl (fun W hK => ex_mv rfl rfl) S (fun c a w h => hQP c a _ _ w h) ?_
            simp only [zp]
            refine ah_take (v := (.pointer (some ⟨b32, 2, none⟩))) (i := 5) (some 104) rfl rfl (by kernel_rfl) (by kernel_rfl) (by kernel_rfl) rfl (fun W hK => ex_fa (p := (.pointer (some ⟨b32, 0, none⟩))) rfl rfl (fa49_2 _ _)) S (fun c a w h => hQP c a _ _ w h) ?_
            simp only [zp]
            refine ah_take (v := (.int .i64 e.to)) (i := 6) (some 105) rfl rfl (by kernel_rfl) (by kernel_rfl) (by kernel_rfl) rfl (fun W hK => ex_load (p := (.pointer (some ⟨b32, 2, none⟩))) rfl rfl (ld3 (at_cell (keepK hK d_k32 (fun e => e.elim (fun e => ne15 e) (fun e => ne_tag d_k32 d_kbl (by decide) e))) rfl))) S (fun c a w h => hQP c a _ _ w h) ?_
            simp only [zp]
            refine ah_take (v := (.pointer (some ⟨bt7, k, none⟩))) (i := 7) (some 106) rfl rfl (by kernel_rfl) (by kernel_rfl) (by kernel_rfl) rfl (fun W hK => ixA rfl rfl rfl hk hk8) S (fun c a w h => hQP c a _ _ w h) ?_
            simp only [zp]
            refine ah_take (v := (.slice (A k) (nxt L ((k : Nat) : Int)).length (K0 k))) (i := 8) (some 107) rfl rfl (by kernel_rfl) (by kernel_rfl) (by kernel_rfl) rfl (fun W hK => ex_load rfl rfl (ld33 (cell_kept hK hc7 n7w))) S (fun c a w h => hQP c a _ _ w h) ?_
            simp only [zp]
            refine cap2 fun ops SS hops hS => ?_
            suffices FIN : ∀ (bt101 : Nat) (bt108 : Nat) (g' : Nat) (cap' : Nat) (Wq : World) (gd_bt101 : W60.heap.size ≤ bt101) (ge_bt101 : w.heap.size ≤ bt101) (ne_b32_bt101 : b32 ≠ bt101) (ne_bt101_b32 : bt101 ≠ b32) (ne_bt101_bt26 : bt101 ≠ bt26) (ne_bt26_bt101 : bt26 ≠ bt101) (gd_bt108 : W60.heap.size ≤ bt108) (ge_bt108 : w.heap.size ≤ bt108) (ne_bl_bt108 : bl ≠ bt108) (ne_bt108_bl : bt108 ≠ bl) (E : Kept (· = b6) w Wq) (hsz : base ≤ Wq.heap.size) (hI : Sta Wq b3 b21 bt7 b6 bt26 N7 base r nw cw v ao L A K0 Sv B') (hQs : SSs Wq N7 (⟨d, l, some ⟨b, if c2 = 1 then o2 else o2 + 1 * 13, none⟩, c2 - 1⟩ :: r2)) (hWy : Wy Wq bt26 (wayF (⟨d, l, some ⟨b, if c2 = 1 then o2 else o2 + 1 * 13, none⟩, c2 - 1⟩ :: r2) ++ [e])) (hOw : Wq.ownsRow w.heap.size 33 1 (.slice (some ⟨g', 0, none⟩) (r2.length + 1 + 1) cap') (r2.length + 1 + 1) (xsF (⟨d, l, some ⟨b, if c2 = 1 then o2 else o2 + 1 * 13, none⟩, c2 - 1⟩ :: r2) ++ (#[(.slice (A k) (nxt L ((k : Nat) : Int)).length (K0 k))] : Array Value).toList)) (k32 : Wq.heap[b32]? = some (.cells (EL e) 49)) (k4 : Wq.heap[b21]? = some (.cells (WL_ v ao nw cw) 32)) (k33 : Wq.heap[b33]? = some (.cells #[] 119)) (k9 : Wq.heap[b22]? = some (.cells (goA ((k : Int) :: gon (toSt (⟨d, l, some ⟨b, if c2 = 1 then o2 else o2 + 1 * 13, none⟩, c2 - 1⟩ :: r2)))).toArray 117)) (S : Kept (fun k => k = bt26 ∨ k = bl) W60 Wq) (kt101 : Wq.heap[bt101]? = some (.cells (EL e) 49)) (kt108 : Wq.heap[bt108]? = some (.cells #[(.slice (A k) (nxt L ((k : Nat) : Int)).length (K0 k))] 33)), wpAnyH Try.prog .any ops Q SS 0 #[true, true, true, true, true, true, true, true, true, true, true, true, true] { tmps := #[(.pointer (some ⟨g, 0, none⟩)), (.agg (WL_ v ao nw cw)), (.func (.func 36) #[] #[(.pointer (some ⟨b3, 0, none⟩)), (.pointer (some ⟨b6, 0, none⟩))]), undef, (.pointer (some ⟨b21, 0, none⟩)), undef, (.bool false), (.pointer (some ⟨bt7, 0, none⟩)), (.map (some r)), (.pointer (some ⟨b22, 0, none⟩)), (.slice (some ⟨bt26, 0, none⟩) (r2.length + 1 + 1) 9), (.slice (some ⟨g', 0, none⟩) (r2.length + 1 + 1) cap'), (.int .i64 ((s' + 1 : Nat) : Int)), (.bool fd'), (.int .i64 ((r2.length : Nat) : Int)), (.pointer (some ⟨b32, 0, none⟩)), (.pointer (some ⟨b33, 0, none⟩)), (.bool false), (.pointer (some ⟨g, 0, none⟩)), (.agg (rowL L A K0 8).toArray), (.pointer (some ⟨b21, 5, none⟩)), (.slice ao nw cw), (.map (some r)), (.pointer (some ⟨b21, 0, none⟩)), (.int .i64 v.fr), (.pointer (some ⟨b22, f0, none⟩)), (.slice (some ⟨bt26, 0, none⟩) 0 9), (.pointer (some ⟨b21, 0, none⟩)), (.int .i64 v.fr), (.agg (EL (E0 v))), (.slice (some ⟨bt30, 0, none⟩) 1 1), (.slice (some ⟨bt26, 0, none⟩) 1 9), (.pointer (some ⟨b21, 0, none⟩)), (.int .i64 v.fr), (.pointer (some ⟨bt7, f0, none⟩)), (.slice (A f0) (nxt L ((f0 : Nat) : Int)).length (K0 f0)), (.slice (some ⟨b23, 0, none⟩) 1 1), (.slice (some ⟨bt26, 0, none⟩) (r2.length + 1) 9), (.int .i64 ((r2.length + 1) : Nat)), (.bool true), (.slice (some ⟨bt26, 0, none⟩) (r2.length + 1) 9), (.int .i64 ((r2.length + 1) : Nat)), (.int .i64 ((r2.length : Nat) : Int)), (.slice (some ⟨bl, 0, none⟩) (r2.length + 1) cl), (.int .i64 ((r2.length : Nat) : Int)), (.pointer (some ⟨bl, r2.length, none⟩)), (.slice (some ⟨b, o2, none⟩) (l.length + 1) c2), (.int .i64 ((l.length + 1) : Nat)), (.bool true), (.slice (some ⟨bl, 0, none⟩) (r2.length + 1) cl), (.int .i64 ((r2.length : Nat) : Int)), (.pointer (some ⟨bl, r2.length, none⟩)), (.slice (some ⟨b, o2, none⟩) (l.length + 1) c2), (.pointer (some ⟨b, (o2 + 0 * 13), none⟩)), (.agg (EL e)), (.slice (some ⟨bl, 0, none⟩) (r2.length + 1) cl), (.int .i64 ((r2.length : Nat) : Int)), (.slice (some ⟨bl, 0, none⟩) (r2.length + 1) cl), (.int .i64 ((r2.length : Nat) : Int)), (.pointer (some ⟨bl, r2.length, none⟩)), (.slice (some ⟨b, o2, none⟩) (l.length + 1) c2), (.slice (some ⟨b, if c2 = 1 then o2 else o2 + 1 * 13, none⟩) (l.length + 1 - 1) (c2 - 1)), (.pointer (some ⟨bl, r2.length, none⟩)), (.int .i64 (s' : Nat)), (.int .i64 ((s' + 1 : Nat) : Int)), j65, j66, j67, j68, (.bool false), (.tuple #[(.agg #[]), (.bool false)]), (.map (some r)), (.pointer (some ⟨b32, 0, none⟩)), (.int .i64 e.ch), (.tuple #[(.agg #[]), (.bool false)]), (.agg #[]), (.bool false), (.bool false), (.bool false), (.pointer (some ⟨b32, 2, none⟩)), (.int .i64 e.to), (.pointer (some ⟨b22, k, none⟩)), (.bool false), (.bool false), (.pointer (some ⟨b32, 2, none⟩)), (.int .i64 e.to), (.pointer (some ⟨b21, 1, none⟩)), (.int .i64 v.to), (.bool false), u89, u90, u91, u92, u93, u94, u95, (.pointer (some ⟨b32, 2, none⟩)), (.int .i64 e.to), (.pointer (some ⟨b22, k, none⟩)), (.slice (some ⟨bt26, 0, none⟩) (r2.length + 1) 9), (.agg (EL e)), (.slice (some ⟨bt101, 0, none⟩) 1 1), (.slice (some ⟨bt26, 0, none⟩) (r2.length + 1 + 1) 9), (.slice (some ⟨bl, 0, none⟩) (r2.length + 1) cl), (.pointer (some ⟨b32, 2, none⟩)), (.int .i64 e.to), (.pointer (some ⟨bt7, k, none⟩)), (.slice (A k) (nxt L ((k : Nat) : Int)).length (K0 k)), (.slice (some ⟨bt108, 0, none⟩) 1 1), (.slice (some ⟨g', 0, none⟩) (r2.length + 1 + 1) cap'), u110, u111, u112, u113, u114, u115, u116, u117, u118, u119, u120, u121, undef, undef], defers := [] } Wq by
              have ST1 : ∀ (bt101 : Nat) (bt108 : Nat) (Wq : World) (gd_bt101 : W60.heap.size ≤ bt101) (ge_bt101 : w.heap.size ≤ bt101) (ne_b32_bt101 : b32 ≠ bt101) (ne_bt101_b32 : bt101 ≠ b32) (ne_bt101_bt26 : bt101 ≠ bt26) (ne_bt26_bt101 : bt26 ≠ bt101) (gd_bt108 : W60.heap.size ≤ bt108) (ge_bt108 : w.heap.size ≤ bt108) (ne_bl_bt108 : bl ≠ bt108) (ne_bt108_bl : bt108 ≠ bl) (E : Kept (· = b6) w Wq) (hsz : base ≤ Wq.heap.size) (hI : Sta Wq b3 b21 bt7 b6 bt26 N7 base r nw cw v ao L A K0 Sv B') (hQs : SSs Wq N7 (⟨d, l, some ⟨b, if c2 = 1 then o2 else o2 + 1 * 13, none⟩, c2 - 1⟩ :: r2)) (hWy : Wy Wq bt26 (wayF (⟨d, l, some ⟨b, if c2 = 1 then o2 else o2 + 1 * 13, none⟩, c2 - 1⟩ :: r2) ++ [e])) (hOw : Wq.ownsRow w.heap.size 33 1 (.slice (some ⟨bl, 0, none⟩) (r2.length + 1) cl) (r2.length + 1) (xsF (⟨d, l, some ⟨b, if c2 = 1 then o2 else o2 + 1 * 13, none⟩, c2 - 1⟩ :: r2))) (k32 : Wq.heap[b32]? = some (.cells (EL e) 49)) (k4 : Wq.heap[b21]? = some (.cells (WL_ v ao nw cw) 32)) (kbl : Wq.heap[bl]? = some (.cells curl 33)) (k33 : Wq.heap[b33]? = some (.cells #[] 119)) (k9 : Wq.heap[b22]? = some (.cells (goA ((k : Int) :: gon (toSt (⟨d, l, some ⟨b, if c2 = 1 then o2 else o2 + 1 * 13, none⟩, c2 - 1⟩ :: r2)))).toArray 117)) (S : Kept (fun k => k = bt26 ∨ k = bl) W60 Wq) (kt101 : Wq.heap[bt101]? = some (.cells (EL e) 49)) (kt108 : Wq.heap[bt108]? = some (.cells #[(.slice (A k) (nxt L ((k : Nat) : Int)).length (K0 k))] 33)), wpAnyH Try.prog .any ops Q SS 3 #[true, true, true, true, true, true, true, true, true, true, false, false, false] { tmps := #[(.pointer (some ⟨g, 0, none⟩)), (.agg (WL_ v ao nw cw)), (.func (.func 36) #[] #[(.pointer (some ⟨b3, 0, none⟩)), (.pointer (some ⟨b6, 0, none⟩))]), undef, (.pointer (some ⟨b21, 0, none⟩)), undef, (.bool false), (.pointer (some ⟨bt7, 0, none⟩)), (.map (some r)), (.pointer (some ⟨b22, 0, none⟩)), (.slice (some ⟨bt26, 0, none⟩) (r2.length + 1) 9), (.slice (some ⟨bl, 0, none⟩) (r2.length + 1) cl), (.int .i64 ((s' + 1 : Nat) : Int)), (.bool fd'), (.int .i64 ((r2.length : Nat) : Int)), (.pointer (some ⟨b32, 0, none⟩)), (.pointer (some ⟨b33, 0, none⟩)), (.bool false), (.pointer (some ⟨g, 0, none⟩)), (.agg (rowL L A K0 8).toArray), (.pointer (some ⟨b21, 5, none⟩)), (.slice ao nw cw), (.map (some r)), (.pointer (some ⟨b21, 0, none⟩)), (.int .i64 v.fr), (.pointer (some ⟨b22, f0, none⟩)), (.slice (some ⟨bt26, 0, none⟩) 0 9), (.pointer (some ⟨b21, 0, none⟩)), (.int .i64 v.fr), (.agg (EL (E0 v))), (.slice (some ⟨bt30, 0, none⟩) 1 1), (.slice (some ⟨bt26, 0, none⟩) 1 9), (.pointer (some ⟨b21, 0, none⟩)), (.int .i64 v.fr), (.pointer (some ⟨bt7, f0, none⟩)), (.slice (A f0) (nxt L ((f0 : Nat) : Int)).length (K0 f0)), (.slice (some ⟨b23, 0, none⟩) 1 1), (.slice (some ⟨bt26, 0, none⟩) (r2.length + 1) 9), (.int .i64 ((r2.length + 1) : Nat)), (.bool true), (.slice (some ⟨bt26, 0, none⟩) (r2.length + 1) 9), (.int .i64 ((r2.length + 1) : Nat)), (.int .i64 ((r2.length : Nat) : Int)), (.slice (some ⟨bl, 0, none⟩) (r2.length + 1) cl), (.int .i64 ((r2.length : Nat) : Int)), (.pointer (some ⟨bl, r2.length, none⟩)), (.slice (some ⟨b, o2, none⟩) (l.length + 1) c2), (.int .i64 ((l.length + 1) : Nat)), (.bool true), (.slice (some ⟨bl, 0, none⟩) (r2.length + 1) cl), (.int .i64 ((r2.length : Nat) : Int)), (.pointer (some ⟨bl, r2.length, none⟩)), (.slice (some ⟨b, o2, none⟩) (l.length + 1) c2), (.pointer (some ⟨b, (o2 + 0 * 13), none⟩)), (.agg (EL e)), (.slice (some ⟨bl, 0, none⟩) (r2.length + 1) cl), (.int .i64 ((r2.length : Nat) : Int)), (.slice (some ⟨bl, 0, none⟩) (r2.length + 1) cl), (.int .i64 ((r2.length : Nat) : Int)), (.pointer (some ⟨bl, r2.length, none⟩)), (.slice (some ⟨b, o2, none⟩) (l.length + 1) c2), (.slice (some ⟨b, if c2 = 1 then o2 else o2 + 1 * 13, none⟩) (l.length + 1 - 1) (c2 - 1)), (.pointer (some ⟨bl, r2.length, none⟩)), (.int .i64 (s' : Nat)), (.int .i64 ((s' + 1 : Nat) : Int)), j65, j66, j67, j68, (.bool false), (.tuple #[(.agg #[]), (.bool false)]), (.map (some r)), (.pointer (some ⟨b32, 0, none⟩)), (.int .i64 e.ch), (.tuple #[(.agg #[]), (.bool false)]), (.agg #[]), (.bool false), (.bool false), (.bool false), (.pointer (some ⟨b32, 2, none⟩)), (.int .i64 e.to), (.pointer (some ⟨b22, k, none⟩)), (.bool false), (.bool false), (.pointer (some ⟨b32, 2, none⟩)), (.int .i64 e.to), (.pointer (some ⟨b21, 1, none⟩)), (.int .i64 v.to), (.bool false), u89, u90, u91, u92, u93, u94, u95, (.pointer (some ⟨b32, 2, none⟩)), (.int .i64 e.to), (.pointer (some ⟨b22, k, none⟩)), (.slice (some ⟨bt26, 0, none⟩) (r2.length + 1) 9), (.agg (EL e)), (.slice (some ⟨bt101, 0, none⟩) 1 1), (.slice (some ⟨bt26, 0, none⟩) (r2.length + 1 + 1) 9), (.slice (some ⟨bl, 0, none⟩) (r2.length + 1) cl), (.pointer (some ⟨b32, 2, none⟩)), (.int .i64 e.to), (.pointer (some ⟨bt7, k, none⟩)), (.slice (A k) (nxt L ((k : Nat) : Int)).length (K0 k)), (.slice (some ⟨bt108, 0, none⟩) 1 1), u109, u110, u111, u112, u113, u114, u115, u116, u117, u118, u119, u120, u121, undef, undef], defers := [] } Wq := by
                intro bt101 bt108 Wq gd_bt101 ge_bt101 ne_b32_bt101 ne_bt101_b32 ne_bt101_bt26 ne_bt26_bt101 gd_bt108 ge_bt108 ne_bl_bt108 ne_bt108_bl E hsz hI hQs hWy hOw k32 k4 kbl k33 k9 S kt101 kt108
                refine ops_in hops hS ?_
                refine ah_or1 (i := 10) (by kernel_rfl) ?_
                · skip
                  obtain ⟨g', cap', W69, hr2, hOw2, hK0, hloc2⟩ := own_add (c := 1) (m := 1) (t := 118) hOw (show Wq.rangeAt bt108 0 (#[(.slice (A k) (nxt L ((k : Nat) : Int)).length (K0 k))] : Array Value).toList from at_range (o := 0) (n := 1) kt108 (by show 0 + 1 ≤ 1; decide)) rfl (by intro u hu; have := List.mem_singleton.1 hu; subst this; rfl) Try.underlying118 Try.inf33b rfl (by decide) (by decide) (by omega) (by simp only [maxLen]; omega) E.size
                  have hK2 : Kept (· = bl) Wq W69 := ⟨hK0.os, hK0.tape, hK0.output, hK0.size, fun k hk hn => hK0.block k hk (fun e => hn (Option.some.inj e).symm)⟩
                  replace E := E.putN hK2 ge_bl
                  replace hsz := Nat.le_trans hsz hK2.size
                  replace hI := hI.putT hK2 kbl (by decide)
                  replace hQs := hQs.putT hK2 kbl (by decide)
                  replace hWy := hWy.keepK hK2 (fun e => hWy.ne kbl (by decide) e)
                  replace k32 := keepK hK2 k32 (fun e => ne_tag k32 kbl (by decide) e)
                  replace k4 := keepK hK2 k4 (fun e => ne_tag k4 kbl (by decide) e)
                  replace k33 := keepK hK2 k33 (fun e => ne_tag k33 kbl (by decide) e)
                  replace k9 := keepK hK2 k9 (fun e => ne_tag k9 kbl (by decide) e)
                  replace S := S.putR hK2
                  replace kt101 := keepK hK2 kt101 (fun e => ne_tag kt101 kbl (by decide) e)
                  replace kt108 := keepK hK2 kt108 (fun e => by first | exact ne_bt108_bl e | exact ne_bl_bt108 e.symm)
                  replace hOw := hOw2
                  clear hOw2
                  refine nx_to (v := (.slice (some ⟨g', 0, none⟩) (r2.length + 1 + 1) cap')) (some 109) rfl rfl rfl (ex_app rfl rfl rfl hr2) S ?_
                  simp only [zp]
                  clear hr2 hK0 hK2 hloc2
                  refine ah_take (v := (.slice (some ⟨bt26, 0, none⟩) (r2.length + 1 + 1) 9)) (i := 11) (some 10) rfl rfl (by kernel_rfl) (by kernel_rfl) (by kernel_rfl) rfl (fun W hK => ex_asg rfl rfl) S (fun c a w h => hQP c a _ _ w h) ?_
                  simp only [zp]
                  refine ah_take (v := (.slice (some ⟨g', 0, none⟩) (r2.length + 1 + 1) cap')) (i := 12) (some 11) rfl rfl (by kernel_rfl) (by kernel_rfl) (by kernel_rfl) rfl (fun W hK => ex_asg rfl rfl) S (fun c a w h => hQP c a _ _ w h) ?_
                  simp only [zp]
                  refine ah_L (L' := #[true, true, true, true, true, true, true, true, true, true, true, true, true]) (by kernel_rfl) ?_
                  refine ops_out hops hS ?_
                  exact FIN bt101 bt108 g' cap' W69 gd_bt101 ge_bt101 ne_b32_bt101 ne_bt101_b32 ne_bt101_bt26 ne_bt26_bt101 gd_bt108 ge_bt108 ne_bl_bt108 ne_bt108_bl E hsz hI hQs hWy hOw k32 k4 k33 k9 S kt101 kt108
              have ST2 : ∀ (bt101 : Nat) (Wq : World) (gd_bt101 : W60.heap.size ≤ bt101) (ge_bt101 : w.heap.size ≤ bt101) (ne_b32_bt101 : b32 ≠ bt101) (ne_bt101_b32 : bt101 ≠ b32) (ne_bt101_bt26 : bt101 ≠ bt26) (ne_bt26_bt101 : bt26 ≠ bt101) (E : Kept (· = b6) w Wq) (hsz : base ≤ Wq.heap.size) (hI : Sta Wq b3 b21 bt7 b6 bt26 N7 base r nw cw v ao L A K0 Sv B') (hQs : SSs Wq N7 (⟨d, l, some ⟨b, if c2 = 1 then o2 else o2 + 1 * 13, none⟩, c2 - 1⟩ :: r2)) (hWy : Wy Wq bt26 (wayF (⟨d, l, some ⟨b, if c2 = 1 then o2 else o2 + 1 * 13, none⟩, c2 - 1⟩ :: r2) ++ [e])) (hOw : Wq.ownsRow w.heap.size 33 1 (.slice (some ⟨bl, 0, none⟩) (r2.length + 1) cl) (r2.length + 1) (xsF (⟨d, l, some ⟨b, if c2 = 1 then o2 else o2 + 1 * 13, none⟩, c2 - 1⟩ :: r2))) (k32 : Wq.heap[b32]? = some (.cells (EL e) 49)) (k4 : Wq.heap[b21]? = some (.cells (WL_ v ao nw cw) 32)) (kbl : Wq.heap[bl]? = some (.cells curl 33)) (k33 : Wq.heap[b33]? = some (.cells #[] 119)) (k9 : Wq.heap[b22]? = some (.cells (goA ((k : Int) :: gon (toSt (⟨d, l, some ⟨b, if c2 = 1 then o2 else o2 + 1 * 13, none⟩, c2 - 1⟩ :: r2)))).toArray 117)) (S : Kept (fun k => k = bt26 ∨ k = bl) W60 Wq) (kt101 : Wq.heap[bt101]? = some (.cells (EL e) 49)), wpAnyH Try.prog .any ops Q SS 4 #[true, true, true, true, true, true, true, true, true, false, false, false, false] { tmps := #[(.pointer (some ⟨g, 0, none⟩)), (.agg (WL_ v ao nw cw)), (.func (.func 36) #[] #[(.pointer (some ⟨b3, 0, none⟩)), (.pointer (some ⟨b6, 0, none⟩))]), undef, (.pointer (some ⟨b21, 0, none⟩)), undef, (.bool false), (.pointer (some ⟨bt7, 0, none⟩)), (.map (some r)), (.pointer (some ⟨b22, 0, none⟩)), (.slice (some ⟨bt26, 0, none⟩) (r2.length + 1) 9), (.slice (some ⟨bl, 0, none⟩) (r2.length + 1) cl), (.int .i64 ((s' + 1 : Nat) : Int)), (.bool fd'), (.int .i64 ((r2.length : Nat) : Int)), (.pointer (some ⟨b32, 0, none⟩)), (.pointer (some ⟨b33, 0, none⟩)), (.bool false), (.pointer (some ⟨g, 0, none⟩)), (.agg (rowL L A K0 8).toArray), (.pointer (some ⟨b21, 5, none⟩)), (.slice ao nw cw), (.map (some r)), (.pointer (some ⟨b21, 0, none⟩)), (.int .i64 v.fr), (.pointer (some ⟨b22, f0, none⟩)), (.slice (some ⟨bt26, 0, none⟩) 0 9), (.pointer (some ⟨b21, 0, none⟩)), (.int .i64 v.fr), (.agg (EL (E0 v))), (.slice (some ⟨bt30, 0, none⟩) 1 1), (.slice (some ⟨bt26, 0, none⟩) 1 9), (.pointer (some ⟨b21, 0, none⟩)), (.int .i64 v.fr), (.pointer (some ⟨bt7, f0, none⟩)), (.slice (A f0) (nxt L ((f0 : Nat) : Int)).length (K0 f0)), (.slice (some ⟨b23, 0, none⟩) 1 1), (.slice (some ⟨bt26, 0, none⟩) (r2.length + 1) 9), (.int .i64 ((r2.length + 1) : Nat)), (.bool true), (.slice (some ⟨bt26, 0, none⟩) (r2.length + 1) 9), (.int .i64 ((r2.length + 1) : Nat)), (.int .i64 ((r2.length : Nat) : Int)), (.slice (some ⟨bl, 0, none⟩) (r2.length + 1) cl), (.int .i64 ((r2.length : Nat) : Int)), (.pointer (some ⟨bl, r2.length, none⟩)), (.slice (some ⟨b, o2, none⟩) (l.length + 1) c2), (.int .i64 ((l.length + 1) : Nat)), (.bool true), (.slice (some ⟨bl, 0, none⟩) (r2.length + 1) cl), (.int .i64 ((r2.length : Nat) : Int)), (.pointer (some ⟨bl, r2.length, none⟩)), (.slice (some ⟨b, o2, none⟩) (l.length + 1) c2), (.pointer (some ⟨b, (o2 + 0 * 13), none⟩)), (.agg (EL e)), (.slice (some ⟨bl, 0, none⟩) (r2.length + 1) cl), (.int .i64 ((r2.length : Nat) : Int)), (.slice (some ⟨bl, 0, none⟩) (r2.length + 1) cl), (.int .i64 ((r2.length : Nat) : Int)), (.pointer (some ⟨bl, r2.length, none⟩)), (.slice (some ⟨b, o2, none⟩) (l.length + 1) c2), (.slice (some ⟨b, if c2 = 1 then o2 else o2 + 1 * 13, none⟩) (l.length + 1 - 1) (c2 - 1)), (.pointer (some ⟨bl, r2.length, none⟩)), (.int .i64 (s' : Nat)), (.int .i64 ((s' + 1 : Nat) : Int)), j65, j66, j67, j68, (.bool false), (.tuple #[(.agg #[]), (.bool false)]), (.map (some r)), (.pointer (some ⟨b32, 0, none⟩)), (.int .i64 e.ch), (.tuple #[(.agg #[]), (.bool false)]), (.agg #[]), (.bool false), (.bool false), (.bool false), (.pointer (some ⟨b32, 2, none⟩)), (.int .i64 e.to), (.pointer (some ⟨b22, k, none⟩)), (.bool false), (.bool false), (.pointer (some ⟨b32, 2, none⟩)), (.int .i64 e.to), (.pointer (some ⟨b21, 1, none⟩)), (.int .i64 v.to), (.bool false), u89, u90, u91, u92, u93, u94, u95, (.pointer (some ⟨b32, 2, none⟩)), (.int .i64 e.to), (.pointer (some ⟨b22, k, none⟩)), (.slice (some ⟨bt26, 0, none⟩) (r2.length + 1) 9), (.agg (EL e)), (.slice (some ⟨bt101, 0, none⟩) 1 1), (.slice (some ⟨bt26, 0, none⟩) (r2.length + 1 + 1) 9), (.slice (some ⟨bl, 0, none⟩) (r2.length + 1) cl), (.pointer (some ⟨b32, 2, none⟩)), (.int .i64 e.to), (.pointer (some ⟨bt7, k, none⟩)), (.slice (A k) (nxt L ((k : Nat) : Int)).length (K0 k)), u108, u109, u110, u111, u112, u113, u114, u115, u116, u117, u118, u119, u120, u121, undef, undef], defers := [] } Wq := by
                intro bt101 Wq gd_bt101 ge_bt101 ne_b32_bt101 ne_bt101_b32 ne_bt101_bt26 ne_bt26_bt101 E hsz hI hQs hWy hOw k32 k4 kbl k33 k9 S kt101
                refine ops_in hops hS ?_
                refine ah_or1 (i := 9) (by kernel_rfl) ?_
                · skip
                  refine nx_new (fun b => .slice (some ⟨b, 0, none⟩) 1 1) (some 108) rfl rfl rfl (ex_bsl1 (u := (.slice (A k) (nxt L ((k : Nat) : Int)).length (K0 k))) rfl rfl (bslS _ _ _ _)) ?_
                  intro bt108 W70 kt108 gt108 B
                  refine ⟨S.next B, ?_⟩
                  simp only [zp]
                  have gd_bt108 := Nat.le_trans S.size gt108
                  have ne_bt108_bl : bt108 ≠ bl := fun e => by have := lt_of kbl; omega
                  have ne_bl_bt108 := ne_bt108_bl.symm
                  have ge_bt108 := Nat.le_trans E.size gt108
                  replace E := E.next B
                  replace hsz := Nat.le_trans hsz (B).size
                  replace hI := hI.keep B
                  replace hQs := hQs.keep B
                  replace hWy := hWy.keep B
                  replace hOw := own_keep hOw B
                  replace k32 := keep B k32
                  replace k4 := keep B k4
                  replace kbl := keep B kbl
                  replace k33 := keep B k33
                  replace k9 := keep B k9
                  replace S := S.next B
                  replace kt101 := keep B kt101
                  clear B
                  refine ah_L (L' := #[true, true, true, true, true, true, true, true, true, true, false, false, false]) (by kernel_rfl) ?_
                  refine ops_out hops hS ?_
                  exact ST1 bt101 bt108 W70 gd_bt101 ge_bt101 ne_b32_bt101 ne_bt101_b32 ne_bt101_bt26 ne_bt26_bt101 gd_bt108 ge_bt108 ne_bl_bt108 ne_bt108_bl E hsz hI hQs hWy hOw k32 k4 kbl k33 k9 S kt101 kt108
              have ST3 : ∀ (bt101 : Nat) (bt108 : Nat) (Wq : World) (gd_bt101 : W60.heap.size ≤ bt101) (ge_bt101 : w.heap.size ≤ bt101) (ne_b32_bt101 : b32 ≠ bt101) (ne_bt101_b32 : bt101 ≠ b32) (ne_bt101_bt26 : bt101 ≠ bt26) (ne_bt26_bt101 : bt26 ≠ bt101) (gd_bt108 : W60.heap.size ≤ bt108) (ge_bt108 : w.heap.size ≤ bt108) (ne_bl_bt108 : bl ≠ bt108) (ne_bt108_bl : bt108 ≠ bl) (E : Kept (· = b6) w Wq) (hsz : base ≤ Wq.heap.size) (hI : Sta Wq b3 b21 bt7 b6 bt26 N7 base r nw cw v ao L A K0 Sv B') (hQs : SSs Wq N7 (⟨d, l, some ⟨b, if c2 = 1 then o2 else o2 + 1 * 13, none⟩, c2 - 1⟩ :: r2)) (hWy : Wy Wq bt26 (wayF (⟨d, l, some ⟨b, if c2 = 1 then o2 else o2 + 1 * 13, none⟩, c2 - 1⟩ :: r2))) (hOw : Wq.ownsRow w.heap.size 33 1 (.slice (some ⟨bl, 0, none⟩) (r2.length + 1) cl) (r2.length + 1) (xsF (⟨d, l, some ⟨b, if c2 = 1 then o2 else o2 + 1 * 13, none⟩, c2 - 1⟩ :: r2))) (k32 : Wq.heap[b32]? = some (.cells (EL e) 49)) (k4 : Wq.heap[b21]? = some (.cells (WL_ v ao nw cw) 32)) (kbl : Wq.heap[bl]? = some (.cells curl 33)) (kbw : Wq.heap[bt26]? = some (.cells curw 49)) (k33 : Wq.heap[b33]? = some (.cells #[] 119)) (k9 : Wq.heap[b22]? = some (.cells (goA ((k : Int) :: gon (toSt (⟨d, l, some ⟨b, if c2 = 1 then o2 else o2 + 1 * 13, none⟩, c2 - 1⟩ :: r2)))).toArray 117)) (S : Kept (fun k => k = bt26 ∨ k = bl) W60 Wq) (kt101 : Wq.heap[bt101]? = some (.cells (EL e) 49)) (kt108 : Wq.heap[bt108]? = some (.cells #[(.slice (A k) (nxt L ((k : Nat) : Int)).length (K0 k))] 33)), wpAnyH Try.prog .any ops Q SS 4 #[true, true, true, false, true, true, true, true, true, true, false, false, false] { tmps := #[(.pointer (some ⟨g, 0, none⟩)), (.agg (WL_ v ao nw cw)), (.func (.func 36) #[] #[(.pointer (some ⟨b3, 0, none⟩)), (.pointer (some ⟨b6, 0, none⟩))]), undef, (.pointer (some ⟨b21, 0, none⟩)), undef, (.bool false), (.pointer (some ⟨bt7, 0, none⟩)), (.map (some r)), (.pointer (some ⟨b22, 0, none⟩)), (.slice (some ⟨bt26, 0, none⟩) (r2.length + 1) 9), (.slice (some ⟨bl, 0, none⟩) (r2.length + 1) cl), (.int .i64 ((s' + 1 : Nat) : Int)), (.bool fd'), (.int .i64 ((r2.length : Nat) : Int)), (.pointer (some ⟨b32, 0, none⟩)), (.pointer (some ⟨b33, 0, none⟩)), (.bool false), (.pointer (some ⟨g, 0, none⟩)), (.agg (rowL L A K0 8).toArray), (.pointer (some ⟨b21, 5, none⟩)), (.slice ao nw cw), (.map (some r)), (.pointer (some ⟨b21, 0, none⟩)), (.int .i64 v.fr), (.pointer (some ⟨b22, f0, none⟩)), (.slice (some ⟨bt26, 0, none⟩) 0 9), (.pointer (some ⟨b21, 0, none⟩)), (.int .i64 v.fr), (.agg (EL (E0 v))), (.slice (some ⟨bt30, 0, none⟩) 1 1), (.slice (some ⟨bt26, 0, none⟩) 1 9), (.pointer (some ⟨b21, 0, none⟩)), (.int .i64 v.fr), (.pointer (some ⟨bt7, f0, none⟩)), (.slice (A f0) (nxt L ((f0 : Nat) : Int)).length (K0 f0)), (.slice (some ⟨b23, 0, none⟩) 1 1), (.slice (some ⟨bt26, 0, none⟩) (r2.length + 1) 9), (.int .i64 ((r2.length + 1) : Nat)), (.bool true), (.slice (some ⟨bt26, 0, none⟩) (r2.length + 1) 9), (.int .i64 ((r2.length + 1) : Nat)), (.int .i64 ((r2.length : Nat) : Int)), (.slice (some ⟨bl, 0, none⟩) (r2.length + 1) cl), (.int .i64 ((r2.length : Nat) : Int)), (.pointer (some ⟨bl, r2.length, none⟩)), (.slice (some ⟨b, o2, none⟩) (l.length + 1) c2), (.int .i64 ((l.length + 1) : Nat)), (.bool true), (.slice (some ⟨bl, 0, none⟩) (r2.length + 1) cl), (.int .i64 ((r2.length : Nat) : Int)), (.pointer (some ⟨bl, r2.length, none⟩)), (.slice (some ⟨b, o2, none⟩) (l.length + 1) c2), (.pointer (some ⟨b, (o2 + 0 * 13), none⟩)), (.agg (EL e)), (.slice (some ⟨bl, 0, none⟩) (r2.length + 1) cl), (.int .i64 ((r2.length : Nat) : Int)), (.slice (some ⟨bl, 0, none⟩) (r2.length + 1) cl), (.int .i64 ((r2.length : Nat) : Int)), (.pointer (some ⟨bl, r2.length, none⟩)), (.slice (some ⟨b, o2, none⟩) (l.length + 1) c2), (.slice (some ⟨b, if c2 = 1 then o2 else o2 + 1 * 13, none⟩) (l.length + 1 - 1) (c2 - 1)), (.pointer (some ⟨bl, r2.length, none⟩)), (.int .i64 (s' : Nat)), (.int .i64 ((s' + 1 : Nat) : Int)), j65, j66, j67, j68, (.bool false), (.tuple #[(.agg #[]), (.bool false)]), (.map (some r)), (.pointer (some ⟨b32, 0, none⟩)), (.int .i64 e.ch), (.tuple #[(.agg #[]), (.bool false)]), (.agg #[]), (.bool false), (.bool false), (.bool false), (.pointer (some ⟨b32, 2, none⟩)), (.int .i64 e.to), (.pointer (some ⟨b22, k, none⟩)), (.bool false), (.bool false), (.pointer (some ⟨b32, 2, none⟩)), (.int .i64 e.to), (.pointer (some ⟨b21, 1, none⟩)), (.int .i64 v.to), (.bool false), u89, u90, u91, u92, u93, u94, u95, (.pointer (some ⟨b32, 2, none⟩)), (.int .i64 e.to), (.pointer (some ⟨b22, k, none⟩)), (.slice (some ⟨bt26, 0, none⟩) (r2.length + 1) 9), (.agg (EL e)), (.slice (some ⟨bt101, 0, none⟩) 1 1), u102, (.slice (some ⟨bl, 0, none⟩) (r2.length + 1) cl), (.pointer (some ⟨b32, 2, none⟩)), (.int .i64 e.to), (.pointer (some ⟨bt7, k, none⟩)), (.slice (A k) (nxt L ((k : Nat) : Int)).length (K0 k)), (.slice (some ⟨bt108, 0, none⟩) 1 1), u109, u110, u111, u112, u113, u114, u115, u116, u117, u118, u119, u120, u121, undef, undef], defers := [] } Wq := by
                intro bt101 bt108 Wq gd_bt101 ge_bt101 ne_b32_bt101 ne_bt101_b32 ne_bt101_bt26 ne_bt26_bt101 gd_bt108 ge_bt108 ne_bl_bt108 ne_bt108_bl E hsz hI hQs hWy hOw k32 k4 kbl kbw k33 k9 S kt101 kt108
                refine ops_in hops hS ?_
                refine ah_or1 (i := 3) (by kernel_rfl) ?_
                · skip
                  have hwl : (wayF (⟨d, l, some ⟨b, if c2 = 1 then o2 else o2 + 1 * 13, none⟩, c2 - 1⟩ :: r2)).length = r2.length + 1 := by rw [wayF_len]; rfl
                  obtain ⟨W71, hr2, hWy2, hK2⟩ := hWy.add (e := e) (by omega) (show Wq.rangeAt bt101 0 (EL e).toList from at_range (o := 0) (n := 13) kt101 (by show 0 + 13 ≤ _; simp [EL]))
                  rw [hwl] at hr2
                  replace E := E.putN hK2 ge_bt26
                  replace hsz := Nat.le_trans hsz hK2.size
                  replace hI := hI.putW hK2 kbw hN7w hbw
                  replace hQs := hQs.putW hK2 hN7w
                  replace hOw := own_keepK hOw hK2 (fun q hq e => own_ne hOw kbw (by decide) (by rw [hq, e]))
                  replace k32 := keepK hK2 k32 (fun e => ne15 e)
                  replace k4 := keepK hK2 k4 (fun e => ne_tag k4 kbw (by decide) e)
                  replace kbl := keepK hK2 kbl (fun e => ne_tag kbl kbw (by decide) e)
                  replace k33 := keepK hK2 k33 (fun e => ne_tag k33 kbw (by decide) e)
                  replace k9 := keepK hK2 k9 (fun e => ne_tag k9 kbw (by decide) e)
                  replace S := S.putL hK2
                  replace kt101 := keepK hK2 kt101 (fun e => by omega)
                  replace kt108 := keepK hK2 kt108 (fun e => ne_tag kt108 kbw (by decide) e)
                  replace hWy := hWy2
                  clear hWy2
                  refine nx_to (v := (.slice (some ⟨bt26, 0, none⟩) (r2.length + 1 + 1) 9)) (some 102) rfl rfl rfl (ex_app rfl rfl rfl hr2) S ?_
                  simp only [zp]
                  clear hr2 hK2 hwl
                  refine ah_L (L' := #[true, true, true, true, true, true, true, true, true, true, false, false, false]) (by kernel_rfl) ?_
                  refine ops_out hops hS ?_
                  exact ST1 bt101 bt108 W71 gd_bt101 ge_bt101 ne_b32_bt101 ne_bt101_b32 ne_bt101_bt26 ne_bt26_bt101 gd_bt108 ge_bt108 ne_bl_bt108 ne_bt108_bl E hsz hI hQs hWy hOw k32 k4 kbl k33 k9 S kt101 kt108
              have ST4 : ∀ (bt101 : Nat) (Wq : World) (gd_bt101 : W60.heap.size ≤ bt101) (ge_bt101 : w.heap.size ≤ bt101) (ne_b32_bt101 : b32 ≠ bt101) (ne_bt101_b32 : bt101 ≠ b32) (ne_bt101_bt26 : bt101 ≠ bt26) (ne_bt26_bt101 : bt26 ≠ bt101) (E : Kept (· = b6) w Wq) (hsz : base ≤ Wq.heap.size) (hI : Sta Wq b3 b21 bt7 b6 bt26 N7 base r nw cw v ao L A K0 Sv B') (hQs : SSs Wq N7 (⟨d, l, some ⟨b, if c2 = 1 then o2 else o2 + 1 * 13, none⟩, c2 - 1⟩ :: r2)) (hWy : Wy Wq bt26 (wayF (⟨d, l, some ⟨b, if c2 = 1 then o2 else o2 + 1 * 13, none⟩, c2 - 1⟩ :: r2))) (hOw : Wq.ownsRow w.heap.size 33 1 (.slice (some ⟨bl, 0, none⟩) (r2.length + 1) cl) (r2.length + 1) (xsF (⟨d, l, some ⟨b, if c2 = 1 then o2 else o2 + 1 * 13, none⟩, c2 - 1⟩ :: r2))) (k32 : Wq.heap[b32]? = some (.cells (EL e) 49)) (k4 : Wq.heap[b21]? = some (.cells (WL_ v ao nw cw) 32)) (kbl : Wq.heap[bl]? = some (.cells curl 33)) (kbw : Wq.heap[bt26]? = some (.cells curw 49)) (k33 : Wq.heap[b33]? = some (.cells #[] 119)) (k9 : Wq.heap[b22]? = some (.cells (goA ((k : Int) :: gon (toSt (⟨d, l, some ⟨b, if c2 = 1 then o2 else o2 + 1 * 13, none⟩, c2 - 1⟩ :: r2)))).toArray 117)) (S : Kept (fun k => k = bt26 ∨ k = bl) W60 Wq) (kt101 : Wq.heap[bt101]? = some (.cells (EL e) 49)), wpAnyH Try.prog .any ops Q SS 5 #[true, true, true, false, true, true, true, true, true, false, false, false, false] { tmps := #[(.pointer (some ⟨g, 0, none⟩)), (.agg (WL_ v ao nw cw)), (.func (.func 36) #[] #[(.pointer (some ⟨b3, 0, none⟩)), (.pointer (some ⟨b6, 0, none⟩))]), undef, (.pointer (some ⟨b21, 0, none⟩)), undef, (.bool false), (.pointer (some ⟨bt7, 0, none⟩)), (.map (some r)), (.pointer (some ⟨b22, 0, none⟩)), (.slice (some ⟨bt26, 0, none⟩) (r2.length + 1) 9), (.slice (some ⟨bl, 0, none⟩) (r2.length + 1) cl), (.int .i64 ((s' + 1 : Nat) : Int)), (.bool fd'), (.int .i64 ((r2.length : Nat) : Int)), (.pointer (some ⟨b32, 0, none⟩)), (.pointer (some ⟨b33, 0, none⟩)), (.bool false), (.pointer (some ⟨g, 0, none⟩)), (.agg (rowL L A K0 8).toArray), (.pointer (some ⟨b21, 5, none⟩)), (.slice ao nw cw), (.map (some r)), (.pointer (some ⟨b21, 0, none⟩)), (.int .i64 v.fr), (.pointer (some ⟨b22, f0, none⟩)), (.slice (some ⟨bt26, 0, none⟩) 0 9), (.pointer (some ⟨b21, 0, none⟩)), (.int .i64 v.fr), (.agg (EL (E0 v))), (.slice (some ⟨bt30, 0, none⟩) 1 1), (.slice (some ⟨bt26, 0, none⟩) 1 9), (.pointer (some ⟨b21, 0, none⟩)), (.int .i64 v.fr), (.pointer (some ⟨bt7, f0, none⟩)), (.slice (A f0) (nxt L ((f0 : Nat) : Int)).length (K0 f0)), (.slice (some ⟨b23, 0, none⟩) 1 1), (.slice (some ⟨bt26, 0, none⟩) (r2.length + 1) 9), (.int .i64 ((r2.length + 1) : Nat)), (.bool true), (.slice (some ⟨bt26, 0, none⟩) (r2.length + 1) 9), (.int .i64 ((r2.length + 1) : Nat)), (.int .i64 ((r2.length : Nat) : Int)), (.slice (some ⟨bl, 0, none⟩) (r2.length + 1) cl), (.int .i64 ((r2.length : Nat) : Int)), (.pointer (some ⟨bl, r2.length, none⟩)), (.slice (some ⟨b, o2, none⟩) (l.length + 1) c2), (.int .i64 ((l.length + 1) : Nat)), (.bool true), (.slice (some ⟨bl, 0, none⟩) (r2.length + 1) cl), (.int .i64 ((r2.length : Nat) : Int)), (.pointer (some ⟨bl, r2.length, none⟩)), (.slice (some ⟨b, o2, none⟩) (l.length + 1) c2), (.pointer (some ⟨b, (o2 + 0 * 13), none⟩)), (.agg (EL e)), (.slice (some ⟨bl, 0, none⟩) (r2.length + 1) cl), (.int .i64 ((r2.length : Nat) : Int)), (.slice (some ⟨bl, 0, none⟩) (r2.length + 1) cl), (.int .i64 ((r2.length : Nat) : Int)), (.pointer (some ⟨bl, r2.length, none⟩)), (.slice (some ⟨b, o2, none⟩) (l.length + 1) c2), (.slice (some ⟨b, if c2 = 1 then o2 else o2 + 1 * 13, none⟩) (l.length + 1 - 1) (c2 - 1)), (.pointer (some ⟨bl, r2.length, none⟩)), (.int .i64 (s' : Nat)), (.int .i64 ((s' + 1 : Nat) : Int)), j65, j66, j67, j68, (.bool false), (.tuple #[(.agg #[]), (.bool false)]), (.map (some r)), (.pointer (some ⟨b32, 0, none⟩)), (.int .i64 e.ch), (.tuple #[(.agg #[]), (.bool false)]), (.agg #[]), (.bool false), (.bool false), (.bool false), (.pointer (some ⟨b32, 2, none⟩)), (.int .i64 e.to), (.pointer (some ⟨b22, k, none⟩)), (.bool false), (.bool false), (.pointer (some ⟨b32, 2, none⟩)), (.int .i64 e.to), (.pointer (some ⟨b21, 1, none⟩)), (.int .i64 v.to), (.bool false), u89, u90, u91, u92, u93, u94, u95, (.pointer (some ⟨b32, 2, none⟩)), (.int .i64 e.to), (.pointer (some ⟨b22, k, none⟩)), (.slice (some ⟨bt26, 0, none⟩) (r2.length + 1) 9), (.agg (EL e)), (.slice (some ⟨bt101, 0, none⟩) 1 1), u102, (.slice (some ⟨bl, 0, none⟩) (r2.length + 1) cl), (.pointer (some ⟨b32, 2, none⟩)), (.int .i64 e.to), (.pointer (some ⟨bt7, k, none⟩)), (.slice (A k) (nxt L ((k : Nat) : Int)).length (K0 k)), u108, u109, u110, u111, u112, u113, u114, u115, u116, u117, u118, u119, u120, u121, undef, undef], defers := [] } Wq := by
                intro bt101 Wq gd_bt101 ge_bt101 ne_b32_bt101 ne_bt101_b32 ne_bt101_bt26 ne_bt26_bt101 E hsz hI hQs hWy hOw k32 k4 kbl kbw k33 k9 S kt101
                refine ops_in hops hS ?_
                refine ah_or2 (i := 3) (j := 9) (by kernel_rfl) ?_ ?_
                · skip
                  have hwl : (wayF (⟨d, l, some ⟨b, if c2 = 1 then o2 else o2 + 1 * 13, none⟩, c2 - 1⟩ :: r2)).length = r2.length + 1 := by rw [wayF_len]; rfl
                  obtain ⟨W72, hr2, hWy2, hK2⟩ := hWy.add (e := e) (by omega) (show Wq.rangeAt bt101 0 (EL e).toList from at_range (o := 0) (n := 13) kt101 (by show 0 + 13 ≤ _; simp [EL]))
                  rw [hwl] at hr2
                  replace E := E.putN hK2 ge_bt26
                  replace hsz := Nat.le_trans hsz hK2.size
                  replace hI := hI.putW hK2 kbw hN7w hbw
                  replace hQs := hQs.putW hK2 hN7w
                  replace hOw := own_keepK hOw hK2 (fun q hq e => own_ne hOw kbw (by decide) (by rw [hq, e]))
                  replace k32 := keepK hK2 k32 (fun e => ne15 e)
                  replace k4 := keepK hK2 k4 (fun e => ne_tag k4 kbw (by decide) e)
                  replace kbl := keepK hK2 kbl (fun e => ne_tag kbl kbw (by decide) e)
                  replace k33 := keepK hK2 k33 (fun e => ne_tag k33 kbw (by decide) e)
                  replace k9 := keepK hK2 k9 (fun e => ne_tag k9 kbw (by decide) e)
                  replace S := S.putL hK2
                  replace kt101 := keepK hK2 kt101 (fun e => by omega)
                  replace hWy := hWy2
                  clear hWy2
                  refine nx_to (v := (.slice (some ⟨bt26, 0, none⟩) (r2.length + 1 + 1) 9)) (some 102) rfl rfl rfl (ex_app rfl rfl rfl hr2) S ?_
                  simp only [zp]
                  clear hr2 hK2 hwl
                  refine ah_L (L' := #[true, true, true, true, true, true, true, true, true, false, false, false, false]) (by kernel_rfl) ?_
                  refine ops_out hops hS ?_
                  exact ST2 bt101 W72 gd_bt101 ge_bt101 ne_b32_bt101 ne_bt101_b32 ne_bt101_bt26 ne_bt26_bt101 E hsz hI hQs hWy hOw k32 k4 kbl k33 k9 S kt101
                · skip
                  refine nx_new (fun b => .slice (some ⟨b, 0, none⟩) 1 1) (some 108) rfl rfl rfl (ex_bsl1 (u := (.slice (A k) (nxt L ((k : Nat) : Int)).length (K0 k))) rfl rfl (bslS _ _ _ _)) ?_
                  intro bt108 W73 kt108 gt108 B
                  refine ⟨S.next B, ?_⟩
                  simp only [zp]
                  have gd_bt108 := Nat.le_trans S.size gt108
                  have ne_bt108_bl : bt108 ≠ bl := fun e => by have := lt_of kbl; omega
                  have ne_bl_bt108 := ne_bt108_bl.symm
                  have ge_bt108 := Nat.le_trans E.size gt108
                  replace E := E.next B
                  replace hsz := Nat.le_trans hsz (B).size
                  replace hI := hI.keep B
                  replace hQs := hQs.keep B
                  replace hWy := hWy.keep B
                  replace hOw := own_keep hOw B
                  replace k32 := keep B k32
                  replace k4 := keep B k4
                  replace kbl := keep B kbl
                  replace kbw := keep B kbw
                  replace k33 := keep B k33
                  replace k9 := keep B k9
                  replace S := S.next B
                  replace kt101 := keep B kt101
                  clear B
                  refine ah_L (L' := #[true, true, true, false, true, true, true, true, true, true, false, false, false]) (by kernel_rfl) ?_
                  refine ops_out hops hS ?_
                  exact ST3 bt101 bt108 W73 gd_bt101 ge_bt101 ne_b32_bt101 ne_bt101_b32 ne_bt101_bt26 ne_bt26_bt101 gd_bt108 ge_bt108 ne_bl_bt108 ne_bt108_bl E hsz hI hQs hWy hOw k32 k4 kbl kbw k33 k9 S kt101 kt108
              have ST5 : ∀ (bt108 : Nat) (Wq : World) (gd_bt108 : W60.heap.size ≤ bt108) (ge_bt108 : w.heap.size ≤ bt108) (ne_bl_bt108 : bl ≠ bt108) (ne_bt108_bl : bt108 ≠ bl) (E : Kept (· = b6) w Wq) (hsz : base ≤ Wq.heap.size) (hI : Sta Wq b3 b21 bt7 b6 bt26 N7 base r nw cw v ao L A K0 Sv B') (hQs : SSs Wq N7 (⟨d, l, some ⟨b, if c2 = 1 then o2 else o2 + 1 * 13, none⟩, c2 - 1⟩ :: r2)) (hWy : Wy Wq bt26 (wayF (⟨d, l, some ⟨b, if c2 = 1 then o2 else o2 + 1 * 13, none⟩, c2 - 1⟩ :: r2))) (hOw : Wq.ownsRow w.heap.size 33 1 (.slice (some ⟨bl, 0, none⟩) (r2.length + 1) cl) (r2.length + 1) (xsF (⟨d, l, some ⟨b, if c2 = 1 then o2 else o2 + 1 * 13, none⟩, c2 - 1⟩ :: r2))) (k32 : Wq.heap[b32]? = some (.cells (EL e) 49)) (k4 : Wq.heap[b21]? = some (.cells (WL_ v ao nw cw) 32)) (kbl : Wq.heap[bl]? = some (.cells curl 33)) (kbw : Wq.heap[bt26]? = some (.cells curw 49)) (k33 : Wq.heap[b33]? = some (.cells #[] 119)) (k9 : Wq.heap[b22]? = some (.cells (goA ((k : Int) :: gon (toSt (⟨d, l, some ⟨b, if c2 = 1 then o2 else o2 + 1 * 13, none⟩, c2 - 1⟩ :: r2)))).toArray 117)) (S : Kept (fun k => k = bt26 ∨ k = bl) W60 Wq) (kt108 : Wq.heap[bt108]? = some (.cells #[(.slice (A k) (nxt L ((k : Nat) : Int)).length (K0 k))] 33)), wpAnyH Try.prog .any ops Q SS 5 #[true, true, false, false, true, true, true, true, true, true, false, false, false] { tmps := #[(.pointer (some ⟨g, 0, none⟩)), (.agg (WL_ v ao nw cw)), (.func (.func 36) #[] #[(.pointer (some ⟨b3, 0, none⟩)), (.pointer (some ⟨b6, 0, none⟩))]), undef, (.pointer (some ⟨b21, 0, none⟩)), undef, (.bool false), (.pointer (some ⟨bt7, 0, none⟩)), (.map (some r)), (.pointer (some ⟨b22, 0, none⟩)), (.slice (some ⟨bt26, 0, none⟩) (r2.length + 1) 9), (.slice (some ⟨bl, 0, none⟩) (r2.length + 1) cl), (.int .i64 ((s' + 1 : Nat) : Int)), (.bool fd'), (.int .i64 ((r2.length : Nat) : Int)), (.pointer (some ⟨b32, 0, none⟩)), (.pointer (some ⟨b33, 0, none⟩)), (.bool false), (.pointer (some ⟨g, 0, none⟩)), (.agg (rowL L A K0 8).toArray), (.pointer (some ⟨b21, 5, none⟩)), (.slice ao nw cw), (.map (some r)), (.pointer (some ⟨b21, 0, none⟩)), (.int .i64 v.fr), (.pointer (some ⟨b22, f0, none⟩)), (.slice (some ⟨bt26, 0, none⟩) 0 9), (.pointer (some ⟨b21, 0, none⟩)), (.int .i64 v.fr), (.agg (EL (E0 v))), (.slice (some ⟨bt30, 0, none⟩) 1 1), (.slice (some ⟨bt26, 0, none⟩) 1 9), (.pointer (some ⟨b21, 0, none⟩)), (.int .i64 v.fr), (.pointer (some ⟨bt7, f0, none⟩)), (.slice (A f0) (nxt L ((f0 : Nat) : Int)).length (K0 f0)), (.slice (some ⟨b23, 0, none⟩) 1 1), (.slice (some ⟨bt26, 0, none⟩) (r2.length + 1) 9), (.int .i64 ((r2.length + 1) : Nat)), (.bool true), (.slice (some ⟨bt26, 0, none⟩) (r2.length + 1) 9), (.int .i64 ((r2.length + 1) : Nat)), (.int .i64 ((r2.length : Nat) : Int)), (.slice (some ⟨bl, 0, none⟩) (r2.length + 1) cl), (.int .i64 ((r2.length : Nat) : Int)), (.pointer (some ⟨bl, r2.length, none⟩)), (.slice (some ⟨b, o2, none⟩) (l.length + 1) c2), (.int .i64 ((l.length + 1) : Nat)), (.bool true), (.slice (some ⟨bl, 0, none⟩) (r2.length + 1) cl), (.int .i64 ((r2.length : Nat) : Int)), (.pointer (some ⟨bl, r2.length, none⟩)), (.slice (some ⟨b, o2, none⟩) (l.length + 1) c2), (.pointer (some ⟨b, (o2 + 0 * 13), none⟩)), (.agg (EL e)), (.slice (some ⟨bl, 0, none⟩) (r2.length + 1) cl), (.int .i64 ((r2.length : Nat) : Int)), (.slice (some ⟨bl, 0, none⟩) (r2.length + 1) cl), (.int .i64 ((r2.length : Nat) : Int)), (.pointer (some ⟨bl, r2.length, none⟩)), (.slice (some ⟨b, o2, none⟩) (l.length + 1) c2), (.slice (some ⟨b, if c2 = 1 then o2 else o2 + 1 * 13, none⟩) (l.length + 1 - 1) (c2 - 1)), (.pointer (some ⟨bl, r2.length, none⟩)), (.int .i64 (s' : Nat)), (.int .i64 ((s' + 1 : Nat) : Int)), j65, j66, j67, j68, (.bool false), (.tuple #[(.agg #[]), (.bool false)]), (.map (some r)), (.pointer (some ⟨b32, 0, none⟩)), (.int .i64 e.ch), (.tuple #[(.agg #[]), (.bool false)]), (.agg #[]), (.bool false), (.bool false), (.bool false), (.pointer (some ⟨b32, 2, none⟩)), (.int .i64 e.to), (.pointer (some ⟨b22, k, none⟩)), (.bool false), (.bool false), (.pointer (some ⟨b32, 2, none⟩)), (.int .i64 e.to), (.pointer (some ⟨b21, 1, none⟩)), (.int .i64 v.to), (.bool false), u89, u90, u91, u92, u93, u94, u95, (.pointer (some ⟨b32, 2, none⟩)), (.int .i64 e.to), (.pointer (some ⟨b22, k, none⟩)), (.slice (some ⟨bt26, 0, none⟩) (r2.length + 1) 9), (.agg (EL e)), u101, u102, (.slice (some ⟨bl, 0, none⟩) (r2.length + 1) cl), (.pointer (some ⟨b32, 2, none⟩)), (.int .i64 e.to), (.pointer (some ⟨bt7, k, none⟩)), (.slice (A k) (nxt L ((k : Nat) : Int)).length (K0 k)), (.slice (some ⟨bt108, 0, none⟩) 1 1), u109, u110, u111, u112, u113, u114, u115, u116, u117, u118, u119, u120, u121, undef, undef], defers := [] } Wq := by
                intro bt108 Wq gd_bt108 ge_bt108 ne_bl_bt108 ne_bt108_bl E hsz hI hQs hWy hOw k32 k4 kbl kbw k33 k9 S kt108
                refine ops_in hops hS ?_
                refine ah_or1 (i := 2) (by kernel_rfl) ?_
                · skip
                  refine nx_new (fun b => .slice (some ⟨b, 0, none⟩) 1 1) (some 101) rfl rfl rfl (ex_bsl1 (u := (.agg (EL e))) rfl rfl (bslE e _)) ?_
                  intro bt101 W74 kt101 gt101 B
                  refine ⟨S.next B, ?_⟩
                  simp only [zp]
                  have gd_bt101 := Nat.le_trans S.size gt101
                  have ne_bt101_b32 : bt101 ≠ b32 := fun e => by have := lt_of k32; omega
                  have ne_b32_bt101 := ne_bt101_b32.symm
                  have ne_bt101_bt26 : bt101 ≠ bt26 := fun e => by have := lt_of kbw; omega
                  have ne_bt26_bt101 := ne_bt101_bt26.symm
                  have ge_bt101 := Nat.le_trans E.size gt101
                  replace E := E.next B
                  replace hsz := Nat.le_trans hsz (B).size
                  replace hI := hI.keep B
                  replace hQs := hQs.keep B
                  replace hWy := hWy.keep B
                  replace hOw := own_keep hOw B
                  replace k32 := keep B k32
                  replace k4 := keep B k4
                  replace kbl := keep B kbl
                  replace kbw := keep B kbw
                  replace k33 := keep B k33
                  replace k9 := keep B k9
                  replace S := S.next B
                  replace kt108 := keep B kt108
                  clear B
                  refine ah_L (L' := #[true, true, true, false, true, true, true, true, true, true, false, false, false]) (by kernel_rfl) ?_
                  refine ops_out hops hS ?_
                  exact ST3 bt101 bt108 W74 gd_bt101 ge_bt101 ne_b32_bt101 ne_bt101_b32 ne_bt101_bt26 ne_bt26_bt101 gd_bt108 ge_bt108 ne_bl_bt108 ne_bt108_bl E hsz hI hQs hWy hOw k32 k4 kbl kbw k33 k9 S kt101 kt108
              refine ops_in hops hS ?_
              refine ah_or2 (i := 2) (j := 9) (by kernel_rfl) ?_ ?_
              · skip
                refine nx_new (fun b => .slice (some ⟨b, 0, none⟩) 1 1) (some 101) rfl rfl rfl (ex_bsl1 (u := (.agg (EL e))) rfl rfl (bslE e _)) ?_
                intro bt101 W75 kt101 gt101 B
                refine ⟨S.next B, ?_⟩
                simp only [zp]
                have gd_bt101 := Nat.le_trans S.size gt101
                have ne_bt101_b32 : bt101 ≠ b32 := fun e => by have := lt_of k32; omega
                have ne_b32_bt101 := ne_bt101_b32.symm
                have ne_bt101_bt26 : bt101 ≠ bt26 := fun e => by have := lt_of kbw; omega
                have ne_bt26_bt101 := ne_bt101_bt26.symm
                have ge_bt101 := Nat.le_trans E.size gt101
                replace E := E.next B
                replace hsz := Nat.le_trans hsz (B).size
                replace hI := hI.keep B
                replace hQs := hQs.keep B
                replace hWy := hWy.keep B
                replace hOw := own_keep hOw B
                replace k32 := keep B k32
                replace k4 := keep B k4
                replace kbl := keep B kbl
                replace kbw := keep B kbw
                replace k33 := keep B k33
                replace k9 := keep B k9
                replace S := S.next B
                clear B
                refine ah_L (L' := #[true, true, true, false, true, true, true, true, true, false, false, false, false]) (by kernel_rfl) ?_
                refine ops_out hops hS ?_
                exact ST4 bt101 W75 gd_bt101 ge_bt101 ne_b32_bt101 ne_bt101_b32 ne_bt101_bt26 ne_bt26_bt101 E hsz hI hQs hWy hOw k32 k4 kbl kbw k33 k9 S kt101
              · skip
                refine nx_new (fun b => .slice (some ⟨b, 0, none⟩) 1 1) (some 108) rfl rfl rfl (ex_bsl1 (u := (.slice (A k) (nxt L ((k : Nat) : Int)).length (K0 k))) rfl rfl (bslS _ _ _ _)) ?_
                intro bt108 W76 kt108 gt108 B
                refine ⟨S.next B, ?_⟩
                simp only [zp]
                have gd_bt108 := Nat.le_trans S.size gt108
                have ne_bt108_bl : bt108 ≠ bl := fun e => by have := lt_of kbl; omega
                have ne_bl_bt108 := ne_bt108_bl.symm
                have ge_bt108 := Nat.le_trans E.size gt108
                replace E := E.next B
                replace hsz := Nat.le_trans hsz (B).size
                replace hI := hI.keep B
                replace hQs := hQs.keep B
                replace hWy := hWy.keep B
                replace hOw := own_keep hOw B
                replace k32 := keep B k32
                replace k4 := keep B k4
                replace kbl := keep B kbl
                replace kbw := keep B kbw
                replace k33 := keep B k33
                replace k9 := keep B k9
                replace S := S.next B
                clear B
                refine ah_L (L' := #[true, true, false, false, true, true, true, true, true, true, false, false, false]) (by kernel_rfl) ?_
                refine ops_out hops hS ?_
                exact ST5 bt108 W76 gd_bt108 ge_bt108 ne_bl_bt108 ne_bt108_bl E hsz hI hQs hWy hOw k32 k4 kbl kbw k33 k9 S kt108
            intro bt101 bt108 g' cap' Wq gd_bt101 ge_bt101 ne_b32_bt101 ne_bt101_b32 ne_bt101_bt26 ne_bt26_bt101 gd_bt108 ge_bt108 ne_bl_bt108 ne_bt108_bl E hsz hI hQs hWy hOw k32 k4 k33 k9 S kt101 kt108
            try dsimp only
            refine ops_in hops hS ?_
            refine ah_done (by kernel_rfl) ?_
            clear hQP hops hS
            subst hQ
            clear S d_k32 d_k9 d_k4 d_kbl d_kbw d_k33 d_hsz d_hI d_hQs d_hWy d_hOw
            refine wp_exit ?_
            refine ex_pass (by decide) ?_
            refine ex_then ?_
            refine ex_pass (by decide) ?_
            refine ex_then ?_
            refine ex_blk ?_
            refine then_go ?_
            go_roundw
            case rel =>
              refine ⟨s' + 1, fd', B', (⟨e, nxt L e.to, A k, K0 k⟩ :: ⟨d, l, some ⟨b, if c2 = 1 then o2 else o2 + 1 * 13, none⟩, c2 - 1⟩ :: r2), rfl, rfl, rfl, ⟨E, hsz, hI, ?_, ?_, ?_, ?_, H.fd, H.pk.push hr8 hsk hto het⟩⟩
              · intro q hq
                rcases List.mem_cons.1 hq with hq | hq
                · subst hq
                  show Es _ N7 (A k) (nxt L e.to) ∧ (nxt L e.to).length ≤ K0 k
                  rw [hk]
                  exact ⟨hI.ro k hk8, hlk k hk8⟩
                · exact hQs q hq
              · show _ = some (Obj.cells (goA (e.to :: gon (toSt (⟨d, l, some ⟨b, if c2 = 1 then o2 else o2 + 1 * 13, none⟩, c2 - 1⟩ :: r2)))).toArray 117)
                rw [hk]
                exact k9
              · rw [wayF_cons]
                exact hWy
              · rw [xsF_cons]
                show World.ownsRow _ _ _ _ _ _ (_ ++ [Value.slice (A k) (nxt L e.to).length (K0 k)])
                rw [hk]
                exact hOw
            case measure => simp [intOf, lenV]; omega
        · have hl := Classical.not_not.1 hl
          subst hl
          obtain ⟨hgn, hdt⟩ := H.pk.gone
          obtain ⟨k, hk⟩ : ∃ k : Nat, d.to = (k : Int) := ⟨d.to.toNat, by omega⟩
          have hk8 : k < 8 := by omega
          have E := H.E
          have hOw := H.ow
          have hI := H.hI
          have hQs := H.hS
          have hWy := H.wy
          have hsz := H.sz
          have k9 : wr.heap[b22]? = some (.cells (goA ((k : Int) :: gon (toSt r2))).toArray 117) := by rw [← hk]; exact H.k9
          have hlast : (xsF (⟨d, [], a, c2⟩ :: r2))[r2.length]? = some (.slice a 0 c2) := by
            rw [xsF_cons, List.getElem?_append_right (by rw [xsF_len]; exact Nat.le_refl _), xsF_len, Nat.sub_self]
            rfl
          have hrD : wr.rangeAt bt26 (0 + r2.length * 13) (EL d).toList := range_at hWy.range (by rw [wayF_cons, List.getElem?_append_right (by rw [wayF_len]; exact Nat.le_refl _), wayF_len, Nat.sub_self]; rfl)
          have ge_b22' := ge_b22
          refine wp_seq ?_
          refine wq fun Q hQ => ?_
          refine sm (.slice (some ⟨bl, 0, none⟩) (r2.length + 1) cl) 43 rfl rfl rfl rfl ?_
          simp only [zp]
          refine sm (.int .i64 ((r2.length : Nat) : Int)) 44 rfl rfl rfl rfl ?_
          simp only [zp]
          refine sv (.pointer (some ⟨bl, r2.length, none⟩)) 45 rfl rfl (ixS0 (k := r2.length) rfl rfl rfl rfl (by omega)) ?_
          simp only [zp]
          refine sv (.slice a 0 c2) 46 rfl rfl (ex_load rfl rfl (ld33 (own_cell hOw hlast))) ?_
          simp only [zp]
          refine sv (.int .i64 (0 : Nat)) 47 rfl rfl (ex_len rfl rfl (len33 _ _ _ _ _)) ?_
          simp only [zp]
          refine sv (.bool false) 48 rfl rfl (ex_bin (u := (.int .i64 (0 : Nat))) (r := (.int .i64 0)) rfl rfl rfl (eg3 _ _ _ _ _ _) (gtr3 _ (decide_eq_false (by omega)))) ?_
          simp only [zp]
          refine st_end ?_
          subst hQ
          refine wp_cond_false rfl ?_
          refine wp_exit ?_
          refine ex_then ?_
          refine ex_then ?_
          refine ex_blk ?_
          refine wq fun Q hQ => ?_
          refine sm (.slice (some ⟨bt26, 0, none⟩) (r2.length + 1) 9) 110 rfl rfl rfl rfl ?_
          simp only [zp]
          refine sm (.int .i64 ((r2.length : Nat) : Int)) 111 rfl rfl rfl rfl ?_
          simp only [zp]
          refine sv (.pointer (some ⟨bt26, (0 + r2.length * 13), none⟩)) 112 rfl rfl (ix33 (k := r2.length) rfl rfl rfl (rfl) ((by omega))) ?_
          simp only [zp]
          refine sv (.pointer (some ⟨bt26, ((0 + r2.length * 13) + 2), none⟩)) 113 rfl rfl (ex_fa (p := (.pointer (some ⟨bt26, (0 + r2.length * 13), none⟩))) rfl rfl (fg49_2 _ _ _)) ?_
          simp only [zp]
          refine sv (.int .i64 d.to) 114 rfl rfl (ex_load rfl rfl (ld3 (hrD 2 _ rfl))) ?_
          simp only [zp]
          refine sv (.pointer (some ⟨b22, k, none⟩)) 115 rfl rfl (ixB rfl rfl rfl hk hk8) ?_
          simp only [zp]
          obtain ⟨kn, K⟩ := put_cell (i := k) (.bool false) k9
          refine st_sk rfl rfl (ex_store rfl rfl rfl (sto4 (at_cell k9 (goA_at _ k hk8)) (unfrozen k9))) ?_
          obtain ⟨W77, hW2⟩ : ∃ W', wr.setCell ⟨b22, k, none⟩ (.bool false) = W' := ⟨_, rfl⟩
          rw [hW2] at kn K ⊢
          rw [List.setIfInBounds_toArray, goA_cut (gon (toSt r2)) k hk8 (by rw [← hk]; exact hgn)] at kn
          replace E := E.putN K ge_b22
          replace hsz := Nat.le_trans hsz K.size
          replace hI := hI.putT K k9 (by decide)
          replace hQs := hQs.putT K k9 (by decide)
          replace hWy := hWy.keepK K (fun e => hWy.ne k9 (by decide) e)
          replace hOw := own_keepK hOw K (fun q hq e => own_ne hOw k9 (by decide) (by rw [hq, e]))
          replace k9 := kn
          clear kn K
          refine st_end ?_
          subst hQ
          obtain ⟨W78, hwd⟩ : ∃ wd, W77.drew = wd := ⟨_, rfl⟩
          refine wp_region_held (S := fun W => Kept Nil W78 W) (by kernel_rfl) ?_
          show wpAnyH _ _ _ _ _ _ _ _ W77.drew
          rw [hwd]
          refine capQ fun Q hQ => ?_
          have hQP : ∀ c (a : Act) (d : Nat) v w, Q (.panic c) (a.put (some d) v) w → Q (.panic c) a w := by
            subst hQ
            exact fun _ _ _ _ _ h => h
          have BD : Below W77.heap.size W77 W78 := by rw [← hwd]; exact below_drewB (Below.refl _ _)
          clear hwd
          replace E := E.next BD
          replace hsz := Nat.le_trans hsz (BD).size
          replace hI := hI.keep BD
          replace hQs := hQs.keep BD
          replace hWy := hWy.keep BD
          replace hOw := own_keep hOw BD
          replace k9 := keep BD k9
          clear BD
          have S : Kept Nil W78 W78 := Kept.refl _ _
          have d_k9 := k9
          have d_hsz := hsz
          have d_hI := hI
          have d_hQs := hQs
          have d_hWy := hWy
          have d_hOw := hOw
          refine ah_take (v := (.slice (some ⟨bt26, 0, none⟩) (r2.length + 1) 9)) (i := 0) (some 116) rfl rfl (by kernel_rfl) (by kernel_rfl) (by kernel_rfl) rfl (fun W hK => ex_mv rfl rfl) S (fun c a w h => hQP c a _ _ w h) ?_
          simp only [zp]
          refine ah_take (v := (.int .i64 ((r2.length : Nat) : Int))) (i := 1) (some 117) rfl rfl (by kernel_rfl) (by kernel_rfl) (by kernel_rfl) rfl (fun W hK => ex_mv rfl rfl) S (fun c a w h => hQP c a _ _ w h) ?_
          simp only [zp]
          refine ah_take (v := (.slice (some ⟨bt26, 0, none⟩) r2.length 9)) (i := 2) (some 118) rfl rfl (by kernel_rfl) (by kernel_rfl) (by kernel_rfl) rfl (fun W hK => ex_cuth rfl rfl rfl rfl (by omega)) S (fun c a w h => hQP c a _ _ w h) ?_
          simp only [zp]
          refine ah_take (v := (.slice (some ⟨bl, 0, none⟩) (r2.length + 1) cl)) (i := 3) (some 119) rfl rfl (by kernel_rfl) (by kernel_rfl) (by kernel_rfl) rfl (fun W hK => ex_mv rfl rfl) S (fun c a w h => hQP c a _ _ w h) ?_
          simp only [zp]
          refine ah_take (v := (.int .i64 ((r2.length : Nat) : Int))) (i := 4) (some 120) rfl rfl (by kernel_rfl) (by kernel_rfl) (by kernel_rfl) rfl (fun W hK => ex_mv rfl rfl) S (fun c a w h => hQP c a _ _ w h) ?_
          simp only [zp]
          refine ah_take (v := (.slice (some ⟨bl, 0, none⟩) r2.length cl)) (i := 5) (some 121) rfl rfl (by kernel_rfl) (by kernel_rfl) (by kernel_rfl) rfl (fun W hK => ex_cuthS rfl rfl rfl rfl (by omega)) S (fun c a w h => hQP c a _ _ w h) ?_
          simp only [zp]
          refine ah_take (v := (.slice (some ⟨bt26, 0, none⟩) r2.length 9)) (i := 6) (some 10) rfl rfl (by kernel_rfl) (by kernel_rfl) (by kernel_rfl) rfl (fun W hK => ex_asg rfl rfl) S (fun c a w h => hQP c a _ _ w h) ?_
          simp only [zp]
          refine ah_take (v := (.slice (some ⟨bl, 0, none⟩) r2.length cl)) (i := 7) (some 11) rfl rfl (by kernel_rfl) (by kernel_rfl) (by kernel_rfl) rfl (fun W hK => ex_asg rfl rfl) S (fun c a w h => hQP c a _ _ w h) ?_
          simp only [zp]
          refine ah_done (by kernel_rfl) ?_
          clear hQP
          subst hQ
          clear S d_k9 d_hsz d_hI d_hQs d_hWy d_hOw
          refine nrm_b2 ?_
          refine then_go ?_
          go_roundw
          case rel => exact ⟨s', fd', B', r2, rfl, rfl, rfl, ⟨E, hsz, hI, hQs.tail, k9, Wy.cut (q := [d]) (by rw [← wayF_cons (f := ⟨d, [], a, c2⟩)]; exact hWy), by have q := own_cut hOw (m := r2.length) (by omega); rw [xsF_cons, List.take_left' (xsF_len r2)] at q; exact q, H.fd, H.pk.pop⟩⟩
          case measure => simp [intOf, lenV]; omega
    · have hss := Classical.not_not.1 hss
      subst hss
      obtain ⟨hq1, hq2⟩ := H.pk.done
      refine wp_seq ?_
      refine wq fun Q hQ => ?_
      refine sm (.slice (some ⟨bt26, 0, none⟩) ([] : List SF).length 9) 37 rfl rfl rfl rfl ?_
      simp only [zp]
      refine sv (.int .i64 (([] : List SF).length : Nat)) 38 rfl rfl (ex_len rfl rfl (len33 _ _ _ _ _)) ?_
      simp only [zp]
      refine sv (.bool false) 39 rfl rfl (ex_bin (u := (.int .i64 (([] : List SF).length : Nat))) (r := (.int .i64 0)) rfl rfl rfl (eg3 _ _ _ _ _ _) (gtr3 _ (decide_eq_false (by simp)))) ?_
      simp only [zp]
      refine st_end ?_
      subst hQ
      refine wp_cond_false rfl ?_
      refine wp_exit ?_
      refine ex_then ?_
      refine ex_then ?_
      refine ex_blk ?_
      have hd : decide ((100000 : Int) < ((s : Nat) : Int)) = decide (100000 < TOT) := by rw [hq2]; exact decide_eq_decide.2 (by omega)
      refine wq fun Q hQ => ?_
      refine sm (.int .i64 (s : Nat)) 122 rfl rfl rfl rfl ?_
      simp only [zp]
      refine sv (.bool (decide (100000 < TOT))) 123 rfl rfl (ex_bin (u := (.int .i64 (s : Nat))) (r := (.int .i64 100000)) rfl rfl rfl (eg3 _ _ _ _ _ _) (gtr3 _ hd)) ?_
      simp only [zp]
      refine sg (.bool (decide (100000 < TOT))) 6 rfl rfl rfl rfl ?_
      simp only [zp]
      refine st_end ?_
      subst hQ
      refine wp_ret ?_
      refine ng_ret ?_
      refine bodyPost_ret (results_tmp Try.results35 _ _ _) rfl ⟨B, base, rfl, H.hI.bs, hbb, by rw [hq1], fun _ => hq1, H.E⟩
end Go.Proofs.Ytgnkcmmpbohafaa
