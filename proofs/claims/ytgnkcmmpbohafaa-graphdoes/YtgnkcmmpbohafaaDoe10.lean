/- Some texts, in one. -/
import Derived.Test.YtgnkcmmpbohafaaDoe09
import Derived.RangeFuncFrom
import Derived.RangeFuncLeaves
import Derived.RangeFuncCalls
import Derived.Test.YtgnkcmmpbohafaaRows
import Derived.ProofKit
import Derived.OpenShut
import Derived.SizedLaws
import Derived.Deep.Slices
import Derived.Deep.SlicePairs
import Derived.WideShapes
/- An edge is set behind all others; a new graph. -/
namespace Go.Proofs.Ytgnkcmmpbohafaa
open Go.RowKit
set_option linter.unusedVariables false
set_option linter.unusedSimpArgs false
set_option maxRecDepth 100000

/-- a graph of one's own -/
def Gr (W : World) (base g : Nat) (L : List EV) : Prop := ∃ b c, W.heap[g]? = some (.cells #[.slice (some ⟨b, 0, none⟩) L.length c] 105) ∧ base ≤ g ∧ W.ownsRow base 49 13 (.slice (some ⟨b, 0, none⟩) L.length c) L.length (cE L)
theorem own_Es {W : World} {base b n c : Nat} {L : List EV} (h : W.ownsRow base 49 13 (.slice (some ⟨b, 0, none⟩) n c) n (cE L)) : Es W W.heap.size (some ⟨b, 0, none⟩) L := by
  obtain ⟨cur, hc⟩ := own_blk h; refine .inr ⟨b, 0, rfl, lt_of hc, ⟨cur, hc⟩, fun j u hu => ?_⟩
  have := World.ownsRow.cells h (g := b) rfl j u hu
  rw [Addr.add_mid] at this; exact this
theorem Gr.keep {W W' : World} {base g : Nat} {L : List EV} (h : Gr W base g L) (hB : Below W.heap.size W W') : Gr W' base g L := by
  obtain ⟨b, c, h1, h2, h3⟩ := h; exact ⟨b, c, Proofs.Ytgnkcmmpbohafaa.keep hB h1, h2, own_keep h3 hB⟩
set_option maxHeartbeats 16000000 in
theorem set_end {base g : Nat} {L : List EV} {e : EV} (w : World) (hG : Gr w base g L) (hb : base ≤ w.heap.size) (hs : srt L) (hl : ∀ d ∈ L, ltE d e) (hn : L.length ≤ 63) (he : EB e) : Calls Try.prog 21 #[.pointer (some ⟨g, 0, none⟩), .agg (EL e)] w fun q w' => q = .returned (.int .i64 0) ∧ Gr w' base g (L ++ [e]) ∧ Below base w w' := by
  obtain ⟨b, c, kg, hgb, hO⟩ := hG; have gb_g := hgb; obtain ⟨curb, kb⟩ := own_blk hO
  have gb_b : base ≤ b := own_ge hO rfl
  have E : Below base w w := Below.refl _ _
  go_enter Try.func21, Try.ntmps21; refine wq fun Q hQ => ?_; refine st_new (fun b => .pointer (some ⟨b, 0, none⟩)) (some 3) rfl rfl (ex_box rfl rfl) ?_; intro b21 W1 k21 g21 B; simp only [zp]
  have ne_b21_g : b21 ≠ g := fun e => by have := lt_of kg; omega
  have ne_b21_b : b21 ≠ b := fun e => by have := lt_of kb; omega
  have ge_b21 := Nat.le_trans E.size g21; replace E := E.trans ((B).mono (Nat.le_trans hb E.size)); replace kg := keep B kg; replace kb := keep B kb; replace hO := own_keep hO B; clear B; refine vg (.int .i64 0) 4 rfl rfl rfl rfl ?_; refine st_end ?_; subst hQ; refine wp_seq ?_; refine wp_block ?_; refine wq fun Q hQ => ?_; refine vm (Pz g 0) 8 rfl rfl rfl rfl ?_; refine st_call (some 9) rfl rfl (closed_any W1 kg) (ex_call (f := 33) (vs := [(Pz g 0)]) rfl (cf33 _) rfl) ?_; rintro e W2 ⟨rfl, B⟩; refine ⟨_, rfl, ?_⟩; simp only [zp]; replace E := E.trans ((B).mono (Nat.le_trans hb E.size))
  replace kg := keep B kg; replace kb := keep B kb; replace hO := own_keep hO B; replace k21 := keep B k21; refine vg (.bool false) 7 rfl rfl rfl rfl ?_; refine st_end ?_; subst hQ; refine wp_cond_false rfl ?_; refine wq fun Q hQ => ?_; refine vv (.agg (EL e)) 11 rfl rfl (ex_load (p := (Pz b21 0)) rfl rfl (ld_all k21 Try.underlying49 rfl inf49)) ?_; refine st_call (some 12) rfl rfl (mayE_any W2 he.b he.cap he.ok) (ex_call (f := 62) (vs := [(.agg (EL e))]) rfl (cf62 _) rfl) ?_; rintro e W3 ⟨rfl, B⟩; refine ⟨_, rfl, ?_⟩; simp only [zp]; replace E := E.trans ((B).mono (Nat.le_trans hb E.size))
  replace kg := keep B kg; replace kb := keep B kb; replace hO := own_keep hO B; replace k21 := keep B k21; refine vv (.bool false) 13 rfl rfl (ex_not rfl rfl rfl) ?_; refine vg (.bool false) 10 rfl rfl rfl rfl ?_; refine st_end ?_; subst hQ; refine wp_cond_false rfl ?_; refine wp_skip ?_; refine wq fun Q hQ => ?_; refine vm (Pz g 0) 15 rfl rfl rfl rfl ?_; refine vv (Pz b21 0) 16 rfl rfl (ex_fa (p := (Pz b21 0)) rfl rfl (fa49_0 _ _)) ?_; refine vv (.int .i64 e.ch) 17 rfl rfl (ex_load (p := (Pz b21 0)) rfl rfl (ld3 (at_cell k21 rfl))) ?_
  refine vv (Pz b21 1) 18 rfl rfl (ex_fa (p := (Pz b21 0)) rfl rfl (fa49_1 _ _)) ?_; refine vv (.int .i64 e.fr) 19 rfl rfl (ex_load (p := (Pz b21 1)) rfl rfl (ld3 (at_cell k21 rfl))) ?_; refine st_call (some 20) rfl rfl (place_any (ch := e.ch) (fr := e.fr) W3 kg (own_Es hO) rfl (by omega) hs) (ex_call (f := 63) (vs := [(Pz g 0), (.int .i64 e.ch), (.int .i64 e.fr)]) rfl (cf63 _) rfl) ?_; rintro e W4 ⟨i, fd, rfl, hi, p1, p2, p3, B⟩
  have hin : L.length = i := by
    by_cases hq : i < L.length
    · have h1 := p2 i L[i] (Nat.le_refl _) (List.getElem?_eq_getElem hq)
      have h2 := hl L[i] (List.getElem_mem hq); have h3 := ord_lt L[i] e.ch e.fr
      unfold ltE at h2
      omega
    · omega
  subst hin
  obtain rfl : fd = false := by
    cases fd
    · rfl
    · obtain ⟨d, hd, _⟩ := p3.1 rfl
      rw [List.getElem?_eq_none (Nat.le_refl _)] at hd
      cases hd
  refine ⟨_, rfl, ?_⟩; simp only [zp]; replace E := E.trans ((B).mono (Nat.le_trans hb E.size)); replace kg := keep B kg; replace kb := keep B kb; replace hO := own_keep hO B; replace k21 := keep B k21; refine vm (.tuple #[(.int .i64 (L.length : Nat)), (.bool false)]) 14 rfl rfl rfl rfl ?_; refine vv (.int .i64 (L.length : Nat)) 21 rfl rfl (ex_ext rfl rfl rfl) ?_; refine vv (.bool false) 22 rfl rfl (ex_ext rfl rfl rfl) ?_; refine vg (.int .i64 (L.length : Nat)) 5 rfl rfl rfl rfl ?_; refine vg (.bool false) 6 rfl rfl rfl rfl ?_; refine st_end ?_; subst hQ; refine wp_seq ?_; refine wp_block ?_
  refine wq fun Q hQ => ?_; refine vm (.bool false) 35 rfl rfl rfl rfl ?_; refine vg (.bool false) 34 rfl rfl rfl rfl ?_; refine st_end ?_; subst hQ; refine wp_cond_false rfl ?_; refine wq fun Q hQ => ?_; refine vm (Pz g 0) 44 rfl rfl rfl rfl ?_; refine vv (Pz g 0) 45 rfl rfl (ex_nil (p := (Pz g 0)) rfl rfl rfl) ?_; refine vv (Pz g 0) 46 rfl rfl (ex_fa (p := (Pz g 0)) rfl rfl (fa105_0 _ _)) ?_; refine vv (.slice (some ⟨b, 0, none⟩) L.length c) 47 rfl rfl (ex_load (p := (Pz g 0)) rfl rfl (ld33 (at_cell kg rfl))) ?_
  refine vv (.int .i64 (L.length : Nat)) 48 rfl rfl (ex_len rfl rfl (len33 _ _ _ _ _)) ?_; refine vv (.bool false) 49 rfl rfl (ex_bin (u := (.int .i64 (L.length : Nat))) (r := (.int .i64 64)) rfl rfl rfl (eg3 _ _ _ _ _ _) (geq3 _ (decide_eq_false (by omega)))) ?_; refine vg (.bool false) 43 rfl rfl rfl rfl ?_; refine st_end ?_; subst hQ; refine wp_cond_false rfl ?_; obtain ⟨W5, hwd⟩ : ∃ wd, W4.drew = wd := ⟨_, rfl⟩; refine wp_region_held (S := fun W => Kept (fun k => k = g ∨ k = b) W5 W) (by kernel_rfl) ?_
  show wpAnyH _ _ _ _ _ _ _ _ W4.drew
  rw [hwd]; refine capQ fun Q hQ => ?_
  have hQP : ∀ c (a : Act) (d : Nat) v w, Q (.panic c) (a.put (some d) v) w → Q (.panic c) a w := by
    subst hQ; exact fun _ _ _ _ _ h => h
  have BD : Below W4.heap.size W4 W5 := by rw [← hwd]; exact below_drewB (Below.refl _ _)
  clear hwd; replace E := E.trans ((BD).mono (Nat.le_trans hb E.size)); replace kg := keep BD kg; replace kb := keep BD kb; replace hO := own_keep hO BD; replace k21 := keep BD k21; clear BD
  have S : Kept (fun k => k = g ∨ k = b) W5 W5 := Kept.refl _ _
  have d_kg := kg; have d_kb := kb; have d_k21 := k21; have d_hO := hO; refine tk (Pz g 0) 0 23 rfl rfl rfl (fun W hK => ex_mv rfl rfl) S hQP ?_; refine tk (Pz g 0) 1 24 rfl rfl rfl (fun W hK => ex_mv rfl rfl) S hQP ?_; refine tk (Pz g 0) 2 25 rfl rfl rfl (fun W hK => ex_nil (p := (Pz g 0)) rfl rfl rfl) S hQP ?_; refine tk (Pz g 0) 3 26 rfl rfl rfl (fun W hK => ex_fa (p := (Pz g 0)) rfl rfl (fa105_0 _ _)) S hQP ?_; refine tk (.int .i64 (L.length : Nat)) 5 28 rfl rfl rfl (fun W hK => ex_mv rfl rfl) S hQP ?_
  refine tk (.agg (EL e)) 6 29 rfl rfl rfl (fun W hK => ex_load (p := (Pz b21 0)) rfl rfl (ld_all (keepK hK d_k21 (fun e => e.elim (fun e => ne_tag d_k21 d_kg (by decide) e) (fun e => by first | exact ne_b21_b e | exact ne_b_b21 e.symm))) Try.underlying49 rfl inf49)) S hQP ?_; refine cap2 fun ops SS hops hS => ?_
  let F : Value → Value → Value → Value → Value → Act := fun s27 s30 s31 s32 s33 => { tmps := #[(Pz g 0), (.agg (EL e)), undef, (Pz b21 0), (.int .i64 0), (.int .i64 (L.length : Nat)), (.bool false), (.bool false), (Pz g 0), (.bool false), (.bool false), (.agg (EL e)), (.bool true), (.bool false), (.tuple #[(.int .i64 (L.length : Nat)), (.bool false)]), (Pz g 0), (Pz b21 0), (.int .i64 e.ch), (Pz b21 1), (.int .i64 e.fr), (.tuple #[(.int .i64 (L.length : Nat)), (.bool false)]), (.int .i64 (L.length : Nat)), (.bool false), (Pz g 0), (Pz g 0), (Pz g 0), (Pz g 0), s27, (.int .i64 (L.length : Nat)), (.agg (EL e)), s30, s31, s32, s33, (.bool false), (.bool false), undef, undef, undef, undef, undef, undef, undef, (.bool false), (Pz g 0), (Pz g 0), (Pz g 0), (.slice (some ⟨b, 0, none⟩) L.length c), (.int .i64 (L.length : Nat)), (.bool false)], defers := [] }
  suffices FIN : ∀ (bt30 : Nat) (g2 : Nat) (c2 : Nat) (Wq : World) (gd_bt30 : W5.heap.size ≤ bt30) (ge_bt30 : w.heap.size ≤ bt30) (ne_b_bt30 : b ≠ bt30) (ne_bt30_b : bt30 ≠ b) (ne_b21_bt30 : b21 ≠ bt30) (ne_bt30_b21 : bt30 ≠ b21) (E : Below base w Wq) (k21 : Wq.heap[b21]? = some (.cells (EL e) 49)) (S : Kept (fun k => k = g ∨ k = b) W5 Wq) (kt30 : Wq.heap[bt30]? = some (.cells (EL e) 49)) (hO2 : Wq.ownsRow base 49 13 (.slice (some ⟨g2, 0, none⟩) (L.length + 1) c2) (L.length + 1) (cE (L ++ [e]))) (kg : Wq.heap[g]? = some (.cells #[(.slice (some ⟨g2, 0, none⟩) (L.length + 1) c2)] 105)), wpAnyH Try.prog .any ops Q SS 0 #[true, true, true, true, true, true, true, true, true, true, true, true] (F (.slice (some ⟨b, 0, none⟩) L.length c) (.slice (some ⟨bt30, 0, none⟩) 1 1) (.slice (some ⟨g2, 0, none⟩) (L.length + 1) c2) (Pz g 0) (Pz g 0)) Wq by
    have ST1 : ∀ (bt30 : Nat) (g2 : Nat) (c2 : Nat) (Wq : World) (gd_bt30 : W5.heap.size ≤ bt30) (ge_bt30 : w.heap.size ≤ bt30) (ne_b_bt30 : b ≠ bt30) (ne_bt30_b : bt30 ≠ b) (ne_b21_bt30 : b21 ≠ bt30) (ne_bt30_b21 : bt30 ≠ b21) (E : Below base w Wq) (kg : Wq.heap[g]? = some (.cells #[.slice (some ⟨b, 0, none⟩) L.length c] 105)) (k21 : Wq.heap[b21]? = some (.cells (EL e) 49)) (S : Kept (fun k => k = g ∨ k = b) W5 Wq) (kt30 : Wq.heap[bt30]? = some (.cells (EL e) 49)) (hO2 : Wq.ownsRow base 49 13 (.slice (some ⟨g2, 0, none⟩) (L.length + 1) c2) (L.length + 1) (cE (L ++ [e]))), wpAnyH Try.prog .any ops Q SS 1 #[true, true, true, true, true, true, true, true, true, true, true, false] (F (.slice (some ⟨b, 0, none⟩) L.length c) (.slice (some ⟨bt30, 0, none⟩) 1 1) (.slice (some ⟨g2, 0, none⟩) (L.length + 1) c2) (Pz g 0) (Pz g 0)) Wq := by
      intro bt30 g2 c2 Wq gd_bt30 ge_bt30 ne_b_bt30 ne_bt30_b ne_b21_bt30 ne_bt30_b21 E kg k21 S kt30 hO2
      dsimp only [F]
      refine ops_in hops hS ?_; refine ah_or1 (i := 11) (by kernel_rfl) ?_
      · skip
        obtain ⟨kn, K⟩ := put_cell (i := 0) (.slice (some ⟨g2, 0, none⟩) (L.length + 1) c2) kg; refine nx_sk rfl rfl rfl (ex_store rfl rfl rfl (sto33 (at_cell kg rfl) (unfrozen kg))) (S.putL K) ?_; obtain ⟨W10, hW2⟩ : ∃ W', Wq.setCell ⟨g, 0, none⟩ (.slice (some ⟨g2, 0, none⟩) (L.length + 1) c2) = W' := ⟨_, rfl⟩; rw [hW2] at kn K ⊢; replace E := E.trans (K.below (Nat.le_trans hb E.size) (fun k e => by subst e; exact gb_g)); replace k21 := keepK K k21 (fun e => ne_tag k21 kg (by decide) e); replace S := S.putL K; replace kt30 := keepK K kt30 (fun e => ne_tag kt30 kg (by decide) e)
        replace hO2 := own_keepK hO2 K (fun q hq e => own_ne hO2 kg (by decide) (by rw [hq, e])); replace kg := kn; clear kn K; refine ah_L (L' := #[true, true, true, true, true, true, true, true, true, true, true, true]) (by kernel_rfl) ?_; refine ops_out hops hS ?_; exact FIN bt30 g2 c2 W10 gd_bt30 ge_bt30 ne_b_bt30 ne_bt30_b ne_b21_bt30 ne_bt30_b21 E k21 S kt30 hO2 kg
    have ST2 : ∀ (bt30 : Nat) (Wq : World) (gd_bt30 : W5.heap.size ≤ bt30) (ge_bt30 : w.heap.size ≤ bt30) (ne_b_bt30 : b ≠ bt30) (ne_bt30_b : bt30 ≠ b) (ne_b21_bt30 : b21 ≠ bt30) (ne_bt30_b21 : bt30 ≠ b21) (E : Below base w Wq) (kg : Wq.heap[g]? = some (.cells #[.slice (some ⟨b, 0, none⟩) L.length c] 105)) (kb : Wq.heap[b]? = some (.cells curb 49)) (hO : Wq.ownsRow base 49 13 (.slice (some ⟨b, 0, none⟩) L.length c) L.length (cE L)) (k21 : Wq.heap[b21]? = some (.cells (EL e) 49)) (S : Kept (fun k => k = g ∨ k = b) W5 Wq) (kt30 : Wq.heap[bt30]? = some (.cells (EL e) 49)), wpAnyH Try.prog .any ops Q SS 4 #[true, true, true, true, true, true, true, true, false, false, false, false] (F (.slice (some ⟨b, 0, none⟩) L.length c) (.slice (some ⟨bt30, 0, none⟩) 1 1) undef undef undef) Wq := by
      intro bt30 Wq gd_bt30 ge_bt30 ne_b_bt30 ne_bt30_b ne_b21_bt30 ne_bt30_b21 E kg kb hO k21 S kt30
      dsimp only [F]
      refine ops_in hops hS ?_; refine ah_or1 (i := 8) (by kernel_rfl) ?_
      · skip
        refine nx_call (some 31) rfl rfl rfl (ins_end Wq hO rfl (by omega) kt30 (Nat.le_trans hb E.size)) (ex_call (f := 64) (vs := [(.slice (some ⟨b, 0, none⟩) L.length c), (.int .i64 (L.length : Nat)), (.slice (some ⟨bt30, 0, none⟩) 1 1)]) rfl (cf64 _) rfl) ?_; rintro e W11 ⟨g2, c2, rfl, hO2, hKs⟩; refine ⟨_, rfl, S.putR hKs, ?_⟩; simp only [zp]; replace E := E.trans (hKs.below (Nat.le_trans hb E.size) (fun k e => by subst e; exact gb_b)); replace kg := keepK hKs kg (fun e => ne_tag kg kb (by decide) e)
        replace k21 := keepK hKs k21 (fun e => by first | exact ne_b21_b e | exact ne_b_b21 e.symm); replace S := S.putR hKs; replace kt30 := keepK hKs kt30 (fun e => by first | exact ne_bt30_b e | exact ne_b_bt30 e.symm); refine tk (Pz g 0) 9 32 rfl rfl rfl (fun W hK => ex_nil (p := (Pz g 0)) rfl rfl rfl) S hQP ?_; refine tk (Pz g 0) 10 33 rfl rfl rfl (fun W hK => ex_fa (p := (Pz g 0)) rfl rfl (fa105_0 _ _)) S hQP ?_; refine ah_L (L' := #[true, true, true, true, true, true, true, true, true, true, true, false]) (by kernel_rfl) ?_; refine ops_out hops hS ?_
        exact ST1 bt30 g2 c2 W11 gd_bt30 ge_bt30 ne_b_bt30 ne_bt30_b ne_b21_bt30 ne_bt30_b21 E kg k21 S kt30 hO2
    have ST3 : ∀ (Wq : World) (E : Below base w Wq) (kg : Wq.heap[g]? = some (.cells #[.slice (some ⟨b, 0, none⟩) L.length c] 105)) (kb : Wq.heap[b]? = some (.cells curb 49)) (hO : Wq.ownsRow base 49 13 (.slice (some ⟨b, 0, none⟩) L.length c) L.length (cE L)) (k21 : Wq.heap[b21]? = some (.cells (EL e) 49)) (S : Kept (fun k => k = g ∨ k = b) W5 Wq), wpAnyH Try.prog .any ops Q SS 5 #[true, true, true, true, true, true, true, false, false, false, false, false] (F (.slice (some ⟨b, 0, none⟩) L.length c) undef undef undef undef) Wq := by
      intro Wq E kg kb hO k21 S
      dsimp only [F]
      refine ops_in hops hS ?_; refine ah_or1 (i := 7) (by kernel_rfl) ?_
      · skip
        refine nx_new (fun b => .slice (some ⟨b, 0, none⟩) 1 1) (some 30) rfl rfl rfl (ex_bsl1 (u := (.agg (EL e))) rfl rfl (bslE e _)) ?_; intro bt30 W12 kt30 gt30 B; refine ⟨S.next B, ?_⟩; simp only [zp]; have gd_bt30 := Nat.le_trans S.size gt30
        have ne_bt30_b : bt30 ≠ b := fun e => by have := lt_of kb; omega
        have ne_b_bt30 := ne_bt30_b.symm
        have ne_bt30_b21 : bt30 ≠ b21 := fun e => by have := lt_of k21; omega
        have ne_b21_bt30 := ne_bt30_b21.symm; have ge_bt30 := Nat.le_trans E.size gt30; replace E := E.trans ((B).mono (Nat.le_trans hb E.size)); replace kg := keep B kg; replace kb := keep B kb; replace hO := own_keep hO B; replace k21 := keep B k21; replace S := S.next B; clear B; refine ah_L (L' := #[true, true, true, true, true, true, true, true, false, false, false, false]) (by kernel_rfl) ?_; refine ops_out hops hS ?_; exact ST2 bt30 W12 gd_bt30 ge_bt30 ne_b_bt30 ne_bt30_b ne_b21_bt30 ne_bt30_b21 E kg kb hO k21 S kt30
    have ST4 : ∀ (bt30 : Nat) (Wq : World) (gd_bt30 : W5.heap.size ≤ bt30) (ge_bt30 : w.heap.size ≤ bt30) (ne_b_bt30 : b ≠ bt30) (ne_bt30_b : bt30 ≠ b) (ne_b21_bt30 : b21 ≠ bt30) (ne_bt30_b21 : bt30 ≠ b21) (E : Below base w Wq) (kg : Wq.heap[g]? = some (.cells #[.slice (some ⟨b, 0, none⟩) L.length c] 105)) (kb : Wq.heap[b]? = some (.cells curb 49)) (hO : Wq.ownsRow base 49 13 (.slice (some ⟨b, 0, none⟩) L.length c) L.length (cE L)) (k21 : Wq.heap[b21]? = some (.cells (EL e) 49)) (S : Kept (fun k => k = g ∨ k = b) W5 Wq) (kt30 : Wq.heap[bt30]? = some (.cells (EL e) 49)), wpAnyH Try.prog .any ops Q SS 5 #[true, true, true, true, false, true, true, true, false, false, false, false] (F undef (.slice (some ⟨bt30, 0, none⟩) 1 1) undef undef undef) Wq := by
      intro bt30 Wq gd_bt30 ge_bt30 ne_b_bt30 ne_bt30_b ne_b21_bt30 ne_bt30_b21 E kg kb hO k21 S kt30
      dsimp only [F]
      refine ops_in hops hS ?_; refine ah_or1 (i := 4) (by kernel_rfl) ?_
      · skip
        refine nx_to (v := (.slice (some ⟨b, 0, none⟩) L.length c)) (some 27) rfl rfl rfl (ex_load (p := (Pz g 0)) rfl rfl (ld33 (at_cell kg rfl))) S ?_; simp only [zp]; refine ah_L (L' := #[true, true, true, true, true, true, true, true, false, false, false, false]) (by kernel_rfl) ?_; refine ops_out hops hS ?_; exact ST2 bt30 Wq gd_bt30 ge_bt30 ne_b_bt30 ne_bt30_b ne_b21_bt30 ne_bt30_b21 E kg kb hO k21 S kt30
    refine ops_in hops hS ?_; refine ah_or2 (i := 4) (j := 7) (by kernel_rfl) ?_ ?_
    · skip
      refine nx_to (v := (.slice (some ⟨b, 0, none⟩) L.length c)) (some 27) rfl rfl rfl (ex_load (p := (Pz g 0)) rfl rfl (ld33 (at_cell kg rfl))) S ?_; simp only [zp]; refine ah_L (L' := #[true, true, true, true, true, true, true, false, false, false, false, false]) (by kernel_rfl) ?_; refine ops_out hops hS ?_; exact ST3 W5 E kg kb hO k21 S
    · skip
      refine nx_new (fun b => .slice (some ⟨b, 0, none⟩) 1 1) (some 30) rfl rfl rfl (ex_bsl1 (u := (.agg (EL e))) rfl rfl (bslE e _)) ?_; intro bt30 W13 kt30 gt30 B; refine ⟨S.next B, ?_⟩; simp only [zp]; have gd_bt30 := Nat.le_trans S.size gt30
      have ne_bt30_b : bt30 ≠ b := fun e => by have := lt_of kb; omega
      have ne_b_bt30 := ne_bt30_b.symm
      have ne_bt30_b21 : bt30 ≠ b21 := fun e => by have := lt_of k21; omega
      have ne_b21_bt30 := ne_bt30_b21.symm; have ge_bt30 := Nat.le_trans E.size gt30; replace E := E.trans ((B).mono (Nat.le_trans hb E.size)); replace kg := keep B kg; replace kb := keep B kb; replace hO := own_keep hO B; replace k21 := keep B k21; replace S := S.next B; clear B; refine ah_L (L' := #[true, true, true, true, false, true, true, true, false, false, false, false]) (by kernel_rfl) ?_; refine ops_out hops hS ?_; exact ST4 bt30 W13 gd_bt30 ge_bt30 ne_b_bt30 ne_bt30_b ne_b21_bt30 ne_bt30_b21 E kg kb hO k21 S kt30
  intro bt30 g2 c2 Wq gd_bt30 ge_bt30 ne_b_bt30 ne_bt30_b ne_b21_bt30 ne_bt30_b21 E k21 S kt30 hO2 kg
  dsimp only [F]
  try dsimp only
  refine ops_in hops hS ?_; refine ah_done (by kernel_rfl) ?_; clear hQP hops hS; subst hQ; clear S d_kg d_kb d_k21 d_hO; refine wq fun Q hQ => ?_; refine vg (.int .i64 0) 4 rfl rfl rfl rfl ?_; refine st_end ?_; subst hQ; refine wp_ret ?_
  repeat (first | refine ret_out ?_ | refine ret_blk ?_)
  exact bodyPost_ret (results_tmp Try.results21 _ _ _) rfl ⟨rfl, ⟨g2, c2, by rw [List.length_append]; exact kg, hgb, by rw [List.length_append]; exact hO2⟩, E⟩
set_option maxHeartbeats 4000000 in
theorem new_any (w : World) : Calls Try.prog 27 #[] w fun q w' => ∃ g, q = .returned (.pointer (some ⟨g, 0, none⟩)) ∧ Gr w' w.heap.size g [] ∧ Below w.heap.size w w' := by
  have E : Below w.heap.size w w := Below.refl _ _
  go_enter Try.func27, Try.ntmps27; refine wq fun Q hQ => ?_; refine vg (.pointer none) 0 rfl rfl rfl rfl ?_; refine st_end ?_; subst hQ; refine wq fun Q hQ => ?_; refine st_new (fun b => .slice (some ⟨b, 0, none⟩) 0 0) (some 1) rfl rfl (ex_bsl0  rfl (bsl0 _)) ?_; intro b21 W1 k21 g21 B; simp only [zp]; have ge_b21 := Nat.le_trans E.size g21; replace E := below_next E B; clear B; refine vv (.agg #[(.slice (some ⟨b21, 0, none⟩) 0 0)]) 2 rfl rfl (ex_build1 (v1 := (.slice (some ⟨b21, 0, none⟩) 0 0)) rfl rfl (bG _ _ _ _)) ?_
  refine st_new (fun b => .pointer (some ⟨b, 0, none⟩)) (some 3) rfl rfl (ex_box rfl rfl) ?_; intro b22 W2 k22 g22 B; simp only [zp]
  have ne_b22_b21 : b22 ≠ b21 := fun e => by have := lt_of k21; omega
  have ge_b22 := Nat.le_trans E.size g22; replace E := below_next E B; replace k21 := keep B k21; clear B; refine vg (Pz b22 0) 0 rfl rfl rfl rfl ?_; refine st_end ?_; subst hQ; refine wp_ret ?_; exact bodyPost_ret (results_tmp Try.results27 _ _ _) rfl ⟨b22, rfl, ⟨b21, 0, k22, ge_b22, ⟨rfl, .inr ⟨b21, 0, _, rfl, ge_b21, k21, by decide, by decide, rfl, rfl⟩⟩⟩, E⟩
end Go.Proofs.Ytgnkcmmpbohafaa

/- What must come of every program. -/
namespace Go.Proofs.Ytgnkcmmpbohafaa
open Go.RowKit
set_option linter.unusedVariables false
set_option linter.unusedSimpArgs false
set_option maxRecDepth 100000

def LR : RV := ⟨1, 1000, 5, 2, 500⟩
def LEd (ch fr to cap : Int) : EV := ⟨ch, fr, to, cap, LR, ⟨0, 0, 0, 0⟩⟩
theorem bFe (x y : Int) (W : World) : (Instr.build 43 #[(0, .int .i64 x), (1, .int .i64 y)]).run Try.prog W = .ok (.agg #[.int .i64 x, .int .i64 y]) W := run_build W 43 _ _ (by kernel_rfl)
theorem bRu (x y d g f : Int) (W : World) : (Instr.build 45 #[(0, .agg #[.int .i64 x, .int .i64 y]), (1, .int .i64 d), (2, .int .i64 g), (3, .int .i64 f)]).run Try.prog W = .ok (.agg #[.int .i64 x, .int .i64 y, .int .i64 d, .int .i64 g, .int .i64 f]) W := run_build W 45 _ _ (by kernel_rfl)
theorem bEd (ch fr to cap : Int) (W : World) : (Instr.build 49 #[(0, .int .i64 ch), (1, .int .i64 fr), (2, .int .i64 to), (3, .int .i64 cap), (4, .agg (RL LR))]).run Try.prog W = .ok (.agg (EL (LEd ch fr to cap))) W := run_build W 49 _ _ (by kernel_rfl)
theorem bWant (a b c d m : Int) (W : World) : (Instr.build 32 #[(0, .int .i64 a), (1, .int .i64 b), (2, .int .i64 c), (3, .int .i64 d), (6, .int .i64 m)]).run Try.prog W = .ok (.agg (WL_ ⟨a, b, c, d, m, 0, []⟩ none 0 0)) W := run_build W 32 _ _ (by kernel_rfl)
section
variable {o : Oper} {a : Act} {W : World}
theorem ex_boxp {T : Nat} {x : Operand} {p : Option Addr} (ho : o.op = .box 23 x) (hx : a.eval x = .pointer p) : (execOp a.eval o).run Try.prog W = .ok (.value (.pointer (some ⟨W.heap.size, 0, none⟩))) (W.alloc (.cells #[.pointer p] 23)) := by
  unfold execOp
  simp only [ho, hx]
  go_simp
theorem ex_fnil {x y : Operand} {t2 : Nat} {k : Nat} {cp : Array Value} (ho : o.op = .binOp .eql 62 x y t2) (hx : a.eval x = .func (.func k) #[] cp) (hy : a.eval y = .nilFunc) : (execOp a.eval o).run Try.prog W = .ok (.value (.bool false)) W := by
  have hq : (eqGuard .eql 62 x y (.func (.func k) #[] cp) .nilFunc).run Try.prog W = .ok () W := by rfl
  have h : ∀ d, (Op.equalIn (d + 1) 62 (.func (.func k) #[] cp) .nilFunc).run Try.prog W = .ok false W := fun d => by simp [Op.equalIn, run_underlying Try.underlying62]
  refine ex_bin ho hx hy hq ?_; simp only [binOp]
  simp [Op.equal, Op.maxDepth, h 9999]
end
theorem Gr.putT {W W' : World} {base g k T : Nat} {L : List EV} {C : Array Value} (h : Gr W base g L) (hK : Kept (· = k) W W') (hk : W.heap[k]? = some (.cells C T)) (hT : T ≠ 105 ∧ T ≠ 49) : Gr W' base g L := by
  obtain ⟨b, c, h1, h2, h3⟩ := h; exact ⟨b, c, keepK hK h1 (fun e => ne_tag h1 hk hT.1.symm e), h2, own_keepK h3 hK (fun q hq e => own_ne h3 hk hT.2.symm (by rw [hq, e]))⟩
theorem find_gr {base g nw cw : Nat} {ao : Option Addr} {L : List EV} {v : WV} (w : World) (hG : Gr w base g L) (hn2 : L.length ≤ 64) (hLb : ∀ e ∈ L, EB e) (hA : Is w ao v.av) (hnw : nw = v.av.length) (hnw2 : nw ≤ 140737488355328) (hm : v.am ≤ 9223372036854775807) (hmo : v.mo ≤ 9223372036854775807) (t1 : -9223372036854775808 ≤ v.ti) (t2 : v.ti ≤ 9223372036854775807) : Calls Try.prog 12 #[.pointer (some ⟨g, 0, none⟩), .agg (WL_ v ao nw cw)] w fun e w' => ∃ C, e = .returned (.tuple #[.agg C, .int .i64 (fndR L v).1]) ∧ Wyd w' w.heap.size C (fndR L v).2 ∧ Below w.heap.size w w' := by
  obtain ⟨b, c, kg, _, hO⟩ := hG; exact find_any w kg (own_Es hO) (Nat.le_refl _) rfl hn2 hLb hA hnw hnw2 hm hmo t1 t2
theorem len_gr {base g : Nat} {L : List EV} (w : World) (hG : Gr w base g L) : Calls Try.prog 24 #[.pointer (some ⟨g, 0, none⟩)] w fun e w' => e = .returned (.int .i64 (L.length : Nat)) ∧ Below w.heap.size w w' := by
  obtain ⟨b, c, kg, _, hO⟩ := hG; exact len_any w kg
def L1 : EV := LEd 1 0 1 5000
def L2 : EV := LEd 2 1 2 5000
theorem find1 : (fndR [L1, L2] ⟨0, 2, 1000, 20, 100, 0, []⟩).1 = 0 ∧ ((fndR [L1, L2] ⟨0, 2, 1000, 20, 100, 0, []⟩).2.map fun y => (y.es.length, y.am, y.xs, y.fee)) = some (2, [1002, 1000], [25, 20], 2) := by decide +kernel
theorem find2 : (fndR [L1, L2] ⟨0, 2, 1000, 20, 1, 0, []⟩).1 = 4 := by decide +kernel
theorem find2b : ((fndR [L1, L2] ⟨0, 2, 1000, 20, 1, 0, []⟩).2.map fun y => y.fee) = none := by decide +kernel
theorem EBl (a : EV) (h : a = L1 ∨ a = L2) : EB a := by
  rcases h with rfl | rfl
  · exact ⟨by decide +kernel, by decide, by decide, by decide, by decide, by decide, by decide⟩
  · exact ⟨by decide +kernel, by decide, by decide, by decide, by decide, by decide, by decide⟩
theorem find_1 {base g : Nat} (w : World) (hG : Gr w base g [L1, L2]) : Calls Try.prog 12 #[.pointer (some ⟨g, 0, none⟩), .agg (WL_ ⟨0, 2, 1000, 20, 100, 0, []⟩ none 0 0)] w fun e w' => ∃ g1 c1 bA bX co, e = .returned (.tuple #[.agg #[.slice (some ⟨g1, 0, none⟩) 2 c1, .slice (some ⟨bA, 0, none⟩) 2 2, .slice (some ⟨bX, 0, none⟩) 2 2, .int .i64 2, .float .f64 co], .int .i64 0]) ∧ w'.heap[bA]? = some (.cells #[.int .i64 1002, .int .i64 1000] 3) ∧ w'.heap[bX]? = some (.cells #[.int .i64 25, .int .i64 20] 3) ∧ Below w.heap.size w w' := by
  refine (find_gr (v := ⟨0, 2, 1000, 20, 100, 0, []⟩) w hG (by decide) (fun e he => EBl e (by simpa using he)) (.inl rfl) rfl (by decide) (by decide) (by decide) (by decide) (by decide)).mono fun e w' hh => ?_; obtain ⟨C, h1, h2, h3⟩ := hh; obtain ⟨f1, f2⟩ := find1; rw [f1] at h1
  cases hy : (fndR [L1, L2] ⟨0, 2, 1000, 20, 100, 0, []⟩).2 with
  | none => rw [hy] at f2; cases f2
  | some y =>
    rw [hy] at f2 h2
    have f3 : (y.es.length, y.am, y.xs, y.fee) = (2, [1002, 1000], [25, 20], 2) := Option.some.inj f2
    simp only [Prod.mk.injEq] at f3; obtain ⟨q1, q2, q3, q4⟩ := f3; obtain ⟨g1, c1, bA, bX, rfl, _, _, kA, kX, _⟩ := h2; rw [q1, q4] at h1; rw [q2] at kA; rw [q3] at kX; exact ⟨g1, c1, bA, bX, y.cost, h1, kA, kX, h3⟩
theorem find_2 {base g : Nat} (w : World) (hG : Gr w base g [L1, L2]) : Calls Try.prog 12 #[.pointer (some ⟨g, 0, none⟩), .agg (WL_ ⟨0, 2, 1000, 20, 1, 0, []⟩ none 0 0)] w fun e w' => e = .returned (.tuple #[.agg #[.slice none 0 0, .slice none 0 0, .slice none 0 0, .int .i64 0, .float .f64 0], .int .i64 4]) ∧ Below w.heap.size w w' := by
  refine (find_gr (v := ⟨0, 2, 1000, 20, 1, 0, []⟩) w hG (by decide) (fun e he => EBl e (by simpa using he)) (.inl rfl) rfl (by decide) (by decide) (by decide) (by decide) (by decide)).mono fun e w' hh => ?_; obtain ⟨C, h1, h2, h3⟩ := hh; rw [find2] at h1
  cases hy : (fndR [L1, L2] ⟨0, 2, 1000, 20, 1, 0, []⟩).2 with
  | some y => have := find2b; rw [hy] at this; cases this
  | none =>
    rw [hy] at h2
    have h2 : C = _ := h2
    subst h2; exact ⟨h1, h3⟩
set_option maxHeartbeats 4000000 in
theorem rules_any (w : World) : Calls Try.prog 71 #[] w fun e w' => e = .returned (.agg (RL LR)) ∧ Below w.heap.size w w' := by
  have E : Below w.heap.size w w := Below.refl _ _
  go_enter Try.func71, Try.ntmps71; refine wq fun Q hQ => ?_; refine st_new (fun b => .pointer (some ⟨b, 0, none⟩)) (some 0) rfl rfl (ex_alloc rfl zero45) ?_; intro b21 W1 k21 g21 B; simp only [zp]; have ge_b21 := Nat.le_trans E.size g21; replace E := below_next E B; clear B; refine st_end ?_; subst hQ; refine wq fun Q hQ => ?_; refine vv (.agg #[.int .i64 1, .int .i64 1000]) 1 rfl rfl (ex_build2 (v1 := (.int .i64 1)) (v2 := (.int .i64 1000)) rfl rfl rfl (bFe _ _ _)) ?_
  refine vv (.agg #[.int .i64 1, .int .i64 1000, .int .i64 5, .int .i64 2, .int .i64 500]) 2 rfl rfl (ex_build4 (v1 := (.agg #[.int .i64 1, .int .i64 1000])) (v2 := (.int .i64 5)) (v3 := (.int .i64 2)) (v4 := (.int .i64 500)) rfl rfl rfl rfl rfl (bRu _ _ _ _ _ _)) ?_; obtain ⟨W2, hst, kn, K⟩ := put_all (D := #[.int .i64 1, .int .i64 1000, .int .i64 5, .int .i64 2, .int .i64 500]) k21 rfl inf45 (by kernel_rfl); refine st_sk rfl rfl (ex_store rfl rfl rfl hst) ?_; replace E := below_put E ge_b21 K; replace k21 := kn; clear kn K hst; refine st_end ?_; subst hQ; refine wp_ret ?_
  refine bodyPost_ret (results_cell_row Try.results71 _ _ b21 _ _ _ _ rfl k21 Try.underlying45 rfl inf45) rfl ⟨rfl, E⟩
set_option maxHeartbeats 4000000 in
theorem edge_any (ch fr to cap : Int) (w : World) : Calls Try.prog 32 #[.int .i64 ch, .int .i64 fr, .int .i64 to, .int .i64 cap] w fun e w' => e = .returned (.agg (EL (LEd ch fr to cap))) ∧ Below w.heap.size w w' := by
  have E : Below w.heap.size w w := Below.refl _ _
  go_enter Try.func32, Try.ntmps32; refine wq fun Q hQ => ?_; refine st_new (fun b => .pointer (some ⟨b, 0, none⟩)) (some 8) rfl rfl (ex_alloc rfl zero49) ?_; intro b21 W1 k21 g21 B; simp only [zp]; have ge_b21 := Nat.le_trans E.size g21; replace E := below_next E B; clear B; refine st_end ?_; subst hQ; refine wq fun Q hQ => ?_; refine vm (.int .i64 ch) 9 rfl rfl rfl rfl ?_; refine vm (.int .i64 fr) 10 rfl rfl rfl rfl ?_; refine vm (.int .i64 to) 11 rfl rfl rfl rfl ?_; refine vm (.int .i64 cap) 12 rfl rfl rfl rfl ?_
  refine st_call (some 13) rfl rfl (rules_any W1) (ex_call (f := 71) (vs := []) rfl (cf71 _) rfl) ?_; rintro e W2 ⟨rfl, B⟩; refine ⟨_, rfl, ?_⟩; simp only [zp]; replace E := below_next E B; replace k21 := keep B k21; refine vv (.agg (EL (LEd ch fr to cap))) 14 rfl rfl (ex_build5 (v1 := (.int .i64 ch)) (v2 := (.int .i64 fr)) (v3 := (.int .i64 to)) (v4 := (.int .i64 cap)) (v5 := (.agg (RL LR))) rfl rfl rfl rfl rfl rfl (bEd ch fr to cap _)) ?_; obtain ⟨W3, hst, kn, K⟩ := put_all (D := (EL (LEd ch fr to cap))) k21 rfl inf49 (by kernel_rfl); refine st_sk rfl rfl (ex_store rfl rfl rfl hst) ?_
  replace E := below_put E ge_b21 K; replace k21 := kn; clear kn K hst; refine st_end ?_; subst hQ; refine wp_ret ?_; refine bodyPost_ret (results_cell_row Try.results32 _ _ b21 _ _ _ _ rfl k21 Try.underlying49 rfl inf49) rfl ⟨rfl, E⟩
set_option maxHeartbeats 4000000 in
theorem from_seq {p : Option Addr} {x : Int} (w : World) : Calls Try.prog 19 #[.pointer p, .int .i64 x] w fun e w' => ∃ c1 c2, e = .returned (.func (.func 59) #[] #[.pointer (some ⟨c1, 0, none⟩), .pointer (some ⟨c2, 0, none⟩)]) ∧ w.heap.size ≤ c1 ∧ w.heap.size ≤ c2 ∧ w'.heap[c1]? = some (.cells #[.pointer p] 23) ∧ w'.heap[c2]? = some (.cells #[.int .i64 x] 3) ∧ Below w.heap.size w w' := by
  have E : Below w.heap.size w w := Below.refl _ _
  go_enter Try.func19, Try.ntmps19; refine wq fun Q hQ => ?_; refine st_new (fun b => .pointer (some ⟨b, 0, none⟩)) (some 2) rfl rfl (ex_boxp (T := 0) rfl rfl) ?_; intro b21 W1 k21 g21 B; simp only [zp]; have ge_b21 := Nat.le_trans E.size g21; replace E := below_next E B; clear B; refine st_new (fun b => .pointer (some ⟨b, 0, none⟩)) (some 3) rfl rfl (ex_box3 rfl rfl) ?_; intro b22 W2 k22 g22 B; simp only [zp]
  have ne_b22_b21 : b22 ≠ b21 := fun e => by have := lt_of k21; omega
  have ge_b22 := Nat.le_trans E.size g22; replace E := below_next E B; replace k21 := keep B k21; clear B; refine vg .nilFunc 4 rfl rfl rfl rfl ?_; refine st_end ?_; subst hQ; refine wq fun Q hQ => ?_; refine vv (.func (.func 59) #[] #[(Pz b21 0), (Pz b22 0)]) 5 rfl rfl (ex_mkf rfl rfl) ?_; refine vg (.func (.func 59) #[] #[(Pz b21 0), (Pz b22 0)]) 4 rfl rfl rfl rfl ?_; refine st_end ?_; subst hQ; refine wp_ret ?_; exact bodyPost_ret (results_tmp Try.results19 _ _ _) rfl ⟨b21, b22, rfl, ge_b21, ge_b22, k21, k22, E⟩
theorem srt0 : srt [] := fun i j a b _ h => by simp at h
theorem lt12 : ∀ d ∈ [L1], ltE d L2 := fun d hd => by
  have : d = L1 := by simpa using hd
  subst this; exact .inl (by decide)
theorem srt1 : srt [L1] := fun i j a b hij h1 h2 => by
  cases j with
  | zero => omega
  | succ j => simp at h2
set_option maxHeartbeats 16000000 in
theorem lives_any (w : World) : Calls Try.prog 10 #[] w fun e w' => e = .returned (.bool true) ∧ Below w.heap.size w w' := by
  have E : Below w.heap.size w w := Below.refl _ _
  go_enter Try.func10, Try.ntmps10; refine wq fun Q hQ => ?_; refine vg (.bool false) 0 rfl rfl rfl rfl ?_; refine st_end ?_; subst hQ; refine wq fun Q hQ => ?_; refine st_call (some 6) rfl rfl (new_any w) (ex_call (f := 27) (vs := []) rfl (cf27 _) rfl) ?_; rintro e W1 ⟨g, rfl, hG, B⟩; refine ⟨_, rfl, ?_⟩; simp only [zp]; replace E := below_next E B; refine vg (Pz g 0) 1 rfl rfl rfl rfl ?_; refine st_end ?_; subst hQ; refine wp_seq ?_; refine wq fun Q hQ => ?_; refine vm (Pz g 0) 7 rfl rfl rfl rfl ?_; refine vv (.bool false) 8 rfl rfl (ex_pnil (t := 0) rfl rfl rfl rfl) ?_
  refine vm (.bool false) 9 rfl rfl rfl rfl ?_; refine vm (Pz g 0) 10 rfl rfl rfl rfl ?_; refine st_call (some 11) rfl rfl (edge_any 1 0 1 5000 W1) (ex_call (f := 32) (vs := [(.int .i64 1), (.int .i64 0), (.int .i64 1), (.int .i64 5000)]) rfl (cf32 _) rfl) ?_; rintro e W2 ⟨rfl, B⟩; refine ⟨_, rfl, ?_⟩; simp only [zp]; replace E := below_next E B; replace hG := hG.keep B; refine st_call (some 12) rfl rfl (set_end (e := L1) W2 hG E.size srt0 (fun d hd => by simp at hd) (by decide) (EBl L1 (.inl rfl))) (ex_call (f := 21) (vs := [(Pz g 0), (.agg (EL L1))]) rfl (cf21 _) rfl) ?_
  rintro e W3 ⟨rfl, hG2, B2⟩; replace E := E.trans B2; replace hG := hG2; clear hG2 B2; refine ⟨_, rfl, ?_⟩; simp only [zp]; refine vv (.bool false) 13 rfl rfl (ex_bin (u := (.int .i64 0)) (r := (.int .i64 0)) rfl rfl rfl (eg37 _ _ _ _ _ _) (neq37 _ (by decide))) ?_; refine vv (.bool false) 14 rfl rfl (ex_pkF rfl rfl rfl) ?_; refine vm (.bool false) 15 rfl rfl rfl rfl ?_; refine vm (Pz g 0) 16 rfl rfl rfl rfl ?_; refine st_call (some 17) rfl rfl (edge_any 2 1 2 5000 W3) (ex_call (f := 32) (vs := [(.int .i64 2), (.int .i64 1), (.int .i64 2), (.int .i64 5000)]) rfl (cf32 _) rfl) ?_
  rintro e W4 ⟨rfl, B⟩; refine ⟨_, rfl, ?_⟩; simp only [zp]; replace E := below_next E B; replace hG := hG.keep B; refine st_call (some 18) rfl rfl (set_end (e := L2) W4 hG E.size srt1 lt12 (by decide) (EBl L2 (.inr rfl))) (ex_call (f := 21) (vs := [(Pz g 0), (.agg (EL L2))]) rfl (cf21 _) rfl) ?_; rintro e W5 ⟨rfl, hG2, B2⟩; replace E := E.trans B2; replace hG := hG2; clear hG2 B2; refine ⟨_, rfl, ?_⟩; simp only [zp]; refine vv (.bool false) 19 rfl rfl (ex_bin (u := (.int .i64 0)) (r := (.int .i64 0)) rfl rfl rfl (eg37 _ _ _ _ _ _) (neq37 _ (by decide))) ?_
  refine vv (.bool false) 20 rfl rfl (ex_pkF rfl rfl rfl) ?_; refine vm (.bool false) 21 rfl rfl rfl rfl ?_; refine vm (Pz g 0) 22 rfl rfl rfl rfl ?_; refine st_call (some 23) rfl rfl (from_seq W5) (ex_call (f := 19) (vs := [(Pz g 0), (.int .i64 0)]) rfl (cf19 _) rfl) ?_; rintro e W6 ⟨c1, c2, rfl, _, _, _, _, B⟩; refine ⟨_, rfl, ?_⟩; simp only [zp]; replace E := below_next E B; replace hG := hG.keep B; refine vv (.bool false) 24 rfl rfl (ex_fnil rfl rfl rfl) ?_; refine vv (.bool false) 25 rfl rfl (ex_pkF rfl rfl rfl) ?_; refine st_end ?_; subst hQ; refine wp_cond_false rfl ?_
  refine wp_skip ?_; refine wq fun Q hQ => ?_; refine vm (Pz g 0) 27 rfl rfl rfl rfl ?_; refine vv (.agg (WL_ ⟨0, 2, 1000, 20, 100, 0, []⟩ none 0 0)) 28 rfl rfl (ex_build5 (v1 := (.int .i64 0)) (v2 := (.int .i64 2)) (v3 := (.int .i64 1000)) (v4 := (.int .i64 20)) (v5 := (.int .i64 100)) rfl rfl rfl rfl rfl rfl (bWant 0 2 1000 20 100 _)) ?_; refine st_call (some 29) rfl rfl (find_1 W6 hG) (ex_call (f := 12) (vs := [(Pz g 0), (.agg (WL_ ⟨0, 2, 1000, 20, 100, 0, []⟩ none 0 0))]) rfl (cf12 _) rfl) ?_; rintro e W7 ⟨g1, cc1, bA, bX, co, rfl, kA, kX, B⟩; refine ⟨_, rfl, ?_⟩; simp only [zp]
  replace E := below_next E B; replace hG := hG.keep B; refine vm (.tuple #[(.agg #[.slice (some ⟨g1, 0, none⟩) 2 cc1, .slice (some ⟨bA, 0, none⟩) 2 2, .slice (some ⟨bX, 0, none⟩) 2 2, .int .i64 2, .float .f64 co]), (.int .i64 0)]) 26 rfl rfl rfl rfl ?_; refine vv (.agg #[.slice (some ⟨g1, 0, none⟩) 2 cc1, .slice (some ⟨bA, 0, none⟩) 2 2, .slice (some ⟨bX, 0, none⟩) 2 2, .int .i64 2, .float .f64 co]) 30 rfl rfl (ex_ext rfl rfl rfl) ?_; refine vv (.int .i64 0) 31 rfl rfl (ex_ext rfl rfl rfl) ?_; refine st_new (fun b => .pointer (some ⟨b, 0, none⟩)) (some 2) rfl rfl (ex_alloc rfl zero36) ?_
  intro b21 W8 k21 g21 B; simp only [zp]
  have ne_b21_bA : b21 ≠ bA := fun e => by have := lt_of kA; omega
  have ne_b21_bX : b21 ≠ bX := fun e => by have := lt_of kX; omega
  have ge_b21 := Nat.le_trans E.size g21; replace E := below_next E B; replace hG := hG.keep B; replace kA := keep B kA; replace kX := keep B kX; clear B; obtain ⟨W9, hst, kn, K⟩ := put_all (D := #[.slice (some ⟨g1, 0, none⟩) 2 cc1, .slice (some ⟨bA, 0, none⟩) 2 2, .slice (some ⟨bX, 0, none⟩) 2 2, .int .i64 2, .float .f64 co]) k21 rfl inf36 one5; refine st_sk rfl rfl (ex_store rfl rfl rfl hst) ?_; replace E := below_put E ge_b21 K; replace hG := hG.putT K k21 (by decide); replace kA := keepK K kA (fun e => ne_tag kA k21 (by decide) e)
  replace kX := keepK K kX (fun e => ne_tag kX k21 (by decide) e); replace k21 := kn; clear kn K hst; refine vg (.int .i64 0) 3 rfl rfl rfl rfl ?_; refine st_end ?_; subst hQ; refine wq fun Q hQ => ?_; refine vm (Pz g 0) 33 rfl rfl rfl rfl ?_; refine vv (.agg (WL_ ⟨0, 2, 1000, 20, 1, 0, []⟩ none 0 0)) 34 rfl rfl (ex_build5 (v1 := (.int .i64 0)) (v2 := (.int .i64 2)) (v3 := (.int .i64 1000)) (v4 := (.int .i64 20)) (v5 := (.int .i64 1)) rfl rfl rfl rfl rfl rfl (bWant 0 2 1000 20 1 _)) ?_
  refine st_call (some 35) rfl rfl (find_2 W9 hG) (ex_call (f := 12) (vs := [(Pz g 0), (.agg (WL_ ⟨0, 2, 1000, 20, 1, 0, []⟩ none 0 0))]) rfl (cf12 _) rfl) ?_; rintro e W10 ⟨rfl, B⟩; refine ⟨_, rfl, ?_⟩; simp only [zp]; replace E := below_next E B; replace hG := hG.keep B; replace kA := keep B kA; replace kX := keep B kX; replace k21 := keep B k21; refine vm (.tuple #[(.agg #[.slice none 0 0, .slice none 0 0, .slice none 0 0, .int .i64 0, .float .f64 0]), (.int .i64 4)]) 32 rfl rfl rfl rfl ?_
  refine vv (.agg #[.slice none 0 0, .slice none 0 0, .slice none 0 0, .int .i64 0, .float .f64 0]) 36 rfl rfl (ex_ext rfl rfl rfl) ?_; refine vv (.int .i64 4) 37 rfl rfl (ex_ext rfl rfl rfl) ?_; refine st_new (fun b => .pointer (some ⟨b, 0, none⟩)) (some 4) rfl rfl (ex_alloc rfl zero36) ?_; intro b22 W11 k22 g22 B; simp only [zp]
  have ne_b22_bA : b22 ≠ bA := fun e => by have := lt_of kA; omega
  have ne_b22_bX : b22 ≠ bX := fun e => by have := lt_of kX; omega
  have ne_b22_b21 : b22 ≠ b21 := fun e => by have := lt_of k21; omega
  have ge_b22 := Nat.le_trans E.size g22; replace E := below_next E B; replace hG := hG.keep B; replace kA := keep B kA; replace kX := keep B kX; replace k21 := keep B k21; clear B; obtain ⟨W12, hst, kn, K⟩ := put_all (D := #[.slice none 0 0, .slice none 0 0, .slice none 0 0, .int .i64 0, .float .f64 0]) k22 rfl inf36 (by kernel_rfl); refine st_sk rfl rfl (ex_store rfl rfl rfl hst) ?_; replace E := below_put E ge_b22 K; replace hG := hG.putT K k22 (by decide); replace kA := keepK K kA (fun e => ne_tag kA k22 (by decide) e); replace kX := keepK K kX (fun e => ne_tag kX k22 (by decide) e)
  replace k21 := keepK K k21 (fun e => by first | exact ne_b21_b22 e | exact ne_b22_b21 e.symm); replace k22 := kn; clear kn K hst; refine vg (.int .i64 4) 5 rfl rfl rfl rfl ?_; refine st_end ?_; subst hQ; refine wq fun Q hQ => ?_; refine vm (.int .i64 0) 38 rfl rfl rfl rfl ?_; refine vv (.bool true) 39 rfl rfl (ex_bin (u := (.int .i64 0)) (r := (.int .i64 0)) rfl rfl rfl (eg37 _ _ _ _ _ _) (eql37 _ (by decide))) ?_; refine vm (.bool true) 40 rfl rfl rfl rfl ?_; refine vm (.int .i64 4) 41 rfl rfl rfl rfl ?_
  refine vv (.bool true) 42 rfl rfl (ex_bin (u := (.int .i64 4)) (r := (.int .i64 4)) rfl rfl rfl (eg37 _ _ _ _ _ _) (eql37 _ (by decide))) ?_; refine vv (.bool true) 43 rfl rfl (ex_pkT rfl rfl rfl) ?_; refine vm (.bool true) 44 rfl rfl rfl rfl ?_; refine vv (Pz b21 0) 45 rfl rfl (ex_fa (p := (Pz b21 0)) rfl rfl (fa36_0 _ _)) ?_; refine vv (.slice (some ⟨g1, 0, none⟩) 2 cc1) 46 rfl rfl (ex_load (p := (Pz b21 0)) rfl rfl (ld33 (at_cell k21 rfl))) ?_; refine vv (.int .i64 (2 : Nat)) 47 rfl rfl (ex_len rfl rfl (len33 _ _ _ _ _)) ?_
  refine vv (.bool true) 48 rfl rfl (ex_bin (u := (.int .i64 (2 : Nat))) (r := (.int .i64 2)) rfl rfl rfl (eg3 _ _ _ _ _ _) (eql3 _ (by decide))) ?_; refine vv (.bool true) 49 rfl rfl (ex_pkT rfl rfl rfl) ?_; refine vm (.bool true) 50 rfl rfl rfl rfl ?_; refine vv (Pz b21 1) 51 rfl rfl (ex_fa (p := (Pz b21 0)) rfl rfl (fa36_1 _ _)) ?_; refine vv (.slice (some ⟨bA, 0, none⟩) 2 2) 52 rfl rfl (ex_load (p := (Pz b21 1)) rfl rfl (ld30 (at_cell k21 rfl))) ?_; refine vv (.int .i64 (2 : Nat)) 53 rfl rfl (ex_len rfl rfl (len30 _ _ _ _ _)) ?_
  refine vv (.bool true) 54 rfl rfl (ex_bin (u := (.int .i64 (2 : Nat))) (r := (.int .i64 2)) rfl rfl rfl (eg3 _ _ _ _ _ _) (eql3 _ (by decide))) ?_; refine vv (.bool true) 55 rfl rfl (ex_pkT rfl rfl rfl) ?_; refine vm (.bool true) 56 rfl rfl rfl rfl ?_; refine vv (Pz b21 2) 57 rfl rfl (ex_fa (p := (Pz b21 0)) rfl rfl (fa36_2 _ _)) ?_; refine vv (.slice (some ⟨bX, 0, none⟩) 2 2) 58 rfl rfl (ex_load (p := (Pz b21 2)) rfl rfl (ld30 (at_cell k21 rfl))) ?_; refine vv (.int .i64 (2 : Nat)) 59 rfl rfl (ex_len rfl rfl (len30 _ _ _ _ _)) ?_
  refine vv (.bool true) 60 rfl rfl (ex_bin (u := (.int .i64 (2 : Nat))) (r := (.int .i64 2)) rfl rfl rfl (eg3 _ _ _ _ _ _) (eql3 _ (by decide))) ?_; refine vv (.bool true) 61 rfl rfl (ex_pkT rfl rfl rfl) ?_; refine vm (.bool true) 62 rfl rfl rfl rfl ?_; refine vv (Pz b21 1) 63 rfl rfl (ex_fa (p := (Pz b21 0)) rfl rfl (fa36_1 _ _)) ?_; refine vv (.slice (some ⟨bA, 0, none⟩) 2 2) 64 rfl rfl (ex_load (p := (Pz b21 1)) rfl rfl (ld30 (at_cell k21 rfl))) ?_; refine vv (Pz bA 0) 65 rfl rfl (ixI0 (k := 0) rfl rfl rfl rfl (by decide)) ?_
  refine vv (.int .i64 1002) 66 rfl rfl (ex_load (p := (Pz bA 0)) rfl rfl (ld3 (at_cell kA rfl))) ?_; refine vv (.bool true) 67 rfl rfl (ex_bin (u := (.int .i64 1002)) (r := (.int .i64 1002)) rfl rfl rfl (eg3 _ _ _ _ _ _) (eql3 _ (by decide))) ?_; refine vv (.bool true) 68 rfl rfl (ex_pkT rfl rfl rfl) ?_; refine vm (.bool true) 69 rfl rfl rfl rfl ?_; refine vv (Pz b21 2) 70 rfl rfl (ex_fa (p := (Pz b21 0)) rfl rfl (fa36_2 _ _)) ?_; refine vv (.slice (some ⟨bX, 0, none⟩) 2 2) 71 rfl rfl (ex_load (p := (Pz b21 2)) rfl rfl (ld30 (at_cell k21 rfl))) ?_
  refine vv (Pz bX 0) 72 rfl rfl (ixI0 (k := 0) rfl rfl rfl rfl (by decide)) ?_; refine vv (.int .i64 25) 73 rfl rfl (ex_load (p := (Pz bX 0)) rfl rfl (ld3 (at_cell kX rfl))) ?_; refine vv (.bool true) 74 rfl rfl (ex_bin (u := (.int .i64 25)) (r := (.int .i64 25)) rfl rfl rfl (eg3 _ _ _ _ _ _) (eql3 _ (by decide))) ?_; refine vv (.bool true) 75 rfl rfl (ex_pkT rfl rfl rfl) ?_; refine vm (.bool true) 76 rfl rfl rfl rfl ?_; refine vv (Pz b21 3) 77 rfl rfl (ex_fa (p := (Pz b21 0)) rfl rfl (fa36_3 _ _)) ?_
  refine vv (.int .i64 2) 78 rfl rfl (ex_load (p := (Pz b21 3)) rfl rfl (ld3 (at_cell k21 rfl))) ?_; refine vv (.bool true) 79 rfl rfl (ex_bin (u := (.int .i64 2)) (r := (.int .i64 2)) rfl rfl rfl (eg3 _ _ _ _ _ _) (eql3 _ (by decide))) ?_; refine vv (.bool true) 80 rfl rfl (ex_pkT rfl rfl rfl) ?_; refine vm (.bool true) 81 rfl rfl rfl rfl ?_; refine vm (Pz g 0) 82 rfl rfl rfl rfl ?_; refine st_call (some 83) rfl rfl (len_gr W12 hG) (ex_call (f := 24) (vs := [(Pz g 0)]) rfl (cf24 _) rfl) ?_; rintro e W13 ⟨rfl, B⟩; refine ⟨_, rfl, ?_⟩; simp only [zp]; replace E := below_next E B
  replace hG := hG.keep B; replace kA := keep B kA; replace kX := keep B kX; replace k21 := keep B k21; replace k22 := keep B k22; refine vv (.bool true) 84 rfl rfl (ex_bin (u := (.int .i64 ([L1, L2].length : Nat))) (r := (.int .i64 2)) rfl rfl rfl (eg3 _ _ _ _ _ _) (eql3 _ (by decide))) ?_; refine vv (.bool true) 85 rfl rfl (ex_pkT rfl rfl rfl) ?_; refine vg (.bool true) 0 rfl rfl rfl rfl ?_; refine st_end ?_; subst hQ; refine wp_ret ?_
  repeat (first | refine ret_out ?_ | refine ret_blk ?_)
  exact bodyPost_ret (results_tmp Try.results10 _ _ _) rfl ⟨rfl, E⟩
end Go.Proofs.Ytgnkcmmpbohafaa

/- A nil graph. -/
namespace Go.Proofs.Ytgnkcmmpbohafaa
open Go.RowKit
set_option linter.unusedVariables false
set_option linter.unusedSimpArgs false
set_option maxRecDepth 100000

theorem bEd0 (W : World) : (Instr.build 49 #[]).run Try.prog W = .ok (.agg #[.int .i64 0, .int .i64 0, .int .i64 0, .int .i64 0, .int .i64 0, .int .i64 0, .int .i64 0, .int .i64 0, .int .i64 0, .int .i64 0, .int .i64 0, .int .i64 0, .int .i64 0]) W := run_build W 49 _ _ (by kernel_rfl)
end Go.Proofs.Ytgnkcmmpbohafaa

/- A range over a function that goes over nothing; a nil graph: the walk. -/
namespace Go.Proofs.Ytgnkcmmpbohafaa
open Go.RowKit
set_option linter.unusedVariables false
set_option linter.unusedSimpArgs false
set_option maxRecDepth 100000

/-- a call, as numbers; as cells -/
structure OV where
  kd : Int
  e : EV
  n : Int
  ti : Int
  gd : Bool
def OL (p : OV) : Array Value := #[.int .i64 p.kd, .int .i64 p.e.ch, .int .i64 p.e.fr, .int .i64 p.e.to, .int .i64 p.e.cap, .int .i64 p.e.q.b, .int .i64 p.e.q.r, .int .i64 p.e.q.d, .int .i64 p.e.q.g, .int .i64 p.e.q.f, .int .i64 p.e.p.good, .int .i64 p.e.p.gat, .int .i64 p.e.p.bad, .int .i64 p.e.p.bat, .int .i64 p.n, .int .i64 p.ti, .bool p.gd]
theorem ldOE {W : World} {bl : Nat} {p : OV} (k : W.heap[bl]? = some (.cells (OL p) 60)) : (Instr.loadAt 49 (.pointer (some ⟨bl, 1, none⟩))).run Try.prog W = .ok (.agg (EL p.e)) W := ld_part (o := 1) (n := 13) k (by show 1 + 13 ≤ _; simp [OL]) Try.underlying49 rfl inf49
section
variable {o : Oper} {a : Act} {W : World}
end
end Go.Proofs.Ytgnkcmmpbohafaa

/- Edges, what is wanted and calls that came in, as cells. -/
namespace Go.Proofs.Ytgnkcmmpbohafaa
open Go.RowKit Go.ChangeShapes Go.WideShapes Go.ChangeAt
set_option linter.unusedVariables false
set_option linter.unusedSimpArgs false
set_option maxRecDepth 100000
theorem cellsOf3 : Try.prog.cellsOf 3 = 1 := by kernel_rfl
theorem cellsOf4 : Try.prog.cellsOf 4 = 1 := by kernel_rfl
theorem cellsOf43 : Try.prog.cellsOf 43 = 2 := by kernel_rfl
theorem cellsOf45 : Try.prog.cellsOf 45 = 5 := by kernel_rfl
theorem cellsOf47 : Try.prog.cellsOf 47 = 4 := by kernel_rfl
theorem cellsOf49 : Try.prog.cellsOf 49 = 13 := by kernel_rfl
theorem cellsOf60 : Try.prog.cellsOf 60 = 17 := by kernel_rfl
theorem bounds_i64 {z : Int} (h : (Lit.int .i64 z).wf = true) : -9223372036854775808 ≤ z ∧ z ≤ 9223372036854775807 := by
  simp [Lit.wf, IntKind.min, IntKind.max, IntKind.bits, IntKind.signed] at h
  omega
section
variable {H : Type} {enc : TypeId × Value → H} {w : World} {fuel : Nat} {cs : List Value} {x : DataW H × List MemPlace}
theorem open_num (h : DataW.trod enc Try.prog w 0 (fun _ => true) true fuel 3 cs = some x) : ∃ n, cs = [.int .i64 n] ∧ -9223372036854775808 ≤ n ∧ n ≤ 9223372036854775807 := by
  obtain ⟨n, h1, _, h2⟩ := DataW.trod_int Try.underlying3 h; exact ⟨n, h1, bounds_i64 h2⟩
theorem open_bl (h : DataW.trod enc Try.prog w 0 (fun _ => true) true fuel 4 cs = some x) : ∃ b, cs = [.bool b] := by
  cases fuel with
  | zero => simp [DataW.trod] at h
  | succ n =>
    simp only [DataW.trod, Try.underlying4] at h
    split at h <;> simp_all
theorem cut_at (cs : List Value) (o n : Nat) (A : List Value) (h : (cs.drop o).take n = A) : cs.drop o = A ++ cs.drop (o + n) := by
  rw [← h, ← List.drop_drop, List.take_append_drop]
theorem open_fee (h : DataW.trod enc Try.prog w 0 (fun _ => true) true fuel 43 cs = some x) : ∃ a b : Int, cs = [.int .i64 a, .int .i64 b] ∧ (-9223372036854775808 ≤ a ∧ a ≤ 9223372036854775807) ∧ (-9223372036854775808 ≤ b ∧ b ≤ 9223372036854775807) := by
  obtain ⟨xs, m, _, rfl, hlen, hxl, hall⟩ := DataW.trod_struct Try.underlying43 h; rw [cellsOf43] at hlen
  have hxl' : xs.length = 2 := hxl
  have at_ : ∀ i, i < 2 → xs[i]? = some (xs.getD i (.nil, [])) := fun i hi => by rw [List.getD_eq_getElem?_getD, List.getElem?_eq_getElem (by omega)]; rfl
  obtain ⟨a, e0, r0⟩ := open_num ((hall 0 _ rfl).trans (at_ 0 (by omega))); obtain ⟨b, e1, r1⟩ := open_num ((hall 1 _ rfl).trans (at_ 1 (by omega))); replace e0 := (show (cs.drop 0).take (Try.prog.cellsOf 3) = _ from e0); rw [cellsOf3] at e0; replace e1 := (show (cs.drop 1).take (Try.prog.cellsOf 3) = _ from e1); rw [cellsOf3] at e1; have d0 := cut_at cs 0 1 _ e0; rw [cut_at cs 1 1 _ e1, (show cs.drop (1 + 1) = [] from List.drop_eq_nil_of_le (by omega)), List.drop_zero] at d0; exact ⟨a, b, d0, r0, r1⟩
/-- rules, a past, an edge, what is wanted: in the machine's range -/
def Iw (z : Int) : Prop := -9223372036854775808 ≤ z ∧ z ≤ 9223372036854775807
theorem open_rules (h : DataW.trod enc Try.prog w 0 (fun _ => true) true fuel 45 cs = some x) : ∃ q : RV, cs = (RL q).toList ∧ Iw q.b ∧ Iw q.r ∧ Iw q.d ∧ Iw q.g ∧ Iw q.f := by
  obtain ⟨xs, m, _, rfl, hlen, hxl, hall⟩ := DataW.trod_struct Try.underlying45 h; rw [cellsOf45] at hlen
  have hxl' : xs.length = 4 := hxl
  have at_ : ∀ i, i < 4 → xs[i]? = some (xs.getD i (.nil, [])) := fun i hi => by rw [List.getD_eq_getElem?_getD, List.getElem?_eq_getElem (by omega)]; rfl
  obtain ⟨b, r, e0, r0⟩ := open_fee ((hall 0 _ rfl).trans (at_ 0 (by omega))); obtain ⟨d, e1, r1⟩ := open_num ((hall 1 _ rfl).trans (at_ 1 (by omega))); obtain ⟨g, e2, r2⟩ := open_num ((hall 2 _ rfl).trans (at_ 2 (by omega))); obtain ⟨f, e3, r3⟩ := open_num ((hall 3 _ rfl).trans (at_ 3 (by omega))); replace e0 := (show (cs.drop 0).take (Try.prog.cellsOf 43) = _ from e0); rw [cellsOf43] at e0; replace e1 := (show (cs.drop 2).take (Try.prog.cellsOf 3) = _ from e1); rw [cellsOf3] at e1; replace e2 := (show (cs.drop 3).take (Try.prog.cellsOf 3) = _ from e2); rw [cellsOf3] at e2
  replace e3 := (show (cs.drop 4).take (Try.prog.cellsOf 3) = _ from e3); rw [cellsOf3] at e3; have d0 := cut_at cs 0 2 _ e0; rw [cut_at cs 2 1 _ e1, cut_at cs 3 1 _ e2, cut_at cs 4 1 _ e3, (show cs.drop (4 + 1) = [] from List.drop_eq_nil_of_le (by omega)), List.drop_zero] at d0; exact ⟨⟨b, r, d, g, f⟩, d0, r0.1, r0.2, r1, r2, r3⟩
theorem open_past (h : DataW.trod enc Try.prog w 0 (fun _ => true) true fuel 47 cs = some x) : ∃ p : PV, cs = (PL p).toList ∧ Iw p.good ∧ Iw p.gat ∧ Iw p.bad ∧ Iw p.bat := by
  obtain ⟨xs, m, _, rfl, hlen, hxl, hall⟩ := DataW.trod_struct Try.underlying47 h; rw [cellsOf47] at hlen
  have hxl' : xs.length = 4 := hxl
  have at_ : ∀ i, i < 4 → xs[i]? = some (xs.getD i (.nil, [])) := fun i hi => by rw [List.getD_eq_getElem?_getD, List.getElem?_eq_getElem (by omega)]; rfl
  obtain ⟨a, e0, r0⟩ := open_num ((hall 0 _ rfl).trans (at_ 0 (by omega))); obtain ⟨b, e1, r1⟩ := open_num ((hall 1 _ rfl).trans (at_ 1 (by omega))); obtain ⟨c, e2, r2⟩ := open_num ((hall 2 _ rfl).trans (at_ 2 (by omega))); obtain ⟨d, e3, r3⟩ := open_num ((hall 3 _ rfl).trans (at_ 3 (by omega))); replace e0 := (show (cs.drop 0).take (Try.prog.cellsOf 3) = _ from e0); rw [cellsOf3] at e0; replace e1 := (show (cs.drop 1).take (Try.prog.cellsOf 3) = _ from e1); rw [cellsOf3] at e1; replace e2 := (show (cs.drop 2).take (Try.prog.cellsOf 3) = _ from e2); rw [cellsOf3] at e2
  replace e3 := (show (cs.drop 3).take (Try.prog.cellsOf 3) = _ from e3); rw [cellsOf3] at e3; have d0 := cut_at cs 0 1 _ e0; rw [cut_at cs 1 1 _ e1, cut_at cs 2 1 _ e2, cut_at cs 3 1 _ e3, (show cs.drop (3 + 1) = [] from List.drop_eq_nil_of_le (by omega)), List.drop_zero] at d0; exact ⟨⟨a, b, c, d⟩, d0, r0, r1, r2, r3⟩
theorem open_edge (h : DataW.trod enc Try.prog w 0 (fun _ => true) true fuel 49 cs = some x) : ∃ e : EV, cs = (EL e).toList ∧ Iw e.ch ∧ Iw e.fr ∧ Iw e.to ∧ Iw e.cap ∧ (Iw e.q.b ∧ Iw e.q.r ∧ Iw e.q.d ∧ Iw e.q.g ∧ Iw e.q.f) ∧ Iw e.p.good ∧ Iw e.p.gat ∧ Iw e.p.bad ∧ Iw e.p.bat := by
  obtain ⟨xs, m, _, rfl, hlen, hxl, hall⟩ := DataW.trod_struct Try.underlying49 h; rw [cellsOf49] at hlen
  have hxl' : xs.length = 6 := hxl
  have at_ : ∀ i, i < 6 → xs[i]? = some (xs.getD i (.nil, [])) := fun i hi => by rw [List.getD_eq_getElem?_getD, List.getElem?_eq_getElem (by omega)]; rfl
  obtain ⟨a, e0, r0⟩ := open_num ((hall 0 _ rfl).trans (at_ 0 (by omega))); obtain ⟨b, e1, r1⟩ := open_num ((hall 1 _ rfl).trans (at_ 1 (by omega))); obtain ⟨c, e2, r2⟩ := open_num ((hall 2 _ rfl).trans (at_ 2 (by omega))); obtain ⟨d, e3, r3⟩ := open_num ((hall 3 _ rfl).trans (at_ 3 (by omega))); obtain ⟨q, e4, r4⟩ := open_rules ((hall 4 _ rfl).trans (at_ 4 (by omega))); obtain ⟨p, e5, r5⟩ := open_past ((hall 5 _ rfl).trans (at_ 5 (by omega))); replace e0 := (show (cs.drop 0).take (Try.prog.cellsOf 3) = _ from e0); rw [cellsOf3] at e0
  replace e1 := (show (cs.drop 1).take (Try.prog.cellsOf 3) = _ from e1); rw [cellsOf3] at e1; replace e2 := (show (cs.drop 2).take (Try.prog.cellsOf 3) = _ from e2); rw [cellsOf3] at e2; replace e3 := (show (cs.drop 3).take (Try.prog.cellsOf 3) = _ from e3); rw [cellsOf3] at e3; replace e4 := (show (cs.drop 4).take (Try.prog.cellsOf 45) = _ from e4); rw [cellsOf45] at e4; replace e5 := (show (cs.drop 9).take (Try.prog.cellsOf 47) = _ from e5); rw [cellsOf47] at e5; have d0 := cut_at cs 0 1 _ e0
  rw [cut_at cs 1 1 _ e1, cut_at cs 2 1 _ e2, cut_at cs 3 1 _ e3, cut_at cs 4 5 _ e4, cut_at cs 9 4 _ e5, (show cs.drop (9 + 4) = [] from List.drop_eq_nil_of_le (by omega)), List.drop_zero] at d0; exact ⟨⟨a, b, c, d, q, p⟩, d0, r0, r1, r2, r3, r4, r5⟩
end
end Go.Proofs.Ytgnkcmmpbohafaa

/- More that fees may be, and more that is avoided: what becomes of the best way. -/
namespace Go.Proofs.Ytgnkcmmpbohafaa
open Go.RowKit
set_option linter.unusedVariables false
set_option linter.unusedSimpArgs false
end Go.Proofs.Ytgnkcmmpbohafaa

/- A graph of edges in order: where one stands; what is not there; what may not be set. -/
namespace Go.Proofs.Ytgnkcmmpbohafaa
open Go.RowKit
set_option linter.unusedVariables false
set_option linter.unusedSimpArgs false
set_option maxRecDepth 100000

/-- an edge of this channel from that node: not there -/
def noE (L : List EV) (ch fr : Int) : Prop := ∀ d ∈ L, ¬ (d.ch = ch ∧ d.fr = fr)
theorem pl_yes {L : List EV} {ch fr : Int} {i j : Nat} {d : EV} {fd : Bool} (hs : srt L) (hd : L[j]? = some d) (hk : d.ch = ch ∧ d.fr = fr) (p1 : ∀ (k : Nat) (d : EV), k < i → L[k]? = some d → ordN d ch fr < 0) (p2 : ∀ (k : Nat) (d : EV), i ≤ k → L[k]? = some d → 0 ≤ ordN d ch fr) (p3 : fd = true ↔ ∃ d, L[i]? = some d ∧ ordN d ch fr = 0) : i = j ∧ fd = true := by
  have h0 : ordN d ch fr = 0 := (ord_eq d ch fr).2 hk
  have e : i = j := by
    rcases Nat.lt_trichotomy i j with h | h | h
    · have hj : j < L.length := (List.getElem?_eq_some_iff.1 hd).1
      have hi : L[i]? = some L[i] := List.getElem?_eq_getElem (by omega)
      have h1 := p2 i _ (Nat.le_refl _) hi; have h2 := hs i j _ _ h hi hd; have h3 := (ord_lt L[i] ch fr).2 (by unfold ltE at h2; omega)
      omega
    · exact h
    · have := p1 j d h hd
      omega
  subst e; exact ⟨rfl, p3.2 ⟨d, hd, h0⟩⟩
theorem pl_no {L : List EV} {ch fr : Int} {i : Nat} {fd : Bool} (hk : noE L ch fr) (p3 : fd = true ↔ ∃ d, L[i]? = some d ∧ ordN d ch fr = 0) : fd = false := by
  cases fd with
  | false => rfl
  | true =>
    obtain ⟨d, hd, h0⟩ := p3.1 rfl; exact absurd ((ord_eq d ch fr).1 h0) (hk d (List.mem_of_getElem? hd))
set_option maxHeartbeats 4000000 in
theorem fnd_yes {g N n c : Nat} {ad : Addr} {L : List EV} {ch fr : Int} {j : Nat} {d : EV} (w : World) (kg : w.heap[g]? = some (.cells #[.slice (some ad) n c] 105)) (hL : Es w N (some ad) L) (hn : n = L.length) (hn2 : n ≤ 64) (hs : srt L) (hd : L[j]? = some d) (hk : d.ch = ch ∧ d.fr = fr) : Calls Try.prog 61 #[.pointer (some ⟨g, 0, none⟩), .int .i64 ch, .int .i64 fr] w fun e w' => e = .returned (.tuple #[.int .i64 (j : Nat), .int .i64 0]) ∧ Below w.heap.size w w' := by
  have E : Below w.heap.size w w := Below.refl _ _
  go_enter Try.func61, Try.ntmps61; refine wq fun Q hQ => ?_; refine vg (.int .i64 0) 6 rfl rfl rfl rfl ?_; refine vg (.int .i64 0) 7 rfl rfl rfl rfl ?_; refine st_end ?_; subst hQ; refine wp_seq ?_; refine wq fun Q hQ => ?_; refine vm (Pz g 0) 10 rfl rfl rfl rfl ?_; refine st_call (some 11) rfl rfl (closed_any w kg) (ex_call (f := 33) (vs := [(Pz g 0)]) rfl (cf33 _) rfl) ?_; rintro e W1 ⟨rfl, B⟩; refine ⟨_, rfl, ?_⟩; simp only [zp]; replace E := below_next E B; replace kg := keep B kg; replace hL := hL.keepB B; refine st_end ?_; subst hQ; refine wp_cond_false rfl ?_; refine wp_skip ?_
  refine wq fun Q hQ => ?_; refine vm (Pz g 0) 13 rfl rfl rfl rfl ?_; refine vm (.int .i64 ch) 14 rfl rfl rfl rfl ?_; refine vm (.int .i64 fr) 15 rfl rfl rfl rfl ?_; refine st_call (some 16) rfl rfl (place_any (ch := ch) (fr := fr) W1 kg hL hn hn2 hs) (ex_call (f := 63) (vs := [(Pz g 0), (.int .i64 ch), (.int .i64 fr)]) rfl (cf63 _) rfl) ?_; rintro e W2 ⟨i, fd, rfl, hi, p1, p2, p3, B⟩; obtain ⟨rfl, rfl⟩ := pl_yes hs hd hk p1 p2 p3; refine ⟨_, rfl, ?_⟩; simp only [zp]; replace E := below_next E B; replace kg := keep B kg; replace hL := hL.keepB B
  refine vm (.tuple #[(.int .i64 (i : Nat)), (.bool true)]) 12 rfl rfl rfl rfl ?_; refine vv (.int .i64 (i : Nat)) 17 rfl rfl (ex_ext rfl rfl rfl) ?_; refine vv (.bool true) 18 rfl rfl (ex_ext rfl rfl rfl) ?_; refine vg (.int .i64 (i : Nat)) 8 rfl rfl rfl rfl ?_; refine vg (.bool true) 9 rfl rfl rfl rfl ?_; refine st_end ?_; subst hQ; refine wp_seq ?_; refine wq fun Q hQ => ?_; refine vm (.bool true) 19 rfl rfl rfl rfl ?_; refine vv (.bool false) 20 rfl rfl (ex_not rfl rfl rfl) ?_; refine st_end ?_; subst hQ; refine wp_cond_false rfl ?_; refine wp_skip ?_; refine wq fun Q hQ => ?_
  refine vm (.int .i64 (i : Nat)) 21 rfl rfl rfl rfl ?_; refine vg (.int .i64 (i : Nat)) 6 rfl rfl rfl rfl ?_; refine vg (.int .i64 0) 7 rfl rfl rfl rfl ?_; refine st_end ?_; subst hQ; refine wp_ret ?_
  repeat (first | refine ret_out ?_ | refine ret_blk ?_)
  exact bodyPost_ret (results_tmp2 Try.results61 _ _ _) rfl ⟨rfl, E⟩
set_option maxHeartbeats 4000000 in
theorem fnd_no {g N n c : Nat} {ad : Addr} {L : List EV} {ch fr : Int}  (w : World) (kg : w.heap[g]? = some (.cells #[.slice (some ad) n c] 105)) (hL : Es w N (some ad) L) (hn : n = L.length) (hn2 : n ≤ 64) (hs : srt L) (hk : noE L ch fr) : Calls Try.prog 61 #[.pointer (some ⟨g, 0, none⟩), .int .i64 ch, .int .i64 fr] w fun e w' => e = .returned (.tuple #[.int .i64 0, .int .i64 4]) ∧ Below w.heap.size w w' := by
  have E : Below w.heap.size w w := Below.refl _ _
  go_enter Try.func61, Try.ntmps61; refine wq fun Q hQ => ?_; refine vg (.int .i64 0) 6 rfl rfl rfl rfl ?_; refine vg (.int .i64 0) 7 rfl rfl rfl rfl ?_; refine st_end ?_; subst hQ; refine wp_seq ?_; refine wq fun Q hQ => ?_; refine vm (Pz g 0) 10 rfl rfl rfl rfl ?_; refine st_call (some 11) rfl rfl (closed_any w kg) (ex_call (f := 33) (vs := [(Pz g 0)]) rfl (cf33 _) rfl) ?_; rintro e W1 ⟨rfl, B⟩; refine ⟨_, rfl, ?_⟩; simp only [zp]; replace E := below_next E B; replace kg := keep B kg; replace hL := hL.keepB B; refine st_end ?_; subst hQ; refine wp_cond_false rfl ?_; refine wp_skip ?_
  refine wq fun Q hQ => ?_; refine vm (Pz g 0) 13 rfl rfl rfl rfl ?_; refine vm (.int .i64 ch) 14 rfl rfl rfl rfl ?_; refine vm (.int .i64 fr) 15 rfl rfl rfl rfl ?_; refine st_call (some 16) rfl rfl (place_any (ch := ch) (fr := fr) W1 kg hL hn hn2 hs) (ex_call (f := 63) (vs := [(Pz g 0), (.int .i64 ch), (.int .i64 fr)]) rfl (cf63 _) rfl) ?_; rintro e W2 ⟨i, fd, rfl, hi, p1, p2, p3, B⟩; obtain rfl := pl_no hk p3; refine ⟨_, rfl, ?_⟩; simp only [zp]; replace E := below_next E B; replace kg := keep B kg; replace hL := hL.keepB B
  refine vm (.tuple #[(.int .i64 (i : Nat)), (.bool false)]) 12 rfl rfl rfl rfl ?_; refine vv (.int .i64 (i : Nat)) 17 rfl rfl (ex_ext rfl rfl rfl) ?_; refine vv (.bool false) 18 rfl rfl (ex_ext rfl rfl rfl) ?_; refine vg (.int .i64 (i : Nat)) 8 rfl rfl rfl rfl ?_; refine vg (.bool false) 9 rfl rfl rfl rfl ?_; refine st_end ?_; subst hQ; refine wp_seq ?_; refine wq fun Q hQ => ?_; refine vm (.bool false) 19 rfl rfl rfl rfl ?_; refine vv (.bool true) 20 rfl rfl (ex_not rfl rfl rfl) ?_; refine st_end ?_; subst hQ; refine wp_cond_true rfl ?_; refine wq fun Q hQ => ?_
  refine vg (.int .i64 0) 6 rfl rfl rfl rfl ?_; refine vg (.int .i64 4) 7 rfl rfl rfl rfl ?_; refine st_end ?_; subst hQ; refine wp_ret ?_
  repeat (first | refine ret_out ?_ | refine ret_blk ?_)
  exact bodyPost_ret (results_tmp2 Try.results61 _ _ _) rfl ⟨rfl, E⟩
set_option maxHeartbeats 4000000 in
theorem get_no {g N n c : Nat} {ad : Addr} {L : List EV} {ch fr : Int} (w : World) (kg : w.heap[g]? = some (.cells #[.slice (some ad) n c] 105)) (hL : Es w N (some ad) L) (hn : n = L.length) (hn2 : n ≤ 64) (hs : srt L) (hk : noE L ch fr) : Calls Try.prog 20 #[.pointer (some ⟨g, 0, none⟩), .int .i64 ch, .int .i64 fr] w fun e w' => e = .returned (.tuple #[.agg #[.int .i64 0, .int .i64 0, .int .i64 0, .int .i64 0, .int .i64 0, .int .i64 0, .int .i64 0, .int .i64 0, .int .i64 0, .int .i64 0, .int .i64 0, .int .i64 0, .int .i64 0], .bool false]) ∧ Below w.heap.size w w' := by
  have E : Below w.heap.size w w := Below.refl _ _
  go_enter Try.func20, Try.ntmps20; refine wq fun Q hQ => ?_; refine st_new (fun b => .pointer (some ⟨b, 0, none⟩)) (some 6) rfl rfl (ex_alloc rfl zero49) ?_; intro b21 W1 k21 g21 B; simp only [zp]
  have ne_b21_g : b21 ≠ g := fun e => by have := lt_of kg; omega
  have ge_b21 := Nat.le_trans E.size g21; replace E := below_next E B; replace kg := keep B kg; replace hL := hL.keepB B; clear B; refine vg (.bool false) 7 rfl rfl rfl rfl ?_; refine st_end ?_; subst hQ; refine wq fun Q hQ => ?_; refine vm (Pz g 0) 11 rfl rfl rfl rfl ?_; refine vm (.int .i64 ch) 12 rfl rfl rfl rfl ?_; refine vm (.int .i64 fr) 13 rfl rfl rfl rfl ?_; refine st_call (some 14) rfl rfl (fnd_no (ch := ch) (fr := fr) W1 kg hL hn hn2 hs hk) (ex_call (f := 61) (vs := [(Pz g 0), (.int .i64 ch), (.int .i64 fr)]) rfl (cf61 _) rfl) ?_; rintro e W2 ⟨rfl, B⟩; refine ⟨_, rfl, ?_⟩
  simp only [zp]; replace E := below_next E B; replace kg := keep B kg; replace hL := hL.keepB B; replace k21 := keep B k21; refine vm (.tuple #[(.int .i64 0), (.int .i64 4)]) 10 rfl rfl rfl rfl ?_; refine vv (.int .i64 0) 15 rfl rfl (ex_ext rfl rfl rfl) ?_; refine vv (.int .i64 4) 16 rfl rfl (ex_ext rfl rfl rfl) ?_; refine vg (.int .i64 0) 8 rfl rfl rfl rfl ?_; refine vg (.int .i64 4) 9 rfl rfl rfl rfl ?_; refine st_end ?_; subst hQ; refine wp_seq ?_; refine wq fun Q hQ => ?_; refine vm (.int .i64 4) 17 rfl rfl rfl rfl ?_
  refine vv (.bool true) 18 rfl rfl (ex_bin (u := (.int .i64 4)) (r := (.int .i64 0)) rfl rfl rfl (eg37 _ _ _ _ _ _) (neq37 _ (by decide))) ?_; refine st_end ?_; subst hQ; refine wp_cond_true rfl ?_; refine wq fun Q hQ => ?_; refine vv (.agg #[.int .i64 0, .int .i64 0, .int .i64 0, .int .i64 0, .int .i64 0, .int .i64 0, .int .i64 0, .int .i64 0, .int .i64 0, .int .i64 0, .int .i64 0, .int .i64 0, .int .i64 0]) 19 rfl rfl (ex_build0  rfl (bEd0 _)) ?_
  obtain ⟨W3, hst, kn, K⟩ := put_all (D := #[.int .i64 0, .int .i64 0, .int .i64 0, .int .i64 0, .int .i64 0, .int .i64 0, .int .i64 0, .int .i64 0, .int .i64 0, .int .i64 0, .int .i64 0, .int .i64 0, .int .i64 0]) k21 rfl inf49 (by kernel_rfl); refine st_sk rfl rfl (ex_store rfl rfl rfl hst) ?_; replace E := below_put E ge_b21 K; replace kg := keepK K kg (fun e => ne_tag kg k21 (by decide) e); replace hL := hL; replace k21 := kn; clear kn K hst; refine vg (.bool false) 7 rfl rfl rfl rfl ?_; refine st_end ?_; subst hQ; refine wp_ret ?_
  repeat (first | refine ret_out ?_ | refine ret_blk ?_)
  exact bodyPost_ret (res_ct Try.results20 _ _ _ _ rfl k21 Try.underlying49 rfl inf49) rfl ⟨rfl, E⟩
set_option maxHeartbeats 4000000 in
theorem rem_no {g N n c : Nat} {ad : Addr} {L : List EV} {ch fr : Int} (w : World) (kg : w.heap[g]? = some (.cells #[.slice (some ad) n c] 105)) (hL : Es w N (some ad) L) (hn : n = L.length) (hn2 : n ≤ 64) (hs : srt L) (hk : noE L ch fr) : Calls Try.prog 22 #[.pointer (some ⟨g, 0, none⟩), .int .i64 ch, .int .i64 fr] w fun e w' => e = .returned (.int .i64 4) ∧ Below w.heap.size w w' := by
  have E : Below w.heap.size w w := Below.refl _ _
  go_enter Try.func22, Try.ntmps22; refine wq fun Q hQ => ?_; refine vg (.int .i64 0) 6 rfl rfl rfl rfl ?_; refine st_end ?_; subst hQ; refine wq fun Q hQ => ?_; refine vm (Pz g 0) 10 rfl rfl rfl rfl ?_; refine vm (.int .i64 ch) 11 rfl rfl rfl rfl ?_; refine vm (.int .i64 fr) 12 rfl rfl rfl rfl ?_; refine st_call (some 13) rfl rfl (fnd_no (ch := ch) (fr := fr) w kg hL hn hn2 hs hk) (ex_call (f := 61) (vs := [(Pz g 0), (.int .i64 ch), (.int .i64 fr)]) rfl (cf61 _) rfl) ?_; rintro e W1 ⟨rfl, B⟩; refine ⟨_, rfl, ?_⟩; simp only [zp]; replace E := below_next E B; replace kg := keep B kg
  replace hL := hL.keepB B; refine vm (.tuple #[(.int .i64 0), (.int .i64 4)]) 9 rfl rfl rfl rfl ?_; refine vv (.int .i64 0) 14 rfl rfl (ex_ext rfl rfl rfl) ?_; refine vv (.int .i64 4) 15 rfl rfl (ex_ext rfl rfl rfl) ?_; refine vg (.int .i64 0) 7 rfl rfl rfl rfl ?_; refine vg (.int .i64 4) 8 rfl rfl rfl rfl ?_; refine st_end ?_; subst hQ; refine wp_seq ?_; refine wq fun Q hQ => ?_; refine vm (.int .i64 4) 16 rfl rfl rfl rfl ?_; refine vv (.bool true) 17 rfl rfl (ex_bin (u := (.int .i64 4)) (r := (.int .i64 0)) rfl rfl rfl (eg37 _ _ _ _ _ _) (neq37 _ (by decide))) ?_
  refine st_end ?_; subst hQ; refine wp_cond_true rfl ?_; refine wq fun Q hQ => ?_; refine vm (.int .i64 4) 18 rfl rfl rfl rfl ?_; refine vg (.int .i64 4) 6 rfl rfl rfl rfl ?_; refine st_end ?_; subst hQ; refine wp_ret ?_
  repeat (first | refine ret_out ?_ | refine ret_blk ?_)
  exact bodyPost_ret (results_tmp Try.results22 _ _ _) rfl ⟨rfl, E⟩
set_option maxHeartbeats 4000000 in
theorem lrn_no {g N n c : Nat} {ad : Addr} {L : List EV} {ch fr a t : Int} {gd : Bool} (w : World) (kg : w.heap[g]? = some (.cells #[.slice (some ad) n c] 105)) (hL : Es w N (some ad) L) (hn : n = L.length) (hn2 : n ≤ 64) (hs : srt L) (hk : noE L ch fr) : Calls Try.prog 23 #[.pointer (some ⟨g, 0, none⟩), .int .i64 ch, .int .i64 fr, .int .i64 a, .int .i64 t, .bool gd] w fun e w' => e = .returned (.int .i64 4) ∧ Below w.heap.size w w' := by
  have E : Below w.heap.size w w := Below.refl _ _
  go_enter Try.func23, Try.ntmps23; refine wq fun Q hQ => ?_; refine vg (.int .i64 0) 12 rfl rfl rfl rfl ?_; refine st_end ?_; subst hQ; refine wq fun Q hQ => ?_; refine vm (Pz g 0) 16 rfl rfl rfl rfl ?_; refine vm (.int .i64 ch) 17 rfl rfl rfl rfl ?_; refine vm (.int .i64 fr) 18 rfl rfl rfl rfl ?_; refine st_call (some 19) rfl rfl (fnd_no (ch := ch) (fr := fr) w kg hL hn hn2 hs hk) (ex_call (f := 61) (vs := [(Pz g 0), (.int .i64 ch), (.int .i64 fr)]) rfl (cf61 _) rfl) ?_; rintro e W1 ⟨rfl, B⟩; refine ⟨_, rfl, ?_⟩; simp only [zp]; replace E := below_next E B; replace kg := keep B kg
  replace hL := hL.keepB B; refine vm (.tuple #[(.int .i64 0), (.int .i64 4)]) 15 rfl rfl rfl rfl ?_; refine vv (.int .i64 0) 20 rfl rfl (ex_ext rfl rfl rfl) ?_; refine vv (.int .i64 4) 21 rfl rfl (ex_ext rfl rfl rfl) ?_; refine vg (.int .i64 0) 13 rfl rfl rfl rfl ?_; refine vg (.int .i64 4) 14 rfl rfl rfl rfl ?_; refine st_end ?_; subst hQ; refine wp_seq ?_; refine wq fun Q hQ => ?_; refine vm (.int .i64 4) 22 rfl rfl rfl rfl ?_; refine vv (.bool true) 23 rfl rfl (ex_bin (u := (.int .i64 4)) (r := (.int .i64 0)) rfl rfl rfl (eg37 _ _ _ _ _ _) (neq37 _ (by decide))) ?_
  refine st_end ?_; subst hQ; refine wp_cond_true rfl ?_; refine wq fun Q hQ => ?_; refine vm (.int .i64 4) 24 rfl rfl rfl rfl ?_; refine vg (.int .i64 4) 12 rfl rfl rfl rfl ?_; refine st_end ?_; subst hQ; refine wp_ret ?_
  repeat (first | refine ret_out ?_ | refine ret_blk ?_)
  exact bodyPost_ret (results_tmp Try.results23 _ _ _) rfl ⟨rfl, E⟩
end Go.Proofs.Ytgnkcmmpbohafaa

/- What may not be set, one too many; what is there; a copy. -/
namespace Go.Proofs.Ytgnkcmmpbohafaa
open Go.RowKit
set_option linter.unusedVariables false
set_option linter.unusedSimpArgs false
set_option maxRecDepth 100000

set_option maxHeartbeats 4000000 in
theorem set_arg {g N n c : Nat} {ad : Addr} {L : List EV} {e : EV} (w : World) (kg : w.heap[g]? = some (.cells #[.slice (some ad) n c] 105)) (hL : Es w N (some ad) L) (hn : n = L.length) (hn2 : n ≤ 64) (hs : srt L) (hq : e.q.b ≤ 9223372036854775807) (hc2 : e.cap ≤ 9223372036854775807) (hno : mayE e = false) : Calls Try.prog 21 #[.pointer (some ⟨g, 0, none⟩), .agg (EL e)] w fun e w' => e = .returned (.int .i64 1) ∧ Below w.heap.size w w' := by
  have E : Below w.heap.size w w := Below.refl _ _
  go_enter Try.func21, Try.ntmps21; refine wq fun Q hQ => ?_; refine st_new (fun b => .pointer (some ⟨b, 0, none⟩)) (some 3) rfl rfl (ex_box rfl rfl) ?_; intro b21 W1 k21 g21 B; simp only [zp]
  have ne_b21_g : b21 ≠ g := fun e => by have := lt_of kg; omega
  have ge_b21 := Nat.le_trans E.size g21; replace E := below_next E B; replace kg := keep B kg; replace hL := hL.keepB B; clear B; refine vg (.int .i64 0) 4 rfl rfl rfl rfl ?_; refine st_end ?_; subst hQ; refine wp_seq ?_; refine wp_block ?_; refine wq fun Q hQ => ?_; refine vm (Pz g 0) 8 rfl rfl rfl rfl ?_; refine st_call (some 9) rfl rfl (closed_any W1 kg) (ex_call (f := 33) (vs := [(Pz g 0)]) rfl (cf33 _) rfl) ?_; rintro e W2 ⟨rfl, B⟩; refine ⟨_, rfl, ?_⟩; simp only [zp]; replace E := below_next E B; replace kg := keep B kg; replace hL := hL.keepB B; replace k21 := keep B k21
  refine vg (.bool false) 7 rfl rfl rfl rfl ?_; refine st_end ?_; subst hQ; refine wp_cond_false rfl ?_; refine wq fun Q hQ => ?_; refine vv (.agg (EL e)) 11 rfl rfl (ex_load (p := (Pz b21 0)) rfl rfl (ld_all k21 Try.underlying49 rfl inf49)) ?_; refine st_call (some 12) rfl rfl (mayE_any W2 hq hc2 hno) (ex_call (f := 62) (vs := [(.agg (EL e))]) rfl (cf62 _) rfl) ?_; rintro e W3 ⟨rfl, B⟩; refine ⟨_, rfl, ?_⟩; simp only [zp]; replace E := below_next E B; replace kg := keep B kg; replace hL := hL.keepB B; replace k21 := keep B k21; refine vv (.bool true) 13 rfl rfl (ex_not rfl rfl rfl) ?_
  refine vg (.bool true) 10 rfl rfl rfl rfl ?_; refine st_end ?_; subst hQ; refine wp_cond_true rfl ?_; refine wq fun Q hQ => ?_; refine vg (.int .i64 1) 4 rfl rfl rfl rfl ?_; refine st_end ?_; subst hQ; refine wp_ret ?_
  repeat (first | refine ret_out ?_ | refine ret_blk ?_)
  exact bodyPost_ret (results_tmp Try.results21 _ _ _) rfl ⟨rfl, E⟩
set_option maxHeartbeats 4000000 in
theorem set_full {g N n c : Nat} {ad : Addr} {L : List EV} {e : EV} (w : World) (kg : w.heap[g]? = some (.cells #[.slice (some ad) n c] 105)) (hL : Es w N (some ad) L) (hn : n = L.length) (hn2 : n ≤ 64) (hs : srt L) (hq : e.q.b ≤ 9223372036854775807) (hc2 : e.cap ≤ 9223372036854775807) (hok : mayE e = true) (hk : noE L e.ch e.fr) (hfull : 64 ≤ n) : Calls Try.prog 21 #[.pointer (some ⟨g, 0, none⟩), .agg (EL e)] w fun e w' => e = .returned (.int .i64 2) ∧ Below w.heap.size w w' := by
  have E : Below w.heap.size w w := Below.refl _ _
  go_enter Try.func21, Try.ntmps21; refine wq fun Q hQ => ?_; refine st_new (fun b => .pointer (some ⟨b, 0, none⟩)) (some 3) rfl rfl (ex_box rfl rfl) ?_; intro b21 W1 k21 g21 B; simp only [zp]
  have ne_b21_g : b21 ≠ g := fun e => by have := lt_of kg; omega
  have ge_b21 := Nat.le_trans E.size g21; replace E := below_next E B; replace kg := keep B kg; replace hL := hL.keepB B; clear B; refine vg (.int .i64 0) 4 rfl rfl rfl rfl ?_; refine st_end ?_; subst hQ; refine wp_seq ?_; refine wp_block ?_; refine wq fun Q hQ => ?_; refine vm (Pz g 0) 8 rfl rfl rfl rfl ?_; refine st_call (some 9) rfl rfl (closed_any W1 kg) (ex_call (f := 33) (vs := [(Pz g 0)]) rfl (cf33 _) rfl) ?_; rintro e W2 ⟨rfl, B⟩; refine ⟨_, rfl, ?_⟩; simp only [zp]; replace E := below_next E B; replace kg := keep B kg; replace hL := hL.keepB B; replace k21 := keep B k21
  refine vg (.bool false) 7 rfl rfl rfl rfl ?_; refine st_end ?_; subst hQ; refine wp_cond_false rfl ?_; refine wq fun Q hQ => ?_; refine vv (.agg (EL e)) 11 rfl rfl (ex_load (p := (Pz b21 0)) rfl rfl (ld_all k21 Try.underlying49 rfl inf49)) ?_; refine st_call (some 12) rfl rfl (mayE_any W2 hq hc2 hok) (ex_call (f := 62) (vs := [(.agg (EL e))]) rfl (cf62 _) rfl) ?_; rintro e W3 ⟨rfl, B⟩; refine ⟨_, rfl, ?_⟩; simp only [zp]; replace E := below_next E B; replace kg := keep B kg; replace hL := hL.keepB B; replace k21 := keep B k21; refine vv (.bool false) 13 rfl rfl (ex_not rfl rfl rfl) ?_
  refine vg (.bool false) 10 rfl rfl rfl rfl ?_; refine st_end ?_; subst hQ; refine wp_cond_false rfl ?_; refine wp_skip ?_; refine wq fun Q hQ => ?_; refine vm (Pz g 0) 15 rfl rfl rfl rfl ?_; refine vv (Pz b21 0) 16 rfl rfl (ex_fa (p := (Pz b21 0)) rfl rfl (fa49_0 _ _)) ?_; refine vv (.int .i64 e.ch) 17 rfl rfl (ex_load (p := (Pz b21 0)) rfl rfl (ld3 (at_cell k21 rfl))) ?_; refine vv (Pz b21 1) 18 rfl rfl (ex_fa (p := (Pz b21 0)) rfl rfl (fa49_1 _ _)) ?_; refine vv (.int .i64 e.fr) 19 rfl rfl (ex_load (p := (Pz b21 1)) rfl rfl (ld3 (at_cell k21 rfl))) ?_
  refine st_call (some 20) rfl rfl (place_any (ch := e.ch) (fr := e.fr) W3 kg hL hn hn2 hs) (ex_call (f := 63) (vs := [(Pz g 0), (.int .i64 e.ch), (.int .i64 e.fr)]) rfl (cf63 _) rfl) ?_; rintro e W4 ⟨i, fd, rfl, hi, p1, p2, p3, B⟩; obtain rfl := pl_no hk p3; refine ⟨_, rfl, ?_⟩; simp only [zp]; replace E := below_next E B; replace kg := keep B kg; replace hL := hL.keepB B; replace k21 := keep B k21; refine vm (.tuple #[(.int .i64 (i : Nat)), (.bool false)]) 14 rfl rfl rfl rfl ?_; refine vv (.int .i64 (i : Nat)) 21 rfl rfl (ex_ext rfl rfl rfl) ?_
  refine vv (.bool false) 22 rfl rfl (ex_ext rfl rfl rfl) ?_; refine vg (.int .i64 (i : Nat)) 5 rfl rfl rfl rfl ?_; refine vg (.bool false) 6 rfl rfl rfl rfl ?_; refine st_end ?_; subst hQ; refine wp_seq ?_; refine wp_block ?_; refine wq fun Q hQ => ?_; refine vm (.bool false) 35 rfl rfl rfl rfl ?_; refine vg (.bool false) 34 rfl rfl rfl rfl ?_; refine st_end ?_; subst hQ; refine wp_cond_false rfl ?_; refine wq fun Q hQ => ?_; refine vm (Pz g 0) 44 rfl rfl rfl rfl ?_; refine vv (Pz g 0) 45 rfl rfl (ex_nil (p := (Pz g 0)) rfl rfl rfl) ?_
  refine vv (Pz g 0) 46 rfl rfl (ex_fa (p := (Pz g 0)) rfl rfl (fa105_0 _ _)) ?_; refine vv (.slice (some ad) n c) 47 rfl rfl (ex_load (p := (Pz g 0)) rfl rfl (ld33 (at_cell kg rfl))) ?_; refine vv (.int .i64 (n : Nat)) 48 rfl rfl (ex_len rfl rfl (len33 _ _ _ _ _)) ?_; refine vv (.bool true) 49 rfl rfl (ex_bin (u := (.int .i64 (n : Nat))) (r := (.int .i64 64)) rfl rfl rfl (eg3 _ _ _ _ _ _) (geq3 _ (decide_eq_true (by omega)))) ?_; refine vg (.bool true) 43 rfl rfl rfl rfl ?_; refine st_end ?_; subst hQ; refine wp_cond_true rfl ?_; refine wq fun Q hQ => ?_
  refine vg (.int .i64 2) 4 rfl rfl rfl rfl ?_; refine st_end ?_; subst hQ; refine wp_ret ?_
  repeat (first | refine ret_out ?_ | refine ret_blk ?_)
  exact bodyPost_ret (results_tmp Try.results21 _ _ _) rfl ⟨rfl, E⟩
set_option maxHeartbeats 4000000 in
theorem get_yes {g N n c b off : Nat} {L : List EV} {ch fr : Int} {j : Nat} {d : EV} (w : World) (kg : w.heap[g]? = some (.cells #[.slice (some ⟨b, off, none⟩) n c] 105)) (hL : Es w N (some ⟨b, off, none⟩) L) (hn : n = L.length) (hn2 : n ≤ 64) (hs : srt L) (hd : L[j]? = some d) (hk : d.ch = ch ∧ d.fr = fr) : Calls Try.prog 20 #[.pointer (some ⟨g, 0, none⟩), .int .i64 ch, .int .i64 fr] w fun e w' => e = .returned (.tuple #[.agg (EL d), .bool true]) ∧ Below w.heap.size w w' := by
  have hj : j < n := by rw [hn]; exact (List.getElem?_eq_some_iff.1 hd).1
  have hr : w.rangeAt b off (cE L) := by
    rcases hL with q | ⟨b', off', q, _, _, hr⟩
    · rw [q] at hd; simp at hd
    · cases q; exact hr
  have E : Below w.heap.size w w := Below.refl _ _
  go_enter Try.func20, Try.ntmps20; refine wq fun Q hQ => ?_; refine st_new (fun b => .pointer (some ⟨b, 0, none⟩)) (some 6) rfl rfl (ex_alloc rfl zero49) ?_; intro b21 W1 k21 g21 B; simp only [zp]
  have ne_b21_g : b21 ≠ g := fun e => by have := lt_of kg; omega
  have ge_b21 := Nat.le_trans E.size g21; replace E := below_next E B; replace kg := keep B kg; replace hL := hL.keepB B; clear B; refine vg (.bool false) 7 rfl rfl rfl rfl ?_; refine st_end ?_; subst hQ; refine wq fun Q hQ => ?_; refine vm (Pz g 0) 11 rfl rfl rfl rfl ?_; refine vm (.int .i64 ch) 12 rfl rfl rfl rfl ?_; refine vm (.int .i64 fr) 13 rfl rfl rfl rfl ?_; refine st_call (some 14) rfl rfl (fnd_yes (ch := ch) (fr := fr) W1 kg hL hn hn2 hs hd hk) (ex_call (f := 61) (vs := [(Pz g 0), (.int .i64 ch), (.int .i64 fr)]) rfl (cf61 _) rfl) ?_; rintro e W2 ⟨rfl, B⟩; refine ⟨_, rfl, ?_⟩
  simp only [zp]; replace E := below_next E B; replace kg := keep B kg; replace hL := hL.keepB B; replace k21 := keep B k21; refine vm (.tuple #[(.int .i64 (j : Nat)), (.int .i64 0)]) 10 rfl rfl rfl rfl ?_; refine vv (.int .i64 (j : Nat)) 15 rfl rfl (ex_ext rfl rfl rfl) ?_; refine vv (.int .i64 0) 16 rfl rfl (ex_ext rfl rfl rfl) ?_; refine vg (.int .i64 (j : Nat)) 8 rfl rfl rfl rfl ?_; refine vg (.int .i64 0) 9 rfl rfl rfl rfl ?_; refine st_end ?_; subst hQ; refine wp_seq ?_; refine wq fun Q hQ => ?_; refine vm (.int .i64 0) 17 rfl rfl rfl rfl ?_
  refine vv (.bool false) 18 rfl rfl (ex_bin (u := (.int .i64 0)) (r := (.int .i64 0)) rfl rfl rfl (eg37 _ _ _ _ _ _) (neq37 _ (by decide))) ?_; refine st_end ?_; subst hQ; refine wp_cond_false rfl ?_; refine wp_skip ?_; refine wq fun Q hQ => ?_; refine vm (Pz g 0) 20 rfl rfl rfl rfl ?_; refine vv (Pz g 0) 21 rfl rfl (ex_nil (p := (Pz g 0)) rfl rfl rfl) ?_; refine vv (Pz g 0) 22 rfl rfl (ex_fa (p := (Pz g 0)) rfl rfl (fa105_0 _ _)) ?_; refine vv (.slice (some ⟨b, off, none⟩) n c) 23 rfl rfl (ex_load (p := (Pz g 0)) rfl rfl (ld33 (at_cell kg rfl))) ?_
  refine vm (.int .i64 (j : Nat)) 24 rfl rfl rfl rfl ?_; refine vv (.pointer (some ⟨b, (off + j * 13), none⟩)) 25 rfl rfl (ix33 (k := j) rfl rfl rfl (rfl) (hj)) ?_; refine vv (.agg (EL d)) 26 rfl rfl (ex_load rfl rfl (ld_range (range_below (range_at hr hd) E) Try.underlying49 rfl inf49)) ?_; obtain ⟨W3, hst, kn, K⟩ := put_all (D := (EL d)) k21 rfl inf49 (by kernel_rfl); refine st_sk rfl rfl (ex_store rfl rfl rfl hst) ?_; replace E := below_put E ge_b21 K; replace kg := keepK K kg (fun e => ne_tag kg k21 (by decide) e); replace hL := hL; replace k21 := kn; clear kn K hst
  refine vg (.bool true) 7 rfl rfl rfl rfl ?_; refine st_end ?_; subst hQ; refine wp_ret ?_
  repeat (first | refine ret_out ?_ | refine ret_blk ?_)
  exact bodyPost_ret (res_ct Try.results20 _ _ _ _ rfl k21 Try.underlying49 rfl inf49) rfl ⟨rfl, E⟩
theorem own_more {W : World} {base n m c c0 xb xo gb : Nat} {xs D : List Value} (h : W.ownsRow base 49 13 (.slice (some ⟨gb, 0, none⟩) n c0) n xs) (hD : W.rangeAt xb xo D) (hl : D.length = m * 13) (h1 : ∀ u ∈ D, u.oneCell' = true) (hn : n + m ≤ 200) (hbase : base ≤ W.heap.size) :
    ∃ g' cap' W', (Builtin.append_ #[33, 33] 33 #[.slice (some ⟨gb, 0, none⟩) n c0, .slice (some ⟨xb, xo, none⟩) m c]).run Try.prog W = .ok (.slice (some ⟨g', 0, none⟩) (n + m) cap') W' ∧ W'.ownsRow base 49 13 (.slice (some ⟨g', 0, none⟩) (n + m) cap') (n + m) (xs ++ D) ∧ Kept (· = gb) W W' := by
  have hi := Try.inf49b
  cases hq : Try.prog.info? 49 with
  | none => rw [hq] at hi; cases hi
  | some ie =>
    rw [hq] at hi; simp only [Option.map_some, Option.some.injEq, Prod.mk.injEq] at hi; obtain ⟨hz0, hz1, hz2⟩ := hi
    obtain ⟨v', w', hrun, hown, hg, hnil, hloc⟩ := run_append_own_at (P := Try.prog) W base 33 33 49 ie _ 13 104 Try.underlying33 hq hz0 hz1 hz2 rfl (by decide) _ n xs h ⟨xb, xo, none⟩ m c D hl
      (fun j u hu => by rw [Addr.add_mid]; exact hD j u hu) h1 (by simp only [maxLen]; omega) (by omega) hbase
    rcases hown.2 with ⟨hv, _⟩ | ⟨g', cap', cur, rfl, hb, hh, r⟩
    · have := (hnil.1 hv).1
      cases this
    · have hK0 := Kept.ofGrown hg
      exact ⟨g', cap', w', hrun, hown, ⟨hK0.os, hK0.tape, hK0.output, hK0.size, fun k hk hn => hK0.block k hk (fun e => hn (Option.some.inj e).symm)⟩⟩
set_option maxHeartbeats 4000000 in
theorem clone_all {b off n c N : Nat} {L : List EV} (w : World) (hL : Es w N (some ⟨b, off, none⟩) L) (hn : n = L.length) (hn2 : n ≤ 64) : Calls Try.prog 39 #[.slice (some ⟨b, off, none⟩) n c] w fun q w' => ∃ g' c', q = .returned (.slice (some ⟨g', 0, none⟩) n c') ∧ w'.ownsRow w.heap.size 49 13 (.slice (some ⟨g', 0, none⟩) n c') n (cE L) ∧ Below w.heap.size w w' := by
  have hr : w.rangeAt b off (cE L) := by
    rcases hL with q | ⟨b', off', q, _, _, hr⟩
    · intro j u hu
      rw [q] at hu
      simp [cE] at hu
    · cases q; exact hr
  have E : Below w.heap.size w w := Below.refl _ _
  go_enter Try.func39, Try.ntmps39; refine wq fun Q hQ => ?_; refine vg (.slice none 0 0) 2 rfl rfl rfl rfl ?_; refine st_end ?_; subst hQ; refine wp_seq ?_; refine wq fun Q hQ => ?_; refine vm (.slice (some ⟨b, off, none⟩) n c) 3 rfl rfl rfl rfl ?_; refine vv (.bool false) 4 rfl rfl (ex_snil (t := 0) rfl rfl rfl rfl) ?_; refine st_end ?_; subst hQ; refine wp_cond_false rfl ?_; refine wp_skip ?_; refine wq fun Q hQ => ?_; refine st_new (fun b => .slice (some ⟨b, 0, none⟩) 0 0) (some 5) rfl rfl (ex_bsl0  rfl (bsl0 _)) ?_; intro b21 W1 k21 g21 B; simp only [zp]
  have ge_b21 := Nat.le_trans E.size g21; replace E := below_next E B; clear B; refine vm (.slice (some ⟨b, off, none⟩) n c) 6 rfl rfl rfl rfl ?_
  have hO : W1.ownsRow w.heap.size 49 13 (.slice (some ⟨b21, 0, none⟩) 0 0) 0 [] := ⟨rfl, .inr ⟨b21, 0, _, rfl, ge_b21, k21, by decide, by decide, rfl, rfl⟩⟩
  obtain ⟨g', c', W2, hr2, hO2, hK2⟩ := own_more (c := c) (m := n) hO (range_below hr E) (by rw [cE_len, hn]) (cE_one1 L) (by omega) E.size; rw [Nat.zero_add, List.nil_append] at hO2; rw [Nat.zero_add] at hr2; replace E := E.trans (hK2.below E.size (fun k e => by subst e; exact ge_b21)); refine sv (.slice (some ⟨g', 0, none⟩) n c') 7 rfl rfl (ex_app rfl rfl rfl hr2) ?_; simp only [zp]; refine vg (.slice (some ⟨g', 0, none⟩) n c') 2 rfl rfl rfl rfl ?_; refine st_end ?_; subst hQ; refine wp_ret ?_
  repeat (first | refine ret_out ?_ | refine ret_blk ?_)
  exact bodyPost_ret (results_tmp Try.results39 _ _ _) rfl ⟨g', c', rfl, hO2, E⟩
set_option maxHeartbeats 4000000 in
theorem fork_any {g N n c b off : Nat} {L : List EV} (w : World) (kg : w.heap[g]? = some (.cells #[.slice (some ⟨b, off, none⟩) n c] 105)) (hL : Es w N (some ⟨b, off, none⟩) L) (hn : n = L.length) (hn2 : n ≤ 64) : Calls Try.prog 25 #[.pointer (some ⟨g, 0, none⟩)] w fun q w' => ∃ g', q = .returned (.pointer (some ⟨g', 0, none⟩)) ∧ Gr w' w.heap.size g' L ∧ Below w.heap.size w w' := by
  have E : Below w.heap.size w w := Below.refl _ _
  go_enter Try.func25, Try.ntmps25; refine wq fun Q hQ => ?_; refine vg (.pointer none) 2 rfl rfl rfl rfl ?_; refine st_end ?_; subst hQ; refine wp_seq ?_; refine wq fun Q hQ => ?_; refine vm (Pz g 0) 3 rfl rfl rfl rfl ?_; refine st_call (some 4) rfl rfl (closed_any w kg) (ex_call (f := 33) (vs := [(Pz g 0)]) rfl (cf33 _) rfl) ?_; rintro e W1 ⟨rfl, B⟩; refine ⟨_, rfl, ?_⟩; simp only [zp]; replace E := below_next E B; replace kg := keep B kg; replace hL := hL.keepB B; refine st_end ?_; subst hQ; refine wp_cond_false rfl ?_; refine wp_skip ?_; refine wq fun Q hQ => ?_
  refine vm (Pz g 0) 5 rfl rfl rfl rfl ?_; refine vv (Pz g 0) 6 rfl rfl (ex_nil (p := (Pz g 0)) rfl rfl rfl) ?_; refine vv (Pz g 0) 7 rfl rfl (ex_fa (p := (Pz g 0)) rfl rfl (fa105_0 _ _)) ?_; refine vv (.slice (some ⟨b, off, none⟩) n c) 8 rfl rfl (ex_load (p := (Pz g 0)) rfl rfl (ld33 (at_cell kg rfl))) ?_; refine st_call (some 9) rfl rfl (clone_all W1 hL hn hn2) (ex_call (f := 39) (vs := [(.slice (some ⟨b, off, none⟩) n c)]) rfl (cf39 _) rfl) ?_; rintro e W2 ⟨g2, c2, rfl, hO2, B⟩; replace hO2 := own_base hO2 E.size; refine ⟨_, rfl, ?_⟩; simp only [zp]; replace E := below_next E B
  replace kg := keep B kg; replace hL := hL.keepB B; refine vv (.agg #[(.slice (some ⟨g2, 0, none⟩) n c2)]) 10 rfl rfl (ex_build1 (v1 := (.slice (some ⟨g2, 0, none⟩) n c2)) rfl rfl (bG _ _ _ _)) ?_; refine st_new (fun b => .pointer (some ⟨b, 0, none⟩)) (some 11) rfl rfl (ex_box rfl rfl) ?_; intro b21 W3 k21 g21 B; simp only [zp]
  have ne_b21_g : b21 ≠ g := fun e => by have := lt_of kg; omega
  have ge_b21 := Nat.le_trans E.size g21; replace E := below_next E B; replace kg := keep B kg; replace hL := hL.keepB B; replace hO2 := own_keep hO2 B; clear B; refine vg (Pz b21 0) 2 rfl rfl rfl rfl ?_; refine st_end ?_; subst hQ; refine wp_ret ?_
  repeat (first | refine ret_out ?_ | refine ret_blk ?_)
  exact bodyPost_ret (results_tmp Try.results25 _ _ _) rfl ⟨b21, rfl, ⟨g2, c2, by rw [← hn]; exact k21, ge_b21, by rw [← hn]; exact hO2⟩, E⟩
end Go.Proofs.Ytgnkcmmpbohafaa
