/- An edge is set behind all others; a new graph. -/
import Derived.Test.YtgnkcmmpbohafaaGSet
namespace Go.Proofs.Ytgnkcmmpbohafaa
open Go.RowKit
set_option linter.unusedVariables false
set_option linter.unusedSimpArgs false
set_option maxRecDepth 100000

/-- a graph of one's own -/
def Gr (W : World) (base g : Nat) (L : List EV) : Prop := ∃ b c, W.heap[g]? = some (.cells #[.slice (some ⟨b, 0, none⟩) L.length c] 105) ∧ base ≤ g ∧ W.ownsRow base 49 13 (.slice (some ⟨b, 0, none⟩) L.length c) L.length (cE L)
theorem own_Es {W : World} {base b n c : Nat} {L : List EV} (h : W.ownsRow base 49 13 (.slice (some ⟨b, 0, none⟩) n c) n (cE L)) : Es W W.heap.size (some ⟨b, 0, none⟩) L := by
  obtain ⟨cur, hc⟩ := own_blk h
  refine .inr ⟨b, 0, rfl, lt_of hc, ⟨cur, hc⟩, fun j u hu => ?_⟩
  have := World.ownsRow.cells h (g := b) rfl j u hu
  rw [Addr.add_mid] at this
  exact this
theorem Gr.keep {W W' : World} {base g : Nat} {L : List EV} (h : Gr W base g L) (hB : Below W.heap.size W W') : Gr W' base g L := by
  obtain ⟨b, c, h1, h2, h3⟩ := h
  exact ⟨b, c, Proofs.Ytgnkcmmpbohafaa.keep hB h1, h2, own_keep h3 hB⟩
set_option maxHeartbeats 16000000 in
theorem set_end {base g : Nat} {L : List EV} {e : EV} (w : World) (hG : Gr w base g L) (hb : base ≤ w.heap.size) (hs : srt L) (hl : ∀ d ∈ L, ltE d e) (hn : L.length ≤ 63) (he : EB e) : Calls Try.prog 21 #[.pointer (some ⟨g, 0, none⟩), .agg (EL e)] w fun q w' => q = .returned (.int .i64 0) ∧ Gr w' base g (L ++ [e]) ∧ Below base w w' := by
  obtain ⟨b, c, kg, hgb, hO⟩ := hG
  have gb_g := hgb
  obtain ⟨curb, kb⟩ := own_blk hO
  have gb_b : base ≤ b := own_ge hO rfl
  have E : Below base w w := Below.refl _ _
  go_enter Try.func21, Try.ntmps21
  refine wq fun Q hQ => ?_
  refine st_new (fun b => .pointer (some ⟨b, 0, none⟩)) (some 3) rfl rfl (ex_box rfl rfl) ?_
  intro b21 W1 k21 g21 B
  simp only [zp]
  have ne_b21_g : b21 ≠ g := fun e => by have := lt_of kg; omega
  have ne_b21_b : b21 ≠ b := fun e => by have := lt_of kb; omega
  have ge_b21 := Nat.le_trans E.size g21
  replace E := E.trans ((B).mono (Nat.le_trans hb E.size))
  replace kg := keep B kg
  replace kb := keep B kb
  replace hO := own_keep hO B
  clear B
  refine sg (.int .i64 0) 4 rfl rfl rfl rfl ?_
  simp only [zp]
  refine st_end ?_
  subst hQ
  refine wp_seq ?_
  refine wp_block ?_
  refine wq fun Q hQ => ?_
  refine sm (.pointer (some ⟨g, 0, none⟩)) 8 rfl rfl rfl rfl ?_
  simp only [zp]
  refine st_call (some 9) rfl rfl (closed_any W1 kg) (ex_call (f := 33) (vs := [(.pointer (some ⟨g, 0, none⟩))]) rfl (cf33 _) rfl) ?_
  rintro e W2 ⟨rfl, B⟩
  refine ⟨_, rfl, ?_⟩
  simp only [zp]
  replace E := E.trans ((B).mono (Nat.le_trans hb E.size))
  replace kg := keep B kg
  replace kb := keep B kb
  replace hO := own_keep hO B
  replace k21 := keep B k21
  refine sg (.bool false) 7 rfl rfl rfl rfl ?_
  simp only [zp]
  refine st_end ?_
  subst hQ
  refine wp_cond_false rfl ?_
  refine wq fun Q hQ => ?_
  refine sv (.agg (EL e)) 11 rfl rfl (ex_load (p := (.pointer (some ⟨b21, 0, none⟩))) rfl rfl (ld_all k21 Try.underlying49 rfl inf49)) ?_
  simp only [zp]
  refine st_call (some 12) rfl rfl (mayE_any W2 he.b he.cap he.ok) (ex_call (f := 62) (vs := [(.agg (EL e))]) rfl (cf62 _) rfl) ?_
  rintro e W3 ⟨rfl, B⟩
  refine ⟨_, rfl, ?_⟩
  simp only [zp]
  replace E := E.trans ((B).mono (Nat.le_trans hb E.size))
  replace kg := keep B kg
  replace kb := keep B kb
  replace hO := own_keep hO B
  replace k21 := keep B k21
  refine sv (.bool false) 13 rfl rfl (ex_not rfl rfl rfl) ?_
  simp only [zp]
  refine sg (.bool false) 10 rfl rfl rfl rfl ?_
  simp only [zp]
  refine st_end ?_
  subst hQ
  refine wp_cond_false rfl ?_
  refine wp_skip ?_
  refine wq fun Q hQ => ?_
  refine sm (.pointer (some ⟨g, 0, none⟩)) 15 rfl rfl rfl rfl ?_
  simp only [zp]
  refine sv (.pointer (some ⟨b21, 0, none⟩)) 16 rfl rfl (ex_fa (p := (.pointer (some ⟨b21, 0, none⟩))) rfl rfl (fa49_0 _ _)) ?_
  simp only [zp]
  refine sv (.int .i64 e.ch) 17 rfl rfl (ex_load (p := (.pointer (some ⟨b21, 0, none⟩))) rfl rfl (ld3 (at_cell k21 rfl))) ?_
  simp only [zp]
  refine sv (.pointer (some ⟨b21, 1, none⟩)) 18 rfl rfl (ex_fa (p := (.pointer (some ⟨b21, 0, none⟩))) rfl rfl (fa49_1 _ _)) ?_
  simp only [zp]
  refine sv (.int .i64 e.fr) 19 rfl rfl (ex_load (p := (.pointer (some ⟨b21, 1, none⟩))) rfl rfl (ld3 (at_cell k21 rfl))) ?_
  simp only [zp]
  refine st_call (some 20) rfl rfl (place_any (ch := e.ch) (fr := e.fr) W3 kg (own_Es hO) rfl (by omega) hs) (ex_call (f := 63) (vs := [(.pointer (some ⟨g, 0, none⟩)), (.int .i64 e.ch), (.int .i64 e.fr)]) rfl (cf63 _) rfl) ?_
  rintro e W4 ⟨i, fd, rfl, hi, p1, p2, p3, B⟩
  have hin : L.length = i := by
    by_cases hq : i < L.length
    · have h1 := p2 i L[i] (Nat.le_refl _) (List.getElem?_eq_getElem hq)
      have h2 := hl L[i] (List.getElem_mem hq)
      have h3 := ord_lt L[i] e.ch e.fr
      unfold ltE at h2
      omega
    · omega
  subst hin
  obtain rfl : fd = false := by
    cases fd
    · rfl
    · obtain ⟨d, hd, _⟩ := p3.1 rfl
      rw [List.getElem?_eq_none (Nat.le_refl _)] at hd
      cases hd
  refine ⟨_, rfl, ?_⟩
  simp only [zp]
  replace E := E.trans ((B).mono (Nat.le_trans hb E.size))
  replace kg := keep B kg
  replace kb := keep B kb
  replace hO := own_keep hO B
  replace k21 := keep B k21
  refine sm (.tuple #[(.int .i64 (L.length : Nat)), (.bool false)]) 14 rfl rfl rfl rfl ?_
  simp only [zp]
  refine sv (.int .i64 (L.length : Nat)) 21 rfl rfl (ex_ext rfl rfl rfl) ?_
  simp only [zp]
  refine sv (.bool false) 22 rfl rfl (ex_ext rfl rfl rfl) ?_
  simp only [zp]
  refine sg (.int .i64 (L.length : Nat)) 5 rfl rfl rfl rfl ?_
  simp only [zp]
  refine sg (.bool false) 6 rfl rfl rfl rfl ?_
  simp only [zp]
  refine st_end ?_
  subst hQ
  refine wp_seq ?_
  refine wp_block ?_
  refine wq fun Q hQ => ?_
  refine sm (.bool false) 35 rfl rfl rfl rfl ?_
  simp only [zp]
  refine sg (.bool false) 34 rfl rfl rfl rfl ?_
  simp only [zp]
  refine st_end ?_
  subst hQ
  refine wp_cond_false rfl ?_
  refine wq fun Q hQ => ?_
  refine sm (.pointer (some ⟨g, 0, none⟩)) 44 rfl rfl rfl rfl ?_
  simp only [zp]
  refine sv (.pointer (some ⟨g, 0, none⟩)) 45 rfl rfl (ex_nil (p := (.pointer (some ⟨g, 0, none⟩))) rfl rfl rfl) ?_
  simp only [zp]
  refine sv (.pointer (some ⟨g, 0, none⟩)) 46 rfl rfl (ex_fa (p := (.pointer (some ⟨g, 0, none⟩))) rfl rfl (fa105_0 _ _)) ?_
  simp only [zp]
  refine sv (.slice (some ⟨b, 0, none⟩) L.length c) 47 rfl rfl (ex_load (p := (.pointer (some ⟨g, 0, none⟩))) rfl rfl (ld33 (at_cell kg rfl))) ?_
  simp only [zp]
  refine sv (.int .i64 (L.length : Nat)) 48 rfl rfl (ex_len rfl rfl (len33 _ _ _ _ _)) ?_
  simp only [zp]
  refine sv (.bool false) 49 rfl rfl (ex_bin (u := (.int .i64 (L.length : Nat))) (r := (.int .i64 64)) rfl rfl rfl (eg3 _ _ _ _ _ _) (geq3 _ (decide_eq_false (by omega)))) ?_
  simp only [zp]
  refine sg (.bool false) 43 rfl rfl rfl rfl ?_
  simp only [zp]
  refine st_end ?_
  subst hQ
  refine wp_cond_false rfl ?_
  obtain ⟨W5, hwd⟩ : ∃ wd, W4.drew = wd := ⟨_, rfl⟩
  refine wp_region_held (S := fun W => Kept (fun k => k = g ∨ k = b) W5 W) (by kernel_rfl) ?_
  show wpAnyH _ _ _ _ _ _ _ _ W4.drew
  rw [hwd]
  refine capQ fun Q hQ => ?_
  have hQP : ∀ c (a : Act) (d : Nat) v w, Q (.panic c) (a.put (some d) v) w → Q (.panic c) a w := by
    subst hQ
    exact fun _ _ _ _ _ h => h
  have BD : Below W4.heap.size W4 W5 := by rw [← hwd]; exact below_drewB (Below.refl _ _)
  clear hwd
  replace E := E.trans ((BD).mono (Nat.le_trans hb E.size))
  replace kg := keep BD kg
  replace kb := keep BD kb
  replace hO := own_keep hO BD
  replace k21 := keep BD k21
  clear BD
  have S : Kept (fun k => k = g ∨ k = b) W5 W5 := Kept.refl _ _
  have d_kg := kg
  have d_kb := kb
  have d_k21 := k21
  have d_hO := hO
  refine ah_take (v := (.pointer (some ⟨g, 0, none⟩))) (i := 0) (some 23) rfl rfl (by kernel_rfl) (by kernel_rfl) (by kernel_rfl) rfl (fun W hK => ex_mv rfl rfl) S (fun c a w h => hQP c a _ _ w h) ?_
  simp only [zp]
  refine ah_take (v := (.pointer (some ⟨g, 0, none⟩))) (i := 1) (some 24) rfl rfl (by kernel_rfl) (by kernel_rfl) (by kernel_rfl) rfl (fun W hK => ex_mv rfl rfl) S (fun c a w h => hQP c a _ _ w h) ?_
  simp only [zp]
  refine ah_take (v := (.pointer (some ⟨g, 0, none⟩))) (i := 2) (some 25) rfl rfl (by kernel_rfl) (by kernel_rfl) (by kernel_rfl) rfl (fun W hK => ex_nil (p := (.pointer (some ⟨g, 0, none⟩))) rfl rfl rfl) S (fun c a w h => hQP c a _ _ w h) ?_
  simp only [zp]
  refine ah_take (v := (.pointer (some ⟨g, 0, none⟩))) (i := 3) (some 26) rfl rfl (by kernel_rfl) (by kernel_rfl) (by kernel_rfl) rfl (fun W hK => ex_fa (p := (.pointer (some ⟨g, 0, none⟩))) rfl rfl (fa105_0 _ _)) S (fun c a w h => hQP c a _ _ w h) ?_
  simp only [zp]
  refine ah_take (v := (.int .i64 (L.length : Nat))) (i := 5) (some 28) rfl rfl (by kernel_rfl) (by kernel_rfl) (by kernel_rfl) rfl (fun W hK => ex_mv rfl rfl) S (fun c a w h => hQP c a _ _ w h) ?_
  simp only [zp]
  refine ah_take (v := (.agg (EL e))) (i := 6) (some 29) rfl rfl (by kernel_rfl) (by kernel_rfl) (by kernel_rfl) rfl (fun W hK => ex_load (p := (.pointer (some ⟨b21, 0, none⟩))) rfl rfl (ld_all (keepK hK d_k21 (fun e => e.elim (fun e => ne_tag d_k21 d_kg (by decide) e) (fun e => by first | exact ne_b21_b e | exact ne_b_b21 e.symm))) Try.underlying49 rfl inf49)) S (fun c a w h => hQP c a _ _ w h) ?_
  simp only [zp]
  refine cap2 fun ops SS hops hS => ?_
  suffices FIN : ∀ (bt30 : Nat) (g2 : Nat) (c2 : Nat) (Wq : World) (gd_bt30 : W5.heap.size ≤ bt30) (ge_bt30 : w.heap.size ≤ bt30) (ne_b_bt30 : b ≠ bt30) (ne_bt30_b : bt30 ≠ b) (ne_b21_bt30 : b21 ≠ bt30) (ne_bt30_b21 : bt30 ≠ b21) (E : Below base w Wq) (k21 : Wq.heap[b21]? = some (.cells (EL e) 49)) (S : Kept (fun k => k = g ∨ k = b) W5 Wq) (kt30 : Wq.heap[bt30]? = some (.cells (EL e) 49)) (hO2 : Wq.ownsRow base 49 13 (.slice (some ⟨g2, 0, none⟩) (L.length + 1) c2) (L.length + 1) (cE (L ++ [e]))) (kg : Wq.heap[g]? = some (.cells #[(.slice (some ⟨g2, 0, none⟩) (L.length + 1) c2)] 105)), wpAnyH Try.prog .any ops Q SS 0 #[true, true, true, true, true, true, true, true, true, true, true, true] { tmps := #[(.pointer (some ⟨g, 0, none⟩)), (.agg (EL e)), undef, (.pointer (some ⟨b21, 0, none⟩)), (.int .i64 0), (.int .i64 (L.length : Nat)), (.bool false), (.bool false), (.pointer (some ⟨g, 0, none⟩)), (.bool false), (.bool false), (.agg (EL e)), (.bool true), (.bool false), (.tuple #[(.int .i64 (L.length : Nat)), (.bool false)]), (.pointer (some ⟨g, 0, none⟩)), (.pointer (some ⟨b21, 0, none⟩)), (.int .i64 e.ch), (.pointer (some ⟨b21, 1, none⟩)), (.int .i64 e.fr), (.tuple #[(.int .i64 (L.length : Nat)), (.bool false)]), (.int .i64 (L.length : Nat)), (.bool false), (.pointer (some ⟨g, 0, none⟩)), (.pointer (some ⟨g, 0, none⟩)), (.pointer (some ⟨g, 0, none⟩)), (.pointer (some ⟨g, 0, none⟩)), (.slice (some ⟨b, 0, none⟩) L.length c), (.int .i64 (L.length : Nat)), (.agg (EL e)), (.slice (some ⟨bt30, 0, none⟩) 1 1), (.slice (some ⟨g2, 0, none⟩) (L.length + 1) c2), (.pointer (some ⟨g, 0, none⟩)), (.pointer (some ⟨g, 0, none⟩)), (.bool false), (.bool false), undef, undef, undef, undef, undef, undef, undef, (.bool false), (.pointer (some ⟨g, 0, none⟩)), (.pointer (some ⟨g, 0, none⟩)), (.pointer (some ⟨g, 0, none⟩)), (.slice (some ⟨b, 0, none⟩) L.length c), (.int .i64 (L.length : Nat)), (.bool false)], defers := [] } Wq by
    have ST1 : ∀ (bt30 : Nat) (g2 : Nat) (c2 : Nat) (Wq : World) (gd_bt30 : W5.heap.size ≤ bt30) (ge_bt30 : w.heap.size ≤ bt30) (ne_b_bt30 : b ≠ bt30) (ne_bt30_b : bt30 ≠ b) (ne_b21_bt30 : b21 ≠ bt30) (ne_bt30_b21 : bt30 ≠ b21) (E : Below base w Wq) (kg : Wq.heap[g]? = some (.cells #[.slice (some ⟨b, 0, none⟩) L.length c] 105)) (k21 : Wq.heap[b21]? = some (.cells (EL e) 49)) (S : Kept (fun k => k = g ∨ k = b) W5 Wq) (kt30 : Wq.heap[bt30]? = some (.cells (EL e) 49)) (hO2 : Wq.ownsRow base 49 13 (.slice (some ⟨g2, 0, none⟩) (L.length + 1) c2) (L.length + 1) (cE (L ++ [e]))), wpAnyH Try.prog .any ops Q SS 1 #[true, true, true, true, true, true, true, true, true, true, true, false] { tmps := #[(.pointer (some ⟨g, 0, none⟩)), (.agg (EL e)), undef, (.pointer (some ⟨b21, 0, none⟩)), (.int .i64 0), (.int .i64 (L.length : Nat)), (.bool false), (.bool false), (.pointer (some ⟨g, 0, none⟩)), (.bool false), (.bool false), (.agg (EL e)), (.bool true), (.bool false), (.tuple #[(.int .i64 (L.length : Nat)), (.bool false)]), (.pointer (some ⟨g, 0, none⟩)), (.pointer (some ⟨b21, 0, none⟩)), (.int .i64 e.ch), (.pointer (some ⟨b21, 1, none⟩)), (.int .i64 e.fr), (.tuple #[(.int .i64 (L.length : Nat)), (.bool false)]), (.int .i64 (L.length : Nat)), (.bool false), (.pointer (some ⟨g, 0, none⟩)), (.pointer (some ⟨g, 0, none⟩)), (.pointer (some ⟨g, 0, none⟩)), (.pointer (some ⟨g, 0, none⟩)), (.slice (some ⟨b, 0, none⟩) L.length c), (.int .i64 (L.length : Nat)), (.agg (EL e)), (.slice (some ⟨bt30, 0, none⟩) 1 1), (.slice (some ⟨g2, 0, none⟩) (L.length + 1) c2), (.pointer (some ⟨g, 0, none⟩)), (.pointer (some ⟨g, 0, none⟩)), (.bool false), (.bool false), undef, undef, undef, undef, undef, undef, undef, (.bool false), (.pointer (some ⟨g, 0, none⟩)), (.pointer (some ⟨g, 0, none⟩)), (.pointer (some ⟨g, 0, none⟩)), (.slice (some ⟨b, 0, none⟩) L.length c), (.int .i64 (L.length : Nat)), (.bool false)], defers := [] } Wq := by
      intro bt30 g2 c2 Wq gd_bt30 ge_bt30 ne_b_bt30 ne_bt30_b ne_b21_bt30 ne_bt30_b21 E kg k21 S kt30 hO2
      refine ops_in hops hS ?_
      refine ah_or1 (i := 11) (by kernel_rfl) ?_
      · skip
        obtain ⟨kn, K⟩ := put_cell (i := 0) (.slice (some ⟨g2, 0, none⟩) (L.length + 1) c2) kg
        refine nx_sk rfl rfl rfl (ex_store rfl rfl rfl (sto33 (at_cell kg rfl) (unfrozen kg))) (S.putL K) ?_
        obtain ⟨W10, hW2⟩ : ∃ W', Wq.setCell ⟨g, 0, none⟩ (.slice (some ⟨g2, 0, none⟩) (L.length + 1) c2) = W' := ⟨_, rfl⟩
        rw [hW2] at kn K ⊢
        replace E := E.trans (K.below (Nat.le_trans hb E.size) (fun k e => by subst e; exact gb_g))
        replace k21 := keepK K k21 (fun e => ne_tag k21 kg (by decide) e)
        replace S := S.putL K
        replace kt30 := keepK K kt30 (fun e => ne_tag kt30 kg (by decide) e)
        replace hO2 := own_keepK hO2 K (fun q hq e => own_ne hO2 kg (by decide) (by rw [hq, e]))
        replace kg := kn
        clear kn K
        refine ah_L (L' := #[true, true, true, true, true, true, true, true, true, true, true, true]) (by kernel_rfl) ?_
        refine ops_out hops hS ?_
        exact FIN bt30 g2 c2 W10 gd_bt30 ge_bt30 ne_b_bt30 ne_bt30_b ne_b21_bt30 ne_bt30_b21 E k21 S kt30 hO2 kg
    have ST2 : ∀ (bt30 : Nat) (Wq : World) (gd_bt30 : W5.heap.size ≤ bt30) (ge_bt30 : w.heap.size ≤ bt30) (ne_b_bt30 : b ≠ bt30) (ne_bt30_b : bt30 ≠ b) (ne_b21_bt30 : b21 ≠ bt30) (ne_bt30_b21 : bt30 ≠ b21) (E : Below base w Wq) (kg : Wq.heap[g]? = some (.cells #[.slice (some ⟨b, 0, none⟩) L.length c] 105)) (kb : Wq.heap[b]? = some (.cells curb 49)) (hO : Wq.ownsRow base 49 13 (.slice (some ⟨b, 0, none⟩) L.length c) L.length (cE L)) (k21 : Wq.heap[b21]? = some (.cells (EL e) 49)) (S : Kept (fun k => k = g ∨ k = b) W5 Wq) (kt30 : Wq.heap[bt30]? = some (.cells (EL e) 49)), wpAnyH Try.prog .any ops Q SS 4 #[true, true, true, true, true, true, true, true, false, false, false, false] { tmps := #[(.pointer (some ⟨g, 0, none⟩)), (.agg (EL e)), undef, (.pointer (some ⟨b21, 0, none⟩)), (.int .i64 0), (.int .i64 (L.length : Nat)), (.bool false), (.bool false), (.pointer (some ⟨g, 0, none⟩)), (.bool false), (.bool false), (.agg (EL e)), (.bool true), (.bool false), (.tuple #[(.int .i64 (L.length : Nat)), (.bool false)]), (.pointer (some ⟨g, 0, none⟩)), (.pointer (some ⟨b21, 0, none⟩)), (.int .i64 e.ch), (.pointer (some ⟨b21, 1, none⟩)), (.int .i64 e.fr), (.tuple #[(.int .i64 (L.length : Nat)), (.bool false)]), (.int .i64 (L.length : Nat)), (.bool false), (.pointer (some ⟨g, 0, none⟩)), (.pointer (some ⟨g, 0, none⟩)), (.pointer (some ⟨g, 0, none⟩)), (.pointer (some ⟨g, 0, none⟩)), (.slice (some ⟨b, 0, none⟩) L.length c), (.int .i64 (L.length : Nat)), (.agg (EL e)), (.slice (some ⟨bt30, 0, none⟩) 1 1), undef, undef, undef, (.bool false), (.bool false), undef, undef, undef, undef, undef, undef, undef, (.bool false), (.pointer (some ⟨g, 0, none⟩)), (.pointer (some ⟨g, 0, none⟩)), (.pointer (some ⟨g, 0, none⟩)), (.slice (some ⟨b, 0, none⟩) L.length c), (.int .i64 (L.length : Nat)), (.bool false)], defers := [] } Wq := by
      intro bt30 Wq gd_bt30 ge_bt30 ne_b_bt30 ne_bt30_b ne_b21_bt30 ne_bt30_b21 E kg kb hO k21 S kt30
      refine ops_in hops hS ?_
      refine ah_or1 (i := 8) (by kernel_rfl) ?_
      · skip
        refine nx_call (some 31) rfl rfl rfl (ins_end Wq hO rfl (by omega) kt30 (Nat.le_trans hb E.size)) (ex_call (f := 64) (vs := [(.slice (some ⟨b, 0, none⟩) L.length c), (.int .i64 (L.length : Nat)), (.slice (some ⟨bt30, 0, none⟩) 1 1)]) rfl (cf64 _) rfl) ?_
        rintro e W11 ⟨g2, c2, rfl, hO2, hKs⟩
        refine ⟨_, rfl, S.putR hKs, ?_⟩
        simp only [zp]
        replace E := E.trans (hKs.below (Nat.le_trans hb E.size) (fun k e => by subst e; exact gb_b))
        replace kg := keepK hKs kg (fun e => ne_tag kg kb (by decide) e)
        replace k21 := keepK hKs k21 (fun e => by first | exact ne_b21_b e | exact ne_b_b21 e.symm)
        replace S := S.putR hKs
        replace kt30 := keepK hKs kt30 (fun e => by first | exact ne_bt30_b e | exact ne_b_bt30 e.symm)
        refine ah_take (v := (.pointer (some ⟨g, 0, none⟩))) (i := 9) (some 32) rfl rfl (by kernel_rfl) (by kernel_rfl) (by kernel_rfl) rfl (fun W hK => ex_nil (p := (.pointer (some ⟨g, 0, none⟩))) rfl rfl rfl) S (fun c a w h => hQP c a _ _ w h) ?_
        simp only [zp]
        refine ah_take (v := (.pointer (some ⟨g, 0, none⟩))) (i := 10) (some 33) rfl rfl (by kernel_rfl) (by kernel_rfl) (by kernel_rfl) rfl (fun W hK => ex_fa (p := (.pointer (some ⟨g, 0, none⟩))) rfl rfl (fa105_0 _ _)) S (fun c a w h => hQP c a _ _ w h) ?_
        simp only [zp]
        refine ah_L (L' := #[true, true, true, true, true, true, true, true, true, true, true, false]) (by kernel_rfl) ?_
        refine ops_out hops hS ?_
        exact ST1 bt30 g2 c2 W11 gd_bt30 ge_bt30 ne_b_bt30 ne_bt30_b ne_b21_bt30 ne_bt30_b21 E kg k21 S kt30 hO2
    have ST3 : ∀ (Wq : World) (E : Below base w Wq) (kg : Wq.heap[g]? = some (.cells #[.slice (some ⟨b, 0, none⟩) L.length c] 105)) (kb : Wq.heap[b]? = some (.cells curb 49)) (hO : Wq.ownsRow base 49 13 (.slice (some ⟨b, 0, none⟩) L.length c) L.length (cE L)) (k21 : Wq.heap[b21]? = some (.cells (EL e) 49)) (S : Kept (fun k => k = g ∨ k = b) W5 Wq), wpAnyH Try.prog .any ops Q SS 5 #[true, true, true, true, true, true, true, false, false, false, false, false] { tmps := #[(.pointer (some ⟨g, 0, none⟩)), (.agg (EL e)), undef, (.pointer (some ⟨b21, 0, none⟩)), (.int .i64 0), (.int .i64 (L.length : Nat)), (.bool false), (.bool false), (.pointer (some ⟨g, 0, none⟩)), (.bool false), (.bool false), (.agg (EL e)), (.bool true), (.bool false), (.tuple #[(.int .i64 (L.length : Nat)), (.bool false)]), (.pointer (some ⟨g, 0, none⟩)), (.pointer (some ⟨b21, 0, none⟩)), (.int .i64 e.ch), (.pointer (some ⟨b21, 1, none⟩)), (.int .i64 e.fr), (.tuple #[(.int .i64 (L.length : Nat)), (.bool false)]), (.int .i64 (L.length : Nat)), (.bool false), (.pointer (some ⟨g, 0, none⟩)), (.pointer (some ⟨g, 0, none⟩)), (.pointer (some ⟨g, 0, none⟩)), (.pointer (some ⟨g, 0, none⟩)), (.slice (some ⟨b, 0, none⟩) L.length c), (.int .i64 (L.length : Nat)), (.agg (EL e)), undef, undef, undef, undef, (.bool false), (.bool false), undef, undef, undef, undef, undef, undef, undef, (.bool false), (.pointer (some ⟨g, 0, none⟩)), (.pointer (some ⟨g, 0, none⟩)), (.pointer (some ⟨g, 0, none⟩)), (.slice (some ⟨b, 0, none⟩) L.length c), (.int .i64 (L.length : Nat)), (.bool false)], defers := [] } Wq := by
      intro Wq E kg kb hO k21 S
      refine ops_in hops hS ?_
      refine ah_or1 (i := 7) (by kernel_rfl) ?_
      · skip
        refine nx_new (fun b => .slice (some ⟨b, 0, none⟩) 1 1) (some 30) rfl rfl rfl (ex_bsl1 (u := (.agg (EL e))) rfl rfl (bslE e _)) ?_
        intro bt30 W12 kt30 gt30 B
        refine ⟨S.next B, ?_⟩
        simp only [zp]
        have gd_bt30 := Nat.le_trans S.size gt30
        have ne_bt30_b : bt30 ≠ b := fun e => by have := lt_of kb; omega
        have ne_b_bt30 := ne_bt30_b.symm
        have ne_bt30_b21 : bt30 ≠ b21 := fun e => by have := lt_of k21; omega
        have ne_b21_bt30 := ne_bt30_b21.symm
        have ge_bt30 := Nat.le_trans E.size gt30
        replace E := E.trans ((B).mono (Nat.le_trans hb E.size))
        replace kg := keep B kg
        replace kb := keep B kb
        replace hO := own_keep hO B
        replace k21 := keep B k21
        replace S := S.next B
        clear B
        refine ah_L (L' := #[true, true, true, true, true, true, true, true, false, false, false, false]) (by kernel_rfl) ?_
        refine ops_out hops hS ?_
        exact ST2 bt30 W12 gd_bt30 ge_bt30 ne_b_bt30 ne_bt30_b ne_b21_bt30 ne_bt30_b21 E kg kb hO k21 S kt30
    have ST4 : ∀ (bt30 : Nat) (Wq : World) (gd_bt30 : W5.heap.size ≤ bt30) (ge_bt30 : w.heap.size ≤ bt30) (ne_b_bt30 : b ≠ bt30) (ne_bt30_b : bt30 ≠ b) (ne_b21_bt30 : b21 ≠ bt30) (ne_bt30_b21 : bt30 ≠ b21) (E : Below base w Wq) (kg : Wq.heap[g]? = some (.cells #[.slice (some ⟨b, 0, none⟩) L.length c] 105)) (kb : Wq.heap[b]? = some (.cells curb 49)) (hO : Wq.ownsRow base 49 13 (.slice (some ⟨b, 0, none⟩) L.length c) L.length (cE L)) (k21 : Wq.heap[b21]? = some (.cells (EL e) 49)) (S : Kept (fun k => k = g ∨ k = b) W5 Wq) (kt30 : Wq.heap[bt30]? = some (.cells (EL e) 49)), wpAnyH Try.prog .any ops Q SS 5 #[true, true, true, true, false, true, true, true, false, false, false, false] { tmps := #[(.pointer (some ⟨g, 0, none⟩)), (.agg (EL e)), undef, (.pointer (some ⟨b21, 0, none⟩)), (.int .i64 0), (.int .i64 (L.length : Nat)), (.bool false), (.bool false), (.pointer (some ⟨g, 0, none⟩)), (.bool false), (.bool false), (.agg (EL e)), (.bool true), (.bool false), (.tuple #[(.int .i64 (L.length : Nat)), (.bool false)]), (.pointer (some ⟨g, 0, none⟩)), (.pointer (some ⟨b21, 0, none⟩)), (.int .i64 e.ch), (.pointer (some ⟨b21, 1, none⟩)), (.int .i64 e.fr), (.tuple #[(.int .i64 (L.length : Nat)), (.bool false)]), (.int .i64 (L.length : Nat)), (.bool false), (.pointer (some ⟨g, 0, none⟩)), (.pointer (some ⟨g, 0, none⟩)), (.pointer (some ⟨g, 0, none⟩)), (.pointer (some ⟨g, 0, none⟩)), undef, (.int .i64 (L.length : Nat)), (.agg (EL e)), (.slice (some ⟨bt30, 0, none⟩) 1 1), undef, undef, undef, (.bool false), (.bool false), undef, undef, undef, undef, undef, undef, undef, (.bool false), (.pointer (some ⟨g, 0, none⟩)), (.pointer (some ⟨g, 0, none⟩)), (.pointer (some ⟨g, 0, none⟩)), (.slice (some ⟨b, 0, none⟩) L.length c), (.int .i64 (L.length : Nat)), (.bool false)], defers := [] } Wq := by
      intro bt30 Wq gd_bt30 ge_bt30 ne_b_bt30 ne_bt30_b ne_b21_bt30 ne_bt30_b21 E kg kb hO k21 S kt30
      refine ops_in hops hS ?_
      refine ah_or1 (i := 4) (by kernel_rfl) ?_
      · skip
        refine nx_to (v := (.slice (some ⟨b, 0, none⟩) L.length c)) (some 27) rfl rfl rfl (ex_load (p := (.pointer (some ⟨g, 0, none⟩))) rfl rfl (ld33 (at_cell kg rfl))) S ?_
        simp only [zp]
        refine ah_L (L' := #[true, true, true, true, true, true, true, true, false, false, false, false]) (by kernel_rfl) ?_
        refine ops_out hops hS ?_
        exact ST2 bt30 Wq gd_bt30 ge_bt30 ne_b_bt30 ne_bt30_b ne_b21_bt30 ne_bt30_b21 E kg kb hO k21 S kt30
    refine ops_in hops hS ?_
    refine ah_or2 (i := 4) (j := 7) (by kernel_rfl) ?_ ?_
    · skip
      refine nx_to (v := (.slice (some ⟨b, 0, none⟩) L.length c)) (some 27) rfl rfl rfl (ex_load (p := (.pointer (some ⟨g, 0, none⟩))) rfl rfl (ld33 (at_cell kg rfl))) S ?_
      simp only [zp]
      refine ah_L (L' := #[true, true, true, true, true, true, true, false, false, false, false, false]) (by kernel_rfl) ?_
      refine ops_out hops hS ?_
      exact ST3 W5 E kg kb hO k21 S
    · skip
      refine nx_new (fun b => .slice (some ⟨b, 0, none⟩) 1 1) (some 30) rfl rfl rfl (ex_bsl1 (u := (.agg (EL e))) rfl rfl (bslE e _)) ?_
      intro bt30 W13 kt30 gt30 B
      refine ⟨S.next B, ?_⟩
      simp only [zp]
      have gd_bt30 := Nat.le_trans S.size gt30
      have ne_bt30_b : bt30 ≠ b := fun e => by have := lt_of kb; omega
      have ne_b_bt30 := ne_bt30_b.symm
      have ne_bt30_b21 : bt30 ≠ b21 := fun e => by have := lt_of k21; omega
      have ne_b21_bt30 := ne_bt30_b21.symm
      have ge_bt30 := Nat.le_trans E.size gt30
      replace E := E.trans ((B).mono (Nat.le_trans hb E.size))
      replace kg := keep B kg
      replace kb := keep B kb
      replace hO := own_keep hO B
      replace k21 := keep B k21
      replace S := S.next B
      clear B
      refine ah_L (L' := #[true, true, true, true, false, true, true, true, false, false, false, false]) (by kernel_rfl) ?_
      refine ops_out hops hS ?_
      exact ST4 bt30 W13 gd_bt30 ge_bt30 ne_b_bt30 ne_bt30_b ne_b21_bt30 ne_bt30_b21 E kg kb hO k21 S kt30
  intro bt30 g2 c2 Wq gd_bt30 ge_bt30 ne_b_bt30 ne_bt30_b ne_b21_bt30 ne_bt30_b21 E k21 S kt30 hO2 kg
  try dsimp only
  refine ops_in hops hS ?_
  refine ah_done (by kernel_rfl) ?_
  clear hQP hops hS
  subst hQ
  clear S d_kg d_kb d_k21 d_hO
  refine wq fun Q hQ => ?_
  refine sg (.int .i64 0) 4 rfl rfl rfl rfl ?_
  simp only [zp]
  refine st_end ?_
  subst hQ
  refine wp_ret ?_
  repeat (first | refine ret_out ?_ | refine ret_blk ?_)
  exact bodyPost_ret (results_tmp Try.results21 _ _ _) rfl ⟨rfl, ⟨g2, c2, by rw [List.length_append]; exact kg, hgb, by rw [List.length_append]; exact hO2⟩, E⟩
set_option maxHeartbeats 4000000 in
theorem new_any (w : World) : Calls Try.prog 27 #[] w fun q w' => ∃ g, q = .returned (.pointer (some ⟨g, 0, none⟩)) ∧ Gr w' w.heap.size g [] ∧ Below w.heap.size w w' := by
  have E : Below w.heap.size w w := Below.refl _ _
  go_enter Try.func27, Try.ntmps27
  refine wq fun Q hQ => ?_
  refine sg (.pointer none) 0 rfl rfl rfl rfl ?_
  simp only [zp]
  refine st_end ?_
  subst hQ
  refine wq fun Q hQ => ?_
  refine st_new (fun b => .slice (some ⟨b, 0, none⟩) 0 0) (some 1) rfl rfl (ex_bsl0  rfl (bsl0 _)) ?_
  intro b21 W1 k21 g21 B
  simp only [zp]
  have ge_b21 := Nat.le_trans E.size g21
  replace E := below_next E B
  clear B
  refine sv (.agg #[(.slice (some ⟨b21, 0, none⟩) 0 0)]) 2 rfl rfl (ex_build1 (v1 := (.slice (some ⟨b21, 0, none⟩) 0 0)) rfl rfl (bG _ _ _ _)) ?_
  simp only [zp]
  refine st_new (fun b => .pointer (some ⟨b, 0, none⟩)) (some 3) rfl rfl (ex_box rfl rfl) ?_
  intro b22 W2 k22 g22 B
  simp only [zp]
  have ne_b22_b21 : b22 ≠ b21 := fun e => by have := lt_of k21; omega
  have ge_b22 := Nat.le_trans E.size g22
  replace E := below_next E B
  replace k21 := keep B k21
  clear B
  refine sg (.pointer (some ⟨b22, 0, none⟩)) 0 rfl rfl rfl rfl ?_
  simp only [zp]
  refine st_end ?_
  subst hQ
  refine wp_ret ?_
  exact bodyPost_ret (results_tmp Try.results27 _ _ _) rfl ⟨b22, rfl, ⟨b21, 0, k22, ge_b22, ⟨rfl, .inr ⟨b21, 0, _, rfl, ge_b21, k21, by decide, by decide, rfl, rfl⟩⟩⟩, E⟩
end Go.Proofs.Ytgnkcmmpbohafaa
