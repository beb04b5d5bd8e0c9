/- Policy: amount.Way over the fees of rules; Expiries, whatever comes. -/
import Derived.Test.YtfbaidmnnkcaeaaPExL
namespace Go.Proofs.Ytfbaidmnnkcaeaa
open Go.RowKit
set_option linter.unusedVariables false
set_option linter.unusedSimpArgs false
set_option maxRecDepth 100000

set_option maxHeartbeats 1000000 in
theorem way_bad (b off len cap : Nat) (fb fr : Nat → Int) (x : Int) (w : World) (hF : Fees w b off len fb fr) (hcap : len * 16 ≤ 140737488351232) (hbd : ∀ k, k < len → fb k ≤ 9223372036854775807) (h : rightsB fb fr len = false ∨ x < 0) :
    Calls Try.prog 21 #[.slice (some ⟨b, off, none⟩) len cap, .int .i64 x] w fun e w' => e = .returned (.tuple #[.slice none 0 0, .int .i64 1]) ∧ Below w.heap.size w w' := by
  have H1 := hide (fees_row b off len cap fb fr w (by omega) hF.lt (fun k hk => ⟨hF.base k hk, hF.rate k hk⟩) hbd)
  cases hR : rightsB fb fr len
  · rw [hR] at H1
    clear hF hbd hR h
    go_enter Try.func21, Try.ntmps21
    go_wp2_with fail
    refine H1.out.mono ?_
    rintro e w1 ⟨rfl, hb⟩
    have HB1 := hide hb
    clear hb H1
    go_wp2
    go_ret2
    exact ⟨rfl, HB1.out⟩
  · have hx : x < 0 := by rcases h with h | h; · rw [hR] at h; cases h
                          · exact h
    rw [hR] at H1
    clear hF hbd hR h
    go_enter Try.func21, Try.ntmps21
    go_wp2_with fail
    refine H1.out.mono ?_
    rintro e w1 ⟨rfl, hb⟩
    have HB1 := hide hb
    have z1 := hb.size
    clear hb H1
    go_wp2_with fail
    refine (may1_no _ x _ (by simp) hx).mono ?_
    rintro e w2 ⟨rfl, rfl⟩
    have HB2 := hide (HB1.out.alloc z1 (.cells #[.int .i64 x] 3))
    go_wp2
    go_ret2
    exact ⟨rfl, HB2.out⟩


theorem wl_at (fb fr : Nat → Int) (n : Nat) (x : Int) : ∀ m k, k ≤ m → (wl fb fr n x m).getD k 0 = wv fb fr n x (m - k)
  | 0, k, h => by
    have : k = 0 := by omega
    subst this
    rfl
  | m + 1, 0, h => rfl
  | m + 1, k + 1, h => by
    have := wl_at fb fr n x m k (by omega)
    rw [show m + 1 - (k + 1) = m - k by omega, ← this]
    rfl
theorem I64_wl (fb fr : Nat → Int) (n : Nat) (x : Int) (m k : Nat) (h : k ≤ m) : (I64 (wl fb fr n x m))[k]? = some (.int .i64 (wv fb fr n x (m - k))) := by
  rw [I64_at _ _ (by rw [wl_length]; omega), wl_at _ _ _ _ _ _ h]
set_option maxHeartbeats 1000000 in
theorem way_nil_bad (x : Int) (w : World) (hx : x < 0) :
    Calls Try.prog 21 #[.slice none 0 0, .int .i64 x] w fun e w' => e = .returned (.tuple #[.slice none 0 0, .int .i64 1]) ∧ Below w.heap.size w w' := by
  have H1 := hide (fees_none none 0 (fun _ => 0) (fun _ => 0) w)
  rw [show rightsB (fun _ => 0) (fun _ => 0) 0 = true from decide_eq_true fun j hj => absurd hj (Nat.not_lt_zero _)] at H1
  go_enter Try.func21, Try.ntmps21
  go_wp2_with fail
  refine H1.out.mono ?_
  rintro e w1 ⟨rfl, hb⟩
  have HB1 := hide hb
  have z1 := hb.size
  clear hb H1
  go_wp2_with fail
  refine (may1_no _ x _ (by simp) hx).mono ?_
  rintro e w2 ⟨rfl, rfl⟩
  have HB2 := hide (HB1.out.alloc z1 (.cells #[.int .i64 x] 3))
  go_wp2
  go_ret2
  exact ⟨rfl, HB2.out⟩
set_option maxHeartbeats 2000000 in
theorem way_nil_ok (x : Int) (w : World) (x0 : 0 ≤ x) (x2 : x ≤ 9223372036854775807) :
    Calls Try.prog 21 #[.slice none 0 0, .int .i64 x] w fun e w' => ∃ g, e = .returned (.tuple #[.slice (some ⟨g, 0, none⟩) 1 1, .int .i64 0]) ∧ Hid (w'.ownsRow w.heap.size 3 1 (.slice (some ⟨g, 0, none⟩) 1 1) 1 (I64 [x])) ∧ Below w.heap.size w w' := by
  obtain ⟨i0, hi, hz0, hz1, hz2⟩ := info_parts Try.info3
  have H1 := hide (fees_none none 0 (fun _ => 0) (fun _ => 0) w)
  rw [show rightsB (fun _ => 0) (fun _ => 0) 0 = true from decide_eq_true fun j hj => absurd hj (Nat.not_lt_zero _)] at H1
  go_enter Try.func21, Try.ntmps21
  go_wp2_with fail
  refine H1.out.mono ?_
  rintro e w1 ⟨rfl, hb⟩
  have HB1 := hide hb
  have z1 := hb.size
  clear hb H1
  go_wp2_with fail
  refine (may1_yes _ x _ (by simp) x0 x2).mono ?_
  rintro e w2 ⟨rfl, rfl⟩
  have HB2 := hide (HB1.out.alloc z1 (.cells #[.int .i64 x] 3))
  go_wp2_with (at_make; refine wpList_make_full _ rfl _ _ 36 rfl w.heap.size 3 i0 (.int .i64 0) 1 Try.underlying36 hi hz0 hz1 .i64 .i64 _ _ 1 rfl rfl (by omega) (by omega) (by rw [hz2]; omega) (by unfold maxLen; omega) (by simp; omega) ?_)
  intro w3 hown3 hg3
  have HB3 := hide (HB2.out.grown hg3 (by simp; omega) (fun k hk => by cases hk))
  rw [toList_madeCells_one] at hown3
  have HO3 := hide (show w3.ownsRow w.heap.size 3 1 (.slice (some ⟨w1.heap.size + 1, 0, none⟩) 1 1) 1 (I64 [0]) from hown3)
  have hgw : w.heap.size ≤ w1.heap.size + 1 := by omega
  clear hown3 hg3 HB1 HB2
  generalize w1.heap.size + 1 = g at *
  have c3 : w3.cell? ⟨g, 0, none⟩ = some (.int .i64 0) := by rw [HO3.out.cellAt 0 (by omega)]; rfl
  have f3 : w3.frozen? ⟨g, 0, none⟩ = false := HO3.out.frozenAt 0
  have st := hide (HO3.out.stored 0 (.int .i64 x))
  have z3 := HB3.out.size
  go_wp2
  refine wp_loop_rounds 1 ?_
  rw [rounds_succ]
  go_wp2
  go_ret2
  exact ⟨g, rfl, hide st.out.1, HB3.out.grown st.out.2 z3 (fun k hk => by cases hk; exact hgw)⟩
/-- fees of rules, as cells -/
def fL (qs : Nat → RV) : Nat → List Value
  | 0 => []
  | i + 1 => fL qs i ++ (FL (qs i)).toList
theorem fL_length (qs : Nat → RV) (n : Nat) : (fL qs n).length = n * 2 := by
  induction n with
  | zero => rfl
  | succ n ih => unfold fL; rw [List.length_append, ih]; show n * 2 + 2 = _; omega
theorem fL_at (qs : Nat → RV) : ∀ n k, k < n → (fL qs n)[k * 2]? = some (.int .i64 (qs k).b) ∧ (fL qs n)[k * 2 + 1]? = some (.int .i64 (qs k).r)
  | 0, k, h => by omega
  | n + 1, k, h => by
    have hl := fL_length qs n
    unfold fL
    by_cases e : k = n
    · subst e
      rw [List.getElem?_append_right (by omega), List.getElem?_append_right (by omega), hl, Nat.sub_self, show k * 2 + 1 - k * 2 = 1 by omega]
      exact ⟨rfl, rfl⟩
    · rw [List.getElem?_append_left (by omega), List.getElem?_append_left (by omega)]
      exact fL_at qs n k (by omega)
theorem Try.info23 : (Try.prog.info? 23).map (fun i => (i.zero, i.size, i.bytes)) = some (some (.agg #[.int .i64 0, .int .i64 0]), 2, 16) := by kernel_rfl
/-- one fee more -/
theorem app_fee {w W : World} {fo : Option Addr} {i fc bl : Nat} {qs : Nat → RV} (h : W.ownsRow w.heap.size 23 2 (.slice fo i fc) i (fL qs i)) (k : W.heap[bl]? = some (.cells (FL (qs i)) 23)) (hi : (i + 1) * 16 ≤ 140737488355328) (E : Below w.heap.size w W) :
    ∃ g' cp' W', (Builtin.append_ #[41, 41] 41 #[.slice fo i fc, .slice (some ⟨bl, 0, none⟩) 1 1]).run Try.prog W = .ok (.slice (some ⟨g', 0, none⟩) (i + 1) cp') W' ∧ W'.ownsRow w.heap.size 23 2 (.slice (some ⟨g', 0, none⟩) (i + 1) cp') (i + 1) (fL qs (i + 1)) ∧ Below w.heap.size w W' := by
  obtain ⟨i0, hi0, hz0, hz1, hz2⟩ := info_parts Try.info23
  obtain ⟨v', w', hrun, hown, hg, hiff⟩ := run_append_own (P := Try.prog) W w.heap.size 41 41 23 i0 (.agg #[.int .i64 0, .int .i64 0]) 2 16 Try.underlying41 hi0 hz0 hz1 hz2 rfl (by decide) _ i _ h ⟨bl, 0, none⟩ 1 1 (FL (qs i)).toList rfl (fun j u hu => by rw [addr_add, Nat.zero_add]; exact at_cell k (by simpa using hu)) (by intro u hu; simp [FL] at hu; rcases hu with rfl | rfl <;> rfl) (by unfold maxLen; omega) (by omega) E.size
  have hlt := h.lt
  rcases hown.2 with ⟨_, hn⟩ | ⟨g', cp', cur, rfl, hb, r⟩
  · omega
  · exact ⟨g', cp', w', hrun, hown, E.grown hg E.size (fun k hk => (hlt k hk).1)⟩
theorem bs41_1 (q : RV) (W : World) : (Instr.buildSlice 41 1 #[(0, .agg (FL q))]).run Try.prog W = .ok (.slice (some ⟨W.heap.size, 0, none⟩) 1 1) (W.alloc (.cells (FL q) 23)) :=
  bslice W 41 23 1 _ _ (.agg #[.int .i64 0, .int .i64 0]) 2 Try.underlying41 (by kernel_rfl) (by decide) (by decide) (by kernel_rfl)
/-- a way's amounts may be reckoned -/
def wayOK (qs : Nat → RV) (n : Nat) (x : Int) : Prop := 0 ≤ x ∧ (∀ k, k < n → rightB (qs k).b (qs k).r = true) ∧ ∀ j, j < n → we (fun i => (qs i).b) (fun i => (qs i).r) n x j = 0
def wz (qs : Nat → RV) (n : Nat) (x : Int) (j : Nat) : Int := wv (fun i => (qs i).b) (fun i => (qs i).r) n x j
theorem fees_of {W : World} {B g n cp : Nat} {qs : Nat → RV} (h : W.ownsRow B 23 2 (.slice (some ⟨g, 0, none⟩) n cp) n (fL qs n)) : Fees W g 0 n (fun i => (qs i).b) (fun i => (qs i).r) :=
  ⟨(h.lt g rfl).2, fun k hk => by rw [Nat.zero_add, h.cellAt (k * 2) (by omega)]; exact (fL_at qs n k hk).1, fun k hk => by rw [Nat.zero_add, h.cellAt (k * 2 + 1) (by omega)]; exact (fL_at qs n k hk).2⟩
theorem own_shape {W : World} {B n fc : Nat} {fo : Option Addr} {xs : List Value} (h : W.ownsRow B 23 2 (.slice fo n fc) n xs) : (fo = none ∧ n = 0 ∧ fc = 0) ∨ ∃ g, fo = some ⟨g, 0, none⟩ ∧ n ≤ fc := by
  rcases h.2 with ⟨e, h0⟩ | ⟨g, cap, cur, e, hb, _, hnc, _⟩
  · cases e
    exact .inl ⟨rfl, rfl, rfl⟩
  · cases e
    exact .inr ⟨g, rfl, hnc⟩
theorem way_good {W : World} {B n fc : Nat} {fo : Option Addr} {qs : Nat → RV} {x : Int} (h : W.ownsRow B 23 2 (.slice fo n fc) n (fL qs n)) (hcap : n * 40 ≤ 140737488351232) (hqb : ∀ i, i < n → (qs i).b ≤ 9223372036854775807) (hx : x ≤ 9223372036854775807) (hok : wayOK qs n x) :
    Calls Try.prog 21 #[.slice fo n fc, .int .i64 x] W fun e w' => ∃ g, e = .returned (.tuple #[.slice (some ⟨g, 0, none⟩) (n + 1) (n + 1), .int .i64 0]) ∧ RowX w' W.heap.size g n (fun k => wz qs n x (n - k)) ∧ Below W.heap.size W w' := by
  obtain ⟨h0, h1, h2⟩ := hok
  rcases own_shape h with ⟨rfl, rfl, rfl⟩ | ⟨g, rfl, hnc⟩
  · refine (way_nil_ok x W h0 hx).mono ?_
    rintro e w' ⟨g, rfl, HO, B⟩
    refine ⟨g, rfl, ⟨(HO.out.lt g rfl).1, fun k hk => ?_⟩, B⟩
    have : k = 0 := by omega
    subst this
    rw [HO.out.cellAt 0 (by omega)]
    rfl
  · refine (way_ok g 0 n fc _ _ x W (fees_of h) hnc (by omega) hqb (decide_eq_true h1) h0 hx h2).mono ?_
    rintro e w' ⟨g', rfl, HO, B⟩
    exact ⟨g', rfl, ⟨(HO.out.lt g' rfl).1, fun k hk => by rw [HO.out.cellAt k (by omega)]; exact I64_wl _ _ n x n k hk⟩, B⟩
theorem way_none {W : World} {B n fc : Nat} {fo : Option Addr} {qs : Nat → RV} {x : Int} (h : W.ownsRow B 23 2 (.slice fo n fc) n (fL qs n)) (hcap : n * 40 ≤ 140737488351232) (hqb : ∀ i, i < n → (qs i).b ≤ 9223372036854775807) (hx : x ≤ 9223372036854775807) (hno : ¬ wayOK qs n x) :
    Calls Try.prog 21 #[.slice fo n fc, .int .i64 x] W fun e w' => ∃ F, ¬ F = 0 ∧ e = .returned (.tuple #[.slice none 0 0, .int .i64 F]) ∧ Below W.heap.size W w' := by
  by_cases h0 : x < 0
  · rcases own_shape h with ⟨rfl, rfl, rfl⟩ | ⟨g, rfl, hnc⟩
    · exact (way_nil_bad x W h0).mono fun e w' hh => ⟨1, by decide, hh.1, hh.2⟩
    · exact (way_bad g 0 n fc _ _ x W (fees_of h) (by omega) hqb (.inr h0)).mono fun e w' hh => ⟨1, by decide, hh.1, hh.2⟩
  · rcases first_not (p := fun k => rightB (qs k).b (qs k).r) (len := n) with hG | ⟨k0, k1, k2, k3⟩
    · rcases first_not (p := fun j => decide (we (fun i => (qs i).b) (fun i => (qs i).r) n x j = 0)) (len := n) with hw | ⟨m0, m1, m2, m3⟩
      · exact absurd ⟨by omega, hG, fun j hj => of_decide_eq_true (hw j hj)⟩ hno
      · rcases own_shape h with ⟨rfl, rfl, rfl⟩ | ⟨g, rfl, hnc⟩
        · omega
        · have hm := of_decide_eq_false m2
          exact (way_err g 0 n fc _ _ x W (fees_of h) hnc (by omega) hqb (decide_eq_true hG) (by omega) hx m0 _ m1 (fun j hj => of_decide_eq_true (m3 j hj)) rfl (by simpa using hm)).mono fun e w' hh => ⟨_, hm, hh.1, hh.2⟩
    · rcases own_shape h with ⟨rfl, rfl, rfl⟩ | ⟨g, rfl, hnc⟩
      · omega
      · exact (way_bad g 0 n fc _ _ x W (fees_of h) (by omega) hqb (.inl (decide_eq_false fun hh => by have := hh k0 k1; rw [k2] at this; cases this))).mono fun e w' hh => ⟨1, by decide, hh.1, hh.2⟩
/-- a way's expiries may be reckoned -/
def expOK (qs : Nat → RV) (n : Nat) (y : Int) : Prop := (∀ i, i < n → mayR (qs i) = true) ∧ ∀ j, j ≤ n → okH (ev qs n y j) = true
theorem exp_none {ao : Option Addr} {n c : Nat} {qs : Nat → RV} {y : Int} (w : World) (hR : n = 0 ∨ ∃ b off, ao = some ⟨b, off, none⟩ ∧ Rls w b off n qs) (hcap : n * 40 ≤ 140737488351232) (hqb : ∀ i, i < n → (qs i).b ≤ 9223372036854775807) (hno : ¬ expOK qs n y) :
    Calls Try.prog 19 #[.slice ao n c, .int .i64 y] w fun e w' => ∃ F, ¬ F = 0 ∧ e = .returned (.tuple #[.slice none 0 0, .int .i64 F]) ∧ Below w.heap.size w w' := by
  rcases exp_cases qs n y with ⟨k0, h1, h2, h3⟩ | ⟨hG, hy | ⟨m0, h1, h2, h3⟩ | hO⟩
  · exact (exp_bad w hR hcap hqb k0 h1 h2 h3).mono fun e w' hh => ⟨1, by decide, hh.1, hh.2⟩
  · exact (exp_last w hR hcap hqb hG hy).mono fun e w' hh => ⟨1, by decide, hh.1, hh.2⟩
  · exact (exp_over w hR hcap hqb hG m0 h1 h2 h3).mono fun e w' hh => ⟨20, by decide, hh.1, hh.2⟩
  · exact absurd ⟨hG, hO⟩ hno
theorem exp_some {ao : Option Addr} {n c : Nat} {qs : Nat → RV} {y : Int} (w : World) (hR : n = 0 ∨ ∃ b off, ao = some ⟨b, off, none⟩ ∧ Rls w b off n qs) (hcap : n * 40 ≤ 140737488351232) (hqb : ∀ i, i < n → (qs i).b ≤ 9223372036854775807) :
    Calls Try.prog 19 #[.slice ao n c, .int .i64 y] w fun e w' => ∃ (so : Option Addr) (sn sc : Nat) (F : Int), e = .returned (.tuple #[.slice so sn sc, .int .i64 F]) ∧ Below w.heap.size w w' := by
  by_cases h : expOK qs n y
  · exact (exp_ok w hR hcap hqb h.1 h.2).mono fun e w' ⟨g, h1, h2, h3⟩ => ⟨_, _, _, _, h1, h3⟩
  · exact (exp_none w hR hcap hqb h).mono fun e w' ⟨F, h1, h2, h3⟩ => ⟨_, _, _, _, h2, h3⟩
end Go.Proofs.Ytfbaidmnnkcaeaa
