/- Policy: PolicyWays, whatever comes. -/
import Derived.Test.YtfbaidmnnkcaeaaPWaM
namespace Go.Proofs.Ytfbaidmnnkcaeaa
open Go.RowKit
set_option linter.unusedVariables false
set_option linter.unusedSimpArgs false
set_option maxRecDepth 100000

theorem in_ge {b r y : Int} (h : inE b r y = 0) (hy : 0 ≤ y) : y ≤ inN b r y := by
  unfold inE at h
  unfold inN
  by_cases e : feeE b r y = 0
  · rw [if_pos e] at h ⊢
    unfold addE at h
    unfold addN
    by_cases e1 : y < 0 ∨ feeN b r y < 0
    · rw [if_pos e1] at h
      omega
    · rw [if_neg e1] at h ⊢
      by_cases e2 : y > 9223372036854775807 - feeN b r y
      · rw [if_pos e2] at h
        omega
      · rw [if_neg e2]
        omega
  · rw [if_neg e] at h
    exact absurd h e
theorem wz_next (qs : Nat → RV) (n : Nat) (x : Int) (i : Nat) (hi : i < n) : wz qs n x (n - i) = inN (qs i).b (qs i).r (wz qs n x (n - (i + 1))) := by
  rw [show n - i = n - (i + 1) + 1 by omega]
  show inN (qs (n - 1 - (n - (i + 1)))).b (qs (n - 1 - (n - (i + 1)))).r _ = _
  rw [show n - 1 - (n - (i + 1)) = i by omega]
  rfl
theorem we_at {qs : Nat → RV} {n : Nat} {x : Int} (h : wayOK qs n x) (i : Nat) (hi : i < n) : inE (qs i).b (qs i).r (wz qs n x (n - (i + 1))) = 0 := by
  have := h.2.2 (n - (i + 1)) (by omega)
  unfold we at this
  rw [show n - 1 - (n - (i + 1)) = i by omega] at this
  exact this
theorem wz_ge {qs : Nat → RV} {n : Nat} {x : Int} (h : wayOK qs n x) : ∀ j, j ≤ n → x ≤ wz qs n x j
  | 0, _ => Int.le_refl _
  | j + 1, hj => by
    have h1 := wz_ge h j (by omega)
    have h2 := wz_next qs n x (n - (j + 1)) (by omega)
    have h3 := we_at h (n - (j + 1)) (by omega)
    rw [show n - (n - (j + 1) + 1) = j by omega] at h2 h3
    rw [show n - (n - (j + 1)) = j + 1 by omega] at h2
    rw [h2]
    have h0 := h.1
    have := in_ge h3 (by omega)
    omega
theorem ev_step (qs : Nat → RV) (n : Nat) (y : Int) (i : Nat) (hi : i < n) : ev qs n y (n - i) = ev qs n y (n - (i + 1)) + (qs i).d := by
  rw [show n - i = n - (i + 1) + 1 by omega]
  show _ + (qs (n - 1 - (n - (i + 1)))).d = _
  rw [show n - 1 - (n - (i + 1)) = i by omega]
theorem ways_any {ao : Option Addr} {n c : Nat} {x y h : Int} (w : World) (hI : IsRules w ao n c) (hx : x ≤ 9223372036854775807) :
    Calls Try.prog 6 #[.slice ao n c, .int .i64 x, .int .i64 y, .int .i64 h] w fun e w' => e = .returned (.bool true) ∧ Below w.heap.size w w' := by
  obtain ⟨hcap, hnc, hS, qs, hR, hqb⟩ := hI
  by_cases hW : wayOK qs n x
  · have hA := fun (W : World) (fo : Option Addr) (fc : Nat) (HO : W.ownsRow w.heap.size 23 2 (.slice fo n fc) n (fL qs n)) => way_good HO hcap hqb hx hW
    by_cases hX : expOK qs n y
    · have hB := fun (W : World) (B : Below w.heap.size w W) => exp_ok (y := y) (c := c) W (kept_up hR B) hcap hqb hX.1 hX.2
      by_cases z0 : x < 1
      · exact ways_no3a w hR hcap hqb _ _ hA hB z0
      by_cases z1 : h < 0
      · exact ways_no3b w hR hcap hqb _ _ hA hB z0 z1
      by_cases z2 : 2147483647 < h
      · exact ways_no3c w hR hcap hqb _ _ hA hB z0 z1 z2
      refine ways_yes w hR hcap hqb _ _ hA hB z0 z1 z2 fun i hi => ?_
      have b1 := wv_bd (fun i => (qs i).b) (fun i => (qs i).r) n x (n - (i + 1)) (by omega) hqb hW.1 hx
      have b2 := wv_bd (fun i => (qs i).b) (fun i => (qs i).r) n x (n - i) (by omega) hqb hW.1 hx
      have g1 := wz_ge hW (n - (i + 1)) (by omega)
      exact ⟨hX.1 i hi, hX.2 (n - i) (by omega), hX.2 (n - (i + 1)) (by omega), ev_step qs n y i hi, by omega, b1.2, we_at hW i hi, wz_next qs n x i hi, b2.1⟩
    · exact ways_no2 w hR hcap hqb _ hA (fun W B => exp_none W (kept_up hR B) hcap hqb hX)
  · exact ways_no1 w hR hcap hqb (fun W fo fc HO => way_none HO hcap hqb hx hW) (fun W B => exp_some W (kept_up hR B) hcap hqb)
end Go.Proofs.Ytfbaidmnnkcaeaa
