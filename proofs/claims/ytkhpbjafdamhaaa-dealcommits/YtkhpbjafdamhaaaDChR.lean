/- A commitment may be a transaction of a chain of 8 nodes. -/
import Derived.Test.YtkhpbjafdamhaaaDChQ
namespace Go.Proofs.Ytkhpbjafdamhaaa
open Go.RowKit
set_option linter.unusedVariables false
set_option linter.unusedSimpArgs false
set_option maxRecDepth 100000
theorem sum_om (a b : Int) (hv : Nat → HV) : ∀ k, sumP (om a b hv) (k + 2) = a + b + sumP (fun i => (hv i).am) k
  | 0 => by simp [sumP, om]
  | k + 1 => by
    have := sum_om a b hv k
    have e : sumP (om a b hv) (k + 1 + 2) = sumP (om a b hv) (k + 2) + (hv k).am := by simp [sumP, om]
    have e2 : sumP (fun i => (hv i).am) (k + 1) = sumP (fun i => (hv i).am) k + (hv k).am := rfl
    omega
theorem sum_zf2 (a b : Int) (hv : Nat → HV) (k : Nat) : sumP (zf a b hv) (k + 2) = a + b + sumP (fun i => (hv i).am) k := sum_om a b hv k
theorem subN_le {x f : Int} (hx : 0 ≤ x) (hf : 0 ≤ f) : 0 ≤ subN x f ∧ subN x f ≤ x := by
  unfold subN
  split
  · omega
  · split <;> omega
theorem om_sum {t : TV} {x y h : Int} {n : Nat} {hv : Nat → HV} (hf : 0 ≤ t.fee) (hs : sumsB t x y n hv = true) : sumE (om (ownN t x y h) (othA t x y h) hv) (n + 2) = 0 ∧ ∀ i, i < n + 2 → om (ownN t x y h) (othA t x y h) hv i ≤ 9223372036854775807 := by
  have hnn := sums_nn hs
  have hx0 : 0 ≤ x := hnn 0 (by omega)
  have hy0 : 0 ≤ y := by have := hnn 1 (by omega); simpa [zf] using this
  have ha : ∀ i, i < n → 0 ≤ (hv i).am := fun i hi => by have := hnn (i + 2) (by omega); simpa [zf] using this
  have hle : sumP (zf x y hv) (n + 2) ≤ 9223372036854775807 := by
    have h1 := (of_decide_eq_true hs).1
    unfold sumE at h1
    split at h1
    · split at h1
      · assumption
      · cases h1
    · cases h1
  obtain ⟨s0, s1⟩ := subN_le hx0 hf
  have hab : 0 ≤ ownN t x y h ∧ 0 ≤ othA t x y h ∧ ownN t x y h + othA t x y h ≤ x + y := by
    unfold ownN othA
    split <;> omega
  have hP : ∀ k, k ≤ n → 0 ≤ sumP (fun i => (hv i).am) k := by
    intro k
    induction k with
    | zero => intro _; exact Int.le_refl _
    | succ k ih =>
      intro hk
      have e2 : sumP (fun i => (hv i).am) (k + 1) = sumP (fun i => (hv i).am) k + (hv k).am := rfl
      have := ih (by omega)
      have := ha k (by omega)
      omega
  have hM : ∀ k i, k ≤ n → i < k → (hv i).am ≤ sumP (fun i => (hv i).am) k := by
    intro k
    induction k with
    | zero => intro i _ hi; omega
    | succ k ih =>
      intro i hk hi
      have e2 : sumP (fun i => (hv i).am) (k + 1) = sumP (fun i => (hv i).am) k + (hv k).am := rfl
      have := hP k (by omega)
      have := ha k (by omega)
      by_cases e : i = k
      · subst e; omega
      · have := ih i (by omega) (by omega)
        omega
  rw [sum_zf2] at hle; have hPn := hP n (Nat.le_refl _)
  have hcase : ∀ i, i < n + 2 → 0 ≤ om (ownN t x y h) (othA t x y h) hv i ∧ om (ownN t x y h) (othA t x y h) hv i ≤ 9223372036854775807 := fun i hi => by
    unfold om
    split
    · omega
    · split
      · omega
      · have := ha (i - 2) (by omega)
        have := hM n (i - 2) (Nat.le_refl _) (by omega)
        omega
  refine ⟨?_, fun i hi => (hcase i hi).2⟩
  unfold sumE
  rw [if_pos (show nnB _ (n + 2) = true from decide_eq_true fun i hi => (hcase i hi).1), if_pos (by rw [sum_om]; omega)]
theorem Pok.of {a h d : Int} {v : Array Value} (hv : v.size = 32) (ha : 0 ≤ a ∧ a < 8) (hh : 0 ≤ h ∧ h ≤ 2147483647) (hd : 0 ≤ d ∧ d ≤ 2147483647) : Pok 8 (pth a 0 false h d v) := ⟨a, h, d, v, rfl, hv, ha.1, ha.2, hh.1, hh.2, hd.1, hd.2⟩
theorem commit_may {C : Array Value} {t : TV} {x y h : Int} {pl : List Int} {n gi g cap base : Nat} {hv : Nat → HV} (w : World) (hT : IsT C t) (hpl : pl.length = 32) (hok : fitsB t x y n hv = true ∧ (h = t.a ∨ h = t.b) ∧ pl ≠ ZL) (hR : Refl 24 10000 (.agg (C.extract 3 36))) (hhs : ∀ i, i < n → (hv i).hash.size = 32)
    (kg : w.heap[gi]? = some (.cells (C.extract 3 36 ++ inRest) 61)) (hO : Outs w base g (n + 2) cap (om (ownN t x y h) (othA t x y h) hv) ol (opth h (othN t h) t.d (U8 pl).toArray hv)) :
    Calls Try.prog 21 #[.int .i64 8, .agg #[.slice (some ⟨gi, 0, none⟩) 1 1, .slice (some ⟨g, 0, none⟩) (n + 2) cap]] w fun e w' => e = .returned (.bool true) ∧ Below w.heap.size w w' := by
  obtain ⟨c1, c2, c3⟩ := hok; obtain ⟨f1, f2, f3, f4⟩ := fits_parts c1; have hm := of_decide_eq_true f1; have hsm := om_sum (h := h) hm.2.1.1 f4
  have hd : 0 ≤ t.d ∧ t.d ≤ 2147483647 := by omega
  have z0 : (0 : Int) ≤ 0 ∧ (0 : Int) ≤ 2147483647 := by decide
  have hh : 0 ≤ h ∧ h < 8 := by omega
  have ho : 0 ≤ othN t h ∧ othN t h < 8 := by
    unfold othN
    split
    · omega
    · split <;> omega
  have hps : (U8 pl).toArray.size = 32 := U8_size pl hpl
  obtain ⟨gs, RW, OPS⟩ := hO.row; refine may21 (K := C.extract 3 36) (fo := t.fo) (p := 0) (Cs := oc gs (om (ownN t x y h) (othA t x y h) hv) ol) (z := om (ownN t x y h) (othA t x y h) hv) hT.inSize ?_ hT.rsz ?_ ?_ (by omega) (by decide) hR w kg (Outs.rg RW) (by omega) (by omega) ?_ (fun i hi => rfl) (fun i hi => by simp [oc, Value.oneCell']) hsm.2 hsm.1
  · apply Array.ext
    · simp [hT.size, inRest]
    · intro i h1 h2
      have : i < 33 := by rw [hT.rsz] at h2; exact h2
      simp [Array.getElem_append, hT.size, this]
  · rw [Array.getElem?_append_left (by rw [hT.rsz]; decide), Array.getElem?_extract, if_pos (by rw [hT.size]; decide)]
    exact hT.c35
  · rw [Array.getElem?_append_right (by rw [hT.rsz]; decide), hT.rsz]
    rfl
  · intro i hi
    have K := OPS i hi
    match i, hi, K with
    | 0, _, K =>
      refine ⟨_, _, 2, 2, _, rfl, rg2 (A := pth h 0 false 0 t.d Z32) (B := pth (othN t h) 0 false 0 0 (U8 pl).toArray) K (pth_size Z32_size) (pth_size hps), by decide, by decide, fun j hj => ?_⟩
      match j, hj with
      | 0, _ => exact Pok.of Z32_size hh z0 hd
      | 1, _ => exact Pok.of hps ho z0 z0
    | 1, _, K =>
      refine ⟨_, _, 1, 1, _, rfl, rg1 (A := pth (othN t h) 0 false 0 0 Z32) K (pth_size Z32_size), by decide, by decide, fun j hj => Pok.of Z32_size ho z0 z0⟩
    | i + 2, hi, K =>
      have hin : i < n := by omega
      have hq := (of_decide_eq_true f3).1 i hin
      have hq' := of_decide_eq_false hq
      have he : 0 ≤ (hv i).ex ∧ (hv i).ex ≤ 2147483647 := by
        refine ⟨?_, ?_⟩
        · by_cases e : (hv i).ex < 0
          · exact absurd (.inr (.inr (.inl e))) hq'
          · omega
        · by_cases e : 2147483647 < (hv i).ex
          · exact absurd (.inr (.inr (.inr (.inl e)))) hq'
          · omega
      have e3 : opth h (othN t h) t.d (U8 pl).toArray hv (i + 2) = htlP h (othN t h) t.d (U8 pl).toArray (hv i) := by simp [opth]
      rw [e3] at K
      unfold htlP at K
      by_cases e : (hv i).by_ = h
      · rw [if_pos e] at K
        refine ⟨_, _, 3, 3, _, rfl, rg3 K (pth_size (hhs i hin)) (pth_size Z32_size) (pth_size hps), by decide, by decide, fun j hj => ?_⟩
        match j, hj with
        | 0, _ => exact Pok.of (hhs i hin) ho z0 z0
        | 1, _ => exact Pok.of Z32_size hh he hd
        | 2, _ => exact Pok.of hps ho z0 z0
      · rw [if_neg e] at K
        refine ⟨_, _, 3, 3, _, rfl, rg3 K (pth_size (hhs i hin)) (pth_size Z32_size) (pth_size hps), by decide, by decide, fun j hj => ?_⟩
        match j, hj with
        | 0, _ => exact Pok.of (hhs i hin) hh z0 hd
        | 1, _ => exact Pok.of Z32_size ho he z0
        | 2, _ => exact Pok.of hps ho z0 z0
end Go.Proofs.Ytkhpbjafdamhaaa
