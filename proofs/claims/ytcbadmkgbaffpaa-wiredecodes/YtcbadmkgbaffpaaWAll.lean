/- The contract of wire's toAll over this seat's translation: the deeds are done to the fields, one behind the other, till one is not well. -/
import Derived.Test.YtcbadmkgbaffpaaWFld
namespace Go.Proofs.Ytcbadmkgbaffpaa
open Go.RowKit
set_option linter.unusedVariables false

theorem fl_rises (K : Int) : ∀ (j k x y : Nat), (fl K)[j]? = some x → (fl K)[k]? = some y → j < k → x < y := by
  have key : ∀ l ∈ [[0, 1, 2, 3, 4, 5], [0, 1, 6], [0, 1, 11], [0, 8, 9], [0, 6, 7, 9], [0, 7, 9, 10], ([] : List Nat)], ∀ j, j < 6 → ∀ k, k < 6 → j < k → k < l.length → l.getD j 0 < l.getD k 0 := by decide
  have hm : fl K ∈ [[0, 1, 2, 3, 4, 5], [0, 1, 6], [0, 1, 11], [0, 8, 9], [0, 6, 7, 9], [0, 7, 9, 10], ([] : List Nat)] ∧ (fl K).length ≤ 6 := by
    unfold fl
    repeat' split
    all_goals simp
  intro j k x y hj hk hjk
  have lk := (List.getElem?_eq_some_iff.1 hk).1
  have := key _ hm.1 j (by omega) k (by omega) hjk lk
  rw [List.getD_eq_getElem?_getD, List.getD_eq_getElem?_getD, hj, hk] at this
  exact this
theorem fl_lt (K : Int) : ∀ x ∈ fl K, x < 12 := by
  unfold fl
  repeat' split
  all_goals decide

/-- what is left of the types: those from p on -/
def hasV (l : List Nat) (g p : Nat) (v : Value) : Prop := (p < l.length ∧ v = .slice (some ⟨g, p, none⟩) (l.length - p) (l.length - p)) ∨ (p = l.length ∧ ∃ a c, v = .slice a 0 c)

theorem fv_has (l : List Nat) (g : Nat) : ∃ a c, fv l g = .slice a l.length c ∧ hasV l g 0 (.slice a l.length c) := by
  cases l with
  | nil => exact ⟨none, 0, rfl, .inr ⟨rfl, none, 0, rfl⟩⟩
  | cons x t => exact ⟨some ⟨g, 0, none⟩, (x :: t).length, rfl, .inl ⟨by simp, rfl⟩⟩
theorem fields_ex (K : Int) (w : World) : Calls Try.prog 20 #[.int .i64 K] w fun e w' => ∃ g a c, e = .returned (.slice a (fl K).length c) ∧ hasV (fl K) g 0 (.slice a (fl K).length c) ∧ Hid (FlAt w' g (fl K)) ∧ w.heap.size ≤ g ∧ Hid (Below w.heap.size w w') := by
  obtain ⟨a, c, h1, h2⟩ := fv_has (fl K) w.heap.size
  exact (fields_any K w).mono fun e w' h => ⟨_, a, c, by rw [h.1, h1], h2, h.2.1, Nat.le_refl _, h.2.2⟩
theorem rfields_ex (K : Int) (w : World) : Calls Try.prog 23 #[.int .i64 K] w fun e w' => ∃ g a c, e = .returned (.slice a (fl K).length c) ∧ hasV (fl K) g 0 (.slice a (fl K).length c) ∧ Hid (FlAt w' g (fl K)) ∧ w.heap.size ≤ g ∧ Hid (Below w.heap.size w w') := by
  obtain ⟨a, c, h1, h2⟩ := fv_has (fl K) w.heap.size
  exact (rfields_any K w).mono fun e w' h => ⟨_, a, c, by rw [h.1, h1], h2, h.2.1, Nat.le_refl _, h.2.2⟩

/-- a deed lies in block k -/
def BoxD (w : World) (k d0 d1 d2 : Nat) : Prop := w.cell? ⟨k, 0, none⟩ = some (.func (.func d0) #[] #[]) ∧ w.cell? ⟨k, 1, none⟩ = some (.func (.func d1) #[] #[]) ∧ w.cell? ⟨k, 2, none⟩ = some (.func (.func d2) #[] #[])
theorem BoxD.grown {w w' : World} {k d0 d1 d2 : Nat} {row : Option Nat} (h : BoxD w k d0 d1 d2) (hg : w.grownBy w' row) (hne : some k ≠ row) : BoxD w' k d0 d1 d2 :=
  ⟨hg.cell h.1 hne, hg.cell h.2.1 hne, hg.cell h.2.2 hne⟩
theorem BoxD.below {w w' : World} {k d0 d1 d2 : Nat} (h : BoxD w k d0 d1 d2) (hg : Below w.heap.size w w') : BoxD w' k d0 d1 d2 := h.grown (grown_of_below hg) (by simp)

theorem fl_len (K : Int) : (fl K).length ≤ 6 := by
  unfold fl
  repeat' split
  all_goals decide
theorem fin {w w2 w3 : World} {b : Nat} (h : Below w.heap.size w w2) (hlt : b < w.heap.size) (hg : w2.grownBy w3 (some b)) : w.grownBy w3 (some b) :=
  grown_trans ⟨h.os, h.tape, h.output, h.size, fun k hk _ => h.block k hk⟩ hg
theorem next_own (K : Int) {p i : Nat} (hx : (fl K)[p]? = some i) (hP : ∀ j x, (fl K)[j]? = some x → (j < p → x < i) ∧ (p ≤ j → i ≤ x)) {j y : Nat} (hy : (fl K)[j]? = some y) : (j < p + 1 → y < i + 1) ∧ (p + 1 ≤ j → i + 1 ≤ y) := by
  refine ⟨fun h => ?_, fun h => fl_rises K p j i y hx hy (by omega)⟩
  by_cases e : j = p
  · subst e; rw [hx] at hy; cases hy; omega
  · have := (hP j y hy).1 (by omega); omega
theorem not_own (K : Int) {p i x : Nat} (hx : (fl K)[p]? = some x) (hP : ∀ j x, (fl K)[j]? = some x → (j < p → x < i) ∧ (p ≤ j → i ≤ x)) (hne : x ≠ i) : i ∉ fl K := fun hm => by
  obtain ⟨j, hj, e⟩ := List.getElem_of_mem hm
  have hj' : (fl K)[j]? = some i := by rw [List.getElem?_eq_getElem hj, e]
  by_cases h1 : j < p
  · have := (hP j i hj').1 h1; omega
  · have h3 := (hP p x hx).2 (Nat.le_refl _)
    by_cases h2 : j = p
    · subst h2; rw [hx] at hj'; cases hj'; exact hne rfl
    · have := fl_rises K p j x i hx hj' (by omega); omega
theorem next_other {l : List Nat} {p i x : Nat} (hx : l[p]? = some x) (hP : ∀ j x, l[j]? = some x → (j < p → x < i) ∧ (p ≤ j → i ≤ x)) (hne : x ≠ i) (hr : ∀ (j k x y : Nat), l[j]? = some x → l[k]? = some y → j < k → x < y) {j y : Nat} (hy : l[j]? = some y) : (j < p → y < i + 1) ∧ (p ≤ j → i + 1 ≤ y) := by
  refine ⟨fun h => by have := (hP j y hy).1 h; omega, fun h => ?_⟩
  have h3 := (hP p x hx).2 (Nat.le_refl _)
  by_cases h2 : j = p
  · subst h2; rw [hx] at hy; cases hy; omega
  · have := hr p j x y hx hy (by omega); omega
theorem not_own_end {l : List Nat} {p i : Nat} (hp : p = l.length) (hP : ∀ j x, l[j]? = some x → (j < p → x < i) ∧ (p ≤ j → i ≤ x)) : i ∉ l := fun hm => by
  obtain ⟨j, hj, e⟩ := List.getElem_of_mem hm
  have := (hP j i (by rw [List.getElem?_eq_getElem hj, e])).1 (by omega)
  omega
theorem next_end {l : List Nat} {p i : Nat} (hp : p = l.length) (hP : ∀ j x, l[j]? = some x → (j < p → x < i) ∧ (p ≤ j → i ≤ x)) {j y : Nat} (hy : l[j]? = some y) : (j < p → y < i + 1) ∧ (p ≤ j → i + 1 ≤ y) := by
  have hj := (List.getElem?_eq_some_iff.1 hy).1
  exact ⟨fun h => by have := (hP j y hy).1 h; omega, fun h => by omega⟩

set_option maxHeartbeats 2000000 in
theorem toAll_any (b : Nat) (K : Int) (a0 a1 a2 z0 z1 z2 : Nat) (w : World) (hK : w.cell? ⟨b, 0, none⟩ = some (.int .i64 K)) (I : Nat → World → Prop) (E : World → Prop)
    (h0 : ∀ W, Below w.heap.size w W → I 0 W) (hb : ∀ i W W', I i W → Below W.heap.size W W' → I i W')
    (hs : ∀ i, i < 12 → ∀ W, I i W → Calls Try.prog 22 #[if i ∈ fl K then deedV a0 a1 a2 #[] else deedV z0 z1 z2 #[], .pointer (some ⟨b, 0, none⟩), .int .u64 (2 * (i : Int) + 1)] W fun e w' => ∃ r, e = .returned (.bool r) ∧ (r = true → I (i + 1) w') ∧ (r = false → E w') ∧ W.grownBy w' (some b)) :
    Calls Try.prog 26 #[.pointer (some ⟨b, 0, none⟩), deedV a0 a1 a2 #[], deedV z0 z1 z2 #[]] w fun e w' => ∃ r, e = .returned (.bool r) ∧ (r = true → I 12 w') ∧ (r = false → E w') ∧ w.grownBy w' (some b) := by
  unfold deedV at *
  have hlt := block_lt_of_cell hK
  have H0 := hide h0
  have HB := hide hb
  have HS := hide hs
  clear h0 hb hs
  go_enter Try.func26, Try.ntmps26
  go_wp2_with fail
  refine (fields_ex K _).mono ?_
  rintro e w2 ⟨g, a, c, rfl, hv, HF, hg, HB2⟩
  have Bw := hide ((((Below.refl w.heap.size w).alloc (Nat.le_refl _) (.cells #[.func (.func a0) #[] #[], .func (.func a1) #[] #[], .func (.func a2) #[] #[]] 50)).alloc (by simp) (.cells #[.func (.func z0) #[] #[], .func (.func z1) #[] #[], .func (.func z2) #[] #[]] 50)).trans (HB2.out.mono (by simp; omega)))
  have O1 : Hid (BoxD w2 w.heap.size a0 a1 a2) := BoxD.below (w := (w.alloc (.cells #[.func (.func a0) #[] #[], .func (.func a1) #[] #[], .func (.func a2) #[] #[]] 50)).alloc (.cells #[.func (.func z0) #[] #[], .func (.func z1) #[] #[], .func (.func z2) #[] #[]] 50)) ⟨by simp, by simp, by simp⟩ HB2.out
  have O2 : Hid (BoxD w2 (w.heap.size + 1) z0 z1 z2) := BoxD.below (w := (w.alloc (.cells #[.func (.func a0) #[] #[], .func (.func a1) #[] #[], .func (.func a2) #[] #[]] 50)).alloc (.cells #[.func (.func z0) #[] #[], .func (.func z1) #[] #[], .func (.func z2) #[] #[]] 50)) ⟨by simp, by simp, by simp⟩ HB2.out
  have HV := hide hv
  have zz2 : w.heap.size + 2 ≤ w2.heap.size := by have := HB2.out.size; simp at this; omega
  have hg2 : w.heap.size + 2 ≤ g := by simpa using hg
  clear hv hg HB2 hK
  go_wp2
  go_loopw [7, 8] (fun hv tv wr => ∃ i p : Nat, i ≤ 12 ∧ tv = .int .u64 (2 * (i : Int) + 1) ∧ p ≤ (fl K).length ∧ Hid (hasV (fl K) g p hv) ∧ Hid (∀ j x, (fl K)[j]? = some x → (j < p → x < i) ∧ (p ≤ j → i ≤ x)) ∧ Hid (I i wr) ∧ Hid (w2.grownBy wr (some b))) (fun _ tv _ => 25 - (intOf tv).toNat)
  case atStart => exact ⟨0, 0, by omega, rfl, by omega, HV, fun j x hx => ⟨fun h => by omega, fun _ => by omega⟩, H0.out w2 Bw.out, World.grownBy.refl _ _⟩
  case round =>
    obtain ⟨i, p, hi, rfl, hp, HV2, HP, HI, HG⟩ := hrel
    clear HV
    by_cases h12 : i < 12
    · have k1 := O1.out.grown HG.out (by intro e; cases e; omega)
      have k2 := O2.out.grown HG.out (by intro e; cases e; omega)
      obtain ⟨a1c, a2c, a3c⟩ := k1
      obtain ⟨b1c, b2c, b3c⟩ := k2
      have HFr := hide (HF.out.grown HG.out (by intro e; cases e; omega))
      have zr := HG.out.size
      have hw0 : w.heap.size < wr.heap.size := by omega
      have hw1 : w.heap.size + 1 < wr.heap.size := by omega
      have HSi := hide (HS.out i h12)
      have HBi := hide (HB.out i wr)
      have hgt : (i : Int) ≤ 11 := by omega
      rcases HV2.out with ⟨hpl, rfl⟩ | ⟨hpe, ha, hc, rfl⟩
      · obtain ⟨x, hx⟩ : ∃ x, (fl K)[p]? = some x := ⟨_, List.getElem?_eq_getElem hpl⟩
        have hcell := HFr.out.2 p x hx
        have hgw : g < wr.heap.size := HFr.out.1 (by intro e; rw [e] at hpl; simp at hpl)
        unfold tyV at hcell
        obtain ⟨m, hm⟩ : ∃ m, (fl K).length - p = m + 1 := ⟨(fl K).length - p - 1, by omega⟩
        have HM := hide hm
        have HX := hide hx
        rw [hm]
        clear hm hx HV2
        have hmb : (m : Int) ≤ 9223372036854775806 := by have := fl_len K; have := HM.out; omega
        by_cases hxi : x = i
        · subst hxi
          have hmem : x ∈ fl K := List.mem_of_getElem? HX.out
          rw [if_pos hmem] at HSi
          by_cases hend : m = 0
          · subst hend
            go_wp2_with fail
            refine (HSi.out _ (HBi.out _ HI.out ((Below.refl _ _).alloc (Nat.le_refl _) _))).mono ?_
            rintro e w3 ⟨r, rfl, r1, r2, r3⟩
            have HG3 := hide (grown_trans HG.out (grown_trans (World.grownBy_alloc wr _ (some b)) r3))
            clear r3
            cases r with
            | false =>
              have HR2 := hide (r2 rfl)
              clear r1 r2
              go_wp2
              go_ret
              exact ⟨false, rfl, fun h => Bool.noConfusion h, fun _ => HR2.out, fin Bw.out hlt HG3.out⟩
            | true =>
              have HR1 := hide (r1 rfl)
              clear r1 r2
              go_wp2
              go_roundw
              case rel => exact ⟨x + 1, p + 1, by omega, by go_num, by have := HM.out; omega, .inr ⟨by have := HM.out; omega, _, _, rfl⟩, fun j y hy => next_own K HX.out HP.out hy, HR1.out, HG3⟩
              case measure => simp [intOf]; omega
          · have hne : ¬ m + 1 = 1 := by omega
            go_wp2_with fail
            refine (HSi.out _ (HBi.out _ HI.out ((Below.refl _ _).alloc (Nat.le_refl _) _))).mono ?_
            rintro e w3 ⟨r, rfl, r1, r2, r3⟩
            have HG3 := hide (grown_trans HG.out (grown_trans (World.grownBy_alloc wr _ (some b)) r3))
            clear r3
            cases r with
            | false =>
              have HR2 := hide (r2 rfl)
              clear r1 r2
              go_wp2
              go_ret
              exact ⟨false, rfl, fun h => Bool.noConfusion h, fun _ => HR2.out, fin Bw.out hlt HG3.out⟩
            | true =>
              have HR1 := hide (r1 rfl)
              clear r1 r2
              go_wp2
              go_roundw
              case rel => exact ⟨x + 1, p + 1, by omega, by go_num, by have := HM.out; omega, .inl ⟨by have := HM.out; omega, by have := HM.out; congr 1 <;> omega⟩, fun j y hy => next_own K HX.out HP.out hy, HR1.out, HG3⟩
              case measure => simp [intOf]; omega
        · have hnm : i ∉ fl K := not_own K HX.out HP.out hxi
          rw [if_neg hnm] at HSi
          have hbe : (2 * (x : Int) + 1 == 2 * (i : Int) + 1) = false := beq_eq_false_iff_ne.2 (by omega)
          go_wp2_with fail
          refine (HSi.out _ (HBi.out _ HI.out ((Below.refl _ _).alloc (Nat.le_refl _) _))).mono ?_
          rintro e w3 ⟨r, rfl, r1, r2, r3⟩
          have HG3 := hide (grown_trans HG.out (grown_trans (World.grownBy_alloc wr _ (some b)) r3))
          clear r3
          cases r with
          | false =>
            have HR2 := hide (r2 rfl)
            clear r1 r2
            go_wp2
            go_ret
            exact ⟨false, rfl, fun h => Bool.noConfusion h, fun _ => HR2.out, fin Bw.out hlt HG3.out⟩
          | true =>
            have HR1 := hide (r1 rfl)
            clear r1 r2
            go_wp2
            go_roundw
            case rel => exact ⟨i + 1, p, by omega, by go_num, hp, .inl ⟨hpl, by rw [HM.out]⟩, fun j y hy => next_other HX.out HP.out hxi (fl_rises K) hy, HR1.out, HG3⟩
            case measure => simp [intOf]; omega
      · have hnm : i ∉ fl K := not_own_end hpe HP.out
        rw [if_neg hnm] at HSi
        go_wp2_with fail
        refine (HSi.out _ (HBi.out _ HI.out ((Below.refl _ _).alloc (Nat.le_refl _) _))).mono ?_
        rintro e w3 ⟨r, rfl, r1, r2, r3⟩
        have HG3 := hide (grown_trans HG.out (grown_trans (World.grownBy_alloc wr _ (some b)) r3))
        clear r3
        cases r with
        | false =>
          have HR2 := hide (r2 rfl)
          clear r1 r2
          go_wp2
          go_ret
          exact ⟨false, rfl, fun h => Bool.noConfusion h, fun _ => HR2.out, fin Bw.out hlt HG3.out⟩
        | true =>
          have HR1 := hide (r1 rfl)
          clear r1 r2
          go_wp2
          go_roundw
          case rel => exact ⟨i + 1, p, by omega, by go_num, hp, .inr ⟨hpe, _, _, rfl⟩, fun j y hy => next_end hpe HP.out hy, HR1.out, HG3⟩
          case measure => simp [intOf]; omega
    · have e12 : i = 12 := by omega
      subst e12
      go_wp2
      go_ret
      exact ⟨true, rfl, fun _ => HI.out, fun h => Bool.noConfusion h, fin Bw.out hlt HG.out⟩
end Go.Proofs.Ytcbadmkgbaffpaa
