/- Score, as plain functions of words: chances, costs, sums, which is less. -/
import Derived.Test.YtgnkcmmpbohafaaFltN
namespace Go.Proofs.Ytgnkcmmpbohafaa
open Ieee
set_option linter.unusedVariables false
set_option linter.unusedSimpArgs false

/-- a past, as numbers -/
structure PV where
  good : Int
  gat : Int
  bad : Int
  bat : Int
def ageN (now th : Int) : Int := if now < th then 0 else if 9223372036854775807 < now - th then 2147483647 else now - th
def c1 (p : PV) (a t : Int) (g : Nat) : Nat := if 0 < p.gat ∧ a ≤ p.good then fadd g (fmul (fsub F1 g) (wt (ageN t p.gat))) else g
def c2 (p : PV) (a t : Int) (g : Nat) : Nat := if 0 < p.bat ∧ p.bad ≤ a then fmul g (fsub F1 (wt (ageN t p.bat))) else g
def chN (p : PV) (a c t : Int) : Nat := if a < 0 ∨ c < a then 0 else cln (c2 p a t (c1 p a t (gs a c)))
theorem two_is : fadd F1 F1 = F2 := by decide +kernel
theorem F2_lt : F2 < 9218868437227405312 := by decide
theorem up_facts {g w : Nat} (hg : g ≤ F1) (hw : w ≤ F1) : double.sub F1 g = some (fsub F1 g) ∧ double.mul (fsub F1 g) w = some (fmul (fsub F1 g) w) ∧ double.add g (fmul (fsub F1 g) w) = some (fadd g (fmul (fsub F1 g) w)) ∧ fadd g (fmul (fsub F1 g) w) ≤ F2 := by
  have w1 := F1_lt
  have s1 := sub_is w1 hg
  have l1 := sub_le w1 hg
  have s2 := mul_is (x := fsub F1 g) (y := w) (by omega) (by omega)
  have l2 := mul_le (x := fsub F1 g) (y := w) (by omega) hw
  have s3 := add_is (x := g) (y := fmul (fsub F1 g) w) (by omega) (by omega)
  have l3 := add_mono (x := g) (y := fmul (fsub F1 g) w) (x' := F1) (y' := F1) (by omega) (by omega) hg (by omega)
  rw [two_is] at l3
  exact ⟨s1.1, s2.1, s3.1, l3⟩
theorem dn_facts {g w : Nat} (hg : g ≤ F2) (hw : w ≤ F1) : double.sub F1 w = some (fsub F1 w) ∧ double.mul g (fsub F1 w) = some (fmul g (fsub F1 w)) ∧ fmul g (fsub F1 w) ≤ F2 := by
  have w1 := F1_lt
  have w2 := F2_lt
  have s1 := sub_is w1 hw
  have l1 := sub_le w1 hw
  have s2 := mul_is (x := g) (y := fsub F1 w) (by omega) (by omega)
  have l2 := mul_le (x := g) (y := fsub F1 w) (by omega) l1
  exact ⟨s1.1, s2.1, by omega⟩
theorem c1_le (p : PV) (a t : Int) {g : Nat} (hg : g ≤ F1) : c1 p a t g ≤ F2 := by
  unfold c1
  split
  · exact (up_facts hg (wt_le _)).2.2.2
  · have : F1 ≤ F2 := by decide
    omega
theorem c2_le (p : PV) (a t : Int) {g : Nat} (hg : g ≤ F2) : c2 p a t g ≤ F2 := by
  unfold c2
  split
  · exact (dn_facts hg (wt_le _)).2.2
  · exact hg
theorem chN_le (p : PV) (a c t : Int) (hc : c ≤ 9223372036854775807) : chN p a c t ≤ F1 := by
  unfold chN
  split
  · exact Nat.zero_le _
  · have h := c2_le p a t (c1_le p a t (gs_le a c hc))
    have := F2_lt
    exact cln_le (by omega)
/-- with an empty past it is the guess -/
theorem chN_empty (a c t : Int) (hc : c ≤ 9223372036854775807) : chN ⟨0, 0, 0, 0⟩ a c t = gs a c := by
  unfold chN
  by_cases h : a < 0 ∨ c < a
  · rw [if_pos h]
    unfold gs
    rw [if_pos h]
  · rw [if_neg h]
    have e1 : c1 ⟨0, 0, 0, 0⟩ a t (gs a c) = gs a c := by unfold c1; simp
    have e2 : c2 ⟨0, 0, 0, 0⟩ a t (gs a c) = gs a c := by unfold c2; simp
    have := gs_le a c hc
    have w1 := F1_lt
    rw [e1, e2, cln_pos (by omega)]
    omega
/-! costs -/
def F10 : Nat := 4621819117588971520
def F100 : Nat := 4636737291354636288
def costN (f d : Int) (x : Nat) : Nat := if f < 0 ∨ d < 0 ∨ cln x = 0 then 9218868437227405312 else fadd (fadd (i2f f) (fmul (i2f d) F10)) (fdiv F100 (cln x))
theorem ten_max : fmul 4890909195324358656 F10 < 9218868437227405312 := by decide +kernel
theorem cost_facts {f d : Int} {c : Nat} (hf : 0 ≤ f) (hf2 : f ≤ 9223372036854775807) (hd : 0 ≤ d) (hd2 : d ≤ 9223372036854775807) (h0 : 0 < c) (hc : c ≤ F1) : double.mul (i2f d) F10 = some (fmul (i2f d) F10) ∧ double.div F100 c = some (fdiv F100 c) ∧ double.add (i2f f) (fmul (i2f d) F10) = some (fadd (i2f f) (fmul (i2f d) F10)) ∧ double.add (fadd (i2f f) (fmul (i2f d) F10)) (fdiv F100 c) = some (fadd (fadd (i2f f) (fmul (i2f d) F10)) (fdiv F100 c)) ∧ i2f f < 9218868437227405312 ∧ fmul (i2f d) F10 < 9218868437227405312 ∧ fadd (i2f f) (fmul (i2f d) F10) ≤ 9218868437227405312 ∧ fdiv F100 c ≤ 9218868437227405312 := by
  have w1 := F1_lt
  have f1 := i2f_le hf hf2
  have d1 := i2f_le hd hd2
  have s1 := mul_is (x := i2f d) (y := F10) (by omega) (by decide)
  have l1 := mul_mono (x := i2f d) (y := F10) (x' := 4890909195324358656) (y' := F10) (by decide) (by decide) d1 (Nat.le_refl _)
  have l0 := ten_max
  have s2 := div_is (x := F100) (y := c) (by decide) (by omega) h0
  have s3 := add_is (x := i2f f) (y := fmul (i2f d) F10) (by omega) (by omega)
  have s4 := add_some (x := fadd (i2f f) (fmul (i2f d) F10)) (y := fdiv F100 c) s3.2.1 s2.2.1
  exact ⟨s1.1, s2.1, s3.1, s4.1, by omega, by omega, s3.2.1, s2.2.1⟩
theorem costN_le (f d : Int) (x : Nat) (hx : x < 18446744073709551616) (hf2 : f ≤ 9223372036854775807) (hd2 : d ≤ 9223372036854775807) : costN f d x ≤ 9218868437227405312 := by
  unfold costN
  split
  · exact Nat.le_refl _
  · have h := cost_facts (f := f) (d := d) (c := cln x) (by omega) hf2 (by omega) hd2 (by omega) (cln_le hx)
    exact (add_some h.2.2.2.2.2.2.1 h.2.2.2.2.2.2.2).2
/-- a smaller chance, a greater fee cost as much, at least -/
theorem costN_mono {f f' d : Int} {x x' : Nat} (hx : x < 18446744073709551616) (hx' : x' < 18446744073709551616) (hf : f ≤ f') (hf2 : f' ≤ 9223372036854775807) (hd2 : d ≤ 9223372036854775807) (h0 : 0 ≤ f) (hd : 0 ≤ d) (hc : cln x' ≤ cln x) : costN f d x ≤ costN f' d x' := by
  by_cases h : cln x' = 0
  · have : costN f' d x' = 9218868437227405312 := by unfold costN; rw [if_pos (.inr (.inr h))]
    rw [this]
    exact costN_le f d x hx (by omega) hd2
  · unfold costN
    rw [if_neg (by omega), if_neg (by omega)]
    have h1 := cost_facts (f := f) (d := d) (c := cln x) h0 (by omega) hd hd2 (by omega) (cln_le hx)
    have h2 := cost_facts (f := f') (d := d) (c := cln x') (by omega) hf2 hd hd2 (by omega) (cln_le hx')
    have l1 := cln_le hx
    have w1 := F1_lt
    exact add_mono h2.2.2.2.2.2.2.1 h2.2.2.2.2.2.2.2 (add_mono (Nat.le_of_lt h2.2.2.2.2.1) (Nat.le_of_lt h2.2.2.2.2.2.1) (i2f_mono h0 hf) (Nat.le_refl _)) (div_mono (by decide) (by omega) (by omega) (Nat.le_refl _) hc)
theorem cln_mono {x y : Nat} (hx : x < 18446744073709551616) (hy : y < 18446744073709551616) (nx : isN x = false) (ny : isN y = false) (h : key x ≤ key y) : cln x ≤ cln y := by
  by_cases h0 : key x ≤ 0
  · have : cln x = 0 := by unfold cln; rw [nx]; simp [h0]
    rw [this]
    exact Nat.zero_le _
  · obtain ⟨a1, a2⟩ := above_zero hx nx (by omega)
    obtain ⟨b1, b2⟩ := above_zero hy ny (by omega)
    rw [cln_pos a2, cln_pos b2]
    rw [key_pos a2, key_pos b2] at h
    have : ¬ y < x := fun q => by have := iv_lt q; omega
    omega
/-! which is less -/
def lsN (a b : Nat) : Bool := if isN a then false else isN b || decide (key a < key b)
/-! sums -/
def okJ (x : Nat) : Bool := !isN x && decide (0 ≤ key x) && !(x == 9218868437227405312)
def jn : List Nat → Nat → Nat
  | [], s => s
  | x :: l, s => if okJ x then jn l (fadd s x) else 9218868437227405312
theorem okJ_of {x : Nat} (hx : x < 18446744073709551616) (h : okJ x = true) : isN x = false ∧ (x = 9223372036854775808 ∨ x < 9218868437227405312) := by
  unfold okJ at h
  simp only [Bool.and_eq_true, Bool.not_eq_true', decide_eq_true_eq, beq_eq_false_iff_ne] at h
  have := not_below hx h.1.1 h.1.2
  exact ⟨h.1.1, by omega⟩
theorem jn_step {s x : Nat} (hs : s ≤ 9218868437227405312) (hx : x < 18446744073709551616) (h : okJ x = true) : double.add s x = some (fadd s x) ∧ fadd s x ≤ 9218868437227405312 ∧ s ≤ fadd s x ∧ key x ≤ key (fadd s x) := by
  rcases (okJ_of hx h).2 with e | e
  · subst e
    have h1 := add_nought hs
    have h2 : fadd s 9223372036854775808 = s := by unfold fadd; rw [h1]; rfl
    rw [h2]
    refine ⟨h1, hs, Nat.le_refl _, ?_⟩
    rw [key_pos hs, show key 9223372036854775808 = 0 from by decide +kernel]
    omega
  · have h1 := add_some hs (Nat.le_of_lt e)
    have h2 := add_ge_r hs (Nat.le_of_lt e)
    refine ⟨h1.1, h1.2, add_ge_l hs (Nat.le_of_lt e), ?_⟩
    rw [key_pos h1.2, key_pos (Nat.le_of_lt e)]
    have := iv_le h2
    omega
theorem jn_le : ∀ (l : List Nat) (s : Nat), s ≤ 9218868437227405312 → (∀ x ∈ l, x < 18446744073709551616) → jn l s ≤ 9218868437227405312 ∧ s ≤ jn l s
  | [], s, hs, _ => ⟨hs, Nat.le_refl _⟩
  | x :: l, s, hs, hl => by
    unfold jn
    cases h : okJ x with
    | false => exact ⟨Nat.le_refl _, hs⟩
    | true =>
      have h1 := jn_step hs (hl x (List.mem_cons_self ..)) h
      have h2 := jn_le l (fadd s x) h1.2.1 (fun y hy => hl y (List.mem_cons_of_mem _ hy))
      simp only [if_true]
      exact ⟨h2.1, by omega⟩
/-- each of them is at most the sum; one that may not be makes it have no end -/
theorem jn_each : ∀ (l : List Nat) (s : Nat), s ≤ 9218868437227405312 → (∀ x ∈ l, x < 18446744073709551616) → ∀ x ∈ l, (okJ x = true → key x ≤ key (jn l s)) ∧ (okJ x = false → jn l s = 9218868437227405312)
  | y :: l, s, hs, hl, x, hx => by
    have hy := hl y (List.mem_cons_self ..)
    unfold jn
    cases h : okJ y with
    | false =>
      simp only [Bool.false_eq_true, if_false]
      refine ⟨fun hk => ?_, fun _ => trivial⟩
      have := okJ_of (hl x hx) hk
      rw [key_pos (x := 9218868437227405312) (by decide)]
      rcases this.2 with e | e
      · subst e
        rw [show key 9223372036854775808 = 0 from by decide +kernel]
        exact Int.natCast_nonneg _
      · rw [key_pos (Nat.le_of_lt e)]
        have := iv_lt e
        omega
    | true =>
      have h1 := jn_step hs hy h
      have h2 := jn_le l (fadd s y) h1.2.1 (fun z hz => hl z (List.mem_cons_of_mem _ hz))
      simp only [if_true]
      rcases List.mem_cons.1 hx with e | e
      · subst e
        refine ⟨fun _ => ?_, fun hk => by rw [h] at hk; cases hk⟩
        refine Int.le_trans h1.2.2.2 ?_
        rw [key_pos h1.2.1, key_pos h2.1]
        have := iv_le h2.2
        omega
      · exact jn_each l (fadd s y) h1.2.1 (fun z hz => hl z (List.mem_cons_of_mem _ hz)) x e
end Go.Proofs.Ytgnkcmmpbohafaa
