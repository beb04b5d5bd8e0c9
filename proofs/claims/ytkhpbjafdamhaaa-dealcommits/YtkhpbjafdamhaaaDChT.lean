/- Paths of a commitment are themselves. -/
import Derived.Test.YtkhpbjafdamhaaaDChR
namespace Go.Proofs.Ytkhpbjafdamhaaa
open Go.RowKit
set_option linter.unusedVariables false
set_option linter.unusedSimpArgs false
set_option maxRecDepth 100000
theorem cutA {A B : Array Value} {n : Nat} (hA : A.size = n) : (A ++ B).extract 0 (0 + n) = A := by
  subst hA
  apply Array.ext
  · simp
  · intro i h1 h2
    simp [Array.getElem_append, h2]
theorem cutB {A B : Array Value} {n m : Nat} (hA : A.size = n) (hB : B.size = m) : (A ++ B).extract n (n + m) = B := by
  subst hA hB
  apply Array.ext
  · simp
  · intro i h1 h2
    simp [Array.getElem_append]
theorem selfs1 {A : Array Value} (hA : A.size = 37) (rA : Refl 66 10000 (.agg A)) : SelfPs A 1 := ⟨by rw [hA], fun k hk => by
  have : k = 0 := by omega
  subst this; rw [show 0 * 37 = 0 from rfl, show 0 + 37 = A.size from by rw [hA], Array.extract_size]
  exact rA⟩
theorem selfs2 {A B : Array Value} (hA : A.size = 37) (hB : B.size = 37) (rA : Refl 66 10000 (.agg A)) (rB : Refl 66 10000 (.agg B)) : SelfPs (A ++ B) 2 := ⟨by rw [Array.size_append, hA, hB], fun k hk => by
  match k, hk with
  | 0, _ => rw [show 0 * 37 = 0 from rfl, cutA hA]; exact rA
  | 1, _ => rw [show 1 * 37 = 37 from rfl, cutB hA hB]; exact rB⟩
theorem selfs3 {A B D : Array Value} (hA : A.size = 37) (hB : B.size = 37) (hD : D.size = 37) (rA : Refl 66 10000 (.agg A)) (rB : Refl 66 10000 (.agg B)) (rD : Refl 66 10000 (.agg D)) : SelfPs (A ++ B ++ D) 3 := ⟨by rw [Array.size_append, Array.size_append, hA, hB, hD], fun k hk => by
  match k, hk with
  | 0, _ => rw [show 0 * 37 = 0 from rfl, Array.append_assoc, cutA hA]; exact rA
  | 1, _ =>
    have : (A ++ B ++ D).extract 37 (37 + 37) = B := by
      apply Array.ext
      · simp [hA, hB, hD]
      · intro i h1 h2
        have : i < 37 := by rw [hB] at h2; exact h2
        simp [Array.getElem_append, hA, hB, this]
    rw [show 1 * 37 = 37 from rfl, this]; exact rB
  | 2, _ => rw [show 2 * 37 = 74 from rfl, cutB (n := 74) (by rw [Array.size_append, hA, hB]) hD]; exact rD⟩
theorem reflU (a h d : Int) {l : List Int} (hl : l.length = 32) : Refl 66 10000 (.agg (pth a 0 false h d (U8 l).toArray)) := refl66 a 0 h d false hl
theorem reflZ (a h d : Int) : Refl 66 10000 (.agg (pth a 0 false h d Z32)) := by
  have := refl66 a 0 h d false (l := ZL) rfl
  rw [← Z32_u8] at this; exact this
theorem self_opth {h oth d : Int} {pl : List Int} {n : Nat} {hv : Nat → HV} (hpl : pl.length = 32) (hl : ∀ i, i < n → (hv i).hl.length = 32) : ∀ j, j < n + 2 → SelfPs (opth h oth d (U8 pl).toArray hv j) (ol j) ∧ ol j ≤ 64
  | 0, _ => ⟨selfs2 (pth_size Z32_size) (pth_size (U8_size pl hpl)) (reflZ _ _ _) (reflU _ _ _ hpl), by decide⟩
  | 1, _ => ⟨selfs1 (pth_size Z32_size) (reflZ _ _ _), by decide⟩
  | j + 2, hj => by
    have e3 : opth h oth d (U8 pl).toArray hv (j + 2) = htlP h oth d (U8 pl).toArray (hv j) := by simp [opth]
    have e4 : ol (j + 2) = 3 := by simp [ol]
    rw [e3, e4]; have hq := hl j (by omega); refine ⟨?_, by decide⟩
    unfold htlP HV.hash
    split
    · exact selfs3 (pth_size (U8_size _ hq)) (pth_size Z32_size) (pth_size (U8_size pl hpl)) (reflU _ _ _ hq) (reflZ _ _ _) (reflU _ _ _ hpl)
    · exact selfs3 (pth_size (U8_size _ hq)) (pth_size Z32_size) (pth_size (U8_size pl hpl)) (reflU _ _ _ hq) (reflZ _ _ _) (reflU _ _ _ hpl)
theorem self_fund (a b : Int) : SelfPs (pth a b true 0 0 Z32) 1 := by
  have := refl66 a b 0 0 true (l := ZL) rfl
  rw [← Z32_u8] at this; exact selfs1 (pth_size Z32_size) this
end Go.Proofs.Ytkhpbjafdamhaaa
