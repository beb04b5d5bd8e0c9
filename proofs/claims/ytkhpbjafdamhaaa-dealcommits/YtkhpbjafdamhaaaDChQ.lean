/- A commitment is a transaction that may be. -/
import Derived.Test.YtkhpbjafdamhaaaDChO
namespace Go.Proofs.Ytkhpbjafdamhaaa
open Go.RowKit
set_option linter.unusedVariables false
set_option linter.unusedSimpArgs false
set_option maxRecDepth 100000

theorem may21 {g c d n : Nat} {ao : Option Addr} {Cs : Nat → Array Value} {z : Nat → Int} {X K : Array Value} {fo p : Int} (hX : X.size = 130) (hKX : X.extract 0 33 = K) (hK : K.size = 33) (h32 : X[32]? = some (.int .i64 fo)) (h33 : X[33]? = some (.int .i64 p)) (f0 : 0 ≤ fo) (p0 : 0 ≤ p) (hR : Refl 24 10000 (.agg K)) (w : World) (kg : w.heap[g]? = some (.cells X 61)) (h : Rg w ao n 2 Cs) (h1 : 1 ≤ n) (h2 : n ≤ 64) (hO : ∀ i, i < n → Ook w 8 (Cs i)) (hz : ∀ i, i < n → (Cs i)[0]? = some (.int .i64 (z i))) (hone : ∀ i, i < n → (Cs i).all (·.oneCell') = true) (hw : ∀ i, i < n → z i ≤ 9223372036854775807) (hs : sumE z n = 0) : Calls Try.prog 21 #[.int .i64 8, .agg #[.slice (some ⟨g, 0, none⟩) 1 c, .slice ao n d]] w fun e w' => e = .returned (.bool true) ∧ Below w.heap.size w w' := by
  have E : Below w.heap.size w w := Below.refl _ _
  go_enter Try.func21, Try.ntmps21; refine wq fun Q hQ => ?_; refine st_new (fun b => .pointer (some ⟨b, 0, none⟩)) (some 3) rfl rfl (ex_box rfl rfl) ?_; intro b1 W1 k1 g1 B; simp only [zp]
  have ne_b1_g : b1 ≠ g := fun e => by have := lt_of kg; omega
  have ge_b1 := Nat.le_trans E.size g1; replace E := below_next E B; replace kg := keep B kg; clear B; refine sg (.bool false) 4 rfl rfl rfl rfl ?_; simp only [zp]; refine st_end ?_; subst hQ; refine wq fun Q hQ => ?_; refine sm (.int .i64 8) 5 rfl rfl rfl rfl ?_; simp only [zp]; refine st_call (some 6) rfl rfl (nodes40 W1) (ex_call (f := 40) (vs := [(.int .i64 8)]) rfl (cf40 _) rfl) ?_; rintro e W2 ⟨rfl, B⟩; refine ⟨_, rfl, ?_⟩; simp only [zp]; replace E := below_next E B; replace kg := keep B kg; replace k1 := keep B k1; refine sm (.bool true) 7 rfl rfl rfl rfl ?_; simp only [zp]
  refine sv (.pointer (some ⟨b1, 0, none⟩)) 8 rfl rfl (ex_fa (p := (.pointer (some ⟨b1, 0, none⟩))) rfl rfl (fa34_0 _ _)) ?_; simp only [zp]; refine sv (.slice (some ⟨g, 0, none⟩) 1 c) 9 rfl rfl (ex_load (p := (.pointer (some ⟨b1, 0, none⟩))) rfl rfl (ld31 (at_cell k1 rfl))) ?_; simp only [zp]; refine st_call (some 10) rfl rfl (ins41 (c := c) hX hKX hK h32 h33 f0 p0 hR W2 kg) (ex_call (f := 41) (vs := [(.slice (some ⟨g, 0, none⟩) 1 c)]) rfl (cf41 _) rfl) ?_; rintro e W3 ⟨rfl, B⟩; refine ⟨_, rfl, ?_⟩; simp only [zp]; replace E := below_next E B; replace kg := keep B kg; replace k1 := keep B k1
  refine sv (.bool true) 11 rfl rfl (ex_pkT rfl rfl rfl) ?_; simp only [zp]; refine sm (.bool true) 12 rfl rfl rfl rfl ?_; simp only [zp]; refine sm (.int .i64 8) 13 rfl rfl rfl rfl ?_; simp only [zp]; refine sv (.pointer (some ⟨b1, 1, none⟩)) 14 rfl rfl (ex_fa (p := (.pointer (some ⟨b1, 0, none⟩))) rfl rfl (fa34_1 _ _)) ?_; simp only [zp]; refine sv (.slice ao n d) 15 rfl rfl (ex_load (p := (.pointer (some ⟨b1, 1, none⟩))) rfl rfl (ld32 (at_cell k1 rfl))) ?_; simp only [zp]
  refine st_call (some 16) rfl rfl (outs42 (c := d) W3 (h.below E) h1 h2 (fun i hi => (hO i hi).below E) hz hone hw hs) (ex_call (f := 42) (vs := [(.int .i64 8), (.slice ao n d)]) rfl (cf42 _) rfl) ?_; rintro e W4 ⟨rfl, B⟩; refine ⟨_, rfl, ?_⟩; simp only [zp]; replace E := below_next E B; replace kg := keep B kg; replace k1 := keep B k1; refine sv (.bool true) 17 rfl rfl (ex_pkT rfl rfl rfl) ?_; simp only [zp]; refine sg (.bool true) 4 rfl rfl rfl rfl ?_; simp only [zp]; refine st_end ?_; subst hQ; refine wp_ret ?_; refine bodyPost_ret (results_tmp Try.results21 _ _ _) rfl ⟨rfl, E⟩
/-- what lies in a commitment's row -/
def oc (gs : Nat → Nat) (m : Nat → Int) (l : Nat → Nat) (i : Nat) : Array Value := #[.int .i64 (m i), .slice (some ⟨gs i, 0, none⟩) (l i) (l i)]
theorem flat_len (gs : Nat → Nat) (m : Nat → Int) (l : Nat → Nat) : ∀ n, (flat gs m l n).length = n * 2
  | 0 => rfl
  | n + 1 => by
    rw [flat_succ, List.length_append, flat_len gs m l n]
    simp
    omega
theorem flat_at {gs : Nat → Nat} {m : Nat → Int} {l : Nat → Nat} : ∀ {n i j : Nat} {v : Value}, i < n → (oc gs m l i).toList[j]? = some v → (flat gs m l n)[i * 2 + j]? = some v
  | 0, _, _, _, h, _ => by omega
  | n + 1, i, j, v, h, hv => by
    have hl := flat_len gs m l n
    have hj : j < 2 := by
      have := (List.getElem?_eq_some_iff.1 hv).1
      simpa [oc] using this
    rw [flat_succ]
    by_cases e : i = n
    · subst e
      rw [List.getElem?_append_right (by omega), hl, show i * 2 + j - i * 2 = j by omega]; exact hv
    · rw [List.getElem?_append_left (by omega)]
      exact flat_at (by omega) hv
theorem Outs.rg {W : World} {base g n cap : Nat} {gs : Nat → Nat} {m : Nat → Int} {l : Nat → Nat} (h : Rw W base 46 2 g n cap (flat gs m l n)) : Rg W (some ⟨g, 0, none⟩) n 2 (oc gs m l) :=
  .inr ⟨g, 0, rfl, fun i hi => ⟨rfl, fun j v hv => by rw [Nat.zero_add]; exact h.cell (flat_at hi hv)⟩⟩
/-- paths that lie in one block, one after another -/
theorem rg1 {W : World} {b : Nat} {A : Array Value} (k : W.heap[b]? = some (.cells A 66)) (hA : A.size = 37) : Rg W (some ⟨b, 0, none⟩) 1 37 (fun _ => A) :=
  .inr ⟨b, 0, rfl, fun i hi => ⟨hA, fun j v hv => by
    have : i = 0 := by omega
    subst this
    exact at_cell k (by rw [show 0 + 0 * 37 + j = j by omega]; simpa using hv)⟩⟩
theorem rg2 {W : World} {b : Nat} {A B : Array Value} (k : W.heap[b]? = some (.cells (A ++ B) 66)) (hA : A.size = 37) (hB : B.size = 37) : Rg W (some ⟨b, 0, none⟩) 2 37 (fun i => if i = 0 then A else B) :=
  .inr ⟨b, 0, rfl, fun i hi => by
    match i, hi with
    | 0, _ => exact ⟨hA, fun j v hv => at_cell k (by
        have hj := (List.getElem?_eq_some_iff.1 hv).1
        have hj' : j < A.size := by simpa using hj
        rw [show 0 + 0 * 37 + j = j by omega, Array.getElem?_append_left hj']
        simpa using hv)⟩
    | 1, _ => exact ⟨hB, fun j v hv => at_cell k (by
        rw [show 0 + 1 * 37 + j = 37 + j by omega, Array.getElem?_append_right (by omega), hA, show 37 + j - 37 = j by omega]
        simpa using hv)⟩⟩
theorem rg3 {W : World} {b : Nat} {A B D : Array Value} (k : W.heap[b]? = some (.cells (A ++ B ++ D) 66)) (hA : A.size = 37) (hB : B.size = 37) (hD : D.size = 37) : Rg W (some ⟨b, 0, none⟩) 3 37 (fun i => if i = 0 then A else if i = 1 then B else D) :=
  .inr ⟨b, 0, rfl, fun i hi => by
    match i, hi with
    | 0, _ => exact ⟨hA, fun j v hv => at_cell k (by
        have hj := (List.getElem?_eq_some_iff.1 hv).1
        have hj' : j < A.size := by simpa using hj
        rw [show 0 + 0 * 37 + j = j by omega, Array.getElem?_append_left (by rw [Array.size_append]; omega), Array.getElem?_append_left hj']
        simpa using hv)⟩
    | 1, _ => exact ⟨hB, fun j v hv => at_cell k (by
        have hj := (List.getElem?_eq_some_iff.1 hv).1
        have hj' : j < B.size := by simpa using hj
        rw [show 0 + 1 * 37 + j = 37 + j by omega, Array.getElem?_append_left (by rw [Array.size_append]; omega), Array.getElem?_append_right (by omega), hA, show 37 + j - 37 = j by omega]
        simpa using hv)⟩
    | 2, _ => exact ⟨hD, fun j v hv => at_cell k (by
        rw [show 0 + 2 * 37 + j = 74 + j by omega, Array.getElem?_append_right (by rw [Array.size_append]; omega), Array.size_append, hA, hB, show 74 + j - (37 + 37) = j by omega]
        simpa using hv)⟩⟩

end Go.Proofs.Ytkhpbjafdamhaaa
