/- Plain arithmetic of a number's bytes: read back they are the number. -/
import Derived.Test.YtcbadmkgbaffpaaBigRead
namespace Go.Proofs.Ytcbadmkgbaffpaa
open Go.RowKit
set_option linter.unusedVariables false

theorem val_congr (z y : Nat → Int) (k : Nat) (h : ∀ j, j < k → z j = y j) : val z k = val y k := by
  induction k with
  | zero => rfl
  | succ k ih =>
    show val z k * 256 + z k = val y k * 256 + y k
    rw [ih fun j hj => h j (by omega), h k (by omega)]
theorem val_hi (x : Int) (n k : Nat) (hk : k ≤ n) (h0 : 0 ≤ x) (hx : x < 2 ^ (8 * n)) : val (hiB x n) k = x / 2 ^ (8 * (n - k)) := by
  induction k with
  | zero =>
    show (0 : Int) = _
    rw [Nat.sub_zero, Int.ediv_eq_zero_of_lt h0 hx]
  | succ k ih =>
    show val (hiB x n) k * 256 + hiB x n k = _
    rw [ih (by omega)]
    unfold hiB
    rw [show n - 1 - k = n - (k + 1) by omega, show n - k = n - (k + 1) + 1 by omega]
    generalize n - (k + 1) = m
    rw [show 8 * (m + 1) = 8 * m + 8 by omega, Int.pow_add, ← Int.ediv_ediv_of_nonneg (Int.le_of_lt (Int.pow_pos (by omega)))]
    generalize x / 2 ^ (8 * m) = y
    show y / 256 * 256 + y % 256 = y
    omega
theorem hi_byte (x : Int) (n j : Nat) : 0 ≤ hiB x n j ∧ hiB x n j ≤ 255 := by
  unfold hiB
  generalize x / 2 ^ (8 * (n - 1 - j)) = y
  omega
theorem hiL_at (x : Int) (n k : Nat) (hk : k < n) (M : Int) (B : List Int) : (M :: hiL x n n ++ B).getD (1 + k) 0 = hiB x n k := by
  rw [List.getD_eq_getElem?_getD, Nat.add_comm 1 k, List.cons_append, List.getElem?_cons_succ, List.getElem?_append_left (by rw [hiL_length]; exact hk)]
  simp [hiL, hk]
theorem rdV_hi (x M : Int) (n : Nat) (B : List Int) (hS : rdS M = n + 1) (h0 : 0 ≤ x) (hx : x < 2 ^ (8 * n)) : rdV (M :: hiL x n n ++ B) = x := by
  unfold rdV
  rw [show (M :: hiL x n n ++ B).getD 0 0 = M from rfl, hS, Nat.add_sub_cancel, val_congr _ (hiB x n) n fun j hj => hiL_at x n j hj M B, val_hi x n n (Nat.le_refl _) h0 hx]
  simp
theorem rd_hi (x M : Int) (n : Nat) (B : List Int) (hS : rdS M = n + 1) (hn : 0 < n) (h0 : 0 ≤ x) (hx : x < 2 ^ (8 * n)) (hs : sizeN x = (n : Int) + 1) :
    rdX (M :: hiL x n n ++ B) = x ∧ rdN (M :: hiL x n n ++ B) = n + 1 ∧ rdE (M :: hiL x n n ++ B) = 0 := by
  have e0 : (M :: hiL x n n ++ B).getD 0 0 = M := rfl
  have hV := rdV_hi x M n B hS h0 hx
  have hlen : (M :: hiL x n n ++ B).length = n + 1 + B.length := by simp [hiL_length]; omega
  have r := rd_more (zs := M :: hiL x n n ++ B) (by omega) (by rw [e0, hS]; omega) (by rw [e0, hS]; omega) (by rw [e0, hS, hV, hs]; rfl)
  rw [e0, hS, hV] at r
  exact ⟨r.1, by rw [r.2.1]; rfl, r.2.2⟩

/-- a number is read from its bytes, whatever stands behind -/
theorem rd_num (x : Int) (B : List Int) (h0 : 0 ≤ x) (h1 : x ≤ 18446744073709551615) : rdX (numB x ++ B) = x ∧ rdN (numB x ++ B) = (numB x).length ∧ rdE (numB x ++ B) = 0 := by
  by_cases c1 : x < 253
  · rw [show numB x = [x] from if_pos c1]
    have hS : rdS (([x] ++ B).getD 0 0) = 1 := by
      show rdS x = 1
      unfold rdS
      rw [if_neg (by omega), if_neg (by omega), if_neg (by omega)]
    have r := rd_one (zs := [x] ++ B) (by simp) hS
    exact ⟨r.1, r.2.1, r.2.2⟩
  · by_cases c2 : x ≤ 65535
    · have e : numB x = 253 :: hiL x 2 2 := by unfold numB; rw [if_neg c1, if_pos c2]
      have r := rd_hi x 253 2 B rfl (by omega) h0 (by show x < 65536; omega) (by unfold sizeN; rw [if_neg c1, if_pos c2]; rfl)
      rw [e]
      exact ⟨r.1, by rw [r.2.1]; simp [hiL_length], r.2.2⟩
    · by_cases c3 : x ≤ 4294967295
      · have e : numB x = 254 :: hiL x 4 4 := by unfold numB; rw [if_neg c1, if_neg c2, if_pos c3]
        have r := rd_hi x 254 4 B rfl (by omega) h0 (by show x < 4294967296; omega) (by unfold sizeN; rw [if_neg c1, if_neg c2, if_pos c3]; rfl)
        rw [e]
        exact ⟨r.1, by rw [r.2.1]; simp [hiL_length], r.2.2⟩
      · have e : numB x = 255 :: hiL x 8 8 := by unfold numB; rw [if_neg c1, if_neg c2, if_neg c3]
        have r := rd_hi x 255 8 B rfl (by omega) h0 (by show x < 18446744073709551616; omega) (by unfold sizeN; rw [if_neg c1, if_neg c2, if_neg c3]; rfl)
        rw [e]
        exact ⟨r.1, by rw [r.2.1]; simp [hiL_length], r.2.2⟩

theorem hiL_bytes (x : Int) (n k : Nat) : ∀ c ∈ hiL x n k, 0 ≤ c ∧ c ≤ 255 := by
  intro c hc
  simp [hiL] at hc
  obtain ⟨j, _, rfl⟩ := hc
  exact hi_byte x n j
theorem numB_bytes (x : Int) (h0 : 0 ≤ x) : ∀ c ∈ numB x, 0 ≤ c ∧ c ≤ 255 := by
  intro c hc
  unfold numB at hc
  by_cases c1 : x < 253
  · rw [if_pos c1] at hc
    simp at hc
    omega
  · rw [if_neg c1] at hc
    by_cases c2 : x ≤ 65535
    · rw [if_pos c2] at hc
      rcases List.mem_cons.1 hc with rfl | h
      · omega
      · exact hiL_bytes x 2 2 c h
    · rw [if_neg c2] at hc
      by_cases c3 : x ≤ 4294967295
      · rw [if_pos c3] at hc
        rcases List.mem_cons.1 hc with rfl | h
        · omega
        · exact hiL_bytes x 4 4 c h
      · rw [if_neg c3] at hc
        rcases List.mem_cons.1 hc with rfl | h
        · omega
        · exact hiL_bytes x 8 8 c h
theorem getD_all {L : List Int} (h : ∀ c ∈ L, 0 ≤ c ∧ c ≤ 255) : ∀ k, k < L.length → 0 ≤ L.getD k 0 ∧ L.getD k 0 ≤ 255 := fun k hk => by
  refine h _ ?_
  rw [List.getD_eq_getElem?_getD, List.getElem?_eq_getElem hk]
  exact List.getElem_mem hk
theorem all_getD {L : List Int} (h : ∀ k, k < L.length → 0 ≤ L.getD k 0 ∧ L.getD k 0 ≤ 255) : ∀ c ∈ L, 0 ≤ c ∧ c ≤ 255 := fun c hc => by
  obtain ⟨k, hk, rfl⟩ := List.getElem_of_mem hc
  have := h k hk
  rw [List.getD_eq_getElem?_getD, List.getElem?_eq_getElem hk] at this
  exact this
theorem str_append (a b : List Int) : strOfNums a ++ strOfNums b = strOfNums (a ++ b) := by
  apply ByteArray.ext
  rw [ByteArray.data_append]
  apply Array.toList_inj.1
  rw [Array.toList_append, strOfNums_data, strOfNums_data, strOfNums_data, List.map_append]
end Go.Proofs.Ytcbadmkgbaffpaa
