/- Proved: for all two numbers the statement BigsizeOrders (P1.1: of two numbers the lower one has at most as many bytes; of as many bytes the lower one's come first) returns true over the code at the commit. No condition. -/
import Derived.Test.YtclimopeejkdbabRows
import Derived.Test.YtclimopeejkdbabBigLivesB
import Derived.Test.YtclimopeejkdbabBigMathB
import Derived.WalkKit
import Derived.ProofKit
import Derived.OpenShut
namespace Go.Proofs.Ytclimopeejkdbab.bigsizeOrders
open Go.ChangeShapes Go.WideShapes Go.ChangeAt Go.RowKit
set_option linter.unusedVariables false

def b8 (c : Int) : UInt8 := UInt8.ofNat c.toNat
theorem str_list (L : List Int) : (strOfNums L).toList = L.map b8 := by
  rw [ByteArray.toList_eq, strOfNums_data]
  rfl
theorem b8_lt (a b : Int) (h0 : 0 ≤ a) (hab : a < b) (h1 : b ≤ 255) : b8 a < b8 b := by
  rw [UInt8.lt_iff_toNat_lt]
  unfold b8
  rw [UInt8.toNat_ofNat', UInt8.toNat_ofNat']
  omega

theorem hiL_cons (x : Int) (n : Nat) : hiL x (n + 1) (n + 1) = hiB x (n + 1) 0 :: hiL x n n := by
  unfold hiL
  rw [List.range_succ_eq_map, List.map_cons, List.map_map]
  congr 1
  refine List.map_congr_left fun j hj => ?_
  show hiB x (n + 1) (j + 1) = hiB x n j
  unfold hiB
  rw [show n + 1 - 1 - (j + 1) = n - 1 - j by omega]
theorem less_hi (n : Nat) (x y : Int) (h0 : 0 ≤ x) (hxy : x < y) (ht : x / 2 ^ (8 * n) = y / 2 ^ (8 * n)) : Op.bytesLess ((hiL x n n).map b8) ((hiL y n n).map b8) = true := by
  induction n with
  | zero =>
    simp at ht
    omega
  | succ n ih =>
    rw [hiL_cons, hiL_cons, List.map_cons, List.map_cons]
    unfold Op.bytesLess
    rw [show 8 * (n + 1) = 8 * n + 8 by omega, Int.pow_add, ← Int.ediv_ediv_of_nonneg (Int.le_of_lt (Int.pow_pos (by omega))), ← Int.ediv_ediv_of_nonneg (Int.le_of_lt (Int.pow_pos (by omega)))] at ht
    have hX : hiB x (n + 1) 0 = x / 2 ^ (8 * n) % 256 := rfl
    have hY : hiB y (n + 1) 0 = y / 2 ^ (8 * n) % 256 := rfl
    rw [hX, hY]
    have hle : x / 2 ^ (8 * n) ≤ y / 2 ^ (8 * n) := Int.ediv_le_ediv (Int.pow_pos (by omega)) (by omega)
    by_cases e : x / 2 ^ (8 * n) = y / 2 ^ (8 * n)
    · rw [ih e, e]
      simp
    · generalize x / 2 ^ (8 * n) = X at *
      generalize y / 2 ^ (8 * n) = Y at *
      have ht' : X / 256 = Y / 256 := ht
      have hl := b8_lt (X % 256) (Y % 256) (by omega) (by omega) (by omega)
      simp [hl]
theorem less_num (x y : Int) (h0 : 0 ≤ x) (hxy : x < y) (h1 : y ≤ 18446744073709551615) (hs : sizeN x = sizeN y) : Op.bytesLess (strOfNums (numB x)).toList (strOfNums (numB y)).toList = true := by
  rw [str_list, str_list]
  unfold sizeN at hs
  have z : ∀ (v : Int) (n : Nat), 0 ≤ v → v < 2 ^ (8 * n) → v / 2 ^ (8 * n) = 0 := fun v n a b => Int.ediv_eq_zero_of_lt a b
  by_cases c1 : y < 253
  · rw [show numB x = [x] from if_pos (by omega), show numB y = [y] from if_pos c1]
    have hl := b8_lt x y h0 hxy (by omega)
    simp [Op.bytesLess, hl]
  · rw [if_neg c1] at hs
    have c1x : ¬ x < 253 := fun h => by rw [if_pos h] at hs; revert hs; (repeat' split) <;> omega
    rw [if_neg c1x] at hs
    by_cases c2 : y ≤ 65535
    · have ex : numB x = 253 :: hiL x 2 2 := by unfold numB; rw [if_neg c1x, if_pos (by omega)]
      have ey : numB y = 253 :: hiL y 2 2 := by unfold numB; rw [if_neg c1, if_pos c2]
      rw [ex, ey, List.map_cons, List.map_cons]
      unfold Op.bytesLess
      rw [less_hi 2 x y h0 hxy (by rw [z x 2 h0 (by show x < 65536; omega), z y 2 (by omega) (by show y < 65536; omega)])]
      simp
    · rw [if_neg c2] at hs
      have c2x : ¬ x ≤ 65535 := fun h => by rw [if_pos h] at hs; revert hs; (repeat' split) <;> omega
      rw [if_neg c2x] at hs
      by_cases c3 : y ≤ 4294967295
      · have ex : numB x = 254 :: hiL x 4 4 := by unfold numB; rw [if_neg c1x, if_neg c2x, if_pos (by omega)]
        have ey : numB y = 254 :: hiL y 4 4 := by unfold numB; rw [if_neg c1, if_neg c2, if_pos c3]
        rw [ex, ey, List.map_cons, List.map_cons]
        unfold Op.bytesLess
        rw [less_hi 4 x y h0 hxy (by rw [z x 4 h0 (by show x < 4294967296; omega), z y 4 (by omega) (by show y < 4294967296; omega)])]
        simp
      · rw [if_neg c3] at hs
        have c3x : ¬ x ≤ 4294967295 := fun h => by rw [if_pos h] at hs; omega
        have ex : numB x = 255 :: hiL x 8 8 := by unfold numB; rw [if_neg c1x, if_neg c2x, if_neg c3x]
        have ey : numB y = 255 :: hiL y 8 8 := by unfold numB; rw [if_neg c1, if_neg c2, if_neg c3]
        rw [ex, ey, List.map_cons, List.map_cons]
        unfold Op.bytesLess
        rw [less_hi 8 x y h0 hxy (by rw [z x 8 h0 (by show x < 18446744073709551616; omega), z y 8 (by omega) (by show y < 18446744073709551616; omega)])]
        simp
theorem b8_inj (a b : Int) (h0 : 0 ≤ a) (h1 : a ≤ 255) (h2 : 0 ≤ b) (h3 : b ≤ 255) (h : b8 a = b8 b) : a = b := by
  have e : (b8 a).toNat = (b8 b).toNat := by rw [h]
  unfold b8 at e
  rw [UInt8.toNat_ofNat', UInt8.toNat_ofNat'] at e
  omega
theorem list_inj : ∀ (A B : List Int), (∀ c ∈ A, 0 ≤ c ∧ c ≤ 255) → (∀ c ∈ B, 0 ≤ c ∧ c ≤ 255) → A.map b8 = B.map b8 → A = B
  | [], [], _, _, _ => rfl
  | [], _ :: _, _, _, h => by simp at h
  | _ :: _, [], _, _, h => by simp at h
  | a :: A, b :: B, hA, hB, h => by
    simp only [List.map_cons, List.cons.injEq] at h
    have ha := hA a (List.mem_cons_self ..)
    have hb := hB b (List.mem_cons_self ..)
    rw [b8_inj a b ha.1 ha.2 hb.1 hb.2 h.1, list_inj A B (fun c hc => hA c (List.mem_cons_of_mem _ hc)) (fun c hc => hB c (List.mem_cons_of_mem _ hc)) h.2]
theorem num_inj (x y : Int) (h0 : 0 ≤ x) (h1 : x ≤ 18446744073709551615) (h2 : 0 ≤ y) (h3 : y ≤ 18446744073709551615) (h : (strOfNums (numB x)).toList = (strOfNums (numB y)).toList) : x = y := by
  rw [str_list, str_list] at h
  have e := list_inj _ _ (numB_bytes x h0) (numB_bytes y h2) h
  have rx := (rd_num x [] h0 h1).1
  have ry := (rd_num y [] h2 h3).1
  rw [e] at rx
  exact rx.symm.trans ry
theorem size_le (x y : Int) (h : x ≤ y) : sizeN x ≤ sizeN y := by
  unfold sizeN
  (repeat' split) <;> omega

/-- Put of nothing and a number -/
theorem putn (x : Int) (w : World) (h0 : 0 ≤ x) (h1 : x ≤ 18446744073709551615) :
    Calls Try.prog 9 #[.slice none 0 0, .int .u64 x] w fun e w' => ∃ ao cp, e = .returned (.slice ao (numB x).length cp) ∧ Hid (IsB w' ao cp (numB x)) ∧ Below w.heap.size w w' := by
  have h := put_any none 0 [] x w (.inl ⟨rfl, rfl, rfl⟩) (by simp) h0 h1
  refine h.mono fun e w' hh => ?_
  obtain ⟨v, he, ho, hb⟩ := hh
  rw [List.nil_append] at ho
  obtain ⟨ao, cp, hv, hB, _, _⟩ := own_isB ho
  exact ⟨ao, cp, by rw [he, hv], hB, hb⟩

set_option maxHeartbeats 1000000 in
theorem same (x y : Int) (w : World) (h0 : 0 ≤ x) (x1 : x ≤ 18446744073709551615) (y0 : 0 ≤ y) (y1 : y ≤ 18446744073709551615) (hxy : x = y) (hlen : sizeN x = sizeN y) (hE : ((strOfNums (numB x)).toList == (strOfNums (numB y)).toList) = true) :
    Calls Try.prog 3 #[.int .u64 x, .int .u64 y] w fun e w' => e = .returned (.bool true) ∧ Below w.heap.size w w' := by
  have HX := hide (fun w => putn x w h0 x1)
  have HY := hide (fun w => putn y w y0 y1)
  have HS := hide (fun w => size_any x w h0)
  have lx := numB_length x
  have ly := numB_length y
  rw [← lx] at HS
  rw [← lx, ← ly] at hlen
  have hl9 := numB_le x
  have hm9 := numB_le y
  clear lx ly
  generalize numB x = A at *
  generalize numB y = B at *
  have cnv := hide (fun w ao cp (h : IsB w ao cp A) => conv_any h)
  have cnw := hide (fun w ao cp (h : IsB w ao cp B) => conv_any h)
  generalize strOfNums A = sa at *
  generalize strOfNums B = sb at *
  generalize A.length = m at *
  generalize B.length = n at *
  have g1 : (m : Int) ≤ (n : Int) := by omega
  have gx : (x == y) = true := by simp; exact hxy
  have g2 : ((m : Int) != (n : Int)) = false := by simp; omega
  have hx2 : x ≤ y := by omega
  clear hlen hxy
  go_enter Try.func3, Try.ntmps3
  go_wp2_with fail
  refine (HX.out _).mono ?_
  rintro e w1 ⟨a1, c1, rfl, i1, hb⟩
  have HB1 := hide hb
  have z1 := hb.size
  clear hb
  go_wp2_with fail
  refine (HY.out _).mono ?_
  rintro e w2 ⟨a2, c2, rfl, i2, hb⟩
  have HB2 := hide (HB1.out.trans (hb.mono z1))
  have i3 := hide (i1.out.below hb)
  have z2 := hb.size
  clear hb i1
  go_wp2_with fail
  refine (lives_any _).mono ?_
  rintro e w3 ⟨rfl, hb⟩
  have HB3 := hide (HB2.out.trans (hb.mono (by omega)))
  have cx := cnv.out _ _ _ (i3.out.below hb)
  have cy := cnw.out _ _ _ (i2.out.below hb)
  clear hb i2 i3
  go_wp2_with fail
  refine (HS.out _).mono ?_
  rintro e w4 ⟨rfl, rfl⟩
  go_wp2
  go_ret
  exact ⟨by simp, HB3.out⟩

set_option maxHeartbeats 1000000 in
theorem long_u (x y : Int) (w : World) (h0 : 0 ≤ x) (x1 : x ≤ 18446744073709551615) (y0 : 0 ≤ y) (y1 : y ≤ 18446744073709551615) (hxy : x < y) (hlen : sizeN x < sizeN y) (hE : ((strOfNums (numB x)).toList == (strOfNums (numB y)).toList) = false) :
    Calls Try.prog 3 #[.int .u64 x, .int .u64 y] w fun e w' => e = .returned (.bool true) ∧ Below w.heap.size w w' := by
  have HX := hide (fun w => putn x w h0 x1)
  have HY := hide (fun w => putn y w y0 y1)
  have HS := hide (fun w => size_any x w h0)
  have lx := numB_length x
  have ly := numB_length y
  rw [← lx] at HS
  rw [← lx, ← ly] at hlen
  have hl9 := numB_le x
  have hm9 := numB_le y
  clear lx ly
  generalize numB x = A at *
  generalize numB y = B at *
  have cnv := hide (fun w ao cp (h : IsB w ao cp A) => conv_any h)
  have cnw := hide (fun w ao cp (h : IsB w ao cp B) => conv_any h)
  generalize strOfNums A = sa at *
  generalize strOfNums B = sb at *
  generalize A.length = m at *
  generalize B.length = n at *
  have g1 : (m : Int) ≤ (n : Int) := by omega
  have gx : (x == y) = false := by simp; omega
  have g2 : ((m : Int) != (n : Int)) = true := by simp; omega
  clear hlen
  go_enter Try.func3, Try.ntmps3
  go_wp2_with fail
  refine (HX.out _).mono ?_
  rintro e w1 ⟨a1, c1, rfl, i1, hb⟩
  have HB1 := hide hb
  have z1 := hb.size
  clear hb
  go_wp2_with fail
  refine (HY.out _).mono ?_
  rintro e w2 ⟨a2, c2, rfl, i2, hb⟩
  have HB2 := hide (HB1.out.trans (hb.mono z1))
  have i3 := hide (i1.out.below hb)
  have z2 := hb.size
  clear hb i1
  go_wp2_with fail
  refine (lives_any _).mono ?_
  rintro e w3 ⟨rfl, hb⟩
  have HB3 := hide (HB2.out.trans (hb.mono (by omega)))
  have cx := cnv.out _ _ _ (i3.out.below hb)
  have cy := cnw.out _ _ _ (i2.out.below hb)
  clear hb i2 i3
  go_wp2_with fail
  refine (HS.out _).mono ?_
  rintro e w4 ⟨rfl, rfl⟩
  go_wp2
  go_ret
  exact ⟨by simp, HB3.out⟩

set_option maxHeartbeats 1000000 in
theorem less_u (x y : Int) (w : World) (h0 : 0 ≤ x) (x1 : x ≤ 18446744073709551615) (y0 : 0 ≤ y) (y1 : y ≤ 18446744073709551615) (hxy : x < y) (hlen : sizeN x = sizeN y) (hE : ((strOfNums (numB x)).toList == (strOfNums (numB y)).toList) = false) (hL : Op.bytesLess (strOfNums (numB x)).toList (strOfNums (numB y)).toList = true) :
    Calls Try.prog 3 #[.int .u64 x, .int .u64 y] w fun e w' => e = .returned (.bool true) ∧ Below w.heap.size w w' := by
  have HX := hide (fun w => putn x w h0 x1)
  have HY := hide (fun w => putn y w y0 y1)
  have HS := hide (fun w => size_any x w h0)
  have lx := numB_length x
  have ly := numB_length y
  rw [← lx] at HS
  rw [← lx, ← ly] at hlen
  have hl9 := numB_le x
  have hm9 := numB_le y
  clear lx ly
  generalize numB x = A at *
  generalize numB y = B at *
  have cnv := hide (fun w ao cp (h : IsB w ao cp A) => conv_any h)
  have cnw := hide (fun w ao cp (h : IsB w ao cp B) => conv_any h)
  generalize strOfNums A = sa at *
  generalize strOfNums B = sb at *
  generalize A.length = m at *
  generalize B.length = n at *
  have g1 : (m : Int) ≤ (n : Int) := by omega
  have gx : (x == y) = false := by simp; omega
  have g2 : ((m : Int) != (n : Int)) = false := by simp; omega
  clear hlen
  go_enter Try.func3, Try.ntmps3
  go_wp2_with fail
  refine (HX.out _).mono ?_
  rintro e w1 ⟨a1, c1, rfl, i1, hb⟩
  have HB1 := hide hb
  have z1 := hb.size
  clear hb
  go_wp2_with fail
  refine (HY.out _).mono ?_
  rintro e w2 ⟨a2, c2, rfl, i2, hb⟩
  have HB2 := hide (HB1.out.trans (hb.mono z1))
  have i3 := hide (i1.out.below hb)
  have z2 := hb.size
  clear hb i1
  go_wp2_with fail
  refine (lives_any _).mono ?_
  rintro e w3 ⟨rfl, hb⟩
  have HB3 := hide (HB2.out.trans (hb.mono (by omega)))
  have cx := cnv.out _ _ _ (i3.out.below hb)
  have cy := cnw.out _ _ _ (i2.out.below hb)
  clear hb i2 i3
  go_wp2_with fail
  refine (HS.out _).mono ?_
  rintro e w4 ⟨rfl, rfl⟩
  go_wp2
  go_ret
  exact ⟨by simp, HB3.out⟩

set_option maxHeartbeats 1000000 in
theorem long_d (x y : Int) (w : World) (h0 : 0 ≤ x) (x1 : x ≤ 18446744073709551615) (y0 : 0 ≤ y) (y1 : y ≤ 18446744073709551615) (hxy : x < y) (hlen : sizeN x < sizeN y) (hE : ((strOfNums (numB x)).toList == (strOfNums (numB y)).toList) = false) :
    Calls Try.prog 3 #[.int .u64 y, .int .u64 x] w fun e w' => e = .returned (.bool true) ∧ Below w.heap.size w w' := by
  have HX := hide (fun w => putn x w h0 x1)
  have HY := hide (fun w => putn y w y0 y1)
  have HS := hide (fun w => size_any x w h0)
  have lx := numB_length x
  have ly := numB_length y
  rw [← lx] at HS
  rw [← lx, ← ly] at hlen
  have hl9 := numB_le x
  have hm9 := numB_le y
  clear lx ly
  generalize numB x = A at *
  generalize numB y = B at *
  have cnv := hide (fun w ao cp (h : IsB w ao cp A) => conv_any h)
  have cnw := hide (fun w ao cp (h : IsB w ao cp B) => conv_any h)
  generalize strOfNums A = sa at *
  generalize strOfNums B = sb at *
  generalize A.length = m at *
  generalize B.length = n at *
  have g1 : (m : Int) ≤ (n : Int) := by omega
  have gx : (x == y) = false := by simp; omega
  have g2 : ((m : Int) != (n : Int)) = true := by simp; omega
  clear hlen
  go_enter Try.func3, Try.ntmps3
  go_wp2_with fail
  refine (HX.out _).mono ?_
  rintro e w1 ⟨a1, c1, rfl, i1, hb⟩
  have HB1 := hide hb
  have z1 := hb.size
  clear hb
  go_wp2_with fail
  refine (HY.out _).mono ?_
  rintro e w2 ⟨a2, c2, rfl, i2, hb⟩
  have HB2 := hide (HB1.out.trans (hb.mono z1))
  have i3 := hide (i1.out.below hb)
  have z2 := hb.size
  clear hb i1
  go_wp2_with fail
  refine (lives_any _).mono ?_
  rintro e w3 ⟨rfl, hb⟩
  have HB3 := hide (HB2.out.trans (hb.mono (by omega)))
  have cx := cnv.out _ _ _ (i3.out.below hb)
  have cy := cnw.out _ _ _ (i2.out.below hb)
  clear hb i2 i3
  go_wp2_with fail
  refine (HS.out _).mono ?_
  rintro e w4 ⟨rfl, rfl⟩
  go_wp2
  go_ret
  exact ⟨by simp, HB3.out⟩

set_option maxHeartbeats 1000000 in
theorem less_d (x y : Int) (w : World) (h0 : 0 ≤ x) (x1 : x ≤ 18446744073709551615) (y0 : 0 ≤ y) (y1 : y ≤ 18446744073709551615) (hxy : x < y) (hlen : sizeN x = sizeN y) (hE : ((strOfNums (numB x)).toList == (strOfNums (numB y)).toList) = false) (hL : Op.bytesLess (strOfNums (numB x)).toList (strOfNums (numB y)).toList = true) :
    Calls Try.prog 3 #[.int .u64 y, .int .u64 x] w fun e w' => e = .returned (.bool true) ∧ Below w.heap.size w w' := by
  have HX := hide (fun w => putn x w h0 x1)
  have HY := hide (fun w => putn y w y0 y1)
  have HS := hide (fun w => size_any x w h0)
  have lx := numB_length x
  have ly := numB_length y
  rw [← lx] at HS
  rw [← lx, ← ly] at hlen
  have hl9 := numB_le x
  have hm9 := numB_le y
  clear lx ly
  generalize numB x = A at *
  generalize numB y = B at *
  have cnv := hide (fun w ao cp (h : IsB w ao cp A) => conv_any h)
  have cnw := hide (fun w ao cp (h : IsB w ao cp B) => conv_any h)
  generalize strOfNums A = sa at *
  generalize strOfNums B = sb at *
  generalize A.length = m at *
  generalize B.length = n at *
  have g1 : (m : Int) ≤ (n : Int) := by omega
  have gx : (x == y) = false := by simp; omega
  have g2 : ((m : Int) != (n : Int)) = false := by simp; omega
  clear hlen
  go_enter Try.func3, Try.ntmps3
  go_wp2_with fail
  refine (HX.out _).mono ?_
  rintro e w1 ⟨a1, c1, rfl, i1, hb⟩
  have HB1 := hide hb
  have z1 := hb.size
  clear hb
  go_wp2_with fail
  refine (HY.out _).mono ?_
  rintro e w2 ⟨a2, c2, rfl, i2, hb⟩
  have HB2 := hide (HB1.out.trans (hb.mono z1))
  have i3 := hide (i1.out.below hb)
  have z2 := hb.size
  clear hb i1
  go_wp2_with fail
  refine (lives_any _).mono ?_
  rintro e w3 ⟨rfl, hb⟩
  have HB3 := hide (HB2.out.trans (hb.mono (by omega)))
  have cx := cnv.out _ _ _ (i3.out.below hb)
  have cy := cnw.out _ _ _ (i2.out.below hb)
  clear hb i2 i3
  go_wp2_with fail
  refine (HS.out _).mono ?_
  rintro e w4 ⟨rfl, rfl⟩
  go_wp2
  go_ret
  exact ⟨by simp, HB3.out⟩

theorem walk (x y : Int) (w : World) (w0 : (Lit.int .u64 x).wf = true) (w1 : (Lit.int .u64 y).wf = true) :
    Calls Try.prog 3 #[.int .u64 x, .int .u64 y] w fun e w' => e = .returned (.bool true) ∧ Below w.heap.size w w' := by
  obtain ⟨x0, x1⟩ := bounds_u64 w0
  obtain ⟨y0, y1⟩ := bounds_u64 w1
  have ne : ∀ a b : Int, 0 ≤ a → a ≤ 18446744073709551615 → 0 ≤ b → b ≤ 18446744073709551615 → a < b → ((strOfNums (numB a)).toList == (strOfNums (numB b)).toList) = false := fun a b h1 h2 h3 h4 hab =>
    beq_eq_false_iff_ne.2 fun h => by
      have := num_inj a b h1 h2 h3 h4 h
      omega
  rcases Int.lt_trichotomy x y with h | h | h
  · by_cases hs : sizeN x = sizeN y
    · exact less_u x y w x0 x1 y0 y1 h hs (ne x y x0 x1 y0 y1 h) (less_num x y x0 h y1 hs)
    · exact long_u x y w x0 x1 y0 y1 h (by have := size_le x y (by omega); omega) (ne x y x0 x1 y0 y1 h)
  · exact same x y w x0 x1 y0 y1 h (by rw [h]) (by rw [h]; exact beq_self_eq_true _)
  · by_cases hs : sizeN y = sizeN x
    · exact less_d y x w y0 y1 x0 x1 h hs (ne y x y0 y1 x0 x1 h) (less_num y x y0 h x1 hs)
    · exact long_d y x w y0 y1 x0 x1 h (by have := size_le y x (by omega); omega) (ne y x y0 y1 x0 x1 h)

theorem own : ownKnob Try.prog.godebug = none := by kernel_rfl
theorem laidOut : laidOutB Try.prog = true := by kernel_rfl

set_option maxRecDepth 100000 in
theorem lifted (os : Os) (started : os.Started) (H : Type) (enc : TypeId × Value → H) :
    ReturnsInHanded {} Try.checked os 3 .any (Rows.bigsizeOrdersSpec.pre6 enc Try.prog Try.f3 Rows.bigsizeOrdersRow.domain false) (Rows.bigsizeOrdersSpec.post enc Try.prog Try.f3 false true false false) := by
  refine returnsInHanded_of_change (C := Try.checked) own started (by kernel_rfl) Try.func3
    (ChangeSpec.witness6 (enc := enc) (C := Try.checked) false ⟨#[], #[.int .u64 0, .int .u64 0], []⟩ 8 (by kernel_rfl) (by kernel_rfl) (by kernel_rfl) (by kernel_rfl)) ?_
  intro W base args ds gs before hval0 hW hcnd _
  have hval : ∀ (j : Nat) t v, Try.f3.params[j]? = some t → args[j]? = some v → Value.okWide Try.prog W .any base t v := hval0
  have hW' := hW
  obtain ⟨p, q, hA0, hV, rfl, hfz, hnd⟩ := hW
  have hA : DataW.TrodAll enc Try.prog W 0 (fun _ => true) true Try.f3.params.toList args.toList ds p := hA0
  rw [Try.params3] at hA hval
  obtain ⟨v0, vs0, d0, ds0, p0, q0, hargs, rfl, rfl, h0, r0⟩ := trodAll_cons hA
  obtain ⟨v1, vs1, d1, ds1, p1, q1, rfl, rfl, rfl, h1, r1⟩ := trodAll_cons r0
  obtain ⟨rfl, rfl, rfl⟩ := trodAll_nil r1
  obtain rfl : args = #[v0, v1] := by cases args; simp_all
  obtain ⟨rfl, rfl⟩ := trodVars_none hV
  have k0 := h0
  have lt0 : ∀ x ∈ p0, x.block < W.heap.size := by obtain ⟨m, hm⟩ := k0; exact DataW.trod_lt m _ _ _ hm
  have k1 := h1
  have lt1 : ∀ x ∈ p1, x.block < W.heap.size := by obtain ⟨m, hm⟩ := k1; exact DataW.trod_lt m _ _ _ hm
  obtain ⟨a0, rfl, rfl, rfl, w0⟩ := open_int Try.underlying22 (hval 0 22 v0 rfl rfl) h0
  obtain ⟨a1, rfl, rfl, rfl, w1⟩ := open_int Try.underlying22 (hval 1 22 v1 rfl rfl) h1
  clear hA0 hval0
  refine (walk a0 a1 W w0 w1).mono fun e W' ⟨he, bel⟩ => ?_
  subst he
  exact ⟨_, rfl, _, _, _, [], _, [], hW', trodAll_mk1 (shut_bool Try.underlying4 _), (trodAll_cons_mk (Below.trod laidOut (by kernel_rfl) (of_decide_eq_true (by kernel_rfl)) k0 bel lt0) (trodAll_cons_mk (Below.trod laidOut (by kernel_rfl) (of_decide_eq_true (by kernel_rfl)) k1 bel lt1) trodAll_mk0)), rfl, bel.frame _, fun h => by cases h⟩

theorem over : Rows.bigsizeOrdersRow.holds Try.pinned (OpenSpec.ofChange Rows.bigsizeOrdersSpec) :=
  OpenClaim.holds_of_wide 3 Try.f3 rfl rfl rfl rfl rfl rfl rfl ⟨rfl, rfl, rfl, rfl, rfl⟩ rfl rfl rfl rfl rfl (by kernel_rfl) Try.func3 (by kernel_rfl)
    (of_decide_eq_true (by kernel_rfl)) (by unfold Func.isWrapper; first | (rw [if_pos (by decide +kernel)]; kernel_rfl) | (rw [if_neg (by decide +kernel)]; exact ⟨rfl, rfl⟩))
    (fun os started H enc _ => lifted os started H enc)

theorem proved : Rows.BigsizeOrdersSaid := over
end Go.Proofs.Ytclimopeejkdbab.bigsizeOrders
namespace Go.Proofs.Ytclimopeejkdbab
theorem bigsizeOrders_holds : Rows.BigsizeOrdersSaid := bigsizeOrders.proved
end Go.Proofs.Ytclimopeejkdbab
