/- The arithmetic under math/bits.Div64 where the divisor has 20 or 21 bits: plain numbers, no program. -/
import Derived.WalkKit
import Derived.Laws.Bits64b
namespace Go.Proofs.Ytgnkcmmpbohafaa
open Go.RowKit
set_option linter.unusedVariables false

/-- a number of two words and one of one word, divided half a word at a time -/
theorem div_core (U V y1 : Nat) (hy : 0 < y1) (hU : U < y1 * 4294967296) (hV : V < 18446744073709551616) :
    (U * 18446744073709551616 + V) / (4294967296 * y1) = U / y1 * 4294967296 + (U % y1 * 4294967296 + V / 4294967296) / y1 ∧ (U % y1 * 4294967296 + V / 4294967296) / y1 < 4294967296 ∧ U / y1 < 4294967296 := by
  have hd := Nat.div_add_mod' U y1
  have hm := Nat.mod_lt U hy
  refine ⟨?_, ?_, Nat.div_lt_of_lt_mul hU⟩
  · rw [← Nat.div_div_eq_div_mul]
    have e4 : (U * 18446744073709551616 + V) / 4294967296 = U * 4294967296 + V / 4294967296 := by omega
    rw [e4]
    generalize U % y1 = R at *
    generalize U / y1 = Q at *
    have e5 : U * 4294967296 + V / 4294967296 = (R * 4294967296 + V / 4294967296) + (Q * 4294967296) * y1 := by
      rw [Nat.mul_right_comm Q 4294967296 y1]
      omega
    rw [e5, Nat.add_mul_div_right _ _ hy, Nat.add_comm]
  · refine Nat.div_lt_of_lt_mul ?_
    generalize U % y1 = R at *
    omega

theorem div_up (T y : Nat) (h : 0 < y) : T < T / y * y + y := by
  have hd := Nat.div_add_mod' T y
  have hm := Nat.mod_lt T h
  omega

namespace D44
theorem and0 (y : Nat) (h : y < 1048576) : bits .and .u64 ((y : Int) * 17592186044416) 4294967295 = 0 := by
  have e : ((y : Int) * 17592186044416) = ((y * 17592186044416 : Nat) : Int) := by omega
  rw [e]
  have h2 := bits_and_u64_nat (y * 17592186044416) 4294967295 (by omega) (by omega)
  have e2 : y * 17592186044416 &&& 4294967295 = (y * 17592186044416) % 4294967296 := Nat.and_two_pow_sub_one_eq_mod (y * 17592186044416) 32
  rw [e2] at h2
  have e3 : (y * 17592186044416) % 4294967296 = 0 := by omega
  rw [e3] at h2
  exact h2
theorem orN (hi lo : Nat) (h : hi < 1048576) (hlo : lo < 18446744073709551616) : bits .or .u64 ((hi : Int) * 17592186044416) ((lo : Int) / 1048576) = ((hi * 17592186044416 + lo / 1048576 : Nat) : Int) := by
  have e : ((hi : Int) * 17592186044416) = ((hi * 17592186044416 : Nat) : Int) := by omega
  have e1 : ((lo : Int) / 1048576) = ((lo / 1048576 : Nat) : Int) := by omega
  rw [e, e1]
  have h2 := bits_or_u64_nat (hi * 17592186044416) (lo / 1048576) (by omega) (by omega)
  have e2 := Nat.two_pow_add_eq_or_of_lt (i := 44) (b := lo / 1048576) (by omega) hi
  rw [show (2 : Nat) ^ 44 * hi = hi * 17592186044416 by omega] at e2
  rw [← e2] at h2
  exact h2
theorem parts (hi lo y : Nat) : (hi * 18446744073709551616 + lo) / y = ((hi * 17592186044416 + lo / 1048576) * 18446744073709551616 + lo * 17592186044416 % 18446744073709551616) / (4294967296 * (y * 4096)) := by
  have e1 : (hi * 18446744073709551616 + lo) / y = (hi * 18446744073709551616 + lo) * 17592186044416 / (y * 17592186044416) := (Nat.mul_div_mul_right _ _ (by omega)).symm
  have e2 : (hi * 18446744073709551616 + lo) * 17592186044416 = (hi * 17592186044416 + lo / 1048576) * 18446744073709551616 + lo * 17592186044416 % 18446744073709551616 := by clear e1; omega
  have e3 : y * 17592186044416 = 4294967296 * (y * 4096) := by clear e1 e2; omega
  rw [e1, e2, e3]
/-- the numbers that the call meets -/
theorem nums (hi lo y : Nat) (hlo : lo < 18446744073709551616) (h1 : 524288 ≤ y) (h2 : y < 1048576) (h3 : hi < y) :
    ∃ U V Z Q R S : Nat, U = hi * 17592186044416 + lo / 1048576 ∧ V = lo * 17592186044416 % 18446744073709551616 ∧ Q = U / (y * 4096) ∧ Z = Q * y ∧ U = Z * 4096 + R ∧ R < y * 4096 ∧ Q < 4294967296 ∧
      S = (R * 4294967296 + V / 4294967296) / (y * 4096) ∧ S < 4294967296 ∧ (hi * 18446744073709551616 + lo) / y = Q * 4294967296 + S ∧ U < 18446744073709551616 ∧ V < 18446744073709551616 := by
  have hp := parts hi lo y
  have hV : lo * 17592186044416 % 18446744073709551616 < 18446744073709551616 := Nat.mod_lt _ (by omega)
  obtain ⟨U, hU⟩ : ∃ U, U = hi * 17592186044416 + lo / 1048576 := ⟨_, rfl⟩
  obtain ⟨V, hVV⟩ : ∃ V, V = lo * 17592186044416 % 18446744073709551616 := ⟨_, rfl⟩
  rw [← hU, ← hVV] at hp
  rw [← hVV] at hV
  have hy : 0 < y * 4096 := by omega
  have hb : U < (y * 4096) * 4294967296 := by omega
  obtain ⟨c1, c2, c3⟩ := div_core U V (y * 4096) hy hb hV
  refine ⟨U, V, U / (y * 4096) * y, U / (y * 4096), U % (y * 4096), _, hU, hVV, rfl, rfl, ?_, Nat.mod_lt _ hy, c3, rfl, c2, hp.trans c1, by omega, hV⟩
  have hd := Nat.div_add_mod' U (y * 4096)
  rw [Nat.mul_assoc]
  exact hd.symm
theorem maskV (V : Nat) (h : V < 18446744073709551616) : bits .and .u64 (V : Int) 4294967295 = ((V % 4294967296 : Nat) : Int) := by
  rw [← Nat.and_two_pow_sub_one_eq_mod V 32]
  exact bits_and_u64_nat V 4294967295 h (by omega)
theorem tEq (U V1 Z R y Q : Nat) (hU : U = Z * 4096 + R) (hZ : Z = Q * y) (hR : R < 4294967296) (hV : V1 < 4294967296) :
    IntKind.u64.wrap (IntKind.u64.wrap (IntKind.u64.wrap ((U : Int) * 4294967296) + (V1 : Int)) - IntKind.u64.wrap ((Q : Int) * ((y : Int) * 17592186044416))) = ((R * 4294967296 + V1 : Nat) : Int) := by
  have e : (Q : Int) * ((y : Int) * 17592186044416) = (Z : Int) * 17592186044416 := by rw [hZ, ← Int.mul_assoc, ← Int.natCast_mul]
  rw [e]
  clear e hZ
  simp only [IntKind.wrap_u64]
  omega
/-- all that the walk asks -/
theorem all (hi lo y : Nat) (hlo : lo < 18446744073709551616) (h1 : 524288 ≤ y) (h2 : y < 1048576) (h3 : hi < y) :
    ∃ U V V0 V1 Y Q P R T S P2 R2 : Int, (((hi * 18446744073709551616 + lo) / y : Nat) : Int) = Q * 4294967296 + S ∧
    (0 ≤ U ∧ 0 < Y ∧ 0 ≤ Q ∧ Q < 4294967296 ∧ 0 ≤ P ∧ P ≤ U ∧ U ≤ 18446744073709551615 ∧ 0 ≤ R ∧ R < 4294967296 ∧ 0 ≤ V1 ∧ V1 < 4294967296) ∧
    (0 ≤ T ∧ T ≤ 18446744073709551615 ∧ 0 ≤ S ∧ S < 4294967296 ∧ 0 ≤ P2 ∧ P2 ≤ T ∧ 0 ≤ R2 ∧ R2 < 4294967296 ∧ 0 ≤ V0 ∧ V0 < 4294967296 ∧ 0 ≤ V ∧ V ≤ 18446744073709551615) ∧
    (bits .and .u64 ((y : Int) * 17592186044416) 4294967295 = 0 ∧ bits .or .u64 ((hi : Int) * 17592186044416) ((lo : Int) / 1048576) = U ∧ IntKind.u64.wrap ((lo : Int) * 17592186044416) = V ∧
    (y : Int) * 17592186044416 / 4294967296 = Y ∧ U / Y = Q ∧ Q * Y = P ∧ U - P = R ∧ V / 4294967296 = V1 ∧ bits .and .u64 V 4294967295 = V0 ∧
    IntKind.u64.wrap (IntKind.u64.wrap (IntKind.u64.wrap (U * 4294967296) + V1) - IntKind.u64.wrap (Q * ((y : Int) * 17592186044416))) = T ∧ T / Y = S ∧ S * Y = P2 ∧ T - P2 = R2) := by
  obtain ⟨U, V, Z, Q, R, S, hU, hV, hQ, hZ, hUR, hR, hQ2, hS, hS2, hfin, hU2, hV2⟩ := nums hi lo y hlo h1 h2 h3
  have hV1 : V / 4294967296 < 4294967296 := by clear hU hV hQ hZ hUR hS hfin; omega
  have hRR : R < 4294967296 := by clear hU hV hQ hZ hUR hS hfin; omega
  have t1 := tEq U (V / 4294967296) Z R y Q hUR hZ hRR hV1
  have m1 := maskV V hV2
  have a0 := and0 y h2
  have o1 := orN hi lo (by clear hU hV hQ hZ hUR hS hfin; omega) hlo
  rw [← hU] at o1
  have w1 : IntKind.u64.wrap ((lo : Int) * 17592186044416) = (V : Int) := by rw [IntKind.wrap_u64, hV]; clear hU hV hQ hZ hUR hS hfin t1 m1 a0 o1; omega
  have q1 : (U : Int) / ((y * 4096 : Nat) : Int) = (Q : Int) := by rw [← Int.natCast_ediv, ← hQ]
  have q2 : ((R * 4294967296 + V / 4294967296 : Nat) : Int) / ((y * 4096 : Nat) : Int) = (S : Int) := by rw [← Int.natCast_ediv, ← hS]
  have p1 : (Q : Int) * ((y * 4096 : Nat) : Int) = ((Z * 4096 : Nat) : Int) := by rw [hZ, ← Int.natCast_mul, Nat.mul_assoc]
  have hT2 : S * (y * 4096) ≤ R * 4294967296 + V / 4294967296 := by rw [hS]; exact Nat.div_mul_le_self _ _
  have hT3 : R * 4294967296 + V / 4294967296 < S * (y * 4096) + y * 4096 := by
    have hd := div_up (R * 4294967296 + V / 4294967296) (y * 4096) (by clear hU hV hQ hZ hUR hS hfin; omega)
    rw [← hS] at hd
    exact hd
  obtain ⟨P2, hP2⟩ : ∃ P2, P2 = S * (y * 4096) := ⟨_, rfl⟩
  have p2 : (S : Int) * ((y * 4096 : Nat) : Int) = (P2 : Int) := by rw [hP2, ← Int.natCast_mul]
  rw [← hP2] at hT2 hT3
  have hf : (((hi * 18446744073709551616 + lo) / y : Nat) : Int) = (Q : Int) * 4294967296 + (S : Int) := by rw [hfin, Int.natCast_add, Int.natCast_mul]; rfl
  have y1 : (y : Int) * 17592186044416 / 4294967296 = ((y * 4096 : Nat) : Int) := by clear hU hV hQ hZ hUR hS hfin t1 m1 a0 o1 w1 q1 q2 p1 p2 hf hT2 hT3 hP2; omega
  have v1 : (V : Int) / 4294967296 = ((V / 4294967296 : Nat) : Int) := by clear hU hV hQ hZ hUR hS hfin t1 m1 a0 o1 w1 q1 q2 p1 p2 hf hT2 hT3 hP2 y1; omega
  refine ⟨U, V, ((V % 4294967296 : Nat) : Int), ((V / 4294967296 : Nat) : Int), ((y * 4096 : Nat) : Int), Q, ((Z * 4096 : Nat) : Int), R, ((R * 4294967296 + V / 4294967296 : Nat) : Int), S, P2, ((R * 4294967296 + V / 4294967296 - P2 : Nat) : Int), hf, ?_, ?_, a0, o1, w1, y1, q1, p1, ?_, v1, m1, t1, q2, p2, ?_⟩
  all_goals clear hf a0 o1 w1 y1 q1 p1 v1 m1 t1 q2 p2 hfin hS hQ hZ hU hV hP2
  · omega
  · omega
  · omega
  · omega
end D44

namespace D43
theorem and0 (y : Nat) (h : y < 2097152) : bits .and .u64 ((y : Int) * 8796093022208) 4294967295 = 0 := by
  have e : ((y : Int) * 8796093022208) = ((y * 8796093022208 : Nat) : Int) := by omega
  rw [e]
  have h2 := bits_and_u64_nat (y * 8796093022208) 4294967295 (by omega) (by omega)
  have e2 : y * 8796093022208 &&& 4294967295 = (y * 8796093022208) % 4294967296 := Nat.and_two_pow_sub_one_eq_mod (y * 8796093022208) 32
  rw [e2] at h2
  have e3 : (y * 8796093022208) % 4294967296 = 0 := by omega
  rw [e3] at h2
  exact h2
theorem orN (hi lo : Nat) (h : hi < 2097152) (hlo : lo < 18446744073709551616) : bits .or .u64 ((hi : Int) * 8796093022208) ((lo : Int) / 2097152) = ((hi * 8796093022208 + lo / 2097152 : Nat) : Int) := by
  have e : ((hi : Int) * 8796093022208) = ((hi * 8796093022208 : Nat) : Int) := by omega
  have e1 : ((lo : Int) / 2097152) = ((lo / 2097152 : Nat) : Int) := by omega
  rw [e, e1]
  have h2 := bits_or_u64_nat (hi * 8796093022208) (lo / 2097152) (by omega) (by omega)
  have e2 := Nat.two_pow_add_eq_or_of_lt (i := 43) (b := lo / 2097152) (by omega) hi
  rw [show (2 : Nat) ^ 43 * hi = hi * 8796093022208 by omega] at e2
  rw [← e2] at h2
  exact h2
theorem parts (hi lo y : Nat) : (hi * 18446744073709551616 + lo) / y = ((hi * 8796093022208 + lo / 2097152) * 18446744073709551616 + lo * 8796093022208 % 18446744073709551616) / (4294967296 * (y * 2048)) := by
  have e1 : (hi * 18446744073709551616 + lo) / y = (hi * 18446744073709551616 + lo) * 8796093022208 / (y * 8796093022208) := (Nat.mul_div_mul_right _ _ (by omega)).symm
  have e2 : (hi * 18446744073709551616 + lo) * 8796093022208 = (hi * 8796093022208 + lo / 2097152) * 18446744073709551616 + lo * 8796093022208 % 18446744073709551616 := by clear e1; omega
  have e3 : y * 8796093022208 = 4294967296 * (y * 2048) := by clear e1 e2; omega
  rw [e1, e2, e3]
/-- the numbers that the call meets -/
theorem nums (hi lo y : Nat) (hlo : lo < 18446744073709551616) (h1 : 1048576 ≤ y) (h2 : y < 2097152) (h3 : hi < y) :
    ∃ U V Z Q R S : Nat, U = hi * 8796093022208 + lo / 2097152 ∧ V = lo * 8796093022208 % 18446744073709551616 ∧ Q = U / (y * 2048) ∧ Z = Q * y ∧ U = Z * 2048 + R ∧ R < y * 2048 ∧ Q < 4294967296 ∧
      S = (R * 4294967296 + V / 4294967296) / (y * 2048) ∧ S < 4294967296 ∧ (hi * 18446744073709551616 + lo) / y = Q * 4294967296 + S ∧ U < 18446744073709551616 ∧ V < 18446744073709551616 := by
  have hp := parts hi lo y
  have hV : lo * 8796093022208 % 18446744073709551616 < 18446744073709551616 := Nat.mod_lt _ (by omega)
  obtain ⟨U, hU⟩ : ∃ U, U = hi * 8796093022208 + lo / 2097152 := ⟨_, rfl⟩
  obtain ⟨V, hVV⟩ : ∃ V, V = lo * 8796093022208 % 18446744073709551616 := ⟨_, rfl⟩
  rw [← hU, ← hVV] at hp
  rw [← hVV] at hV
  have hy : 0 < y * 2048 := by omega
  have hb : U < (y * 2048) * 4294967296 := by omega
  obtain ⟨c1, c2, c3⟩ := div_core U V (y * 2048) hy hb hV
  refine ⟨U, V, U / (y * 2048) * y, U / (y * 2048), U % (y * 2048), _, hU, hVV, rfl, rfl, ?_, Nat.mod_lt _ hy, c3, rfl, c2, hp.trans c1, by omega, hV⟩
  have hd := Nat.div_add_mod' U (y * 2048)
  rw [Nat.mul_assoc]
  exact hd.symm
theorem maskV (V : Nat) (h : V < 18446744073709551616) : bits .and .u64 (V : Int) 4294967295 = ((V % 4294967296 : Nat) : Int) := by
  rw [← Nat.and_two_pow_sub_one_eq_mod V 32]
  exact bits_and_u64_nat V 4294967295 h (by omega)
theorem tEq (U V1 Z R y Q : Nat) (hU : U = Z * 2048 + R) (hZ : Z = Q * y) (hR : R < 4294967296) (hV : V1 < 4294967296) :
    IntKind.u64.wrap (IntKind.u64.wrap (IntKind.u64.wrap ((U : Int) * 4294967296) + (V1 : Int)) - IntKind.u64.wrap ((Q : Int) * ((y : Int) * 8796093022208))) = ((R * 4294967296 + V1 : Nat) : Int) := by
  have e : (Q : Int) * ((y : Int) * 8796093022208) = (Z : Int) * 8796093022208 := by rw [hZ, ← Int.mul_assoc, ← Int.natCast_mul]
  rw [e]
  clear e hZ
  simp only [IntKind.wrap_u64]
  omega
/-- all that the walk asks -/
theorem all (hi lo y : Nat) (hlo : lo < 18446744073709551616) (h1 : 1048576 ≤ y) (h2 : y < 2097152) (h3 : hi < y) :
    ∃ U V V0 V1 Y Q P R T S P2 R2 : Int, (((hi * 18446744073709551616 + lo) / y : Nat) : Int) = Q * 4294967296 + S ∧
    (0 ≤ U ∧ 0 < Y ∧ 0 ≤ Q ∧ Q < 4294967296 ∧ 0 ≤ P ∧ P ≤ U ∧ U ≤ 18446744073709551615 ∧ 0 ≤ R ∧ R < 4294967296 ∧ 0 ≤ V1 ∧ V1 < 4294967296) ∧
    (0 ≤ T ∧ T ≤ 18446744073709551615 ∧ 0 ≤ S ∧ S < 4294967296 ∧ 0 ≤ P2 ∧ P2 ≤ T ∧ 0 ≤ R2 ∧ R2 < 4294967296 ∧ 0 ≤ V0 ∧ V0 < 4294967296 ∧ 0 ≤ V ∧ V ≤ 18446744073709551615) ∧
    (bits .and .u64 ((y : Int) * 8796093022208) 4294967295 = 0 ∧ bits .or .u64 ((hi : Int) * 8796093022208) ((lo : Int) / 2097152) = U ∧ IntKind.u64.wrap ((lo : Int) * 8796093022208) = V ∧
    (y : Int) * 8796093022208 / 4294967296 = Y ∧ U / Y = Q ∧ Q * Y = P ∧ U - P = R ∧ V / 4294967296 = V1 ∧ bits .and .u64 V 4294967295 = V0 ∧
    IntKind.u64.wrap (IntKind.u64.wrap (IntKind.u64.wrap (U * 4294967296) + V1) - IntKind.u64.wrap (Q * ((y : Int) * 8796093022208))) = T ∧ T / Y = S ∧ S * Y = P2 ∧ T - P2 = R2) := by
  obtain ⟨U, V, Z, Q, R, S, hU, hV, hQ, hZ, hUR, hR, hQ2, hS, hS2, hfin, hU2, hV2⟩ := nums hi lo y hlo h1 h2 h3
  have hV1 : V / 4294967296 < 4294967296 := by clear hU hV hQ hZ hUR hS hfin; omega
  have hRR : R < 4294967296 := by clear hU hV hQ hZ hUR hS hfin; omega
  have t1 := tEq U (V / 4294967296) Z R y Q hUR hZ hRR hV1
  have m1 := maskV V hV2
  have a0 := and0 y h2
  have o1 := orN hi lo (by clear hU hV hQ hZ hUR hS hfin; omega) hlo
  rw [← hU] at o1
  have w1 : IntKind.u64.wrap ((lo : Int) * 8796093022208) = (V : Int) := by rw [IntKind.wrap_u64, hV]; clear hU hV hQ hZ hUR hS hfin t1 m1 a0 o1; omega
  have q1 : (U : Int) / ((y * 2048 : Nat) : Int) = (Q : Int) := by rw [← Int.natCast_ediv, ← hQ]
  have q2 : ((R * 4294967296 + V / 4294967296 : Nat) : Int) / ((y * 2048 : Nat) : Int) = (S : Int) := by rw [← Int.natCast_ediv, ← hS]
  have p1 : (Q : Int) * ((y * 2048 : Nat) : Int) = ((Z * 2048 : Nat) : Int) := by rw [hZ, ← Int.natCast_mul, Nat.mul_assoc]
  have hT2 : S * (y * 2048) ≤ R * 4294967296 + V / 4294967296 := by rw [hS]; exact Nat.div_mul_le_self _ _
  have hT3 : R * 4294967296 + V / 4294967296 < S * (y * 2048) + y * 2048 := by
    have hd := div_up (R * 4294967296 + V / 4294967296) (y * 2048) (by clear hU hV hQ hZ hUR hS hfin; omega)
    rw [← hS] at hd
    exact hd
  obtain ⟨P2, hP2⟩ : ∃ P2, P2 = S * (y * 2048) := ⟨_, rfl⟩
  have p2 : (S : Int) * ((y * 2048 : Nat) : Int) = (P2 : Int) := by rw [hP2, ← Int.natCast_mul]
  rw [← hP2] at hT2 hT3
  have hf : (((hi * 18446744073709551616 + lo) / y : Nat) : Int) = (Q : Int) * 4294967296 + (S : Int) := by rw [hfin, Int.natCast_add, Int.natCast_mul]; rfl
  have y1 : (y : Int) * 8796093022208 / 4294967296 = ((y * 2048 : Nat) : Int) := by clear hU hV hQ hZ hUR hS hfin t1 m1 a0 o1 w1 q1 q2 p1 p2 hf hT2 hT3 hP2; omega
  have v1 : (V : Int) / 4294967296 = ((V / 4294967296 : Nat) : Int) := by clear hU hV hQ hZ hUR hS hfin t1 m1 a0 o1 w1 q1 q2 p1 p2 hf hT2 hT3 hP2 y1; omega
  refine ⟨U, V, ((V % 4294967296 : Nat) : Int), ((V / 4294967296 : Nat) : Int), ((y * 2048 : Nat) : Int), Q, ((Z * 2048 : Nat) : Int), R, ((R * 4294967296 + V / 4294967296 : Nat) : Int), S, P2, ((R * 4294967296 + V / 4294967296 - P2 : Nat) : Int), hf, ?_, ?_, a0, o1, w1, y1, q1, p1, ?_, v1, m1, t1, q2, p2, ?_⟩
  all_goals clear hf a0 o1 w1 y1 q1 p1 v1 m1 t1 q2 p2 hfin hS hQ hZ hU hV hP2
  · omega
  · omega
  · omega
  · omega
end D43
end Go.Proofs.Ytgnkcmmpbohafaa
