/- The contract of the document's Read over this seat's translation. -/
import Derived.Test.YtcbadmkgbaffpaaBigRead
namespace Go.Proofs.Ytcbadmkgbaffpaa
open Go.RowKit
set_option linter.unusedVariables false

theorem wrap_mul_add (x c : Int) (h1 : 0 ≤ x) (h2 : x < 72057594037927936) (h3 : 0 ≤ c) (h4 : c ≤ 255) : x * 256 + c ≤ 18446744073709551615 := by omega
theorem val_le8 (z : Nat → Int) (n : Nat) (hn : n ≤ 8) (h : ∀ j, j < n → 0 ≤ z j ∧ z j ≤ 255) : 0 ≤ val z n ∧ val z n ≤ 18446744073709551615 := by
  obtain ⟨h1, h2⟩ := val_bd z n h
  have : (256 : Int) ^ n ≤ 18446744073709551616 := by
    rcases (show n = 0 ∨ n = 1 ∨ n = 2 ∨ n = 3 ∨ n = 4 ∨ n = 5 ∨ n = 6 ∨ n = 7 ∨ n = 8 by omega) with rfl | rfl | rfl | rfl | rfl | rfl | rfl | rfl | rfl <;> decide
  omega

set_option maxHeartbeats 1000000 in
/-- where the first byte is 253 -/
theorem rread_2 (b off len cap : Nat) (z : Nat → Int) (w : World) (hl : 2 < len) (hlc : len ≤ cap) (hcap : cap ≤ 9223372036854775807) (q0 : w.cell? ⟨b, off, none⟩ = some (.int .u8 253)) (hbl : b < w.heap.size)
    (hc : Hid (∀ k, k < 2 → w.cell? ⟨b, off + (1 + k), none⟩ = some (.int .u8 (z k)))) (hz : Hid (∀ k, k < 2 → 0 ≤ z k ∧ z k ≤ 255)) (X N E : Int)
    (hok : Hid (sizeN (val z 2) = 3 → X = val z 2 ∧ N = 3 ∧ E = 0)) (hno : Hid (¬ sizeN (val z 2) = 3 → X = 0 ∧ N = 0 ∧ E = 10)) :
    Calls Try.prog 66 #[.slice (some ⟨b, off, none⟩) len cap] w fun e w' => e = .returned (.tuple #[.int .u64 X, .int .i64 N, .int .i64 E]) ∧ Below w.heap.size w w' := by
  have g0 : ((len : Int) == 0) = false := by simp; omega
  have p0 : (0 : Int) < (len : Int) := by omega
  go_enter Try.func66, Try.ntmps66
  go_wp2
  go_loop [6, 7] (fun x i => ∃ k : Nat, k ≤ 2 ∧ i = .int .i64 (1 + (k : Int)) ∧ x = .int .u64 (val z k)) (fun _ i => (2 + 1 - intOf i).toNat)
  case atStart => exact ⟨0, Nat.zero_le _, rfl, rfl⟩
  case round =>
    obtain ⟨k, hk, rfl, rfl⟩ := hrel
    by_cases hlt : k < 2
    · have q := hc.out k hlt
      obtain ⟨c0, c1⟩ := hz.out k hlt
      obtain ⟨x0, x1⟩ := val_bd z k fun j hj => hz.out j (by omega)
      have x2 : val z k < 72057594037927936 := Int.lt_of_lt_of_le x1 (pow_le k (by omega))
      clear x1
      have hS := hide (show val z (k + 1) = val z k * 256 + z k from rfl)
      generalize z k = c at *
      generalize val z k = x at *
      have t0 : (1 + (k : Int)).toNat = 1 + k := by omega
      go_wp2
      go_round
      case rel => exact ⟨k + 1, by omega, by go_num, by rw [hS.out]⟩
      case measure => simp [intOf]; omega
    · have ek : k = 2 := by omega
      subst ek
      have hv := val_le8 z 2 (by omega) hz.out
      have HN := hide (fun w => rnum_any (val z 2) w hv.1 hv.2)
      have HL := hide (numB_length (val z 2))
      by_cases hs : sizeN (val z 2) = 3
      · have HX := hide (hok.out hs)
        generalize val z 2 = V at *
        have hlen : (numB V).length = 3 := by have := HL.out; omega
        rw [hlen] at HN
        generalize numB V = L at *
        clear HL hs hlen
        go_wp2_with fail
        refine (HN.out _).mono ?_
        rintro e w1 ⟨v1, rfl, ho, hb⟩
        have HB := hide hb
        have hv1 : ∃ ao cp, v1 = .slice ao 3 cp := by
          rcases ho.2 with ⟨_, h⟩ | ⟨g, cp, cur, h, _⟩
          · exact absurd h (by omega)
          · exact ⟨_, cp, h⟩
        obtain ⟨ao, cp, rfl⟩ := hv1
        clear ho hb
        go_wp2
        go_ret3
        exact ⟨ret3 HX.out.1.symm HX.out.2.1.symm HX.out.2.2.symm, HB.out⟩
      · obtain ⟨rfl, rfl, rfl⟩ := hno.out hs
        generalize val z 2 = V at *
        have hlen : ¬ (numB V).length = 3 := by have := HL.out; omega
        generalize numB V = L at *
        have g5 : ((L.length : Int) != 3) = true := by simp; omega
        clear HL hs hlen
        go_wp2_with fail
        refine (HN.out _).mono ?_
        rintro e w1 ⟨v1, rfl, ho, hb⟩
        have HB := hide hb
        have hv1 : ∃ ao cp, v1 = .slice ao L.length cp := by
          rcases ho.2 with ⟨h1, h⟩ | ⟨g, cp, cur, h, _⟩
          · exact ⟨none, 0, by rw [h]; exact h1⟩
          · exact ⟨_, cp, h⟩
        obtain ⟨ao, cp, rfl⟩ := hv1
        clear ho hb
        go_wp2
        go_ret3
        exact ⟨rfl, HB.out⟩

set_option maxHeartbeats 1000000 in
theorem rshort_2 (b off len cap : Nat) (w : World) (hl : ¬ 2 < len) (h0 : 0 < len) (hlc : len ≤ cap) (hcap : cap ≤ 9223372036854775807) (q0 : w.cell? ⟨b, off, none⟩ = some (.int .u8 253)) :
    Calls Try.prog 66 #[.slice (some ⟨b, off, none⟩) len cap] w fun e w' => e = .returned (.tuple #[.int .u64 0, .int .i64 0, .int .i64 10]) ∧ w' = w := by
  have g0 : ((len : Int) == 0) = false := by simp; omega
  have p0 : (0 : Int) < (len : Int) := by omega
  go_enter Try.func66, Try.ntmps66
  go_wp2
  go_ret3
  exact ⟨rfl, rfl⟩

set_option maxHeartbeats 1000000 in
/-- where the first byte is 254 -/
theorem rread_4 (b off len cap : Nat) (z : Nat → Int) (w : World) (hl : 4 < len) (hlc : len ≤ cap) (hcap : cap ≤ 9223372036854775807) (q0 : w.cell? ⟨b, off, none⟩ = some (.int .u8 254)) (hbl : b < w.heap.size)
    (hc : Hid (∀ k, k < 4 → w.cell? ⟨b, off + (1 + k), none⟩ = some (.int .u8 (z k)))) (hz : Hid (∀ k, k < 4 → 0 ≤ z k ∧ z k ≤ 255)) (X N E : Int)
    (hok : Hid (sizeN (val z 4) = 5 → X = val z 4 ∧ N = 5 ∧ E = 0)) (hno : Hid (¬ sizeN (val z 4) = 5 → X = 0 ∧ N = 0 ∧ E = 10)) :
    Calls Try.prog 66 #[.slice (some ⟨b, off, none⟩) len cap] w fun e w' => e = .returned (.tuple #[.int .u64 X, .int .i64 N, .int .i64 E]) ∧ Below w.heap.size w w' := by
  have g0 : ((len : Int) == 0) = false := by simp; omega
  have p0 : (0 : Int) < (len : Int) := by omega
  go_enter Try.func66, Try.ntmps66
  go_wp2
  go_loop [6, 7] (fun x i => ∃ k : Nat, k ≤ 4 ∧ i = .int .i64 (1 + (k : Int)) ∧ x = .int .u64 (val z k)) (fun _ i => (4 + 1 - intOf i).toNat)
  case atStart => exact ⟨0, Nat.zero_le _, rfl, rfl⟩
  case round =>
    obtain ⟨k, hk, rfl, rfl⟩ := hrel
    by_cases hlt : k < 4
    · have q := hc.out k hlt
      obtain ⟨c0, c1⟩ := hz.out k hlt
      obtain ⟨x0, x1⟩ := val_bd z k fun j hj => hz.out j (by omega)
      have x2 : val z k < 72057594037927936 := Int.lt_of_lt_of_le x1 (pow_le k (by omega))
      clear x1
      have hS := hide (show val z (k + 1) = val z k * 256 + z k from rfl)
      generalize z k = c at *
      generalize val z k = x at *
      have t0 : (1 + (k : Int)).toNat = 1 + k := by omega
      go_wp2
      go_round
      case rel => exact ⟨k + 1, by omega, by go_num, by rw [hS.out]⟩
      case measure => simp [intOf]; omega
    · have ek : k = 4 := by omega
      subst ek
      have hv := val_le8 z 4 (by omega) hz.out
      have HN := hide (fun w => rnum_any (val z 4) w hv.1 hv.2)
      have HL := hide (numB_length (val z 4))
      by_cases hs : sizeN (val z 4) = 5
      · have HX := hide (hok.out hs)
        generalize val z 4 = V at *
        have hlen : (numB V).length = 5 := by have := HL.out; omega
        rw [hlen] at HN
        generalize numB V = L at *
        clear HL hs hlen
        go_wp2_with fail
        refine (HN.out _).mono ?_
        rintro e w1 ⟨v1, rfl, ho, hb⟩
        have HB := hide hb
        have hv1 : ∃ ao cp, v1 = .slice ao 5 cp := by
          rcases ho.2 with ⟨_, h⟩ | ⟨g, cp, cur, h, _⟩
          · exact absurd h (by omega)
          · exact ⟨_, cp, h⟩
        obtain ⟨ao, cp, rfl⟩ := hv1
        clear ho hb
        go_wp2
        go_ret3
        exact ⟨ret3 HX.out.1.symm HX.out.2.1.symm HX.out.2.2.symm, HB.out⟩
      · obtain ⟨rfl, rfl, rfl⟩ := hno.out hs
        generalize val z 4 = V at *
        have hlen : ¬ (numB V).length = 5 := by have := HL.out; omega
        generalize numB V = L at *
        have g5 : ((L.length : Int) != 5) = true := by simp; omega
        clear HL hs hlen
        go_wp2_with fail
        refine (HN.out _).mono ?_
        rintro e w1 ⟨v1, rfl, ho, hb⟩
        have HB := hide hb
        have hv1 : ∃ ao cp, v1 = .slice ao L.length cp := by
          rcases ho.2 with ⟨h1, h⟩ | ⟨g, cp, cur, h, _⟩
          · exact ⟨none, 0, by rw [h]; exact h1⟩
          · exact ⟨_, cp, h⟩
        obtain ⟨ao, cp, rfl⟩ := hv1
        clear ho hb
        go_wp2
        go_ret3
        exact ⟨rfl, HB.out⟩

set_option maxHeartbeats 1000000 in
theorem rshort_4 (b off len cap : Nat) (w : World) (hl : ¬ 4 < len) (h0 : 0 < len) (hlc : len ≤ cap) (hcap : cap ≤ 9223372036854775807) (q0 : w.cell? ⟨b, off, none⟩ = some (.int .u8 254)) :
    Calls Try.prog 66 #[.slice (some ⟨b, off, none⟩) len cap] w fun e w' => e = .returned (.tuple #[.int .u64 0, .int .i64 0, .int .i64 10]) ∧ w' = w := by
  have g0 : ((len : Int) == 0) = false := by simp; omega
  have p0 : (0 : Int) < (len : Int) := by omega
  go_enter Try.func66, Try.ntmps66
  go_wp2
  go_ret3
  exact ⟨rfl, rfl⟩

set_option maxHeartbeats 1000000 in
/-- where the first byte is 255 -/
theorem rread_8 (b off len cap : Nat) (z : Nat → Int) (w : World) (hl : 8 < len) (hlc : len ≤ cap) (hcap : cap ≤ 9223372036854775807) (q0 : w.cell? ⟨b, off, none⟩ = some (.int .u8 255)) (hbl : b < w.heap.size)
    (hc : Hid (∀ k, k < 8 → w.cell? ⟨b, off + (1 + k), none⟩ = some (.int .u8 (z k)))) (hz : Hid (∀ k, k < 8 → 0 ≤ z k ∧ z k ≤ 255)) (X N E : Int)
    (hok : Hid (sizeN (val z 8) = 9 → X = val z 8 ∧ N = 9 ∧ E = 0)) (hno : Hid (¬ sizeN (val z 8) = 9 → X = 0 ∧ N = 0 ∧ E = 10)) :
    Calls Try.prog 66 #[.slice (some ⟨b, off, none⟩) len cap] w fun e w' => e = .returned (.tuple #[.int .u64 X, .int .i64 N, .int .i64 E]) ∧ Below w.heap.size w w' := by
  have g0 : ((len : Int) == 0) = false := by simp; omega
  have p0 : (0 : Int) < (len : Int) := by omega
  go_enter Try.func66, Try.ntmps66
  go_wp2
  go_loop [6, 7] (fun x i => ∃ k : Nat, k ≤ 8 ∧ i = .int .i64 (1 + (k : Int)) ∧ x = .int .u64 (val z k)) (fun _ i => (8 + 1 - intOf i).toNat)
  case atStart => exact ⟨0, Nat.zero_le _, rfl, rfl⟩
  case round =>
    obtain ⟨k, hk, rfl, rfl⟩ := hrel
    by_cases hlt : k < 8
    · have q := hc.out k hlt
      obtain ⟨c0, c1⟩ := hz.out k hlt
      obtain ⟨x0, x1⟩ := val_bd z k fun j hj => hz.out j (by omega)
      have x2 : val z k < 72057594037927936 := Int.lt_of_lt_of_le x1 (pow_le k (by omega))
      clear x1
      have hS := hide (show val z (k + 1) = val z k * 256 + z k from rfl)
      generalize z k = c at *
      generalize val z k = x at *
      have t0 : (1 + (k : Int)).toNat = 1 + k := by omega
      go_wp2
      go_round
      case rel => exact ⟨k + 1, by omega, by go_num, by rw [hS.out]⟩
      case measure => simp [intOf]; omega
    · have ek : k = 8 := by omega
      subst ek
      have hv := val_le8 z 8 (by omega) hz.out
      have HN := hide (fun w => rnum_any (val z 8) w hv.1 hv.2)
      have HL := hide (numB_length (val z 8))
      by_cases hs : sizeN (val z 8) = 9
      · have HX := hide (hok.out hs)
        generalize val z 8 = V at *
        have hlen : (numB V).length = 9 := by have := HL.out; omega
        rw [hlen] at HN
        generalize numB V = L at *
        clear HL hs hlen
        go_wp2_with fail
        refine (HN.out _).mono ?_
        rintro e w1 ⟨v1, rfl, ho, hb⟩
        have HB := hide hb
        have hv1 : ∃ ao cp, v1 = .slice ao 9 cp := by
          rcases ho.2 with ⟨_, h⟩ | ⟨g, cp, cur, h, _⟩
          · exact absurd h (by omega)
          · exact ⟨_, cp, h⟩
        obtain ⟨ao, cp, rfl⟩ := hv1
        clear ho hb
        go_wp2
        go_ret3
        exact ⟨ret3 HX.out.1.symm HX.out.2.1.symm HX.out.2.2.symm, HB.out⟩
      · obtain ⟨rfl, rfl, rfl⟩ := hno.out hs
        generalize val z 8 = V at *
        have hlen : ¬ (numB V).length = 9 := by have := HL.out; omega
        generalize numB V = L at *
        have g5 : ((L.length : Int) != 9) = true := by simp; omega
        clear HL hs hlen
        go_wp2_with fail
        refine (HN.out _).mono ?_
        rintro e w1 ⟨v1, rfl, ho, hb⟩
        have HB := hide hb
        have hv1 : ∃ ao cp, v1 = .slice ao L.length cp := by
          rcases ho.2 with ⟨h1, h⟩ | ⟨g, cp, cur, h, _⟩
          · exact ⟨none, 0, by rw [h]; exact h1⟩
          · exact ⟨_, cp, h⟩
        obtain ⟨ao, cp, rfl⟩ := hv1
        clear ho hb
        go_wp2
        go_ret3
        exact ⟨rfl, HB.out⟩

set_option maxHeartbeats 1000000 in
theorem rshort_8 (b off len cap : Nat) (w : World) (hl : ¬ 8 < len) (h0 : 0 < len) (hlc : len ≤ cap) (hcap : cap ≤ 9223372036854775807) (q0 : w.cell? ⟨b, off, none⟩ = some (.int .u8 255)) :
    Calls Try.prog 66 #[.slice (some ⟨b, off, none⟩) len cap] w fun e w' => e = .returned (.tuple #[.int .u64 0, .int .i64 0, .int .i64 10]) ∧ w' = w := by
  have g0 : ((len : Int) == 0) = false := by simp; omega
  have p0 : (0 : Int) < (len : Int) := by omega
  go_enter Try.func66, Try.ntmps66
  go_wp2
  go_ret3
  exact ⟨rfl, rfl⟩

set_option maxHeartbeats 1000000 in
theorem rread_1 (b off len cap : Nat) (c : Int) (w : World) (h0 : 0 < len) (hlc : len ≤ cap) (hcap : cap ≤ 9223372036854775807) (q0 : w.cell? ⟨b, off, none⟩ = some (.int .u8 c)) (c0 : 0 ≤ c) (c1 : c < 253) :
    Calls Try.prog 66 #[.slice (some ⟨b, off, none⟩) len cap] w fun e w' => e = .returned (.tuple #[.int .u64 c, .int .i64 1, .int .i64 0]) ∧ w' = w := by
  have g0 : ((len : Int) == 0) = false := by simp; omega
  have p0 : (0 : Int) < (len : Int) := by omega
  have g1 : (c == 253) = false := by simp; omega
  have g2 : (c == 254) = false := by simp; omega
  have g3 : (c == 255) = false := by simp; omega
  go_enter Try.func66, Try.ntmps66
  go_wp2
  go_ret3
  exact ⟨rfl, rfl⟩

set_option maxHeartbeats 400000 in
theorem rread_0 (ao : Option Addr) (cap : Nat) (w : World) :
    Calls Try.prog 66 #[.slice ao 0 cap] w fun e w' => e = .returned (.tuple #[.int .u64 0, .int .i64 0, .int .i64 10]) ∧ w' = w := by
  go_enter Try.func66, Try.ntmps66
  go_wp2
  go_ret3
  exact ⟨rfl, rfl⟩

theorem rread_any (ao : Option Addr) (cap : Nat) (zs : List Int) (w : World) (hb : IsB w ao cap zs) (hcap : zs.length ≤ cap) (hl : cap ≤ 9223372036854775807) (hz : ∀ k, k < zs.length → 0 ≤ zs.getD k 0 ∧ zs.getD k 0 ≤ 255) :
    Calls Try.prog 66 #[.slice ao zs.length cap] w fun e w' => e = .returned (.tuple #[.int .u64 (rdX zs), .int .i64 (rdN zs), .int .i64 (rdE zs)]) ∧ Below w.heap.size w w' := by
  by_cases h0 : zs.length = 0
  · obtain ⟨r1, r2, r3⟩ := rd_no (zs := zs) (by omega)
    rw [r1, r2, r3, h0]
    exact (rread_0 ao cap w).mono fun e w' h => ⟨h.1, by rw [h.2]; exact Below.refl _ _⟩
  · obtain ⟨b, off, rfl, hbl, hc⟩ := hb.at (by omega)
    have q0 : w.cell? ⟨b, off, none⟩ = some (.int .u8 (zs.getD 0 0)) := hc 0 (by omega)
    obtain ⟨c0, c1⟩ := hz 0 (by omega)
    have go : ∀ (mark m : Int) (n : Nat), m = (n : Int) + 1 → zs.getD 0 0 = mark → rdS mark = n + 1 → 0 < n → (hn : n < zs.length) →
        (∀ X N E : Int, (sizeN (val (fun k => zs.getD (1 + k) 0) n) = m → X = val (fun k => zs.getD (1 + k) 0) n ∧ N = m ∧ E = 0) → (¬ sizeN (val (fun k => zs.getD (1 + k) 0) n) = m → X = 0 ∧ N = 0 ∧ E = 10) →
          Calls Try.prog 66 #[.slice (some ⟨b, off, none⟩) zs.length cap] w fun e w' => e = .returned (.tuple #[.int .u64 X, .int .i64 N, .int .i64 E]) ∧ Below w.heap.size w w') →
        Calls Try.prog 66 #[.slice (some ⟨b, off, none⟩) zs.length cap] w fun e w' => e = .returned (.tuple #[.int .u64 (rdX zs), .int .i64 (rdN zs), .int .i64 (rdE zs)]) ∧ Below w.heap.size w w' := by
      intro mark m n hmm hm hS hn0 hn h
      have hV : val (fun k => zs.getD (1 + k) 0) n = rdV zs := by unfold rdV; rw [hm, hS]; rfl
      refine h _ _ _ (fun hs => ?_) (fun hs => ?_)
      · rw [hV] at hs ⊢
        have r := rd_more (zs := zs) (by omega) (by rw [hm, hS]; omega) (by rw [hm, hS]; omega) (by rw [hm, hS, hs, hmm]; rfl)
        rw [hm, hS] at r
        exact ⟨r.1, by rw [r.2.1, hmm]; rfl, r.2.2⟩
      · rw [hV] at hs
        exact rd_no (zs := zs) (fun hh => hs (by
          have h3 := hh.2.2
          rw [hm, hS] at h3
          rcases h3 with h3 | h3
          · omega
          · rw [h3, hmm]; rfl))
    have short : ∀ (mark : Int) (n : Nat), zs.getD 0 0 = mark → rdS mark = n + 1 → ¬ n < zs.length → rdX zs = 0 ∧ rdN zs = 0 ∧ rdE zs = 10 := by
      intro mark n hm hS hn
      exact rd_no (zs := zs) (by rw [hm, hS]; omega)
    have hcc : ∀ n, n < zs.length → ∀ k, k < n → w.cell? ⟨b, off + (1 + k), none⟩ = some (.int .u8 ((fun k => zs.getD (1 + k) 0) k)) := fun n hn k hk => hc (1 + k) (by omega)
    have hzz : ∀ n, n < zs.length → ∀ k, k < n → 0 ≤ (fun k => zs.getD (1 + k) 0) k ∧ (fun k => zs.getD (1 + k) 0) k ≤ 255 := fun n hn k hk => hz (1 + k) (by omega)
    by_cases e1 : zs.getD 0 0 = 253
    · rw [e1] at q0
      by_cases hn : 2 < zs.length
      · exact go 253 3 2 rfl e1 rfl (by omega) hn fun X N E h1 h2 => rread_2 b off zs.length cap _ w hn hcap hl q0 hbl (hcc 2 hn) (hzz 2 hn) X N E h1 h2
      · obtain ⟨r1, r2, r3⟩ := short 253 2 e1 rfl hn
        rw [r1, r2, r3]
        exact (rshort_2 b off zs.length cap w hn (by omega) hcap hl q0).mono fun e w' h => ⟨h.1, by rw [h.2]; exact Below.refl _ _⟩
    · by_cases e2 : zs.getD 0 0 = 254
      · rw [e2] at q0
        by_cases hn : 4 < zs.length
        · exact go 254 5 4 rfl e2 rfl (by omega) hn fun X N E h1 h2 => rread_4 b off zs.length cap _ w hn hcap hl q0 hbl (hcc 4 hn) (hzz 4 hn) X N E h1 h2
        · obtain ⟨r1, r2, r3⟩ := short 254 4 e2 rfl hn
          rw [r1, r2, r3]
          exact (rshort_4 b off zs.length cap w hn (by omega) hcap hl q0).mono fun e w' h => ⟨h.1, by rw [h.2]; exact Below.refl _ _⟩
      · by_cases e3 : zs.getD 0 0 = 255
        · rw [e3] at q0
          by_cases hn : 8 < zs.length
          · exact go 255 9 8 rfl e3 rfl (by omega) hn fun X N E h1 h2 => rread_8 b off zs.length cap _ w hn hcap hl q0 hbl (hcc 8 hn) (hzz 8 hn) X N E h1 h2
          · obtain ⟨r1, r2, r3⟩ := short 255 8 e3 rfl hn
            rw [r1, r2, r3]
            exact (rshort_8 b off zs.length cap w hn (by omega) hcap hl q0).mono fun e w' h => ⟨h.1, by rw [h.2]; exact Below.refl _ _⟩
        · have hS : rdS (zs.getD 0 0) = 1 := by unfold rdS; rw [if_neg e1, if_neg e2, if_neg e3]
          obtain ⟨r1, r2, r3⟩ := rd_one (zs := zs) (by omega) hS
          rw [r1, r2, r3]
          exact (rread_1 b off zs.length cap _ w (by omega) hcap hl q0 c0 (by omega)).mono fun e w' h => ⟨h.1, by rw [h.2]; exact Below.refl _ _⟩
end Go.Proofs.Ytcbadmkgbaffpaa
