/- Contracts of bigsize.Read and of the document's Read over this seat's translation. -/
import Derived.Test.YtcbadmkgbaffpaaBigNum
import Derived.Laws.Bits64b
namespace Go.Proofs.Ytcbadmkgbaffpaa
open Go.RowKit
set_option linter.unusedVariables false

/-- the number whose bytes are the first k, the highest first -/
def val (z : Nat → Int) : Nat → Int
  | 0 => 0
  | k + 1 => val z k * 256 + z k

theorem val_bd (z : Nat → Int) (k : Nat) (h : ∀ j, j < k → 0 ≤ z j ∧ z j ≤ 255) : 0 ≤ val z k ∧ val z k < 256 ^ k := by
  induction k with
  | zero => exact ⟨Int.le_refl _, by show (0 : Int) < 1; omega⟩
  | succ k ih =>
    have h1 := ih fun j hj => h j (by omega)
    have h2 := h k (by omega)
    have e : (256 : Int) ^ (k + 1) = 256 ^ k * 256 := Int.pow_succ _ _
    show 0 ≤ val z k * 256 + z k ∧ val z k * 256 + z k < _
    rw [e]
    generalize (256 : Int) ^ k = P at *
    omega
theorem pow_le (k : Nat) (h : k ≤ 7) : (256 : Int) ^ k ≤ 72057594037927936 := by
  rcases (show k = 0 ∨ k = 1 ∨ k = 2 ∨ k = 3 ∨ k = 4 ∨ k = 5 ∨ k = 6 ∨ k = 7 by omega) with rfl | rfl | rfl | rfl | rfl | rfl | rfl | rfl <;> decide
theorem or_byte (x c : Int) (h1 : 0 ≤ x) (h2 : x < 72057594037927936) (h3 : 0 ≤ c) (h4 : c ≤ 255) : bits .or .u64 (x * 256) c = x * 256 + c := by
  obtain ⟨n, rfl⟩ := Int.eq_ofNat_of_zero_le h1
  obtain ⟨m, rfl⟩ := Int.eq_ofNat_of_zero_le h3
  have e : ((n : Int) * 256) = ((n * 256 : Nat) : Int) := by omega
  rw [e]
  have h := bits_or_u64_nat (n * 256) m (by omega) (by omega)
  have e2 := Nat.two_pow_add_eq_or_of_lt (i := 8) (b := m) (by omega) n
  rw [show (2 : Nat) ^ 8 * n = n * 256 by omega] at e2
  rw [← e2] at h
  rw [h]
  omega

set_option maxHeartbeats 1000000 in
theorem from_any (b off m cap : Nat) (z : Nat → Int) (w : World) (hm : m ≤ 8) (hc : ∀ k, k < m → w.cell? ⟨b, off + k, none⟩ = some (.int .u8 (z k))) (hz : ∀ k, k < m → 0 ≤ z k ∧ z k ≤ 255) :
    Calls Try.prog 73 #[.slice (some ⟨b, off, none⟩) m cap] w fun e w' => e = .returned (.int .u64 (val z m)) ∧ w' = w := by
  have HC := hide hc
  have HZ := hide hz
  clear hc hz
  go_enter Try.func73, Try.ntmps73
  go_wp2
  go_loop [3, 8] (fun x i => ∃ k : Nat, k ≤ m ∧ i = .int .i64 k ∧ x = .int .u64 (val z k)) (fun _ i => m - (intOf i).toNat)
  case atStart => exact ⟨0, Nat.zero_le _, rfl, rfl⟩
  case round =>
    obtain ⟨k, hk, rfl, rfl⟩ := hrel
    by_cases hlt : k < m
    · have q := HC.out k hlt
      obtain ⟨c0, c1⟩ := HZ.out k hlt
      obtain ⟨x0, x1⟩ := val_bd z k fun j hj => HZ.out j (by omega)
      have x2 : val z k < 72057594037927936 := Int.lt_of_lt_of_le x1 (pow_le k (by omega))
      clear x1
      have hS := hide (show val z (k + 1) = val z k * 256 + z k from rfl)
      generalize z k = c at *
      generalize val z k = x at *
      have ho := or_byte x c x0 x2 c0 c1
      go_wp2
      go_round
      case rel => exact ⟨k + 1, by omega, by go_num, by rw [hS.out]⟩
      case measure => simp [intOf]; omega
    · have ek : k = m := by omega
      subst ek
      go_wp2
      go_ret
      exact ⟨rfl, rfl⟩

/-- what bytes begin with: the number, its bytes, the error -/
def rdS (c : Int) : Nat := if c = 253 then 3 else if c = 254 then 5 else if c = 255 then 9 else 1
def rdV (zs : List Int) : Int := val (fun k => zs.getD (1 + k) 0) (rdS (zs.getD 0 0) - 1)
def rdOk (zs : List Int) : Bool := decide (0 < zs.length ∧ rdS (zs.getD 0 0) ≤ zs.length ∧ (rdS (zs.getD 0 0) = 1 ∨ sizeN (rdV zs) = rdS (zs.getD 0 0)))
def rdX (zs : List Int) : Int := if rdOk zs = true then (if rdS (zs.getD 0 0) = 1 then zs.getD 0 0 else rdV zs) else 0
def rdN (zs : List Int) : Int := if rdOk zs = true then rdS (zs.getD 0 0) else 0
def rdE (zs : List Int) : Int := if rdOk zs = true then 0 else 10

theorem rdS_bd (c : Int) : 1 ≤ rdS c ∧ rdS c ≤ 9 := by
  unfold rdS
  by_cases c1 : c = 253
  · rw [if_pos c1]; omega
  · rw [if_neg c1]
    by_cases c2 : c = 254
    · rw [if_pos c2]; omega
    · rw [if_neg c2]
      by_cases c3 : c = 255
      · rw [if_pos c3]; omega
      · rw [if_neg c3]; omega
theorem rdS_one (c : Int) (h : rdS c = 1) (h1 : c ≤ 255) : c < 253 := by
  unfold rdS at h
  by_cases c1 : c = 253
  · rw [if_pos c1] at h; cases h
  · rw [if_neg c1] at h
    by_cases c2 : c = 254
    · rw [if_pos c2] at h; cases h
    · rw [if_neg c2] at h
      by_cases c3 : c = 255
      · rw [if_pos c3] at h; cases h
      · omega
theorem rd_no {zs : List Int} (h : ¬ (0 < zs.length ∧ rdS (zs.getD 0 0) ≤ zs.length ∧ (rdS (zs.getD 0 0) = 1 ∨ sizeN (rdV zs) = rdS (zs.getD 0 0)))) : rdX zs = 0 ∧ rdN zs = 0 ∧ rdE zs = 10 := by
  have e : rdOk zs = false := decide_eq_false h
  unfold rdX rdN rdE
  rw [e]
  exact ⟨rfl, rfl, rfl⟩
theorem rd_one {zs : List Int} (h : 0 < zs.length) (h1 : rdS (zs.getD 0 0) = 1) : rdX zs = zs.getD 0 0 ∧ rdN zs = 1 ∧ rdE zs = 0 := by
  have e : rdOk zs = true := decide_eq_true ⟨h, by omega, .inl h1⟩
  unfold rdX rdN rdE
  rw [e, h1]
  exact ⟨rfl, rfl, rfl⟩
theorem rd_more {zs : List Int} (h : 0 < zs.length) (h1 : rdS (zs.getD 0 0) ≤ zs.length) (h2 : ¬ rdS (zs.getD 0 0) = 1) (h3 : sizeN (rdV zs) = rdS (zs.getD 0 0)) : rdX zs = rdV zs ∧ rdN zs = rdS (zs.getD 0 0) ∧ rdE zs = 0 := by
  have e : rdOk zs = true := decide_eq_true ⟨h, h1, .inr h3⟩
  unfold rdX rdN rdE
  rw [e, if_pos rfl, if_pos rfl, if_pos rfl, if_neg h2]
  exact ⟨rfl, rfl, rfl⟩

set_option maxHeartbeats 400000 in
theorem behind_any (c : Int) (w : World) (h0 : 0 ≤ c) (h1 : c ≤ 255) :
    Calls Try.prog 72 #[.int .u8 c] w fun e w' => e = .returned (.int .i64 (rdS c)) ∧ w' = w := by
  unfold rdS
  by_cases c1 : c = 253
  · subst c1
    go_enter Try.func72, Try.ntmps72
    go_wp2
    go_ret
    exact ⟨rfl, rfl⟩
  · by_cases c2 : c = 254
    · subst c2
      go_enter Try.func72, Try.ntmps72
      go_wp2
      go_ret
      exact ⟨rfl, rfl⟩
    · by_cases c3 : c = 255
      · subst c3
        go_enter Try.func72, Try.ntmps72
        go_wp2
        go_ret
        exact ⟨rfl, rfl⟩
      · rw [if_neg c1, if_neg c2, if_neg c3]
        have g1 : (c == 253) = false := by simp; exact c1
        have g2 : (c == 254) = false := by simp; exact c2
        have g3 : (c == 255) = false := by simp; exact c3
        clear c1 c2 c3
        go_enter Try.func72, Try.ntmps72
        go_wp2
        go_ret
        exact ⟨rfl, rfl⟩

theorem ret3 {a b c x y z : Int} (h1 : a = x) (h2 : b = y) (h3 : c = z) : Ending.returned (.tuple #[.int .u64 a, .int .i64 b, .int .i64 c]) = .returned (.tuple #[.int .u64 x, .int .i64 y, .int .i64 z]) := by rw [h1, h2, h3]

set_option maxHeartbeats 1000000 in
theorem read_any (ao : Option Addr) (cap : Nat) (zs : List Int) (w : World) (hb : IsB w ao cap zs) (hcap : zs.length ≤ cap) (hl : cap ≤ 9223372036854775807) (hz : ∀ k, k < zs.length → 0 ≤ zs.getD k 0 ∧ zs.getD k 0 ≤ 255) :
    Calls Try.prog 59 #[.slice ao zs.length cap] w fun e w' => e = .returned (.tuple #[.int .u64 (rdX zs), .int .i64 (rdN zs), .int .i64 (rdE zs)]) ∧ w' = w := by
  by_cases h0 : zs.length = 0
  · obtain ⟨r1, r2, r3⟩ := rd_no (zs := zs) (by omega)
    rw [r1, r2, r3, h0]
    clear r1 r2 r3 hz hb
    go_enter Try.func59, Try.ntmps59
    go_wp2
    go_ret3
    exact ⟨rfl, rfl⟩
  · obtain ⟨b, off, rfl, hbl, hc⟩ := hb.at (by omega)
    have q0 : w.cell? ⟨b, off, none⟩ = some (.int .u8 (zs.getD 0 0)) := hc 0 (by omega)
    obtain ⟨c0, c1⟩ := hz 0 (by omega)
    have g0 : ((zs.length : Int) == 0) = false := beq_eq_false_iff_ne.2 (by omega)
    have p0 : (0 : Int) < (zs.length : Int) := by omega
    have HS := hide (fun w => behind_any (zs.getD 0 0) w c0 c1)
    obtain ⟨s, hs⟩ : ∃ s, s = rdS (zs.getD 0 0) := ⟨_, rfl⟩
    have hs1 : 1 ≤ s ∧ s ≤ 9 := by rw [hs]; exact rdS_bd _
    have hs253 : s = 1 → zs.getD 0 0 < 253 := fun h => rdS_one _ (by rw [← hs]; exact h) c1
    rw [← hs] at HS
    by_cases h1 : zs.length < s
    · obtain ⟨r1, r2, r3⟩ := rd_no (zs := zs) (by omega)
      rw [r1, r2, r3]
      clear r1 r2 r3 hz hb hc hs hs253
      generalize zs.getD 0 0 = c at *
      generalize zs.length = len at *
      go_enter Try.func59, Try.ntmps59
      go_wp2_with fail
      refine (HS.out _).mono ?_
      rintro e w1 ⟨rfl, rfl⟩
      go_wp2
      go_ret3
      exact ⟨rfl, rfl⟩
    · by_cases h2 : s = 1
      · obtain ⟨r1, r2, r3⟩ := rd_one (zs := zs) (by omega) (by omega)
        rw [r1, r2, r3]
        have hlt := hs253 h2
        clear r1 r2 r3 hz hb hc hs hs253
        subst h2
        generalize zs.getD 0 0 = c at *
        generalize zs.length = len at *
        have HZ := hide (fun w => size_any c w c0)
        rw [show sizeN c = 1 from if_pos hlt] at HZ
        go_enter Try.func59, Try.ntmps59
        go_wp2_with fail
        refine (HS.out _).mono ?_
        rintro e w1 ⟨rfl, rfl⟩
        go_wp2_with fail
        refine (HZ.out _).mono ?_
        rintro e w2 ⟨rfl, rfl⟩
        go_wp2
        go_ret3
        exact ⟨rfl, rfl⟩
      · have HF := hide (fun cap w' (h : w' = w) => from_any b (off + 1) (s - 1) cap (fun k => zs.getD (1 + k) 0) w' (by omega) (fun k hk => by have h2 := hc (1 + k) (by omega); rw [h, Nat.add_assoc]; exact h2) (fun k hk => hz (1 + k) (by omega)))
        have hvb : 0 ≤ rdV zs := (val_bd _ _ fun j hj => hz (1 + j) (by rw [← hs] at hj; omega)).1
        have hV : val (fun k => zs.getD (1 + k) 0) (s - 1) = rdV zs := by rw [hs]; rfl
        rw [hV] at HF
        have HZ := hide (fun w => size_any (rdV zs) w hvb)
        clear hV
        by_cases h3 : sizeN (rdV zs) = s
        · obtain ⟨r1, r2, r3⟩ := rd_more (zs := zs) (by omega) (by omega) (by omega) (by omega)
          rw [r1, r2, r3, ← hs]
          rw [h3] at HZ
          clear r1 r2 r3 hz hb hc hs hs253 h3
          generalize zs.getD 0 0 = c at *
          generalize rdV zs = X at *
          generalize zs.length = len at *
          go_enter Try.func59, Try.ntmps59
          go_wp2_with fail
          refine (HS.out _).mono ?_
          rintro e w1 ⟨rfl, rfl⟩
          go_wp2_with fail
          refine (HF.out _ _ rfl).mono ?_
          rintro e w2 ⟨rfl, rfl⟩
          go_wp2_with fail
          refine (HZ.out _).mono ?_
          rintro e w3 ⟨rfl, rfl⟩
          go_wp2
          go_ret3
          exact ⟨rfl, rfl⟩
        · obtain ⟨r1, r2, r3⟩ := rd_no (zs := zs) (by rw [← hs]; omega)
          rw [r1, r2, r3]
          have g3 : (sizeN (rdV zs) != (s : Int)) = true := by simp; exact h3
          clear r1 r2 r3 hz hb hc hs hs253 h3
          generalize zs.getD 0 0 = c at *
          generalize rdV zs = X at *
          generalize sizeN X = SX at *
          generalize zs.length = len at *
          go_enter Try.func59, Try.ntmps59
          go_wp2_with fail
          refine (HS.out _).mono ?_
          rintro e w1 ⟨rfl, rfl⟩
          go_wp2_with fail
          refine (HF.out _ _ rfl).mono ?_
          rintro e w2 ⟨rfl, rfl⟩
          go_wp2_with fail
          refine (HZ.out _).mono ?_
          rintro e w3 ⟨rfl, rfl⟩
          go_wp2
          go_ret3
          exact ⟨rfl, rfl⟩
end Go.Proofs.Ytcbadmkgbaffpaa
