/- Contracts of package bigsize's numbers over this seat's translation. -/
import Derived.Test.YtcbadmkgbaffpaaRows
import Derived.WalkKit
import Derived.WalkSpells
import Derived.WalkLawsBesides
import Derived.Handy
namespace Go.Proofs.Ytcbadmkgbaffpaa
open Go.RowKit
set_option linter.unusedVariables false

theorem hide {p : Prop} (h : p) : Hid p := h
theorem Try.info5 : (Try.prog.info? 5).map (fun i => (i.zero, i.size, i.bytes)) = some (some (.int .u8 0), 1, 1) := by kernel_rfl

/-- how many bytes a number takes -/
def sizeN (x : Int) : Int := if x < 253 then 1 else if x ≤ 65535 then 3 else if x ≤ 4294967295 then 5 else 9

set_option maxHeartbeats 400000 in
theorem size_any (x : Int) (w : World) (h0 : 0 ≤ x) :
    Calls Try.prog 70 #[.int .u64 x] w fun e w' => e = .returned (.int .i64 (sizeN x)) ∧ w' = w := by
  unfold sizeN
  by_cases h1 : x < 253
  · rw [if_pos h1]
    go_enter Try.func70, Try.ntmps70
    go_wp2
    go_ret
    exact ⟨rfl, rfl⟩
  · rw [if_neg h1]
    by_cases h2 : x ≤ 65535
    · rw [if_pos h2]
      go_enter Try.func70, Try.ntmps70
      go_wp2
      go_ret
      exact ⟨rfl, rfl⟩
    · rw [if_neg h2]
      by_cases h3 : x ≤ 4294967295
      · rw [if_pos h3]
        go_enter Try.func70, Try.ntmps70
        go_wp2
        go_ret
        exact ⟨rfl, rfl⟩
      · rw [if_neg h3]
        go_enter Try.func70, Try.ntmps70
        go_wp2
        go_ret
        exact ⟨rfl, rfl⟩

/-- the byte number j of the n lowest bytes of x, the highest first -/
def hiB (x : Int) (n j : Nat) : Int := x / 2 ^ (8 * (n - 1 - j)) % 256
def hiL (x : Int) (n k : Nat) : List Int := (List.range k).map (hiB x n)
theorem hiL_succ (x : Int) (n k : Nat) : hiL x n (k + 1) = hiL x n k ++ [hiB x n k] := by simp [hiL, List.range_succ]
theorem hiL_length (x : Int) (n k : Nat) : (hiL x n k).length = k := by simp [hiL]

/-- bytes as values -/
def U8 (zs : List Int) : List Value := zs.map (Value.int .u8)
theorem U8_append (a b : List Int) : U8 (a ++ b) = U8 a ++ U8 b := by simp [U8]
theorem U8_one (a : Int) : U8 [a] = [.int .u8 a] := rfl
theorem one_u8 (zs : List Int) : ∀ u ∈ U8 zs, u.oneCell' = true := by
  intro u hu
  simp [U8] at hu
  obtain ⟨a, _, rfl⟩ := hu
  rfl

/-- what an append of one byte to a row of the call's own leaves -/
theorem own_push {B n : Nat} {w wr w1 : World} {b v' : Value} {zs : List Int} {c : Int} {o : Obj} (hown : wr.ownsRow B 5 1 b n (U8 zs)) (hB : B ≤ wr.heap.size) (hb : Below B w wr)
    (hown' : w1.ownsRow B 5 1 v' (n + 1) (U8 zs ++ [.int .u8 c])) (hg : (wr.alloc o).grownBy w1 b.ownBlock) :
    w1.ownsRow B 5 1 v' (n + 1) (U8 (zs ++ [c])) ∧ B ≤ w1.heap.size ∧ Below B w w1 := by
  have hz : B ≤ (wr.alloc o).heap.size := by simp; omega
  refine ⟨by rw [U8_append]; exact hown', Nat.le_trans hz hg.size, (hb.alloc hB o).grown hg hz fun k hk => ((hown.alloc o).lt k hk).1⟩

set_option maxHeartbeats 1000000 in
theorem high_any (B : Nat) (v : Value) (len n : Nat) (zs : List Int) (x : Int) (w : World) (hown : w.ownsRow B 5 1 v len (U8 zs)) (hB : B ≤ w.heap.size) (hl : len + n ≤ 140737488355328) (hn : n ≤ 8) (h0 : 0 ≤ x) (h1 : x ≤ 18446744073709551615) :
    Calls Try.prog 71 #[v, .int .u64 x, .int .i64 n] w fun e w' => ∃ v', e = .returned v' ∧ w'.ownsRow B 5 1 v' (len + n) (U8 (zs ++ hiL x n n)) ∧ Below B w w' := by
  obtain ⟨i0, hi, hz0, hz1, hz2⟩ := info_parts Try.info5
  go_enter Try.func71, Try.ntmps71
  go_wp2
  go_loopw [0, 7] (fun b i wr => ∃ k : Nat, k ≤ n ∧ i = .int .i64 ((n : Int) - 1 - k) ∧ Hid (wr.ownsRow B 5 1 b (len + k) (U8 (zs ++ hiL x n k))) ∧ B ≤ wr.heap.size ∧ Hid (Below B w wr)) (fun _ i _ => (intOf i + 1).toNat)
  case atStart => exact ⟨0, Nat.zero_le _, by simp, hide (by simpa [hiL] using hown), hB, Below.refl _ _⟩
  case round =>
    obtain ⟨k, hk, rfl, hown2, hBr, HB⟩ := hrel
    clear hown
    by_cases hlt : k < n
    · have hsucc := hide (hiL_succ x n k)
      generalize hiL x n k = L at *
      go_wp2_with (at_builtin; refine wpList_append_own _ rfl (.tmp 14) (.tmp 20) 23 rfl B 5 i0 (.int .u8 0) 1 1 Try.underlying23 hi hz0 hz1 hz2 rfl (by decide) _ _ _ rfl (hown2.out.alloc _) ⟨wr.heap.size, 0, none⟩ 1 1 [.int .u8 (hiB x n k)] rfl rfl (cell_one_new _ _ _) ?c2 ?c3 ?c4 ?c5 ?_)
      case c2 => exact one_u8 [hiB x n k]
      case c3 => unfold maxLen; omega
      case c4 => omega
      case c5 => simp; omega
      intro v' w1 hown' hgrow _
      have R := hide (own_push hown2.out hBr HB.out hown' hgrow)
      clear hown' hgrow hown2
      go_wp2
      go_roundw
      case rel => exact ⟨k + 1, by omega, by go_num, by rw [hsucc.out, ← List.append_assoc]; exact R.out.1, R.out.2.1, R.out.2.2⟩
      case measure => simp [intOf]; omega
    · have ek : k = n := by omega
      subst ek
      go_wp2
      go_ret
      exact ⟨_, rfl, hown2.out, HB.out⟩

/-- a number's bytes -/
def numB (x : Int) : List Int := if x < 253 then [x] else if x ≤ 65535 then 253 :: hiL x 2 2 else if x ≤ 4294967295 then 254 :: hiL x 4 4 else 255 :: hiL x 8 8
theorem numB_length (x : Int) : ((numB x).length : Int) = sizeN x := by
  unfold numB sizeN
  repeat' split
  all_goals simp [hiL_length]

theorem own_one (w : World) (c : Value) : (w.alloc (.cells #[c] 5)).ownsRow w.heap.size 5 1 (.slice (some ⟨w.heap.size, 0, none⟩) 1 1) 1 [c] :=
  ⟨rfl, .inr ⟨w.heap.size, 1, #[c], rfl, Nat.le_refl _, heap_alloc_new w _, Nat.le_refl _, by unfold maxLen; omega, rfl, rfl⟩⟩

set_option maxHeartbeats 1000000 in
theorem anum_2 (B : Nat) (v : Value) (len : Nat) (zs : List Int) (x : Int) (w : World) (hown : w.ownsRow B 5 1 v len (U8 zs)) (hB : B ≤ w.heap.size) (hl : len + 9 ≤ 140737488355328) (h0 : 0 ≤ x) (h1 : x ≤ 18446744073709551615) (hs : sizeN x = 3) :
    Calls Try.prog 39 #[v, .int .u64 x] w fun e w' => ∃ v', e = .returned v' ∧ w'.ownsRow B 5 1 v' (len + 3) (U8 (zs ++ 253 :: hiL x 2 2)) ∧ Below B w w' := by
  obtain ⟨i0, hi, hz0, hz1, hz2⟩ := info_parts Try.info5
  have HS := hide (fun w => size_any x w h0)
  rw [hs] at HS
  have hownh := hide hown
  clear hs hown
  go_enter Try.func39, Try.ntmps39
  go_wp2_with fail
  refine (HS.out _).mono ?_
  rintro e w1 ⟨rfl, rfl⟩
  go_wp2_with (at_builtin; refine wpList_append_own _ rfl (.tmp 9) (.tmp 10) 23 rfl B 5 i0 (.int .u8 0) 1 1 Try.underlying23 hi hz0 hz1 hz2 rfl (by decide) _ _ _ rfl (hownh.out.alloc _) ⟨w1.heap.size, 0, none⟩ 1 1 [.int .u8 253] rfl rfl (cell_one_new _ _ _) ?c2 ?c3 ?c4 ?c5 ?_)
  case c2 => exact one_u8 [253]
  case c3 => unfold maxLen; omega
  case c4 => omega
  case c5 => simp; omega
  intro v' w2 hown' hgrow _
  have R := hide (own_push hownh.out hB (Below.refl _ _) hown' hgrow)
  clear hown' hgrow hownh
  go_wp2_with fail
  refine (high_any B v' (len + 1) 2 (zs ++ [253]) x w2 R.out.1 R.out.2.1 (by omega) (by omega) h0 h1).mono ?_
  rintro e w3 ⟨v3, rfl, ho, hb⟩
  have HO := hide ho
  have HB := hide (R.out.2.2.trans hb)
  clear ho hb R
  go_wp2
  go_ret
  exact ⟨v3, rfl, by have := HO.out; rw [List.append_assoc] at this; exact this, HB.out⟩

set_option maxHeartbeats 1000000 in
theorem anum_4 (B : Nat) (v : Value) (len : Nat) (zs : List Int) (x : Int) (w : World) (hown : w.ownsRow B 5 1 v len (U8 zs)) (hB : B ≤ w.heap.size) (hl : len + 9 ≤ 140737488355328) (h0 : 0 ≤ x) (h1 : x ≤ 18446744073709551615) (hs : sizeN x = 5) :
    Calls Try.prog 39 #[v, .int .u64 x] w fun e w' => ∃ v', e = .returned v' ∧ w'.ownsRow B 5 1 v' (len + 5) (U8 (zs ++ 254 :: hiL x 4 4)) ∧ Below B w w' := by
  obtain ⟨i0, hi, hz0, hz1, hz2⟩ := info_parts Try.info5
  have HS := hide (fun w => size_any x w h0)
  rw [hs] at HS
  have hownh := hide hown
  clear hs hown
  go_enter Try.func39, Try.ntmps39
  go_wp2_with fail
  refine (HS.out _).mono ?_
  rintro e w1 ⟨rfl, rfl⟩
  go_wp2_with (at_builtin; refine wpList_append_own _ rfl (.tmp 16) (.tmp 17) 23 rfl B 5 i0 (.int .u8 0) 1 1 Try.underlying23 hi hz0 hz1 hz2 rfl (by decide) _ _ _ rfl (hownh.out.alloc _) ⟨w1.heap.size, 0, none⟩ 1 1 [.int .u8 254] rfl rfl (cell_one_new _ _ _) ?c2 ?c3 ?c4 ?c5 ?_)
  case c2 => exact one_u8 [254]
  case c3 => unfold maxLen; omega
  case c4 => omega
  case c5 => simp; omega
  intro v' w2 hown' hgrow _
  have R := hide (own_push hownh.out hB (Below.refl _ _) hown' hgrow)
  clear hown' hgrow hownh
  go_wp2_with fail
  refine (high_any B v' (len + 1) 4 (zs ++ [254]) x w2 R.out.1 R.out.2.1 (by omega) (by omega) h0 h1).mono ?_
  rintro e w3 ⟨v3, rfl, ho, hb⟩
  have HO := hide ho
  have HB := hide (R.out.2.2.trans hb)
  clear ho hb R
  go_wp2
  go_ret
  exact ⟨v3, rfl, by have := HO.out; rw [List.append_assoc] at this; exact this, HB.out⟩

set_option maxHeartbeats 1000000 in
theorem anum_8 (B : Nat) (v : Value) (len : Nat) (zs : List Int) (x : Int) (w : World) (hown : w.ownsRow B 5 1 v len (U8 zs)) (hB : B ≤ w.heap.size) (hl : len + 9 ≤ 140737488355328) (h0 : 0 ≤ x) (h1 : x ≤ 18446744073709551615) (hs : sizeN x = 9) :
    Calls Try.prog 39 #[v, .int .u64 x] w fun e w' => ∃ v', e = .returned v' ∧ w'.ownsRow B 5 1 v' (len + 9) (U8 (zs ++ 255 :: hiL x 8 8)) ∧ Below B w w' := by
  obtain ⟨i0, hi, hz0, hz1, hz2⟩ := info_parts Try.info5
  have HS := hide (fun w => size_any x w h0)
  rw [hs] at HS
  have hownh := hide hown
  clear hs hown
  go_enter Try.func39, Try.ntmps39
  go_wp2_with fail
  refine (HS.out _).mono ?_
  rintro e w1 ⟨rfl, rfl⟩
  go_wp2_with (at_builtin; refine wpList_append_own _ rfl (.tmp 23) (.tmp 24) 23 rfl B 5 i0 (.int .u8 0) 1 1 Try.underlying23 hi hz0 hz1 hz2 rfl (by decide) _ _ _ rfl (hownh.out.alloc _) ⟨w1.heap.size, 0, none⟩ 1 1 [.int .u8 255] rfl rfl (cell_one_new _ _ _) ?c2 ?c3 ?c4 ?c5 ?_)
  case c2 => exact one_u8 [255]
  case c3 => unfold maxLen; omega
  case c4 => omega
  case c5 => simp; omega
  intro v' w2 hown' hgrow _
  have R := hide (own_push hownh.out hB (Below.refl _ _) hown' hgrow)
  clear hown' hgrow hownh
  go_wp2_with fail
  refine (high_any B v' (len + 1) 8 (zs ++ [255]) x w2 R.out.1 R.out.2.1 (by omega) (by omega) h0 h1).mono ?_
  rintro e w3 ⟨v3, rfl, ho, hb⟩
  have HO := hide ho
  have HB := hide (R.out.2.2.trans hb)
  clear ho hb R
  go_wp2
  go_ret
  exact ⟨v3, rfl, by have := HO.out; rw [List.append_assoc] at this; exact this, HB.out⟩

set_option maxHeartbeats 1000000 in
theorem anum_1 (B : Nat) (v : Value) (len : Nat) (zs : List Int) (x : Int) (w : World) (hown : w.ownsRow B 5 1 v len (U8 zs)) (hB : B ≤ w.heap.size) (hl : len + 9 ≤ 140737488355328) (h0 : 0 ≤ x) (h1 : x < 253) :
    Calls Try.prog 39 #[v, .int .u64 x] w fun e w' => ∃ v', e = .returned v' ∧ w'.ownsRow B 5 1 v' (len + 1) (U8 (zs ++ [x])) ∧ Below B w w' := by
  obtain ⟨i0, hi, hz0, hz1, hz2⟩ := info_parts Try.info5
  have HS := hide (fun w => size_any x w h0)
  rw [show sizeN x = 1 from if_pos h1] at HS
  have hownh := hide hown
  clear hown
  go_enter Try.func39, Try.ntmps39
  go_wp2_with fail
  refine (HS.out _).mono ?_
  rintro e w1 ⟨rfl, rfl⟩
  go_wp2_with (at_builtin; refine wpList_append_own _ rfl (.tmp 28) (.tmp 31) 23 rfl B 5 i0 (.int .u8 0) 1 1 Try.underlying23 hi hz0 hz1 hz2 rfl (by decide) _ _ _ rfl (hownh.out.alloc _) ⟨w1.heap.size, 0, none⟩ 1 1 [.int .u8 x] rfl rfl (cell_one_new _ _ _) ?c2 ?c3 ?c4 ?c5 ?_)
  case c2 => exact one_u8 [x]
  case c3 => unfold maxLen; omega
  case c4 => omega
  case c5 => simp; omega
  intro v' w2 hown' hgrow _
  have R := hide (own_push hownh.out hB (Below.refl _ _) hown' hgrow)
  clear hown' hgrow hownh
  go_wp2
  go_ret
  exact ⟨v', rfl, R.out.1, R.out.2.2⟩

/-- appendNumber: the bytes of x behind -/
theorem anum_any (B : Nat) (v : Value) (len : Nat) (zs : List Int) (x : Int) (w : World) (hown : w.ownsRow B 5 1 v len (U8 zs)) (hB : B ≤ w.heap.size) (hl : len + 9 ≤ 140737488355328) (h0 : 0 ≤ x) (h1 : x ≤ 18446744073709551615) :
    Calls Try.prog 39 #[v, .int .u64 x] w fun e w' => ∃ v', e = .returned v' ∧ w'.ownsRow B 5 1 v' (len + (numB x).length) (U8 (zs ++ numB x)) ∧ Below B w w' := by
  by_cases c1 : x < 253
  · rw [show numB x = [x] from if_pos c1]
    exact anum_1 B v len zs x w hown hB hl h0 c1
  · by_cases c2 : x ≤ 65535
    · have e : numB x = 253 :: hiL x 2 2 := by unfold numB; rw [if_neg c1, if_pos c2]
      rw [e]
      exact anum_2 B v len zs x w hown hB hl h0 h1 (by unfold sizeN; rw [if_neg c1, if_pos c2])
    · by_cases c3 : x ≤ 4294967295
      · have e : numB x = 254 :: hiL x 4 4 := by unfold numB; rw [if_neg c1, if_neg c2, if_pos c3]
        rw [e]
        exact anum_4 B v len zs x w hown hB hl h0 h1 (by unfold sizeN; rw [if_neg c1, if_neg c2, if_pos c3])
      · have e : numB x = 255 :: hiL x 8 8 := by unfold numB; rw [if_neg c1, if_neg c2, if_neg c3]
        rw [e]
        exact anum_8 B v len zs x w hown hB hl h0 h1 (by unfold sizeN; rw [if_neg c1, if_neg c2, if_neg c3])
end Go.Proofs.Ytcbadmkgbaffpaa
