/- Contracts of bigsize.appendHigh and appendNumber where there is room: the value stays where it is. -/
import Derived.Test.YtcbadmkgbaffpaaBig
namespace Go.Proofs.Ytcbadmkgbaffpaa
open Go.RowKit
set_option linter.unusedVariables false

theorem grown_trans {a b c : World} {r : Option Nat} (h : a.grownBy b r) (k : b.grownBy c r) : a.grownBy c r :=
  ⟨k.os.trans h.os, k.tape.trans h.tape, k.output.trans h.output, Nat.le_trans h.size k.size, fun i hi hr => (k.block i (Nat.lt_of_lt_of_le hi h.size) hr).trans (h.block i hi hr)⟩

/-- a row with room, at block g -/
abbrev Room (g n cap : Nat) : Value := .slice (some ⟨g, 0, none⟩) n cap

set_option maxHeartbeats 1000000 in
theorem high_fit (B g len cap n : Nat) (zs : List Int) (x : Int) (w : World) (hown : w.ownsRow B 5 1 (Room g len cap) len (U8 zs)) (hfit : len + n ≤ cap) (hn : n ≤ 8) (h0 : 0 ≤ x) (h1 : x ≤ 18446744073709551615) :
    Calls Try.prog 71 #[Room g len cap, .int .u64 x, .int .i64 n] w fun e w' => e = .returned (Room g (len + n) cap) ∧ Hid (w'.ownsRow B 5 1 (Room g (len + n) cap) (len + n) (U8 (zs ++ hiL x n n))) ∧ Hid (w.grownBy w' (some g)) := by
  obtain ⟨i0, hi, hz0, hz1, hz2⟩ := info_parts Try.info5
  go_enter Try.func71, Try.ntmps71
  go_wp2
  go_loopw [0, 7] (fun b i wr => ∃ k : Nat, k ≤ n ∧ i = .int .i64 ((n : Int) - 1 - k) ∧ b = Room g (len + k) cap ∧ Hid (wr.ownsRow B 5 1 (Room g (len + k) cap) (len + k) (U8 (zs ++ hiL x n k))) ∧ Hid (w.grownBy wr (some g))) (fun _ i _ => (intOf i + 1).toNat)
  case atStart => exact ⟨0, Nat.zero_le _, by simp, rfl, hide (by simpa [hiL] using hown), World.grownBy.refl _ _⟩
  case round =>
    obtain ⟨k, hk, rfl, rfl, hown2, HG⟩ := hrel
    clear hown
    by_cases hlt : k < n
    · have hsucc := hide (hiL_succ x n k)
      generalize hiL x n k = L at *
      go_wp2_with (at_builtin; refine wpList_append_fits _ rfl (.tmp 14) (.tmp 20) 23 rfl B 5 i0 1 Try.underlying23 hi hz1 g (len + k) cap _ rfl (hown2.out.alloc _) ⟨wr.heap.size, 0, none⟩ 1 1 [.int .u8 (hiB x n k)] rfl rfl (cell_one_new _ _ _) ?c2 ?c3 ?_)
      case c2 => exact one_u8 [hiB x n k]
      case c3 => omega
      intro w1 hown' hgrow
      have HO := hide (show w1.ownsRow B 5 1 (Room g (len + (k + 1)) cap) (len + (k + 1)) (U8 (zs ++ (L ++ [hiB x n k]))) by rw [← List.append_assoc, U8_append]; exact hown')
      have HG1 := hide (grown_trans (grown_trans HG.out (World.grownBy_alloc wr _ _)) hgrow)
      clear hown' hgrow hown2
      go_wp2
      go_roundw
      case rel => exact ⟨k + 1, by omega, by go_num, rfl, by rw [hsucc.out]; exact HO, HG1⟩
      case measure => simp [intOf]; omega
    · have ek : k = n := by omega
      subst ek
      go_wp2
      go_ret
      exact ⟨rfl, hown2, HG⟩

set_option maxHeartbeats 1000000 in
theorem afit_2 (B g len cap : Nat) (zs : List Int) (x : Int) (w : World) (hown : w.ownsRow B 5 1 (Room g len cap) len (U8 zs)) (hfit : len + 3 ≤ cap) (h0 : 0 ≤ x) (h1 : x ≤ 18446744073709551615) (hs : sizeN x = 3) :
    Calls Try.prog 39 #[Room g len cap, .int .u64 x] w fun e w' => e = .returned (Room g (len + 3) cap) ∧ Hid (w'.ownsRow B 5 1 (Room g (len + 3) cap) (len + 3) (U8 (zs ++ 253 :: hiL x 2 2))) ∧ Hid (w.grownBy w' (some g)) := by
  obtain ⟨i0, hi, hz0, hz1, hz2⟩ := info_parts Try.info5
  have HS := hide (fun w => size_any x w h0)
  rw [hs] at HS
  have hownh := hide hown
  clear hs hown
  go_enter Try.func39, Try.ntmps39
  go_wp2_with fail
  refine (HS.out _).mono ?_
  rintro e w1 ⟨rfl, rfl⟩
  go_wp2_with (at_builtin; refine wpList_append_fits _ rfl (.tmp 9) (.tmp 10) 23 rfl B 5 i0 1 Try.underlying23 hi hz1 g len cap _ rfl (hownh.out.alloc _) ⟨w1.heap.size, 0, none⟩ 1 1 [.int .u8 253] rfl rfl (cell_one_new _ _ _) ?c2 ?c3 ?_)
  case c2 => exact one_u8 [253]
  case c3 => omega
  intro w2 hown' hgrow
  have HO := hide (show w2.ownsRow B 5 1 (Room g (len + 1) cap) (len + 1) (U8 (zs ++ [253])) by rw [U8_append]; exact hown')
  have HG := hide (grown_trans (World.grownBy_alloc w1 _ _) hgrow)
  clear hown' hgrow hownh
  go_wp2_with fail
  refine (high_fit B g (len + 1) cap 2 (zs ++ [253]) x w2 HO.out (by omega) (by omega) h0 h1).mono ?_
  rintro e w3 ⟨rfl, ho, hg⟩
  have HG3 := hide (grown_trans HG.out hg.out)
  have HO3 := hide (show w3.ownsRow B 5 1 (Room g (len + 3) cap) (len + 3) (U8 (zs ++ 253 :: hiL x 2 2)) by have h := ho.out; rw [List.append_assoc] at h; exact h)
  clear ho hg
  go_wp2
  go_ret
  exact ⟨rfl, HO3, HG3⟩

set_option maxHeartbeats 1000000 in
theorem afit_4 (B g len cap : Nat) (zs : List Int) (x : Int) (w : World) (hown : w.ownsRow B 5 1 (Room g len cap) len (U8 zs)) (hfit : len + 5 ≤ cap) (h0 : 0 ≤ x) (h1 : x ≤ 18446744073709551615) (hs : sizeN x = 5) :
    Calls Try.prog 39 #[Room g len cap, .int .u64 x] w fun e w' => e = .returned (Room g (len + 5) cap) ∧ Hid (w'.ownsRow B 5 1 (Room g (len + 5) cap) (len + 5) (U8 (zs ++ 254 :: hiL x 4 4))) ∧ Hid (w.grownBy w' (some g)) := by
  obtain ⟨i0, hi, hz0, hz1, hz2⟩ := info_parts Try.info5
  have HS := hide (fun w => size_any x w h0)
  rw [hs] at HS
  have hownh := hide hown
  clear hs hown
  go_enter Try.func39, Try.ntmps39
  go_wp2_with fail
  refine (HS.out _).mono ?_
  rintro e w1 ⟨rfl, rfl⟩
  go_wp2_with (at_builtin; refine wpList_append_fits _ rfl (.tmp 16) (.tmp 17) 23 rfl B 5 i0 1 Try.underlying23 hi hz1 g len cap _ rfl (hownh.out.alloc _) ⟨w1.heap.size, 0, none⟩ 1 1 [.int .u8 254] rfl rfl (cell_one_new _ _ _) ?c2 ?c3 ?_)
  case c2 => exact one_u8 [254]
  case c3 => omega
  intro w2 hown' hgrow
  have HO := hide (show w2.ownsRow B 5 1 (Room g (len + 1) cap) (len + 1) (U8 (zs ++ [254])) by rw [U8_append]; exact hown')
  have HG := hide (grown_trans (World.grownBy_alloc w1 _ _) hgrow)
  clear hown' hgrow hownh
  go_wp2_with fail
  refine (high_fit B g (len + 1) cap 4 (zs ++ [254]) x w2 HO.out (by omega) (by omega) h0 h1).mono ?_
  rintro e w3 ⟨rfl, ho, hg⟩
  have HG3 := hide (grown_trans HG.out hg.out)
  have HO3 := hide (show w3.ownsRow B 5 1 (Room g (len + 5) cap) (len + 5) (U8 (zs ++ 254 :: hiL x 4 4)) by have h := ho.out; rw [List.append_assoc] at h; exact h)
  clear ho hg
  go_wp2
  go_ret
  exact ⟨rfl, HO3, HG3⟩

set_option maxHeartbeats 1000000 in
theorem afit_8 (B g len cap : Nat) (zs : List Int) (x : Int) (w : World) (hown : w.ownsRow B 5 1 (Room g len cap) len (U8 zs)) (hfit : len + 9 ≤ cap) (h0 : 0 ≤ x) (h1 : x ≤ 18446744073709551615) (hs : sizeN x = 9) :
    Calls Try.prog 39 #[Room g len cap, .int .u64 x] w fun e w' => e = .returned (Room g (len + 9) cap) ∧ Hid (w'.ownsRow B 5 1 (Room g (len + 9) cap) (len + 9) (U8 (zs ++ 255 :: hiL x 8 8))) ∧ Hid (w.grownBy w' (some g)) := by
  obtain ⟨i0, hi, hz0, hz1, hz2⟩ := info_parts Try.info5
  have HS := hide (fun w => size_any x w h0)
  rw [hs] at HS
  have hownh := hide hown
  clear hs hown
  go_enter Try.func39, Try.ntmps39
  go_wp2_with fail
  refine (HS.out _).mono ?_
  rintro e w1 ⟨rfl, rfl⟩
  go_wp2_with (at_builtin; refine wpList_append_fits _ rfl (.tmp 23) (.tmp 24) 23 rfl B 5 i0 1 Try.underlying23 hi hz1 g len cap _ rfl (hownh.out.alloc _) ⟨w1.heap.size, 0, none⟩ 1 1 [.int .u8 255] rfl rfl (cell_one_new _ _ _) ?c2 ?c3 ?_)
  case c2 => exact one_u8 [255]
  case c3 => omega
  intro w2 hown' hgrow
  have HO := hide (show w2.ownsRow B 5 1 (Room g (len + 1) cap) (len + 1) (U8 (zs ++ [255])) by rw [U8_append]; exact hown')
  have HG := hide (grown_trans (World.grownBy_alloc w1 _ _) hgrow)
  clear hown' hgrow hownh
  go_wp2_with fail
  refine (high_fit B g (len + 1) cap 8 (zs ++ [255]) x w2 HO.out (by omega) (by omega) h0 h1).mono ?_
  rintro e w3 ⟨rfl, ho, hg⟩
  have HG3 := hide (grown_trans HG.out hg.out)
  have HO3 := hide (show w3.ownsRow B 5 1 (Room g (len + 9) cap) (len + 9) (U8 (zs ++ 255 :: hiL x 8 8)) by have h := ho.out; rw [List.append_assoc] at h; exact h)
  clear ho hg
  go_wp2
  go_ret
  exact ⟨rfl, HO3, HG3⟩

set_option maxHeartbeats 1000000 in
theorem afit_1 (B g len cap : Nat) (zs : List Int) (x : Int) (w : World) (hown : w.ownsRow B 5 1 (Room g len cap) len (U8 zs)) (hfit : len + 1 ≤ cap) (h0 : 0 ≤ x) (h1 : x < 253) :
    Calls Try.prog 39 #[Room g len cap, .int .u64 x] w fun e w' => e = .returned (Room g (len + 1) cap) ∧ Hid (w'.ownsRow B 5 1 (Room g (len + 1) cap) (len + 1) (U8 (zs ++ [x]))) ∧ Hid (w.grownBy w' (some g)) := by
  obtain ⟨i0, hi, hz0, hz1, hz2⟩ := info_parts Try.info5
  have HS := hide (fun w => size_any x w h0)
  rw [show sizeN x = 1 from if_pos h1] at HS
  have hownh := hide hown
  clear hown
  go_enter Try.func39, Try.ntmps39
  go_wp2_with fail
  refine (HS.out _).mono ?_
  rintro e w1 ⟨rfl, rfl⟩
  go_wp2_with (at_builtin; refine wpList_append_fits _ rfl (.tmp 28) (.tmp 31) 23 rfl B 5 i0 1 Try.underlying23 hi hz1 g len cap _ rfl (hownh.out.alloc _) ⟨w1.heap.size, 0, none⟩ 1 1 [.int .u8 x] rfl rfl (cell_one_new _ _ _) ?c2 ?c3 ?_)
  case c2 => exact one_u8 [x]
  case c3 => omega
  intro w2 hown' hgrow
  have HO := hide (show w2.ownsRow B 5 1 (Room g (len + 1) cap) (len + 1) (U8 (zs ++ [x])) by rw [U8_append]; exact hown')
  have HG := hide (grown_trans (World.grownBy_alloc w1 _ _) hgrow)
  clear hown' hgrow hownh
  go_wp2
  go_ret
  exact ⟨rfl, HO, HG⟩

/-- appendNumber where there is room -/
theorem afit_any (B g len cap : Nat) (zs : List Int) (x : Int) (w : World) (hown : w.ownsRow B 5 1 (Room g len cap) len (U8 zs)) (hfit : len + (numB x).length ≤ cap) (h0 : 0 ≤ x) (h1 : x ≤ 18446744073709551615) :
    Calls Try.prog 39 #[Room g len cap, .int .u64 x] w fun e w' => e = .returned (Room g (len + (numB x).length) cap) ∧ Hid (w'.ownsRow B 5 1 (Room g (len + (numB x).length) cap) (len + (numB x).length) (U8 (zs ++ numB x))) ∧ Hid (w.grownBy w' (some g)) := by
  by_cases c1 : x < 253
  · rw [show numB x = [x] from if_pos c1] at hfit ⊢
    exact afit_1 B g len cap zs x w hown hfit h0 c1
  · by_cases c2 : x ≤ 65535
    · have e : numB x = 253 :: hiL x 2 2 := by unfold numB; rw [if_neg c1, if_pos c2]
      rw [e] at hfit ⊢
      exact afit_2 B g len cap zs x w hown hfit h0 h1 (by unfold sizeN; rw [if_neg c1, if_pos c2])
    · by_cases c3 : x ≤ 4294967295
      · have e : numB x = 254 :: hiL x 4 4 := by unfold numB; rw [if_neg c1, if_neg c2, if_pos c3]
        rw [e] at hfit ⊢
        exact afit_4 B g len cap zs x w hown hfit h0 h1 (by unfold sizeN; rw [if_neg c1, if_neg c2, if_pos c3])
      · have e : numB x = 255 :: hiL x 8 8 := by unfold numB; rw [if_neg c1, if_neg c2, if_neg c3]
        rw [e] at hfit ⊢
        exact afit_8 B g len cap zs x w hown hfit h0 h1 (by unfold sizeN; rw [if_neg c1, if_neg c2, if_neg c3])
end Go.Proofs.Ytcbadmkgbaffpaa
