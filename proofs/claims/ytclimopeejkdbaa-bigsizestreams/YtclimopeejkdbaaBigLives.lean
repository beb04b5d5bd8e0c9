/- The contract of the bigsize statements' lives over this seat's translation. -/
import Derived.Test.YtclimopeejkdbaaRefRead
namespace Go.Proofs.Ytclimopeejkdbaa
open Go.RowKit
set_option linter.unusedVariables false

theorem lr1 : rdX [253, 1, 0, 9] = 256 ∧ rdN [253, 1, 0, 9] = 3 ∧ rdE [253, 1, 0, 9] = 0 := by decide
theorem lr2 : rdX [253, 0, 16] = 0 ∧ rdN [253, 0, 16] = 0 ∧ rdE [253, 0, 16] = 10 := by decide
theorem lp : ([7] : List Int) ++ numB 253 = [7, 253, 0, 253] := by decide
theorem lstr : strOfNums [7, 253, 0, 253] = ⟨#[7, 253, 0, 253]⟩ := by decide +kernel

theorem made_isB (w : World) (n : Nat) (hn : n = w.heap.size) (zs : List Int) (cap : Nat) : IsB (w.alloc (.cells (U8 zs).toArray 5)) (some ⟨n, 0, none⟩) cap zs := by
  refine .inr ⟨_, rfl, fun j u hu => ?_⟩
  rw [addr_add, World.cell?_alloc_at _ _ _ _ hn]
  simpa using hu
theorem read1 (W : World) (bl : Nat) (h : IsB W (some ⟨bl, 0, none⟩) 4 [253, 1, 0, 9]) :
    Calls Try.prog 13 #[.slice (some ⟨bl, 0, none⟩) 4 4] W fun e w' => e = .returned (.tuple #[.int .u64 256, .int .i64 3, .int .i64 0]) ∧ w' = W := by
  have h1 := read_any _ 4 [253, 1, 0, 9] W h (by decide) (by omega) (by decide)
  rw [lr1.1, lr1.2.1, lr1.2.2] at h1
  exact h1
theorem read2 (W : World) (bl : Nat) (h : IsB W (some ⟨bl, 0, none⟩) 3 [253, 0, 16]) :
    Calls Try.prog 13 #[.slice (some ⟨bl, 0, none⟩) 3 3] W fun e w' => e = .returned (.tuple #[.int .u64 0, .int .i64 0, .int .i64 10]) ∧ w' = W := by
  have h1 := read_any _ 3 [253, 0, 16] W h (by decide) (by omega) (by decide)
  rw [lr2.1, lr2.2.1, lr2.2.2] at h1
  exact h1
theorem put1 (W : World) (bl : Nat) (h : IsB W (some ⟨bl, 0, none⟩) 1 [7]) :
    Calls Try.prog 9 #[.slice (some ⟨bl, 0, none⟩) 1 1, .int .u64 253] W fun e w' => ∃ ao cp, e = .returned (.slice ao 4 cp) ∧ Hid (IsB w' ao cp [7, 253, 0, 253]) ∧ Below W.heap.size W w' := by
  have h1 := put_any _ 1 [7] 253 W h (by decide) (by omega) (by omega)
  rw [lp] at h1
  refine h1.mono fun e w' hh => ?_
  obtain ⟨v, he, ho, hb⟩ := hh
  obtain ⟨ao, cp, hv, hB, _, _⟩ := own_isB ho
  exact ⟨ao, cp, by rw [he, hv]; rfl, hB, hb⟩

set_option maxHeartbeats 400000 in
theorem lives_any (w : World) : Calls Try.prog 11 #[] w fun e w' => e = .returned (.bool true) ∧ Below w.heap.size w w' := by
  go_enter Try.func11, Try.ntmps11
  go_wp2_with fail
  refine (read1 _ _ ?a1).mono ?_
  case a1 => exact made_isB w _ rfl [253, 1, 0, 9] 4
  rintro e w1 ⟨rfl, rfl⟩
  go_wp2_with fail
  refine (read2 _ _ ?a2).mono ?_
  case a2 => exact made_isB _ _ (by simp) [253, 0, 16] 3
  rintro e w2 ⟨rfl, rfl⟩
  go_wp2_with fail
  refine (put1 _ _ ?a3).mono ?_
  case a3 => exact made_isB _ _ (by simp) [7] 1
  rintro e w3 ⟨ao, cp, rfl, hB, hb⟩
  have hcv : (convert 23 9 (.slice ao 4 cp)).run Try.prog w3 = .ok (.string ⟨#[7, 253, 0, 253]⟩) w3 := by
    have h := conv_any hB.out
    rw [lstr] at h
    exact h
  have HB := hide ((((Below.refl w.heap.size w).alloc (Nat.le_refl _) (.cells #[.int .u8 253, .int .u8 1, .int .u8 0, .int .u8 9] 5)).alloc (by simp) (.cells #[.int .u8 253, .int .u8 0, .int .u8 16] 5)).alloc (by simp; omega) (.cells #[.int .u8 7] 5))
  have HB3 := hide (HB.out.trans (hb.mono (by simp; omega)))
  clear hb hB
  go_wp2
  go_ret
  exact ⟨rfl, HB3.out⟩
end Go.Proofs.Ytclimopeejkdbaa
