/- The contract of wire's May over this seat's translation. -/
import Derived.Test.YtcbadmkgbaffpaaWAll
namespace Go.Proofs.Ytcbadmkgbaffpaa
open Go.RowKit
set_option linter.unusedVariables false

def withinB (i : Nat) : Fld → Bool
  | .inl n => decide (lo i ≤ n ∧ n ≤ hi i)
  | .inr (.inl _) => true
  | .inr (.inr (_, _, l)) => decide (lo i ≤ (l.length : Int) ∧ (l.length : Int) ≤ hi i)
def zeroB : Fld → Bool
  | .inl n => n == 0
  | .inr (.inl l) => decide (l = Z32)
  | .inr (.inr (_, _, l)) => (l.length : Int) == 0
def okB (K : Int) (F : Nat → Fld) (i : Nat) : Bool := if i ∈ fl K then withinB i (F i) else zeroB (F i)
def allB (K : Int) (F : Nat → Fld) : Bool := (List.range 12).all (okB K F)
theorem allB_true {K : Int} {F : Nat → Fld} : allB K F = true ↔ ∀ i, i < 12 → okB K F i = true := by
  unfold allB
  rw [List.all_eq_true]
  exact ⟨fun h i hi => h i (List.mem_range.2 hi), fun h i hi => h i (List.mem_range.1 hi)⟩
theorem allB_false {K : Int} {F : Nat → Fld} {j : Nat} (hj : j < 12) (h : okB K F j = false) : allB K F = false := by
  cases h2 : allB K F with
  | false => rfl
  | true => rw [allB_true.1 h2 j hj] at h; cases h
/-- may it be? -/
def mayB (K : Int) (F : Nat → Fld) : Bool := decide (fl K ≠ []) && allB K F
/-- no list is too long for a machine -/
def Small (F : Nat → Fld) : Prop := ∀ i, i < 12 → ∀ a c l, F i = .lst a c l → l.length ≤ 140737488355328

theorem form_cases (i : Nat) : form i = 0 ∨ form i = 1 ∨ form i = 2 := by
  unfold form
  split <;> simp
theorem deedArgs_1 {b i : Nat} (h : form i = 1) : deedArgs b i ++ #[] = #[.pointer (some ⟨b, off i, none⟩)] := by simp [deedArgs, h]
theorem deedArgs_n {b i : Nat} (h : form i ≠ 1) : deedArgs b i ++ #[] = #[.pointer (some ⟨b, off i, none⟩), .int .i64 (lo i), .int .i64 (hi i)] := by simp [deedArgs, h]
theorem deedK_0 {k0 k1 k2 i : Nat} (h : form i = 0) : deedK k0 k1 k2 i = k0 := by simp [deedK, h]
theorem deedK_1 {k0 k1 k2 i : Nat} (h : form i = 1) : deedK k0 k1 k2 i = k1 := by simp [deedK, h]
theorem deedK_2 {k0 k1 k2 i : Nat} (h : form i = 2) : deedK k0 k1 k2 i = k2 := by simp [deedK, h]

theorem deed_within {w : World} {b : Nat} {K : Int} {F : Nat → Fld} (h : MsgAt w b K F) (hS : Small F) {i : Nat} (hi : i < 12) :
    Calls Try.prog (deedK 46 47 48 i) (deedArgs b i ++ #[]) w fun e w' => e = .returned (.bool (withinB i (F i))) ∧ w' = w := by
  rcases form_cases i with hf | hf | hf
  · obtain ⟨n, hn⟩ := fits_num (h.fits i hi) hf
    rw [deedK_0 hf, deedArgs_n (by omega), hn]
    exact within1 b (off i) n _ _ w (h.num hi hn)
  · obtain ⟨l, hl, _⟩ := fits_arr (h.fits i hi) hf
    rw [deedK_1 hf, deedArgs_1 hf, hl]
    exact within2 _ w
  · obtain ⟨a, c, l, hl⟩ := fits_lst (h.fits i hi) hf
    have := hS i hi a c l hl
    rw [deedK_2 hf, deedArgs_n (by omega), hl]
    exact within3 b (off i) a l.length c _ _ w (h.lst hi hl) (by omega)
theorem deed_zero {w : World} {b : Nat} {K : Int} {F : Nat → Fld} (h : MsgAt w b K F) (hS : Small F) {i : Nat} (hi : i < 12) :
    Calls Try.prog (deedK 49 50 51 i) (deedArgs b i ++ #[]) w fun e w' => e = .returned (.bool (zeroB (F i))) ∧ w' = w := by
  rcases form_cases i with hf | hf | hf
  · obtain ⟨n, hn⟩ := fits_num (h.fits i hi) hf
    rw [deedK_0 hf, deedArgs_n (by omega), hn]
    exact zero1 b (off i) n _ _ w (h.num hi hn)
  · obtain ⟨l, hl, h32⟩ := fits_arr (h.fits i hi) hf
    have := h.fld hi
    rw [hl] at this
    rw [deedK_1 hf, deedArgs_1 hf, hl]
    exact zero2 b (off i) l w this h32
  · obtain ⟨a, c, l, hl⟩ := fits_lst (h.fits i hi) hf
    have := hS i hi a c l hl
    rw [deedK_2 hf, deedArgs_n (by omega), hl]
    exact zero3 b (off i) a l.length c _ _ w (h.lst hi hl) (by omega)

theorem may_step {b : Nat} {K : Int} {F : Nat → Fld} (hS : Small F) (i : Nat) (hi : i < 12) (W : World) (h : MsgAt W b K F) :
    Calls Try.prog 22 #[if i ∈ fl K then deedV 46 47 48 #[] else deedV 49 50 51 #[], .pointer (some ⟨b, 0, none⟩), .int .u64 (2 * (i : Int) + 1)] W
      fun e w' => ∃ r, e = .returned (.bool r) ∧ (r = okB K F i ∧ Below W.heap.size W w') := by
  unfold okB
  by_cases hm : i ∈ fl K
  · rw [if_pos hm, if_pos hm]
    exact to_any i hi _ _ _ b #[] W _ enters_within1 enters_within2 enters_within3 fun W' hW => (deed_within (h.below hW) hS hi).mono fun e w' hh => ⟨_, hh.1, rfl, by rw [hh.2]; exact hW⟩
  · rw [if_neg hm, if_neg hm]
    exact to_any i hi _ _ _ b #[] W _ enters_zero1 enters_zero2 enters_zero3 fun W' hW => (deed_zero (h.below hW) hS hi).mono fun e w' hh => ⟨_, hh.1, rfl, by rw [hh.2]; exact hW⟩

/-- toAll, as May asks it -/
theorem all_may {b : Nat} {K : Int} {F : Nat → Fld} (hS : Small F) (w : World) (h : MsgAt w b K F) :
    Calls Try.prog 26 #[.pointer (some ⟨b, 0, none⟩), deedV 46 47 48 #[], deedV 49 50 51 #[]] w
      fun e w' => e = .returned (.bool (allB K F)) ∧ Hid (w.grownBy w' (some b)) ∧ Hid (MsgAt w' b K F) := by
  refine (toAll_any b K _ _ _ _ _ _ w h.kind (fun i W => MsgAt W b K F ∧ ∀ j, j < i → okB K F j = true) (fun W => MsgAt W b K F ∧ ∃ j, j < 12 ∧ okB K F j = false)
    (fun W hW => ⟨h.below hW, fun j hj => by omega⟩) (fun i W W' hI hW => ⟨hI.1.below hW, hI.2⟩)
    (fun i hi W hI => (may_step hS i hi W hI.1).mono fun e w' hh => ?_)).mono fun e w' hh => ?_
  · obtain ⟨r, he, hr, hb⟩ := hh
    refine ⟨r, he, fun ht => ⟨hI.1.below hb, fun j hj => ?_⟩, fun hf => ⟨hI.1.below hb, i, hi, by rw [← hr]; exact hf⟩, ⟨hb.os, hb.tape, hb.output, hb.size, fun k hk _ => hb.block k hk⟩⟩
    by_cases e : j = i
    · subst e; rw [← hr]; exact ht
    · exact hI.2 j (by omega)
  · obtain ⟨r, he, h1, h2, hg⟩ := hh
    cases r with
    | true => exact ⟨by rw [he, allB_true.2 (h1 rfl).2], hg, (h1 rfl).1⟩
    | false =>
      obtain ⟨hm, j, hj, hj2⟩ := h2 rfl
      refine ⟨?_, hg, hm⟩
      rw [he, allB_false hj hj2]

set_option maxHeartbeats 1000000 in
theorem may_any (K : Int) (F : Nat → Fld) (hF : Fits F) (hS : Small F) (w : World) :
    Calls Try.prog 12 #[.agg (mc K F).toArray] w fun e w' => e = .returned (.bool (mayB K F)) ∧ Hid (Below w.heap.size w w') := by
  have hM := MsgAt.new w K hF
  have hk := hM.kind
  have HM := hide hM
  have HL := fl_len K
  clear hM
  by_cases h0 : fl K = []
  · have HZ := hide (show mayB K F = false by simp [mayB, h0])
    have hl : (fl K).length = 0 := by rw [h0]; rfl
    clear h0
    generalize (mc K F).toArray = cs at *
    go_enter Try.func12, Try.ntmps12
    go_wp2_with fail
    refine (fields_ex K _).mono ?_
    rintro e w1 ⟨g, a, c, rfl, hv, _, _, HB⟩
    have HB1 := hide (((Below.refl w.heap.size w).alloc (Nat.le_refl _) (.cells cs 25)).trans (HB.out.mono (by simp)))
    clear HB hv
    go_wp2
    go_ret
    exact ⟨by rw [HZ.out]; rfl, HB1⟩
  · have HZ := hide (show mayB K F = allB K F by simp [mayB, h0])
    have hl : 0 < ((fl K).length : Int) := by
      have : 0 < (fl K).length := List.length_pos_iff.2 h0
      omega
    clear h0
    generalize (mc K F).toArray = cs at *
    go_enter Try.func12, Try.ntmps12
    go_wp2_with fail
    refine (fields_ex K _).mono ?_
    rintro e w1 ⟨g, a, c, rfl, hv, _, _, HB⟩
    have HB1 := hide (((Below.refl w.heap.size w).alloc (Nat.le_refl _) (.cells cs 25)).trans (HB.out.mono (by simp)))
    have HM1 := hide (HM.out.below HB.out)
    clear HB hv
    go_wp2_with fail
    refine (make_within _).mono ?_
    rintro e w2 ⟨rfl, hb⟩
    have HB2 := hide (HB1.out.trans (hb.mono HB1.out.size))
    have HM2 := hide (HM1.out.below hb)
    clear hb
    go_wp2_with fail
    refine (make_zero _).mono ?_
    rintro e w3 ⟨rfl, hb⟩
    have HB3 := hide (HB2.out.trans (hb.mono HB2.out.size))
    have HM3 := hide (HM2.out.below hb)
    clear hb
    go_wp2_with fail
    refine (all_may hS _ HM3.out).mono ?_
    rintro e w4 ⟨rfl, hg, _⟩
    have HB4 := hide (HB3.out.grown hg.out HB3.out.size (fun k hk => by cases hk; exact Nat.le_refl _))
    clear hg
    generalize allB K F = r at *
    go_wp2
    go_ret
    exact ⟨by rw [HZ.out]; rfl, HB4⟩
end Go.Proofs.Ytcbadmkgbaffpaa
