/- Proved: for every three ints the statement AmountShares (P2.5: parts sum up to the whole, and differ by 1 at most, the greater ones first) returns true over the code at the commit, and changes none of its arguments. No condition. -/
import Derived.Test.YtclimopeejkdbacRows
import Derived.Test.YtclimopeejkdbacAmtLives
import Derived.WalkKit
import Derived.ProofKit
import Derived.OpenShut
namespace Go.Proofs.Ytclimopeejkdbac.amountShares
open Go.ChangeShapes Go.WideShapes Go.ChangeAt Go.RowKit
set_option linter.unusedVariables false

set_option maxHeartbeats 1000000 in
/-- the document's Share: the same number -/
theorem ref_any (x n i : Int) (w : World) (x1 : -9223372036854775808 ≤ x) (x2 : x ≤ 9223372036854775807) :
    Calls Try.prog 9 #[.int .i64 x, .int .i64 n, .int .i64 i] w fun e w' => e = .returned (.int .i64 (shareN x n i)) ∧ w' = w := by
  by_cases hn : x < 0 ∨ n < 1 ∨ 65536 < n ∨ i < 0 ∨ n ≤ i
  · have e1 : shareN x n i = 0 := by unfold shareN; rw [if_pos hn]
    rw [e1]
    clear e1
    by_cases c0 : x < 0
    · clear hn
      go_enter Try.func9, Try.ntmps9
      go_wp2
      go_ret
      exact ⟨rfl, rfl⟩
    · by_cases c1 : n < 1
      · clear hn
        go_enter Try.func9, Try.ntmps9
        go_wp2
        go_ret
        exact ⟨rfl, rfl⟩
      · by_cases c2 : 65536 < n
        · clear hn
          go_enter Try.func9, Try.ntmps9
          go_wp2
          go_ret
          exact ⟨rfl, rfl⟩
        · by_cases c3 : i < 0
          · clear hn
            go_enter Try.func9, Try.ntmps9
            go_wp2
            go_ret
            exact ⟨rfl, rfl⟩
          · have c4 : n ≤ i := by omega
            clear hn
            go_enter Try.func9, Try.ntmps9
            go_wp2
            go_ret
            exact ⟨rfl, rfl⟩
  · have c0 : 0 ≤ x := by omega
    have c1 : 1 ≤ n := by omega
    have c2 : n ≤ 65536 := by omega
    have c3 : 0 ≤ i := by omega
    have c4 : i < n := by omega
    have d0 := div_le_self c0 c1
    by_cases hr : i < x % n
    · have e1 : shareN x n i = x / n + 1 := by unfold shareN; rw [if_neg hn, if_pos hr]
      have d1 := share_lt c0 c1 c3 hr x2
      rw [e1]
      clear e1 hn
      go_enter Try.func9, Try.ntmps9
      go_wp2
      go_ret
      exact ⟨rfl, rfl⟩
    · have e1 : shareN x n i = x / n := by unfold shareN; rw [if_neg hn, if_neg hr]
      rw [e1]
      clear e1 hn
      go_enter Try.func9, Try.ntmps9
      go_wp2
      go_ret
      exact ⟨rfl, rfl⟩

/-- the first k parts together -/
def shSum (x n : Int) : Nat → Int
  | 0 => 0
  | k + 1 => shSum x n k + shareN x n k

theorem share_at (x n : Int) (k : Nat) (h1 : 0 ≤ x) (h2 : 1 ≤ n) (h3 : n ≤ 2000) (hk : (k : Int) < n) : shareN x n k = if (k : Int) < x % n then x / n + 1 else x / n := by
  unfold shareN
  rw [if_neg (by omega)]

theorem shSum_eq (x n : Int) (k : Nat) (h1 : 0 ≤ x) (h2 : 1 ≤ n) (h3 : n ≤ 2000) (hk : (k : Int) ≤ n) : shSum x n k = (k : Int) * (x / n) + (if (k : Int) < x % n then (k : Int) else x % n) := by
  have hm := Int.emod_nonneg x (show n ≠ 0 by omega)
  induction k with
  | zero =>
    show (0 : Int) = _
    simp
    omega
  | succ k ih =>
    show shSum x n k + shareN x n k = _
    rw [ih (by omega), share_at x n k h1 h2 h3 (by omega)]
    generalize x / n = q
    have e : ((k + 1 : Nat) : Int) * q = (k : Int) * q + q := by rw [Int.natCast_add, Int.add_mul]; simp
    rw [e]
    generalize (k : Int) * q = X
    generalize x % n = m at *
    repeat' split
    all_goals omega

theorem shSum_all (x n : Int) (k : Nat) (h1 : 0 ≤ x) (h2 : 1 ≤ n) (h3 : n ≤ 2000) (hk : (k : Int) = n) : shSum x n k = x := by
  have hm := Int.emod_lt_of_pos x (show 0 < n by omega)
  rw [shSum_eq x n k h1 h2 h3 (by omega), if_neg (by omega), hk]
  exact Int.mul_ediv_add_emod x n

theorem shareN_nonneg (x n i : Int) (h1 : 0 ≤ x) : 0 ≤ shareN x n i := by
  unfold shareN
  split
  · omega
  · rename_i h
    have := div_le_self (x := x) (n := n) h1 (by omega)
    split <;> omega
theorem shSum_mono (x n : Int) (k j : Nat) (h1 : 0 ≤ x) (h : k ≤ j) : shSum x n k ≤ shSum x n j := by
  induction j with
  | zero => rw [show k = 0 by omega]; exact Int.le_refl _
  | succ j ih =>
    by_cases e : k = j + 1
    · rw [e]; exact Int.le_refl _
    · have h2 := ih (by omega)
      have h3 := shareN_nonneg x n j h1
      show shSum x n k ≤ shSum x n j + shareN x n j
      omega
theorem shSum_nonneg (x n : Int) (k : Nat) (h1 : 0 ≤ x) : 0 ≤ shSum x n k := shSum_mono x n 0 k h1 (Nat.zero_le _)

set_option maxHeartbeats 2000000 in
theorem walk_in (x n i : Int) (m : Nat) (w : World) (hmn : Hid (n = m)) (c0 : 0 ≤ x) (c1 : 1 ≤ n) (c2 : n ≤ 2000) (x2 : x ≤ 9223372036854775807) (i1 : -9223372036854775808 ≤ i) (i2 : i ≤ 9223372036854775807) :
    Calls Try.prog 3 #[.int .i64 x, .int .i64 n, .int .i64 i] w fun e w' => e = .returned (.bool true) ∧ Below w.heap.size w w' := by
  have H1 := hide (fun w => share_any x n i w (by omega) x2 (by omega) (by omega) i1 i2)
  have H2 := hide (fun w => ref_any x n i w (by omega) x2)
  have d0 := div_le_self c0 c1
  generalize shareN x n i = S at H1 H2
  go_enter Try.func3, Try.ntmps3
  go_wp2_with fail
  refine (lives_any _).mono ?_
  rintro e w1 ⟨rfl, hb⟩
  have HB1 := hide hb
  have z1 := hb.size
  clear hb
  go_wp2_with fail
  refine (H1.out _).mono ?_
  rintro e w2 ⟨rfl, hb⟩
  have HB2 := hide (HB1.out.trans (hb.mono (by omega)))
  have z2 := hb.size
  clear hb
  go_wp2_with fail
  refine (H2.out _).mono ?_
  rintro e w3 ⟨rfl, rfl⟩
  go_wp2
  go_loopw [7, 8] (fun s j wr => ∃ k : Nat, (k : Int) ≤ n ∧ j = .int .i64 k ∧ s = .int .i64 (shSum x n k) ∧ Hid (Below w.heap.size w wr)) (fun _ j _ => m - (intOf j).toNat)
  case atStart => exact ⟨0, by omega, rfl, rfl, HB2⟩
  case round =>
    obtain ⟨k, hk, rfl, rfl, HB⟩ := hrel
    have zr := HB.out.size
    have s0 := shSum_nonneg x n k c0
    by_cases hlt : (k : Int) < n
    · have HA := hide (fun w => share_any x n k w (by omega) x2 (by omega) (by omega) (by omega) (by omega))
      have HP := hide (fun w => share_any x n ((k : Int) - 1) w (by omega) x2 (by omega) (by omega) (by omega) (by omega))
      have hS := hide (show shSum x n (k + 1) = shSum x n k + shareN x n k from rfl)
      have hle : shSum x n k + shareN x n k ≤ x := by
        have h5 := shSum_mono x n (k + 1) m c0 (by have := hmn.out; omega)
        rw [shSum_all x n m c0 c1 c2 hmn.out.symm] at h5
        exact h5
      have p0 := shareN_nonneg x n k c0
      have hat := share_at x n k c0 c1 c2 hlt
      have hm0 := Int.emod_nonneg x (show n ≠ 0 by omega)
      have hpp : 0 < (k : Int) → shareN x n k ≤ shareN x n ((k : Int) - 1) := fun h0 => by
        obtain ⟨j, rfl⟩ : ∃ j : Nat, k = j + 1 := ⟨k - 1, by omega⟩
        rw [show ((j + 1 : Nat) : Int) - 1 = (j : Int) by omega, hat, share_at x n j c0 c1 c2 (by omega)]
        generalize x % n = M at *
        repeat' split
        all_goals omega
      have hpq : shareN x n k = x / n ∨ (¬ shareN x n k = x / n ∧ shareN x n k = x / n + 1) := by
        rw [hat]
        split
        · right; exact ⟨by omega, rfl⟩
        · left; rfl
      clear hat hm0
      generalize shareN x n k = p at *
      generalize shareN x n ((k : Int) - 1) = p' at *
      generalize shSum x n k = s at *
      by_cases hk0 : (0 : Int) < (k : Int)
      · have g1 : p ≤ p' := hpp hk0
        clear hpp
        rcases hpq with hq | ⟨hq1, hq⟩
        · have f1 : (p != x / n) = false := by simp; exact hq
          have HQ := hide hq
          clear hq
          go_wp2_with fail
          refine (HA.out _).mono ?_
          rintro e w4 ⟨rfl, hb⟩
          have HB4 := hide (HB.out.trans (hb.mono (by omega)))
          have z4 := hb.size
          clear hb
          go_wp2_with fail
          refine (HP.out _).mono ?_
          rintro e w5 ⟨rfl, hb⟩
          have HB5 := hide (HB4.out.trans (hb.mono (by omega)))
          clear hb
          go_wp2
          go_roundw
          case rel => exact ⟨k + 1, by omega, by go_num, by rw [hS.out], HB5⟩
          case measure => have := hmn.out; simp [intOf]; omega
        · have f1 : (p != x / n) = true := by simp; exact hq1
          have f2 : (p != x / n + 1) = false := by simp; exact hq
          have f3 : x / n ≤ 9223372036854775806 := by omega
          have HQ := hide hq
          have HQ1 := hide hq1
          clear hq hq1
          go_wp2_with fail
          refine (HA.out _).mono ?_
          rintro e w4 ⟨rfl, hb⟩
          have HB4 := hide (HB.out.trans (hb.mono (by omega)))
          have z4 := hb.size
          clear hb
          go_wp2_with fail
          refine (HP.out _).mono ?_
          rintro e w5 ⟨rfl, hb⟩
          have HB5 := hide (HB4.out.trans (hb.mono (by omega)))
          clear hb
          go_wp2
          go_roundw
          case rel => exact ⟨k + 1, by omega, by go_num, by rw [hS.out], HB5⟩
          case measure => have := hmn.out; simp [intOf]; omega
      · clear hpp
        rcases hpq with hq | ⟨hq1, hq⟩
        · have f1 : (p != x / n) = false := by simp; exact hq
          have HQ := hide hq
          clear hq
          go_wp2_with fail
          refine (HA.out _).mono ?_
          rintro e w4 ⟨rfl, hb⟩
          have HB4 := hide (HB.out.trans (hb.mono (by omega)))
          have z4 := hb.size
          clear hb
          go_wp2
          go_roundw
          case rel => exact ⟨k + 1, by omega, by go_num, by rw [hS.out], HB4⟩
          case measure => have := hmn.out; simp [intOf]; omega
        · have f1 : (p != x / n) = true := by simp; exact hq1
          have f2 : (p != x / n + 1) = false := by simp; exact hq
          have f3 : x / n ≤ 9223372036854775806 := by omega
          have HQ := hide hq
          have HQ1 := hide hq1
          clear hq hq1
          go_wp2_with fail
          refine (HA.out _).mono ?_
          rintro e w4 ⟨rfl, hb⟩
          have HB4 := hide (HB.out.trans (hb.mono (by omega)))
          have z4 := hb.size
          clear hb
          go_wp2
          go_roundw
          case rel => exact ⟨k + 1, by omega, by go_num, by rw [hS.out], HB4⟩
          case measure => have := hmn.out; simp [intOf]; omega
    · have hx := shSum_all x n k c0 c1 c2 (by omega)
      rw [hx]
      clear hx s0
      go_wp2
      go_ret
      exact ⟨by simp, HB.out⟩

theorem walk (x n i : Int) (w : World) (w0 : (Lit.int .i64 x).wf = true) (w1 : (Lit.int .i64 n).wf = true) (w2 : (Lit.int .i64 i).wf = true) :
    Calls Try.prog 3 #[.int .i64 x, .int .i64 n, .int .i64 i] w fun e w' => e = .returned (.bool true) ∧ Below w.heap.size w w' := by
  obtain ⟨x1, x2⟩ := bounds_i64 w0
  obtain ⟨n1, n2⟩ := bounds_i64 w1
  obtain ⟨i1, i2⟩ := bounds_i64 w2
  by_cases hin : x < 0 ∨ n < 1 ∨ 2000 < n
  · have H1 := hide (fun w => share_any x n i w x1 x2 n1 n2 i1 i2)
    have H2 := hide (fun w => ref_any x n i w x1 x2)
    generalize shareN x n i = S at H1 H2
    by_cases c0 : x < 0
    · clear hin
      go_enter Try.func3, Try.ntmps3
      go_wp2_with fail
      refine (lives_any _).mono ?_
      rintro e w1 ⟨rfl, hb⟩
      have HB1 := hide hb
      have z1 := hb.size
      clear hb
      go_wp2_with fail
      refine (H1.out _).mono ?_
      rintro e w2 ⟨rfl, hb⟩
      have HB2 := hide (HB1.out.trans (hb.mono (by omega)))
      clear hb
      go_wp2_with fail
      refine (H2.out _).mono ?_
      rintro e w3 ⟨rfl, rfl⟩
      go_wp2
      go_ret
      exact ⟨rfl, HB2.out⟩
    · by_cases c1 : n < 1
      · clear hin
        go_enter Try.func3, Try.ntmps3
        go_wp2_with fail
        refine (lives_any _).mono ?_
        rintro e w1 ⟨rfl, hb⟩
        have HB1 := hide hb
        have z1 := hb.size
        clear hb
        go_wp2_with fail
        refine (H1.out _).mono ?_
        rintro e w2 ⟨rfl, hb⟩
        have HB2 := hide (HB1.out.trans (hb.mono (by omega)))
        clear hb
        go_wp2_with fail
        refine (H2.out _).mono ?_
        rintro e w3 ⟨rfl, rfl⟩
        go_wp2
        go_ret
        exact ⟨rfl, HB2.out⟩
      · have c2 : 2000 < n := by omega
        clear hin
        go_enter Try.func3, Try.ntmps3
        go_wp2_with fail
        refine (lives_any _).mono ?_
        rintro e w1 ⟨rfl, hb⟩
        have HB1 := hide hb
        have z1 := hb.size
        clear hb
        go_wp2_with fail
        refine (H1.out _).mono ?_
        rintro e w2 ⟨rfl, hb⟩
        have HB2 := hide (HB1.out.trans (hb.mono (by omega)))
        clear hb
        go_wp2_with fail
        refine (H2.out _).mono ?_
        rintro e w3 ⟨rfl, rfl⟩
        go_wp2
        go_ret
        exact ⟨rfl, HB2.out⟩
  · obtain ⟨m, hm⟩ : ∃ m : Nat, n = m := ⟨n.toNat, by omega⟩
    exact walk_in x n i m w hm (by omega) (by omega) (by omega) x2 i1 i2

theorem own : ownKnob Try.prog.godebug = none := by kernel_rfl
theorem laidOut : laidOutB Try.prog = true := by kernel_rfl

set_option maxRecDepth 100000 in
theorem lifted (os : Os) (started : os.Started) (H : Type) (enc : TypeId × Value → H) :
    ReturnsInHanded {} Try.checked os 3 .any (Rows.amountSharesSpec.pre6 enc Try.prog Try.f3 Rows.amountSharesRow.domain false) (Rows.amountSharesSpec.post enc Try.prog Try.f3 false true false false) := by
  refine returnsInHanded_of_change (C := Try.checked) own started (by kernel_rfl) Try.func3
    (ChangeSpec.witness6 (enc := enc) (C := Try.checked) false ⟨#[], #[.int .i64 0, .int .i64 0, .int .i64 0], []⟩ 8 (by kernel_rfl) (by kernel_rfl) (by kernel_rfl) (by kernel_rfl)) ?_
  intro W base args ds gs before hval0 hW hcnd _
  have hval : ∀ (j : Nat) t v, Try.f3.params[j]? = some t → args[j]? = some v → Value.okWide Try.prog W .any base t v := hval0
  have hW' := hW
  obtain ⟨p, q, hA0, hV, rfl, hfz, hnd⟩ := hW
  have hA : DataW.TrodAll enc Try.prog W 0 (fun _ => true) true Try.f3.params.toList args.toList ds p := hA0
  rw [Try.params3] at hA hval
  obtain ⟨v0, vs0, d0, ds0, p0, q0, hargs, rfl, rfl, h0, r0⟩ := trodAll_cons hA
  obtain ⟨v1, vs1, d1, ds1, p1, q1, rfl, rfl, rfl, h1, r1⟩ := trodAll_cons r0
  obtain ⟨v2, vs2, d2, ds2, p2, q2, rfl, rfl, rfl, h2, r2⟩ := trodAll_cons r1
  obtain ⟨rfl, rfl, rfl⟩ := trodAll_nil r2
  obtain rfl : args = #[v0, v1, v2] := by cases args; simp_all
  obtain ⟨rfl, rfl⟩ := trodVars_none hV
  have k0 := h0
  have lt0 : ∀ x ∈ p0, x.block < W.heap.size := by obtain ⟨m, hm⟩ := k0; exact DataW.trod_lt m _ _ _ hm
  have k1 := h1
  have lt1 : ∀ x ∈ p1, x.block < W.heap.size := by obtain ⟨m, hm⟩ := k1; exact DataW.trod_lt m _ _ _ hm
  have k2 := h2
  have lt2 : ∀ x ∈ p2, x.block < W.heap.size := by obtain ⟨m, hm⟩ := k2; exact DataW.trod_lt m _ _ _ hm
  obtain ⟨a0, rfl, rfl, rfl, w0⟩ := open_int Try.underlying3 (hval 0 3 v0 rfl rfl) h0
  obtain ⟨a1, rfl, rfl, rfl, w1⟩ := open_int Try.underlying3 (hval 1 3 v1 rfl rfl) h1
  obtain ⟨a2, rfl, rfl, rfl, w2⟩ := open_int Try.underlying3 (hval 2 3 v2 rfl rfl) h2
  clear hA0 hval0
  refine (walk a0 a1 a2 W w0 w1 w2).mono fun e W' ⟨he, bel⟩ => ?_
  subst he
  exact ⟨_, rfl, _, _, _, [], _, [], hW', trodAll_mk1 (shut_bool Try.underlying4 _), (trodAll_cons_mk (Below.trod laidOut (by kernel_rfl) (of_decide_eq_true (by kernel_rfl)) k0 bel lt0) (trodAll_cons_mk (Below.trod laidOut (by kernel_rfl) (of_decide_eq_true (by kernel_rfl)) k1 bel lt1) (trodAll_cons_mk (Below.trod laidOut (by kernel_rfl) (of_decide_eq_true (by kernel_rfl)) k2 bel lt2) trodAll_mk0))), rfl, bel.frame _, fun h => by cases h⟩

theorem over : Rows.amountSharesRow.holds Try.pinned (OpenSpec.ofChange Rows.amountSharesSpec) :=
  OpenClaim.holds_of_wide 3 Try.f3 rfl rfl rfl rfl rfl rfl rfl ⟨rfl, rfl, rfl, rfl, rfl⟩ rfl rfl rfl rfl rfl (by kernel_rfl) Try.func3 (by kernel_rfl)
    (of_decide_eq_true (by kernel_rfl)) (by unfold Func.isWrapper; first | (rw [if_pos (by decide +kernel)]; kernel_rfl) | (rw [if_neg (by decide +kernel)]; exact ⟨rfl, rfl⟩))
    (fun os started H enc _ => lifted os started H enc)

theorem proved : Rows.AmountSharesSaid := over
end Go.Proofs.Ytclimopeejkdbac.amountShares
namespace Go.Proofs.Ytclimopeejkdbac
theorem amountShares_holds : Rows.AmountSharesSaid := amountShares.proved
end Go.Proofs.Ytclimopeejkdbac
