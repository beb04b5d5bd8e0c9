/- What is left of the ways: those that may not be, none at all, the comparison, and a copy of fees. -/
import Derived.Test.YtclimopeejkdbabRefWay
import Derived.Laws.AppendOwnNone
namespace Go.Proofs.Ytclimopeejkdbab
open Go.RowKit
set_option linter.unusedVariables false

theorem drewN_below {B : Nat} {w w' : World} (h : Below B w w') (n : Nat) : Below B w (w'.drewN n) := by
  exact ⟨h.os, h.tape, h.output, h.size, h.block⟩

set_option maxHeartbeats 1000000 in
theorem way_bad (b off len cap : Nat) (fb fr : Nat → Int) (x : Int) (w : World) (hF : Fees w b off len fb fr) (hcap : len * 16 ≤ 140737488351232) (hbd : ∀ k, k < len → fb k ≤ 9223372036854775807) (h : rightsB fb fr len = false ∨ x < 0) :
    Calls Try.prog 24 #[.slice (some ⟨b, off, none⟩) len cap, .int .i64 x] w fun e w' => e = .returned (.tuple #[.slice none 0 0, .int .i64 1]) ∧ Below w.heap.size w w' := by
  have H1 := hide (fees_row b off len cap fb fr w (by omega) hF.lt (fun k hk => ⟨hF.base k hk, hF.rate k hk⟩) hbd)
  cases hR : rightsB fb fr len
  · rw [hR] at H1
    clear hF hbd hR h
    go_enter Try.func24, Try.ntmps24
    go_wp2_with fail
    refine H1.out.mono ?_
    rintro e w1 ⟨rfl, hb⟩
    have HB1 := hide hb
    clear hb H1
    go_wp2
    go_ret2
    exact ⟨rfl, HB1.out⟩
  · have hx : x < 0 := by rcases h with h | h; · rw [hR] at h; cases h
                          · exact h
    rw [hR] at H1
    clear hF hbd hR h
    go_enter Try.func24, Try.ntmps24
    go_wp2_with fail
    refine H1.out.mono ?_
    rintro e w1 ⟨rfl, hb⟩
    have HB1 := hide hb
    have z1 := hb.size
    clear hb H1
    go_wp2_with fail
    refine (may1_no _ x _ (by simp) hx).mono ?_
    rintro e w2 ⟨rfl, rfl⟩
    have HB2 := hide (HB1.out.alloc z1 (.cells #[.int .i64 x] 3))
    go_wp2
    go_ret2
    exact ⟨rfl, HB2.out⟩

set_option maxHeartbeats 1000000 in
theorem rway_zero (ao : Option Addr) (cap : Nat) (x : Int) (w : World) (x0 : 0 ≤ x) :
    Calls Try.prog 25 #[.slice ao 0 cap, .int .i64 x] w fun e w' => ∃ g cp, e = .returned (.tuple #[.slice (some ⟨g, 0, none⟩) 1 cp, .int .i64 0]) ∧ Hid (w'.ownsRow w.heap.size 3 1 (.slice (some ⟨g, 0, none⟩) 1 cp) 1 (I64 [x])) ∧ Below w.heap.size w w' := by
  have ho0 := hide (own_int w w.heap.size (Nat.le_refl _) x)
  have HB0 := hide ((Below.refl w.heap.size w).alloc (Nat.le_refl _) (.cells #[.int .i64 x] 3))
  go_enter Try.func25, Try.ntmps25
  go_wp2
  refine wp_loop_rounds 1 ?_
  rw [rounds_succ]
  go_wp2
  refine wp_loop_rounds 1 ?_
  rw [rounds_succ]
  go_wp2
  go_ret2
  exact ⟨_, 1, rfl, ho0, HB0.out⟩

theorem same_nil (w : World) : Calls Try.prog 26 #[.slice none 0 0, .slice none 0 0] w fun e w' => e = .returned (.bool true) ∧ w' = w := by
  go_enter Try.func26, Try.ntmps26
  go_wp2
  refine wp_loop_rounds 1 ?_
  rw [rounds_succ]
  go_wp2
  go_ret
  exact ⟨rfl, rfl⟩

set_option maxHeartbeats 1000000 in
theorem same_rows (g1 g2 n c1 c2 : Nat) (z : Nat → Int) (w : World) (hn : n ≤ 9223372036854775807) (l1 : g1 < w.heap.size) (l2 : g2 < w.heap.size) (h1 : ∀ k, k < n → w.cell? ⟨g1, k, none⟩ = some (.int .i64 (z k))) (h2 : ∀ k, k < n → w.cell? ⟨g2, k, none⟩ = some (.int .i64 (z k))) :
    Calls Try.prog 26 #[.slice (some ⟨g1, 0, none⟩) n c1, .slice (some ⟨g2, 0, none⟩) n c2] w fun e w' => e = .returned (.bool true) ∧ Below w.heap.size w w' := by
  have H1 := hide h1
  have H2 := hide h2
  clear h1 h2
  go_enter Try.func26, Try.ntmps26
  go_wp2
  go_loopw [5] (fun i wr => ∃ k : Nat, k ≤ n ∧ i = .int .i64 k ∧ Hid (Below w.heap.size w wr)) (fun i _ => n - (intOf i).toNat)
  case atStart => exact ⟨0, Nat.zero_le _, rfl, Below.refl _ _⟩
  case round =>
    obtain ⟨k, hk, rfl, HB⟩ := hrel
    by_cases hlt : k < n
    · have q1 := (HB.out.cell (by exact l1)).trans (H1.out k hlt)
      have q2 := (HB.out.cell (by exact l2)).trans (H2.out k hlt)
      have p1 : (k : Int) < (n : Int) := by omega
      generalize z k = y at *
      go_wp2
      go_quiet (fail)
      go_wp2
      go_roundw
      case rel => exact ⟨k + 1, by omega, by go_num, drewN_below HB.out _⟩
      case measure => simp [intOf]; omega
    · have ek : k = n := by omega
      subst ek
      go_wp2
      go_ret
      exact ⟨rfl, HB.out⟩

/-- fees as cells -/
def feeL (fb fr : Nat → Int) (n : Nat) : List Value := (List.range (n * 2)).map fun j => if j % 2 = 0 then .int .i64 (fb (j / 2)) else .int .i64 (fr (j / 2))
theorem feeL_length (fb fr : Nat → Int) (n : Nat) : (feeL fb fr n).length = n * 2 := by simp [feeL]
theorem feeL_base (fb fr : Nat → Int) (n k : Nat) (h : k < n) : (feeL fb fr n)[k * 2]? = some (.int .i64 (fb k)) := by
  unfold feeL
  rw [List.getElem?_map, List.getElem?_range (by omega)]
  simp
theorem feeL_rate (fb fr : Nat → Int) (n k : Nat) (h : k < n) : (feeL fb fr n)[k * 2 + 1]? = some (.int .i64 (fr k)) := by
  unfold feeL
  rw [List.getElem?_map, List.getElem?_range (by omega)]
  simp [Nat.add_mod, show (k * 2 + 1) / 2 = k by omega]
theorem one_feeL (fb fr : Nat → Int) (n : Nat) : ∀ u ∈ feeL fb fr n, u.oneCell' = true := by
  intro u hu
  simp only [feeL, List.mem_map] at hu
  obtain ⟨j, _, rfl⟩ := hu
  split <;> rfl
theorem Try.info39 : (Try.prog.info? 39).map (fun i => (i.zero, i.size, i.bytes)) = some (some (.agg #[.int .i64 0, .int .i64 0]), 2, 16) := by kernel_rfl
theorem own_nofees (w : World) : (w.alloc (.cells #[] 39)).ownsRow w.heap.size 39 2 (.slice (some ⟨w.heap.size, 0, none⟩) 0 0) 0 [] :=
  ⟨rfl, .inr ⟨w.heap.size, 0, #[], rfl, Nat.le_refl _, heap_alloc_new w _, Nat.le_refl _, by unfold maxLen; omega, rfl, rfl⟩⟩

theorem wpList_append_fees {w : World} {ops : Array Oper} {rest : List Oper} {o : Oper} {a : Act} {Q : Exit → Act → World → Prop} (hgd : o.guard = none) (s x : Operand)
    (ho : o.op = .call { callee := .builtin .append, args := #[s, x], argTypes := #[42, 42] }) (base g0 : Nat) (hs : a.eval s = .slice (some ⟨g0, 0, none⟩) 0 0) (hown : w.ownsRow base 39 2 (.slice (some ⟨g0, 0, none⟩) 0 0) 0 [])
    (ao : Option Addr) (len cap : Nat) (fb fr : Nat → Int) (hx : a.eval x = .slice ao len cap) (hS : ao = none → len = 0 ∧ cap = 0) (hrow : 0 < len → ∃ b off, ao = some ⟨b, off, none⟩ ∧ Fees w b off len fb fr) (hcap : len * 16 ≤ 140737488351232) (hbase : base ≤ w.heap.size)
    (h : ∀ g cp w', base ≤ g → len ≤ cp → Fees w' g 0 len fb fr → w.grownBy w' (some g0) → wpList Try.prog ops Q rest (a.put o.dst (.slice (some ⟨g, 0, none⟩) len cp)) w') : wpList Try.prog ops Q (o :: rest) a w := by
  obtain ⟨i0, hi, hz0, hz1, hz2⟩ := info_parts Try.info39
  cases ao with
  | none =>
    obtain ⟨rfl, rfl⟩ := hS rfl
    refine wpList_append_own_none hgd s x 42 ho base 39 i0 2 Try.underlying42 hi _ 0 [] hs hown hx ?_
    exact h g0 0 w (hown.lt g0 rfl).1 (Nat.le_refl _) ⟨(hown.lt g0 rfl).2, fun k hk => absurd hk (Nat.not_lt_zero _), fun k hk => absurd hk (Nat.not_lt_zero _)⟩ (World.grownBy.refl _ _)
  | some ad =>
    refine wpList_append_own w hgd s x 42 ho base 39 i0 (.agg #[.int .i64 0, .int .i64 0]) 2 16 Try.underlying42 hi hz0 hz1 hz2 rfl (by decide) _ 0 [] hs hown ad len cap (feeL fb fr len) hx (feeL_length ..) ?_ (one_feeL _ _ _) (by unfold maxLen; omega) (by omega) hbase ?_
    · intro j u hj
      have hjl : j < len * 2 := by rw [← feeL_length fb fr]; exact (List.getElem?_eq_some_iff.mp hj).1
      obtain ⟨b, off, hb, R⟩ := hrow (by omega)
      cases hb
      rw [addr_add]
      obtain ⟨k, e | e⟩ : ∃ k, j = k * 2 ∨ j = k * 2 + 1 := ⟨j / 2, by omega⟩
      · subst e
        rw [feeL_base _ _ _ _ (by omega)] at hj
        rw [← hj]; exact R.base k (by omega)
      · subst e
        rw [feeL_rate _ _ _ _ (by omega)] at hj
        rw [← hj]; exact R.rate k (by omega)
    · intro v' w' hown' hg hiff
      rw [Nat.zero_add, List.nil_append] at hown'
      have hlt := hown'.lt
      rcases hown'.2 with ⟨hn, _⟩ | ⟨g, cp, cur, rfl, hb, _, hnc, hm, _⟩
      · have := (hiff.1 hn).1
        cases this
      · refine h g cp w' hb hnc ⟨(hlt g rfl).2, fun k hk => ?_, fun k hk => ?_⟩ hg
        · rw [Nat.zero_add, hown'.cellAt (k * 2) (by omega)]
          exact feeL_base _ _ _ _ hk
        · rw [Nat.zero_add, hown'.cellAt (k * 2 + 1) (by omega)]
          exact feeL_rate _ _ _ _ hk
end Go.Proofs.Ytclimopeejkdbab
