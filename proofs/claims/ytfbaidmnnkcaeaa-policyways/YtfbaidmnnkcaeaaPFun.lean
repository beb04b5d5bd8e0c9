/- Policy: rules that may be, what came in, and questions about it. -/
import Derived.Test.YtfbaidmnnkcaeaaPOps
namespace Go.Proofs.Ytfbaidmnnkcaeaa
open Go.RowKit
set_option linter.unusedVariables false
set_option linter.unusedSimpArgs false
set_option maxRecDepth 100000

/-- rules, as numbers -/
structure RV where
  b : Int
  r : Int
  d : Int
  g : Int
  f : Int
/-- rules, fees, what came in: as cells -/
def RL (q : RV) : Array Value := #[.int .i64 q.b, .int .i64 q.r, .int .i64 q.d, .int .i64 q.g, .int .i64 q.f]
def FL (q : RV) : Array Value := #[.int .i64 q.b, .int .i64 q.r]
def XL (q : RV) (a x h : Int) : Array Value := #[.int .i64 q.b, .int .i64 q.r, .int .i64 q.d, .int .i64 q.g, .int .i64 q.f, .int .i64 a, .int .i64 x, .int .i64 h]
def R0 : RV := ⟨0, 0, 0, 0, 0⟩
/-- a hop, as numbers -/
structure HP where
  ch : Int
  am : Int
  ex : Int
  tot : Int
/-- cells that are a hop -/
structure IsHop (C : Array Value) (v : HP) : Prop where
  size : C.size = 101
  one : C.all (·.oneCell') = true
  c0 : C[0]? = some (.int .i64 v.ch)
  c1 : C[1]? = some (.int .i64 v.am)
  c2 : C[2]? = some (.int .i64 v.ex)
  c35 : C[35]? = some (.int .i64 v.tot)
/-- 32 zeros -/
def Z32 : Array Value := (List.replicate 32 (Value.int .u8 0)).toArray
/-- a hop with zeros besides -/
def HZ (ch am ex tot : Int) : Array Value := #[.int .i64 ch, .int .i64 am, .int .i64 ex] ++ Z32 ++ #[.int .i64 tot] ++ Z32 ++ #[.int .i64 0] ++ Z32
theorem HZ_is (ch am ex tot : Int) : IsHop (HZ ch am ex tot) ⟨ch, am, ex, tot⟩ := ⟨by kernel_rfl, by kernel_rfl, by kernel_rfl, by kernel_rfl, by kernel_rfl, by kernel_rfl⟩
/-- a question that nobody asked -/
def Q0 : Array Value := #[.int .i64 0, .nilFunc]
theorem zero53 : (Try.prog.info? 53).map (fun i => (i.zero, i.size)) = some (some (.agg Q0), 2) := by kernel_rfl
theorem zero50 : (Try.prog.info? 50).map (fun i => (i.zero, i.size)) = some (some (.agg (XL R0 0 0 0)), 8) := by kernel_rfl
theorem zero28 : (Try.prog.info? 28).map (fun i => (i.zero, i.size)) = some (some (.agg (HZ 0 0 0 0)), 101) := by kernel_rfl
theorem zero25 : (Try.prog.info? 25).map (fun i => (i.zero, i.size)) = some (some (.agg (RL R0)), 5) := by kernel_rfl
theorem ldF {W : World} {bl : Nat} {q : RV} (k : W.heap[bl]? = some (.cells (RL q) 25)) : (Instr.loadAt 23 (.pointer (some ⟨bl, 0, none⟩))).run Try.prog W = .ok (.agg (FL q)) W := ld_part (o := 0) (n := 2) k (by show 0 + 2 ≤ _; simp [RL, XL]) Try.underlying23 rfl inf23
theorem ldF2 {W : World} {bl : Nat} {q : RV} {a x h : Int} (k : W.heap[bl]? = some (.cells (XL q a x h) 50)) : (Instr.loadAt 23 (.pointer (some ⟨bl, 0, none⟩))).run Try.prog W = .ok (.agg (FL q)) W := ld_part (o := 0) (n := 2) k (by show 0 + 2 ≤ _; simp [RL, XL]) Try.underlying23 rfl inf23
theorem ldR {W : World} {bl : Nat} {q : RV} {a x h : Int} (k : W.heap[bl]? = some (.cells (XL q a x h) 50)) : (Instr.loadAt 25 (.pointer (some ⟨bl, 0, none⟩))).run Try.prog W = .ok (.agg (RL q)) W := ld_part (o := 0) (n := 5) k (by show 0 + 5 ≤ _; simp [XL]) Try.underlying25 rfl inf25
/-- may rules be? -/
def mayR (q : RV) : Bool := rightB q.b q.r && decide (1 ≤ q.d) && decide (q.d ≤ 1000) && decide (0 ≤ q.g) && decide (q.g ≤ 1000) && decide (1 ≤ q.f) && decide (q.f ≤ 2147483647)
/-- may a height be? -/
def okH (x : Int) : Bool := decide (0 ≤ x) && decide (x ≤ 2147483647)
def wrongB (q : RV) (a x h : Int) : Bool := !mayR q || decide (a < 0) || !okH x || !okH h
def belowB (q : RV) (a y : Int) : Bool := decide (¬ inE q.b q.r y = 0) || decide (a < inN q.b q.r y)
/-- why it is not handed on -/
def fwdN (q : RV) (v : HP) (a x h : Int) : Int := if wrongB q a x h || decide (v.ch < 1) then 1 else if decide (q.f < x - h) then 6 else if decide (v.ex ≤ h + q.g) then 5 else if decide (x - q.d < v.ex) then 4 else if decide (v.am < 1) then 8 else if belowB q a v.am then 3 else 0
/-- why it is not kept -/
def finN (q : RV) (v : HP) (a x h : Int) : Int := if wrongB q a x h || decide (¬ v.ch = 0) then 1 else if decide (q.f < x - h) then 6 else if decide (x ≤ h + q.g) then 5 else if decide (x < v.ex) then 4 else if decide (a < v.am) || decide (v.am < 1) || decide (v.tot < v.am) then 8 else 0
theorem fee0 (b r : Int) (hb : b ≤ 9223372036854775807) : feeE b r 0 = if rightB b r then 0 else 1 := by
  unfold feeE
  cases h : rightB b r
  · simp
  · have := of_decide_eq_true h
    simp only [Int.le_refl, and_self, if_true, Int.zero_mul]
    unfold addE
    rw [if_neg (by omega), if_neg (by omega)]
theorem mayR_of {q : RV} (h : mayR q = true) : rightB q.b q.r = true ∧ 1 ≤ q.d ∧ q.d ≤ 1000 ∧ 0 ≤ q.g ∧ q.g ≤ 1000 ∧ 1 ≤ q.f ∧ q.f ≤ 2147483647 := by
  unfold mayR at h
  simp only [Bool.and_eq_true, decide_eq_true_eq] at h
  exact ⟨h.1.1.1.1.1.1, h.1.1.1.1.1.2, h.1.1.1.1.2, h.1.1.1.2, h.1.1.2, h.1.2, h.2⟩
theorem okH_of {x : Int} (h : okH x = true) : 0 ≤ x ∧ x ≤ 2147483647 := by
  unfold okH at h
  simp only [Bool.and_eq_true, decide_eq_true_eq] at h
  exact h

set_option maxHeartbeats 2000000 in
theorem may_any {q : RV} (w : World) (hb : q.b ≤ 9223372036854775807) {c : Bool} (hc : mayR q = c) :
    Calls Try.prog 9 #[.agg (RL q)] w fun e w' => e = .returned (.bool c) ∧ Below w.heap.size w w' := by
  subst hc
  have hf := fee0 q.b q.r hb
  by_cases e0 : rightB q.b q.r = true
  · skip
    by_cases e1 : 1 ≤ q.d
    · skip
      by_cases e2 : q.d ≤ 1000
      · skip
        by_cases e3 : 0 ≤ q.g
        · skip
          by_cases e4 : q.g ≤ 1000
          · skip
            by_cases e5 : 1 ≤ q.f
            · skip
              by_cases e6 : q.f ≤ 2147483647
              · skip
                have E : Below w.heap.size w w := Below.refl _ _
                go_enter Try.func9, Try.ntmps9
                refine wq fun Q hQ => ?_
                refine st_new (fun b => .pointer (some ⟨b, 0, none⟩)) (some 1) rfl rfl (ex_box rfl rfl) ?_
                intro b1 W1 k1 g1 B
                simp only [zp]
                have ge_b1 := Nat.le_trans E.size g1
                replace E := below_next E B
                clear B
                refine sg (.bool false) 2 rfl rfl rfl rfl ?_
                simp only [zp]
                refine st_end ?_
                subst hQ
                refine wq fun Q hQ => ?_
                refine sv (.pointer (some ⟨b1, 0, none⟩)) 6 rfl rfl (ex_fa (p := (.pointer (some ⟨b1, 0, none⟩))) rfl rfl (fa25_0 _ _)) ?_
                simp only [zp]
                refine sv (.agg (FL q)) 7 rfl rfl (ex_load (p := (.pointer (some ⟨b1, 0, none⟩))) rfl rfl (ldF k1)) ?_
                simp only [zp]
                refine st_call (some 8) rfl rfl (fee_any q.b q.r 0 W1 hb (by decide)) (ex_call (f := 23) (vs := [(.agg (FL q)), (.int .i64 0)]) rfl (cf23 _) rfl) ?_
                rintro e W2 ⟨rfl, B⟩
                refine ⟨_, rfl, ?_⟩
                simp only [zp]
                replace E := below_next E B
                replace k1 := keep B k1
                refine sm (.tuple #[(.int .i64 (feeN q.b q.r 0)), (.int .i64 (feeE q.b q.r 0))]) 5 rfl rfl rfl rfl ?_
                simp only [zp]
                refine sv (.int .i64 (feeN q.b q.r 0)) 9 rfl rfl (ex_ext rfl rfl rfl) ?_
                simp only [zp]
                refine sv (.int .i64 (feeE q.b q.r 0)) 10 rfl rfl (ex_ext rfl rfl rfl) ?_
                simp only [zp]
                refine sg (.int .i64 (feeN q.b q.r 0)) 3 rfl rfl rfl rfl ?_
                simp only [zp]
                refine sg (.int .i64 (feeE q.b q.r 0)) 4 rfl rfl rfl rfl ?_
                simp only [zp]
                refine st_end ?_
                subst hQ
                refine wq fun Q hQ => ?_
                refine sm (.int .i64 (feeE q.b q.r 0)) 11 rfl rfl rfl rfl ?_
                simp only [zp]
                refine sv (.bool true) 12 rfl rfl (ex_bin (u := (.int .i64 (feeE q.b q.r 0))) (r := (.int .i64 0)) rfl rfl rfl (eg37 _ _ _ _ _ _) (eql37 _ (decide_eq_true (by rw [hf, e0]; rfl)))) ?_
                simp only [zp]
                refine sm (.bool true) 13 rfl rfl rfl rfl ?_
                simp only [zp]
                refine sv (.pointer (some ⟨b1, 2, none⟩)) 14 rfl rfl (ex_fa (p := (.pointer (some ⟨b1, 0, none⟩))) rfl rfl (fa25_1 _ _)) ?_
                simp only [zp]
                refine sv (.int .i64 q.d) 15 rfl rfl (ex_load (p := (.pointer (some ⟨b1, 2, none⟩))) rfl rfl (ld3 (at_cell k1 rfl))) ?_
                simp only [zp]
                refine sv (.bool true) 16 rfl rfl (ex_bin (u := (.int .i64 q.d)) (r := (.int .i64 1)) rfl rfl rfl (eg3 _ _ _ _ _ _) (geq3 _ (decide_eq_true (by omega)))) ?_
                simp only [zp]
                refine sv (.bool true) 17 rfl rfl (ex_pkT rfl rfl rfl) ?_
                simp only [zp]
                refine sm (.bool true) 18 rfl rfl rfl rfl ?_
                simp only [zp]
                refine sv (.pointer (some ⟨b1, 2, none⟩)) 19 rfl rfl (ex_fa (p := (.pointer (some ⟨b1, 0, none⟩))) rfl rfl (fa25_1 _ _)) ?_
                simp only [zp]
                refine sv (.int .i64 q.d) 20 rfl rfl (ex_load (p := (.pointer (some ⟨b1, 2, none⟩))) rfl rfl (ld3 (at_cell k1 rfl))) ?_
                simp only [zp]
                refine sv (.bool true) 21 rfl rfl (ex_bin (u := (.int .i64 q.d)) (r := (.int .i64 1000)) rfl rfl rfl (eg3 _ _ _ _ _ _) (leq3 _ (decide_eq_true (by omega)))) ?_
                simp only [zp]
                refine sv (.bool true) 22 rfl rfl (ex_pkT rfl rfl rfl) ?_
                simp only [zp]
                refine sm (.bool true) 23 rfl rfl rfl rfl ?_
                simp only [zp]
                refine sv (.pointer (some ⟨b1, 3, none⟩)) 24 rfl rfl (ex_fa (p := (.pointer (some ⟨b1, 0, none⟩))) rfl rfl (fa25_2 _ _)) ?_
                simp only [zp]
                refine sv (.int .i64 q.g) 25 rfl rfl (ex_load (p := (.pointer (some ⟨b1, 3, none⟩))) rfl rfl (ld3 (at_cell k1 rfl))) ?_
                simp only [zp]
                refine sv (.bool true) 26 rfl rfl (ex_bin (u := (.int .i64 q.g)) (r := (.int .i64 0)) rfl rfl rfl (eg3 _ _ _ _ _ _) (geq3 _ (decide_eq_true (by omega)))) ?_
                simp only [zp]
                refine sv (.bool true) 27 rfl rfl (ex_pkT rfl rfl rfl) ?_
                simp only [zp]
                refine sm (.bool true) 28 rfl rfl rfl rfl ?_
                simp only [zp]
                refine sv (.pointer (some ⟨b1, 3, none⟩)) 29 rfl rfl (ex_fa (p := (.pointer (some ⟨b1, 0, none⟩))) rfl rfl (fa25_2 _ _)) ?_
                simp only [zp]
                refine sv (.int .i64 q.g) 30 rfl rfl (ex_load (p := (.pointer (some ⟨b1, 3, none⟩))) rfl rfl (ld3 (at_cell k1 rfl))) ?_
                simp only [zp]
                refine sv (.bool true) 31 rfl rfl (ex_bin (u := (.int .i64 q.g)) (r := (.int .i64 1000)) rfl rfl rfl (eg3 _ _ _ _ _ _) (leq3 _ (decide_eq_true (by omega)))) ?_
                simp only [zp]
                refine sv (.bool true) 32 rfl rfl (ex_pkT rfl rfl rfl) ?_
                simp only [zp]
                refine sm (.bool true) 33 rfl rfl rfl rfl ?_
                simp only [zp]
                refine sv (.pointer (some ⟨b1, 4, none⟩)) 34 rfl rfl (ex_fa (p := (.pointer (some ⟨b1, 0, none⟩))) rfl rfl (fa25_3 _ _)) ?_
                simp only [zp]
                refine sv (.int .i64 q.f) 35 rfl rfl (ex_load (p := (.pointer (some ⟨b1, 4, none⟩))) rfl rfl (ld3 (at_cell k1 rfl))) ?_
                simp only [zp]
                refine sv (.bool true) 36 rfl rfl (ex_bin (u := (.int .i64 q.f)) (r := (.int .i64 1)) rfl rfl rfl (eg3 _ _ _ _ _ _) (geq3 _ (decide_eq_true (by omega)))) ?_
                simp only [zp]
                refine sv (.bool true) 37 rfl rfl (ex_pkT rfl rfl rfl) ?_
                simp only [zp]
                refine sm (.bool true) 38 rfl rfl rfl rfl ?_
                simp only [zp]
                refine sv (.pointer (some ⟨b1, 4, none⟩)) 39 rfl rfl (ex_fa (p := (.pointer (some ⟨b1, 0, none⟩))) rfl rfl (fa25_3 _ _)) ?_
                simp only [zp]
                refine sv (.int .i64 q.f) 40 rfl rfl (ex_load (p := (.pointer (some ⟨b1, 4, none⟩))) rfl rfl (ld3 (at_cell k1 rfl))) ?_
                simp only [zp]
                refine sv (.bool true) 41 rfl rfl (ex_bin (u := (.int .i64 q.f)) (r := (.int .i64 2147483647)) rfl rfl rfl (eg3 _ _ _ _ _ _) (leq3 _ (decide_eq_true (by omega)))) ?_
                simp only [zp]
                refine sv (.bool true) 42 rfl rfl (ex_pkT rfl rfl rfl) ?_
                simp only [zp]
                refine sg (.bool true) 2 rfl rfl rfl rfl ?_
                simp only [zp]
                refine st_end ?_
                subst hQ
                refine wp_ret ?_
                repeat (first | refine ret_out ?_ | refine ret_blk ?_)
                refine bodyPost_ret (results_tmp Try.results9 _ _ _) rfl ⟨?_, E⟩
                show Ending.returned (.bool true) = _
                simp [mayR, e0, e1, e2, e3, e4, e5, e6]
              · skip
                have E : Below w.heap.size w w := Below.refl _ _
                go_enter Try.func9, Try.ntmps9
                refine wq fun Q hQ => ?_
                refine st_new (fun b => .pointer (some ⟨b, 0, none⟩)) (some 1) rfl rfl (ex_box rfl rfl) ?_
                intro b1 W1 k1 g1 B
                simp only [zp]
                have ge_b1 := Nat.le_trans E.size g1
                replace E := below_next E B
                clear B
                refine sg (.bool false) 2 rfl rfl rfl rfl ?_
                simp only [zp]
                refine st_end ?_
                subst hQ
                refine wq fun Q hQ => ?_
                refine sv (.pointer (some ⟨b1, 0, none⟩)) 6 rfl rfl (ex_fa (p := (.pointer (some ⟨b1, 0, none⟩))) rfl rfl (fa25_0 _ _)) ?_
                simp only [zp]
                refine sv (.agg (FL q)) 7 rfl rfl (ex_load (p := (.pointer (some ⟨b1, 0, none⟩))) rfl rfl (ldF k1)) ?_
                simp only [zp]
                refine st_call (some 8) rfl rfl (fee_any q.b q.r 0 W1 hb (by decide)) (ex_call (f := 23) (vs := [(.agg (FL q)), (.int .i64 0)]) rfl (cf23 _) rfl) ?_
                rintro e W2 ⟨rfl, B⟩
                refine ⟨_, rfl, ?_⟩
                simp only [zp]
                replace E := below_next E B
                replace k1 := keep B k1
                refine sm (.tuple #[(.int .i64 (feeN q.b q.r 0)), (.int .i64 (feeE q.b q.r 0))]) 5 rfl rfl rfl rfl ?_
                simp only [zp]
                refine sv (.int .i64 (feeN q.b q.r 0)) 9 rfl rfl (ex_ext rfl rfl rfl) ?_
                simp only [zp]
                refine sv (.int .i64 (feeE q.b q.r 0)) 10 rfl rfl (ex_ext rfl rfl rfl) ?_
                simp only [zp]
                refine sg (.int .i64 (feeN q.b q.r 0)) 3 rfl rfl rfl rfl ?_
                simp only [zp]
                refine sg (.int .i64 (feeE q.b q.r 0)) 4 rfl rfl rfl rfl ?_
                simp only [zp]
                refine st_end ?_
                subst hQ
                refine wq fun Q hQ => ?_
                refine sm (.int .i64 (feeE q.b q.r 0)) 11 rfl rfl rfl rfl ?_
                simp only [zp]
                refine sv (.bool true) 12 rfl rfl (ex_bin (u := (.int .i64 (feeE q.b q.r 0))) (r := (.int .i64 0)) rfl rfl rfl (eg37 _ _ _ _ _ _) (eql37 _ (decide_eq_true (by rw [hf, e0]; rfl)))) ?_
                simp only [zp]
                refine sm (.bool true) 13 rfl rfl rfl rfl ?_
                simp only [zp]
                refine sv (.pointer (some ⟨b1, 2, none⟩)) 14 rfl rfl (ex_fa (p := (.pointer (some ⟨b1, 0, none⟩))) rfl rfl (fa25_1 _ _)) ?_
                simp only [zp]
                refine sv (.int .i64 q.d) 15 rfl rfl (ex_load (p := (.pointer (some ⟨b1, 2, none⟩))) rfl rfl (ld3 (at_cell k1 rfl))) ?_
                simp only [zp]
                refine sv (.bool true) 16 rfl rfl (ex_bin (u := (.int .i64 q.d)) (r := (.int .i64 1)) rfl rfl rfl (eg3 _ _ _ _ _ _) (geq3 _ (decide_eq_true (by omega)))) ?_
                simp only [zp]
                refine sv (.bool true) 17 rfl rfl (ex_pkT rfl rfl rfl) ?_
                simp only [zp]
                refine sm (.bool true) 18 rfl rfl rfl rfl ?_
                simp only [zp]
                refine sv (.pointer (some ⟨b1, 2, none⟩)) 19 rfl rfl (ex_fa (p := (.pointer (some ⟨b1, 0, none⟩))) rfl rfl (fa25_1 _ _)) ?_
                simp only [zp]
                refine sv (.int .i64 q.d) 20 rfl rfl (ex_load (p := (.pointer (some ⟨b1, 2, none⟩))) rfl rfl (ld3 (at_cell k1 rfl))) ?_
                simp only [zp]
                refine sv (.bool true) 21 rfl rfl (ex_bin (u := (.int .i64 q.d)) (r := (.int .i64 1000)) rfl rfl rfl (eg3 _ _ _ _ _ _) (leq3 _ (decide_eq_true (by omega)))) ?_
                simp only [zp]
                refine sv (.bool true) 22 rfl rfl (ex_pkT rfl rfl rfl) ?_
                simp only [zp]
                refine sm (.bool true) 23 rfl rfl rfl rfl ?_
                simp only [zp]
                refine sv (.pointer (some ⟨b1, 3, none⟩)) 24 rfl rfl (ex_fa (p := (.pointer (some ⟨b1, 0, none⟩))) rfl rfl (fa25_2 _ _)) ?_
                simp only [zp]
                refine sv (.int .i64 q.g) 25 rfl rfl (ex_load (p := (.pointer (some ⟨b1, 3, none⟩))) rfl rfl (ld3 (at_cell k1 rfl))) ?_
                simp only [zp]
                refine sv (.bool true) 26 rfl rfl (ex_bin (u := (.int .i64 q.g)) (r := (.int .i64 0)) rfl rfl rfl (eg3 _ _ _ _ _ _) (geq3 _ (decide_eq_true (by omega)))) ?_
                simp only [zp]
                refine sv (.bool true) 27 rfl rfl (ex_pkT rfl rfl rfl) ?_
                simp only [zp]
                refine sm (.bool true) 28 rfl rfl rfl rfl ?_
                simp only [zp]
                refine sv (.pointer (some ⟨b1, 3, none⟩)) 29 rfl rfl (ex_fa (p := (.pointer (some ⟨b1, 0, none⟩))) rfl rfl (fa25_2 _ _)) ?_
                simp only [zp]
                refine sv (.int .i64 q.g) 30 rfl rfl (ex_load (p := (.pointer (some ⟨b1, 3, none⟩))) rfl rfl (ld3 (at_cell k1 rfl))) ?_
                simp only [zp]
                refine sv (.bool true) 31 rfl rfl (ex_bin (u := (.int .i64 q.g)) (r := (.int .i64 1000)) rfl rfl rfl (eg3 _ _ _ _ _ _) (leq3 _ (decide_eq_true (by omega)))) ?_
                simp only [zp]
                refine sv (.bool true) 32 rfl rfl (ex_pkT rfl rfl rfl) ?_
                simp only [zp]
                refine sm (.bool true) 33 rfl rfl rfl rfl ?_
                simp only [zp]
                refine sv (.pointer (some ⟨b1, 4, none⟩)) 34 rfl rfl (ex_fa (p := (.pointer (some ⟨b1, 0, none⟩))) rfl rfl (fa25_3 _ _)) ?_
                simp only [zp]
                refine sv (.int .i64 q.f) 35 rfl rfl (ex_load (p := (.pointer (some ⟨b1, 4, none⟩))) rfl rfl (ld3 (at_cell k1 rfl))) ?_
                simp only [zp]
                refine sv (.bool true) 36 rfl rfl (ex_bin (u := (.int .i64 q.f)) (r := (.int .i64 1)) rfl rfl rfl (eg3 _ _ _ _ _ _) (geq3 _ (decide_eq_true (by omega)))) ?_
                simp only [zp]
                refine sv (.bool true) 37 rfl rfl (ex_pkT rfl rfl rfl) ?_
                simp only [zp]
                refine sm (.bool true) 38 rfl rfl rfl rfl ?_
                simp only [zp]
                refine sv (.pointer (some ⟨b1, 4, none⟩)) 39 rfl rfl (ex_fa (p := (.pointer (some ⟨b1, 0, none⟩))) rfl rfl (fa25_3 _ _)) ?_
                simp only [zp]
                refine sv (.int .i64 q.f) 40 rfl rfl (ex_load (p := (.pointer (some ⟨b1, 4, none⟩))) rfl rfl (ld3 (at_cell k1 rfl))) ?_
                simp only [zp]
                refine sv (.bool false) 41 rfl rfl (ex_bin (u := (.int .i64 q.f)) (r := (.int .i64 2147483647)) rfl rfl rfl (eg3 _ _ _ _ _ _) (leq3 _ (decide_eq_false (by omega)))) ?_
                simp only [zp]
                refine sv (.bool false) 42 rfl rfl (ex_pkT rfl rfl rfl) ?_
                simp only [zp]
                refine sg (.bool false) 2 rfl rfl rfl rfl ?_
                simp only [zp]
                refine st_end ?_
                subst hQ
                refine wp_ret ?_
                repeat (first | refine ret_out ?_ | refine ret_blk ?_)
                refine bodyPost_ret (results_tmp Try.results9 _ _ _) rfl ⟨?_, E⟩
                show Ending.returned (.bool false) = _
                simp [mayR, e0, e1, e2, e3, e4, e5, e6]
            · skip
              have E : Below w.heap.size w w := Below.refl _ _
              go_enter Try.func9, Try.ntmps9
              refine wq fun Q hQ => ?_
              refine st_new (fun b => .pointer (some ⟨b, 0, none⟩)) (some 1) rfl rfl (ex_box rfl rfl) ?_
              intro b1 W1 k1 g1 B
              simp only [zp]
              have ge_b1 := Nat.le_trans E.size g1
              replace E := below_next E B
              clear B
              refine sg (.bool false) 2 rfl rfl rfl rfl ?_
              simp only [zp]
              refine st_end ?_
              subst hQ
              refine wq fun Q hQ => ?_
              refine sv (.pointer (some ⟨b1, 0, none⟩)) 6 rfl rfl (ex_fa (p := (.pointer (some ⟨b1, 0, none⟩))) rfl rfl (fa25_0 _ _)) ?_
              simp only [zp]
              refine sv (.agg (FL q)) 7 rfl rfl (ex_load (p := (.pointer (some ⟨b1, 0, none⟩))) rfl rfl (ldF k1)) ?_
              simp only [zp]
              refine st_call (some 8) rfl rfl (fee_any q.b q.r 0 W1 hb (by decide)) (ex_call (f := 23) (vs := [(.agg (FL q)), (.int .i64 0)]) rfl (cf23 _) rfl) ?_
              rintro e W2 ⟨rfl, B⟩
              refine ⟨_, rfl, ?_⟩
              simp only [zp]
              replace E := below_next E B
              replace k1 := keep B k1
              refine sm (.tuple #[(.int .i64 (feeN q.b q.r 0)), (.int .i64 (feeE q.b q.r 0))]) 5 rfl rfl rfl rfl ?_
              simp only [zp]
              refine sv (.int .i64 (feeN q.b q.r 0)) 9 rfl rfl (ex_ext rfl rfl rfl) ?_
              simp only [zp]
              refine sv (.int .i64 (feeE q.b q.r 0)) 10 rfl rfl (ex_ext rfl rfl rfl) ?_
              simp only [zp]
              refine sg (.int .i64 (feeN q.b q.r 0)) 3 rfl rfl rfl rfl ?_
              simp only [zp]
              refine sg (.int .i64 (feeE q.b q.r 0)) 4 rfl rfl rfl rfl ?_
              simp only [zp]
              refine st_end ?_
              subst hQ
              refine wq fun Q hQ => ?_
              refine sm (.int .i64 (feeE q.b q.r 0)) 11 rfl rfl rfl rfl ?_
              simp only [zp]
              refine sv (.bool true) 12 rfl rfl (ex_bin (u := (.int .i64 (feeE q.b q.r 0))) (r := (.int .i64 0)) rfl rfl rfl (eg37 _ _ _ _ _ _) (eql37 _ (decide_eq_true (by rw [hf, e0]; rfl)))) ?_
              simp only [zp]
              refine sm (.bool true) 13 rfl rfl rfl rfl ?_
              simp only [zp]
              refine sv (.pointer (some ⟨b1, 2, none⟩)) 14 rfl rfl (ex_fa (p := (.pointer (some ⟨b1, 0, none⟩))) rfl rfl (fa25_1 _ _)) ?_
              simp only [zp]
              refine sv (.int .i64 q.d) 15 rfl rfl (ex_load (p := (.pointer (some ⟨b1, 2, none⟩))) rfl rfl (ld3 (at_cell k1 rfl))) ?_
              simp only [zp]
              refine sv (.bool true) 16 rfl rfl (ex_bin (u := (.int .i64 q.d)) (r := (.int .i64 1)) rfl rfl rfl (eg3 _ _ _ _ _ _) (geq3 _ (decide_eq_true (by omega)))) ?_
              simp only [zp]
              refine sv (.bool true) 17 rfl rfl (ex_pkT rfl rfl rfl) ?_
              simp only [zp]
              refine sm (.bool true) 18 rfl rfl rfl rfl ?_
              simp only [zp]
              refine sv (.pointer (some ⟨b1, 2, none⟩)) 19 rfl rfl (ex_fa (p := (.pointer (some ⟨b1, 0, none⟩))) rfl rfl (fa25_1 _ _)) ?_
              simp only [zp]
              refine sv (.int .i64 q.d) 20 rfl rfl (ex_load (p := (.pointer (some ⟨b1, 2, none⟩))) rfl rfl (ld3 (at_cell k1 rfl))) ?_
              simp only [zp]
              refine sv (.bool true) 21 rfl rfl (ex_bin (u := (.int .i64 q.d)) (r := (.int .i64 1000)) rfl rfl rfl (eg3 _ _ _ _ _ _) (leq3 _ (decide_eq_true (by omega)))) ?_
              simp only [zp]
              refine sv (.bool true) 22 rfl rfl (ex_pkT rfl rfl rfl) ?_
              simp only [zp]
              refine sm (.bool true) 23 rfl rfl rfl rfl ?_
              simp only [zp]
              refine sv (.pointer (some ⟨b1, 3, none⟩)) 24 rfl rfl (ex_fa (p := (.pointer (some ⟨b1, 0, none⟩))) rfl rfl (fa25_2 _ _)) ?_
              simp only [zp]
              refine sv (.int .i64 q.g) 25 rfl rfl (ex_load (p := (.pointer (some ⟨b1, 3, none⟩))) rfl rfl (ld3 (at_cell k1 rfl))) ?_
              simp only [zp]
              refine sv (.bool true) 26 rfl rfl (ex_bin (u := (.int .i64 q.g)) (r := (.int .i64 0)) rfl rfl rfl (eg3 _ _ _ _ _ _) (geq3 _ (decide_eq_true (by omega)))) ?_
              simp only [zp]
              refine sv (.bool true) 27 rfl rfl (ex_pkT rfl rfl rfl) ?_
              simp only [zp]
              refine sm (.bool true) 28 rfl rfl rfl rfl ?_
              simp only [zp]
              refine sv (.pointer (some ⟨b1, 3, none⟩)) 29 rfl rfl (ex_fa (p := (.pointer (some ⟨b1, 0, none⟩))) rfl rfl (fa25_2 _ _)) ?_
              simp only [zp]
              refine sv (.int .i64 q.g) 30 rfl rfl (ex_load (p := (.pointer (some ⟨b1, 3, none⟩))) rfl rfl (ld3 (at_cell k1 rfl))) ?_
              simp only [zp]
              refine sv (.bool true) 31 rfl rfl (ex_bin (u := (.int .i64 q.g)) (r := (.int .i64 1000)) rfl rfl rfl (eg3 _ _ _ _ _ _) (leq3 _ (decide_eq_true (by omega)))) ?_
              simp only [zp]
              refine sv (.bool true) 32 rfl rfl (ex_pkT rfl rfl rfl) ?_
              simp only [zp]
              refine sm (.bool true) 33 rfl rfl rfl rfl ?_
              simp only [zp]
              refine sv (.pointer (some ⟨b1, 4, none⟩)) 34 rfl rfl (ex_fa (p := (.pointer (some ⟨b1, 0, none⟩))) rfl rfl (fa25_3 _ _)) ?_
              simp only [zp]
              refine sv (.int .i64 q.f) 35 rfl rfl (ex_load (p := (.pointer (some ⟨b1, 4, none⟩))) rfl rfl (ld3 (at_cell k1 rfl))) ?_
              simp only [zp]
              refine sv (.bool false) 36 rfl rfl (ex_bin (u := (.int .i64 q.f)) (r := (.int .i64 1)) rfl rfl rfl (eg3 _ _ _ _ _ _) (geq3 _ (decide_eq_false (by omega)))) ?_
              simp only [zp]
              refine sv (.bool false) 37 rfl rfl (ex_pkT rfl rfl rfl) ?_
              simp only [zp]
              refine sm (.bool false) 38 rfl rfl rfl rfl ?_
              simp only [zp]
              refine sn 39 rfl rfl ?_
              simp only [zp]
              refine sn 40 rfl rfl ?_
              simp only [zp]
              refine sn 41 rfl rfl ?_
              simp only [zp]
              refine sv (.bool false) 42 rfl rfl (ex_pkF rfl rfl rfl) ?_
              simp only [zp]
              refine sg (.bool false) 2 rfl rfl rfl rfl ?_
              simp only [zp]
              refine st_end ?_
              subst hQ
              refine wp_ret ?_
              repeat (first | refine ret_out ?_ | refine ret_blk ?_)
              refine bodyPost_ret (results_tmp Try.results9 _ _ _) rfl ⟨?_, E⟩
              show Ending.returned (.bool false) = _
              simp [mayR, e0, e1, e2, e3, e4, e5]
          · skip
            have E : Below w.heap.size w w := Below.refl _ _
            go_enter Try.func9, Try.ntmps9
            refine wq fun Q hQ => ?_
            refine st_new (fun b => .pointer (some ⟨b, 0, none⟩)) (some 1) rfl rfl (ex_box rfl rfl) ?_
            intro b1 W1 k1 g1 B
            simp only [zp]
            have ge_b1 := Nat.le_trans E.size g1
            replace E := below_next E B
            clear B
            refine sg (.bool false) 2 rfl rfl rfl rfl ?_
            simp only [zp]
            refine st_end ?_
            subst hQ
            refine wq fun Q hQ => ?_
            refine sv (.pointer (some ⟨b1, 0, none⟩)) 6 rfl rfl (ex_fa (p := (.pointer (some ⟨b1, 0, none⟩))) rfl rfl (fa25_0 _ _)) ?_
            simp only [zp]
            refine sv (.agg (FL q)) 7 rfl rfl (ex_load (p := (.pointer (some ⟨b1, 0, none⟩))) rfl rfl (ldF k1)) ?_
            simp only [zp]
            refine st_call (some 8) rfl rfl (fee_any q.b q.r 0 W1 hb (by decide)) (ex_call (f := 23) (vs := [(.agg (FL q)), (.int .i64 0)]) rfl (cf23 _) rfl) ?_
            rintro e W2 ⟨rfl, B⟩
            refine ⟨_, rfl, ?_⟩
            simp only [zp]
            replace E := below_next E B
            replace k1 := keep B k1
            refine sm (.tuple #[(.int .i64 (feeN q.b q.r 0)), (.int .i64 (feeE q.b q.r 0))]) 5 rfl rfl rfl rfl ?_
            simp only [zp]
            refine sv (.int .i64 (feeN q.b q.r 0)) 9 rfl rfl (ex_ext rfl rfl rfl) ?_
            simp only [zp]
            refine sv (.int .i64 (feeE q.b q.r 0)) 10 rfl rfl (ex_ext rfl rfl rfl) ?_
            simp only [zp]
            refine sg (.int .i64 (feeN q.b q.r 0)) 3 rfl rfl rfl rfl ?_
            simp only [zp]
            refine sg (.int .i64 (feeE q.b q.r 0)) 4 rfl rfl rfl rfl ?_
            simp only [zp]
            refine st_end ?_
            subst hQ
            refine wq fun Q hQ => ?_
            refine sm (.int .i64 (feeE q.b q.r 0)) 11 rfl rfl rfl rfl ?_
            simp only [zp]
            refine sv (.bool true) 12 rfl rfl (ex_bin (u := (.int .i64 (feeE q.b q.r 0))) (r := (.int .i64 0)) rfl rfl rfl (eg37 _ _ _ _ _ _) (eql37 _ (decide_eq_true (by rw [hf, e0]; rfl)))) ?_
            simp only [zp]
            refine sm (.bool true) 13 rfl rfl rfl rfl ?_
            simp only [zp]
            refine sv (.pointer (some ⟨b1, 2, none⟩)) 14 rfl rfl (ex_fa (p := (.pointer (some ⟨b1, 0, none⟩))) rfl rfl (fa25_1 _ _)) ?_
            simp only [zp]
            refine sv (.int .i64 q.d) 15 rfl rfl (ex_load (p := (.pointer (some ⟨b1, 2, none⟩))) rfl rfl (ld3 (at_cell k1 rfl))) ?_
            simp only [zp]
            refine sv (.bool true) 16 rfl rfl (ex_bin (u := (.int .i64 q.d)) (r := (.int .i64 1)) rfl rfl rfl (eg3 _ _ _ _ _ _) (geq3 _ (decide_eq_true (by omega)))) ?_
            simp only [zp]
            refine sv (.bool true) 17 rfl rfl (ex_pkT rfl rfl rfl) ?_
            simp only [zp]
            refine sm (.bool true) 18 rfl rfl rfl rfl ?_
            simp only [zp]
            refine sv (.pointer (some ⟨b1, 2, none⟩)) 19 rfl rfl (ex_fa (p := (.pointer (some ⟨b1, 0, none⟩))) rfl rfl (fa25_1 _ _)) ?_
            simp only [zp]
            refine sv (.int .i64 q.d) 20 rfl rfl (ex_load (p := (.pointer (some ⟨b1, 2, none⟩))) rfl rfl (ld3 (at_cell k1 rfl))) ?_
            simp only [zp]
            refine sv (.bool true) 21 rfl rfl (ex_bin (u := (.int .i64 q.d)) (r := (.int .i64 1000)) rfl rfl rfl (eg3 _ _ _ _ _ _) (leq3 _ (decide_eq_true (by omega)))) ?_
            simp only [zp]
            refine sv (.bool true) 22 rfl rfl (ex_pkT rfl rfl rfl) ?_
            simp only [zp]
            refine sm (.bool true) 23 rfl rfl rfl rfl ?_
            simp only [zp]
            refine sv (.pointer (some ⟨b1, 3, none⟩)) 24 rfl rfl (ex_fa (p := (.pointer (some ⟨b1, 0, none⟩))) rfl rfl (fa25_2 _ _)) ?_
            simp only [zp]
            refine sv (.int .i64 q.g) 25 rfl rfl (ex_load (p := (.pointer (some ⟨b1, 3, none⟩))) rfl rfl (ld3 (at_cell k1 rfl))) ?_
            simp only [zp]
            refine sv (.bool true) 26 rfl rfl (ex_bin (u := (.int .i64 q.g)) (r := (.int .i64 0)) rfl rfl rfl (eg3 _ _ _ _ _ _) (geq3 _ (decide_eq_true (by omega)))) ?_
            simp only [zp]
            refine sv (.bool true) 27 rfl rfl (ex_pkT rfl rfl rfl) ?_
            simp only [zp]
            refine sm (.bool true) 28 rfl rfl rfl rfl ?_
            simp only [zp]
            refine sv (.pointer (some ⟨b1, 3, none⟩)) 29 rfl rfl (ex_fa (p := (.pointer (some ⟨b1, 0, none⟩))) rfl rfl (fa25_2 _ _)) ?_
            simp only [zp]
            refine sv (.int .i64 q.g) 30 rfl rfl (ex_load (p := (.pointer (some ⟨b1, 3, none⟩))) rfl rfl (ld3 (at_cell k1 rfl))) ?_
            simp only [zp]
            refine sv (.bool false) 31 rfl rfl (ex_bin (u := (.int .i64 q.g)) (r := (.int .i64 1000)) rfl rfl rfl (eg3 _ _ _ _ _ _) (leq3 _ (decide_eq_false (by omega)))) ?_
            simp only [zp]
            refine sv (.bool false) 32 rfl rfl (ex_pkT rfl rfl rfl) ?_
            simp only [zp]
            refine sm (.bool false) 33 rfl rfl rfl rfl ?_
            simp only [zp]
            refine sn 34 rfl rfl ?_
            simp only [zp]
            refine sn 35 rfl rfl ?_
            simp only [zp]
            refine sn 36 rfl rfl ?_
            simp only [zp]
            refine sv (.bool false) 37 rfl rfl (ex_pkF rfl rfl rfl) ?_
            simp only [zp]
            refine sm (.bool false) 38 rfl rfl rfl rfl ?_
            simp only [zp]
            refine sn 39 rfl rfl ?_
            simp only [zp]
            refine sn 40 rfl rfl ?_
            simp only [zp]
            refine sn 41 rfl rfl ?_
            simp only [zp]
            refine sv (.bool false) 42 rfl rfl (ex_pkF rfl rfl rfl) ?_
            simp only [zp]
            refine sg (.bool false) 2 rfl rfl rfl rfl ?_
            simp only [zp]
            refine st_end ?_
            subst hQ
            refine wp_ret ?_
            repeat (first | refine ret_out ?_ | refine ret_blk ?_)
            refine bodyPost_ret (results_tmp Try.results9 _ _ _) rfl ⟨?_, E⟩
            show Ending.returned (.bool false) = _
            simp [mayR, e0, e1, e2, e3, e4]
        · skip
          have E : Below w.heap.size w w := Below.refl _ _
          go_enter Try.func9, Try.ntmps9
          refine wq fun Q hQ => ?_
          refine st_new (fun b => .pointer (some ⟨b, 0, none⟩)) (some 1) rfl rfl (ex_box rfl rfl) ?_
          intro b1 W1 k1 g1 B
          simp only [zp]
          have ge_b1 := Nat.le_trans E.size g1
          replace E := below_next E B
          clear B
          refine sg (.bool false) 2 rfl rfl rfl rfl ?_
          simp only [zp]
          refine st_end ?_
          subst hQ
          refine wq fun Q hQ => ?_
          refine sv (.pointer (some ⟨b1, 0, none⟩)) 6 rfl rfl (ex_fa (p := (.pointer (some ⟨b1, 0, none⟩))) rfl rfl (fa25_0 _ _)) ?_
          simp only [zp]
          refine sv (.agg (FL q)) 7 rfl rfl (ex_load (p := (.pointer (some ⟨b1, 0, none⟩))) rfl rfl (ldF k1)) ?_
          simp only [zp]
          refine st_call (some 8) rfl rfl (fee_any q.b q.r 0 W1 hb (by decide)) (ex_call (f := 23) (vs := [(.agg (FL q)), (.int .i64 0)]) rfl (cf23 _) rfl) ?_
          rintro e W2 ⟨rfl, B⟩
          refine ⟨_, rfl, ?_⟩
          simp only [zp]
          replace E := below_next E B
          replace k1 := keep B k1
          refine sm (.tuple #[(.int .i64 (feeN q.b q.r 0)), (.int .i64 (feeE q.b q.r 0))]) 5 rfl rfl rfl rfl ?_
          simp only [zp]
          refine sv (.int .i64 (feeN q.b q.r 0)) 9 rfl rfl (ex_ext rfl rfl rfl) ?_
          simp only [zp]
          refine sv (.int .i64 (feeE q.b q.r 0)) 10 rfl rfl (ex_ext rfl rfl rfl) ?_
          simp only [zp]
          refine sg (.int .i64 (feeN q.b q.r 0)) 3 rfl rfl rfl rfl ?_
          simp only [zp]
          refine sg (.int .i64 (feeE q.b q.r 0)) 4 rfl rfl rfl rfl ?_
          simp only [zp]
          refine st_end ?_
          subst hQ
          refine wq fun Q hQ => ?_
          refine sm (.int .i64 (feeE q.b q.r 0)) 11 rfl rfl rfl rfl ?_
          simp only [zp]
          refine sv (.bool true) 12 rfl rfl (ex_bin (u := (.int .i64 (feeE q.b q.r 0))) (r := (.int .i64 0)) rfl rfl rfl (eg37 _ _ _ _ _ _) (eql37 _ (decide_eq_true (by rw [hf, e0]; rfl)))) ?_
          simp only [zp]
          refine sm (.bool true) 13 rfl rfl rfl rfl ?_
          simp only [zp]
          refine sv (.pointer (some ⟨b1, 2, none⟩)) 14 rfl rfl (ex_fa (p := (.pointer (some ⟨b1, 0, none⟩))) rfl rfl (fa25_1 _ _)) ?_
          simp only [zp]
          refine sv (.int .i64 q.d) 15 rfl rfl (ex_load (p := (.pointer (some ⟨b1, 2, none⟩))) rfl rfl (ld3 (at_cell k1 rfl))) ?_
          simp only [zp]
          refine sv (.bool true) 16 rfl rfl (ex_bin (u := (.int .i64 q.d)) (r := (.int .i64 1)) rfl rfl rfl (eg3 _ _ _ _ _ _) (geq3 _ (decide_eq_true (by omega)))) ?_
          simp only [zp]
          refine sv (.bool true) 17 rfl rfl (ex_pkT rfl rfl rfl) ?_
          simp only [zp]
          refine sm (.bool true) 18 rfl rfl rfl rfl ?_
          simp only [zp]
          refine sv (.pointer (some ⟨b1, 2, none⟩)) 19 rfl rfl (ex_fa (p := (.pointer (some ⟨b1, 0, none⟩))) rfl rfl (fa25_1 _ _)) ?_
          simp only [zp]
          refine sv (.int .i64 q.d) 20 rfl rfl (ex_load (p := (.pointer (some ⟨b1, 2, none⟩))) rfl rfl (ld3 (at_cell k1 rfl))) ?_
          simp only [zp]
          refine sv (.bool true) 21 rfl rfl (ex_bin (u := (.int .i64 q.d)) (r := (.int .i64 1000)) rfl rfl rfl (eg3 _ _ _ _ _ _) (leq3 _ (decide_eq_true (by omega)))) ?_
          simp only [zp]
          refine sv (.bool true) 22 rfl rfl (ex_pkT rfl rfl rfl) ?_
          simp only [zp]
          refine sm (.bool true) 23 rfl rfl rfl rfl ?_
          simp only [zp]
          refine sv (.pointer (some ⟨b1, 3, none⟩)) 24 rfl rfl (ex_fa (p := (.pointer (some ⟨b1, 0, none⟩))) rfl rfl (fa25_2 _ _)) ?_
          simp only [zp]
          refine sv (.int .i64 q.g) 25 rfl rfl (ex_load (p := (.pointer (some ⟨b1, 3, none⟩))) rfl rfl (ld3 (at_cell k1 rfl))) ?_
          simp only [zp]
          refine sv (.bool false) 26 rfl rfl (ex_bin (u := (.int .i64 q.g)) (r := (.int .i64 0)) rfl rfl rfl (eg3 _ _ _ _ _ _) (geq3 _ (decide_eq_false (by omega)))) ?_
          simp only [zp]
          refine sv (.bool false) 27 rfl rfl (ex_pkT rfl rfl rfl) ?_
          simp only [zp]
          refine sm (.bool false) 28 rfl rfl rfl rfl ?_
          simp only [zp]
          refine sn 29 rfl rfl ?_
          simp only [zp]
          refine sn 30 rfl rfl ?_
          simp only [zp]
          refine sn 31 rfl rfl ?_
          simp only [zp]
          refine sv (.bool false) 32 rfl rfl (ex_pkF rfl rfl rfl) ?_
          simp only [zp]
          refine sm (.bool false) 33 rfl rfl rfl rfl ?_
          simp only [zp]
          refine sn 34 rfl rfl ?_
          simp only [zp]
          refine sn 35 rfl rfl ?_
          simp only [zp]
          refine sn 36 rfl rfl ?_
          simp only [zp]
          refine sv (.bool false) 37 rfl rfl (ex_pkF rfl rfl rfl) ?_
          simp only [zp]
          refine sm (.bool false) 38 rfl rfl rfl rfl ?_
          simp only [zp]
          refine sn 39 rfl rfl ?_
          simp only [zp]
          refine sn 40 rfl rfl ?_
          simp only [zp]
          refine sn 41 rfl rfl ?_
          simp only [zp]
          refine sv (.bool false) 42 rfl rfl (ex_pkF rfl rfl rfl) ?_
          simp only [zp]
          refine sg (.bool false) 2 rfl rfl rfl rfl ?_
          simp only [zp]
          refine st_end ?_
          subst hQ
          refine wp_ret ?_
          repeat (first | refine ret_out ?_ | refine ret_blk ?_)
          refine bodyPost_ret (results_tmp Try.results9 _ _ _) rfl ⟨?_, E⟩
          show Ending.returned (.bool false) = _
          simp [mayR, e0, e1, e2, e3]
      · skip
        have E : Below w.heap.size w w := Below.refl _ _
        go_enter Try.func9, Try.ntmps9
        refine wq fun Q hQ => ?_
        refine st_new (fun b => .pointer (some ⟨b, 0, none⟩)) (some 1) rfl rfl (ex_box rfl rfl) ?_
        intro b1 W1 k1 g1 B
        simp only [zp]
        have ge_b1 := Nat.le_trans E.size g1
        replace E := below_next E B
        clear B
        refine sg (.bool false) 2 rfl rfl rfl rfl ?_
        simp only [zp]
        refine st_end ?_
        subst hQ
        refine wq fun Q hQ => ?_
        refine sv (.pointer (some ⟨b1, 0, none⟩)) 6 rfl rfl (ex_fa (p := (.pointer (some ⟨b1, 0, none⟩))) rfl rfl (fa25_0 _ _)) ?_
        simp only [zp]
        refine sv (.agg (FL q)) 7 rfl rfl (ex_load (p := (.pointer (some ⟨b1, 0, none⟩))) rfl rfl (ldF k1)) ?_
        simp only [zp]
        refine st_call (some 8) rfl rfl (fee_any q.b q.r 0 W1 hb (by decide)) (ex_call (f := 23) (vs := [(.agg (FL q)), (.int .i64 0)]) rfl (cf23 _) rfl) ?_
        rintro e W2 ⟨rfl, B⟩
        refine ⟨_, rfl, ?_⟩
        simp only [zp]
        replace E := below_next E B
        replace k1 := keep B k1
        refine sm (.tuple #[(.int .i64 (feeN q.b q.r 0)), (.int .i64 (feeE q.b q.r 0))]) 5 rfl rfl rfl rfl ?_
        simp only [zp]
        refine sv (.int .i64 (feeN q.b q.r 0)) 9 rfl rfl (ex_ext rfl rfl rfl) ?_
        simp only [zp]
        refine sv (.int .i64 (feeE q.b q.r 0)) 10 rfl rfl (ex_ext rfl rfl rfl) ?_
        simp only [zp]
        refine sg (.int .i64 (feeN q.b q.r 0)) 3 rfl rfl rfl rfl ?_
        simp only [zp]
        refine sg (.int .i64 (feeE q.b q.r 0)) 4 rfl rfl rfl rfl ?_
        simp only [zp]
        refine st_end ?_
        subst hQ
        refine wq fun Q hQ => ?_
        refine sm (.int .i64 (feeE q.b q.r 0)) 11 rfl rfl rfl rfl ?_
        simp only [zp]
        refine sv (.bool true) 12 rfl rfl (ex_bin (u := (.int .i64 (feeE q.b q.r 0))) (r := (.int .i64 0)) rfl rfl rfl (eg37 _ _ _ _ _ _) (eql37 _ (decide_eq_true (by rw [hf, e0]; rfl)))) ?_
        simp only [zp]
        refine sm (.bool true) 13 rfl rfl rfl rfl ?_
        simp only [zp]
        refine sv (.pointer (some ⟨b1, 2, none⟩)) 14 rfl rfl (ex_fa (p := (.pointer (some ⟨b1, 0, none⟩))) rfl rfl (fa25_1 _ _)) ?_
        simp only [zp]
        refine sv (.int .i64 q.d) 15 rfl rfl (ex_load (p := (.pointer (some ⟨b1, 2, none⟩))) rfl rfl (ld3 (at_cell k1 rfl))) ?_
        simp only [zp]
        refine sv (.bool true) 16 rfl rfl (ex_bin (u := (.int .i64 q.d)) (r := (.int .i64 1)) rfl rfl rfl (eg3 _ _ _ _ _ _) (geq3 _ (decide_eq_true (by omega)))) ?_
        simp only [zp]
        refine sv (.bool true) 17 rfl rfl (ex_pkT rfl rfl rfl) ?_
        simp only [zp]
        refine sm (.bool true) 18 rfl rfl rfl rfl ?_
        simp only [zp]
        refine sv (.pointer (some ⟨b1, 2, none⟩)) 19 rfl rfl (ex_fa (p := (.pointer (some ⟨b1, 0, none⟩))) rfl rfl (fa25_1 _ _)) ?_
        simp only [zp]
        refine sv (.int .i64 q.d) 20 rfl rfl (ex_load (p := (.pointer (some ⟨b1, 2, none⟩))) rfl rfl (ld3 (at_cell k1 rfl))) ?_
        simp only [zp]
        refine sv (.bool false) 21 rfl rfl (ex_bin (u := (.int .i64 q.d)) (r := (.int .i64 1000)) rfl rfl rfl (eg3 _ _ _ _ _ _) (leq3 _ (decide_eq_false (by omega)))) ?_
        simp only [zp]
        refine sv (.bool false) 22 rfl rfl (ex_pkT rfl rfl rfl) ?_
        simp only [zp]
        refine sm (.bool false) 23 rfl rfl rfl rfl ?_
        simp only [zp]
        refine sn 24 rfl rfl ?_
        simp only [zp]
        refine sn 25 rfl rfl ?_
        simp only [zp]
        refine sn 26 rfl rfl ?_
        simp only [zp]
        refine sv (.bool false) 27 rfl rfl (ex_pkF rfl rfl rfl) ?_
        simp only [zp]
        refine sm (.bool false) 28 rfl rfl rfl rfl ?_
        simp only [zp]
        refine sn 29 rfl rfl ?_
        simp only [zp]
        refine sn 30 rfl rfl ?_
        simp only [zp]
        refine sn 31 rfl rfl ?_
        simp only [zp]
        refine sv (.bool false) 32 rfl rfl (ex_pkF rfl rfl rfl) ?_
        simp only [zp]
        refine sm (.bool false) 33 rfl rfl rfl rfl ?_
        simp only [zp]
        refine sn 34 rfl rfl ?_
        simp only [zp]
        refine sn 35 rfl rfl ?_
        simp only [zp]
        refine sn 36 rfl rfl ?_
        simp only [zp]
        refine sv (.bool false) 37 rfl rfl (ex_pkF rfl rfl rfl) ?_
        simp only [zp]
        refine sm (.bool false) 38 rfl rfl rfl rfl ?_
        simp only [zp]
        refine sn 39 rfl rfl ?_
        simp only [zp]
        refine sn 40 rfl rfl ?_
        simp only [zp]
        refine sn 41 rfl rfl ?_
        simp only [zp]
        refine sv (.bool false) 42 rfl rfl (ex_pkF rfl rfl rfl) ?_
        simp only [zp]
        refine sg (.bool false) 2 rfl rfl rfl rfl ?_
        simp only [zp]
        refine st_end ?_
        subst hQ
        refine wp_ret ?_
        repeat (first | refine ret_out ?_ | refine ret_blk ?_)
        refine bodyPost_ret (results_tmp Try.results9 _ _ _) rfl ⟨?_, E⟩
        show Ending.returned (.bool false) = _
        simp [mayR, e0, e1, e2]
    · skip
      have E : Below w.heap.size w w := Below.refl _ _
      go_enter Try.func9, Try.ntmps9
      refine wq fun Q hQ => ?_
      refine st_new (fun b => .pointer (some ⟨b, 0, none⟩)) (some 1) rfl rfl (ex_box rfl rfl) ?_
      intro b1 W1 k1 g1 B
      simp only [zp]
      have ge_b1 := Nat.le_trans E.size g1
      replace E := below_next E B
      clear B
      refine sg (.bool false) 2 rfl rfl rfl rfl ?_
      simp only [zp]
      refine st_end ?_
      subst hQ
      refine wq fun Q hQ => ?_
      refine sv (.pointer (some ⟨b1, 0, none⟩)) 6 rfl rfl (ex_fa (p := (.pointer (some ⟨b1, 0, none⟩))) rfl rfl (fa25_0 _ _)) ?_
      simp only [zp]
      refine sv (.agg (FL q)) 7 rfl rfl (ex_load (p := (.pointer (some ⟨b1, 0, none⟩))) rfl rfl (ldF k1)) ?_
      simp only [zp]
      refine st_call (some 8) rfl rfl (fee_any q.b q.r 0 W1 hb (by decide)) (ex_call (f := 23) (vs := [(.agg (FL q)), (.int .i64 0)]) rfl (cf23 _) rfl) ?_
      rintro e W2 ⟨rfl, B⟩
      refine ⟨_, rfl, ?_⟩
      simp only [zp]
      replace E := below_next E B
      replace k1 := keep B k1
      refine sm (.tuple #[(.int .i64 (feeN q.b q.r 0)), (.int .i64 (feeE q.b q.r 0))]) 5 rfl rfl rfl rfl ?_
      simp only [zp]
      refine sv (.int .i64 (feeN q.b q.r 0)) 9 rfl rfl (ex_ext rfl rfl rfl) ?_
      simp only [zp]
      refine sv (.int .i64 (feeE q.b q.r 0)) 10 rfl rfl (ex_ext rfl rfl rfl) ?_
      simp only [zp]
      refine sg (.int .i64 (feeN q.b q.r 0)) 3 rfl rfl rfl rfl ?_
      simp only [zp]
      refine sg (.int .i64 (feeE q.b q.r 0)) 4 rfl rfl rfl rfl ?_
      simp only [zp]
      refine st_end ?_
      subst hQ
      refine wq fun Q hQ => ?_
      refine sm (.int .i64 (feeE q.b q.r 0)) 11 rfl rfl rfl rfl ?_
      simp only [zp]
      refine sv (.bool true) 12 rfl rfl (ex_bin (u := (.int .i64 (feeE q.b q.r 0))) (r := (.int .i64 0)) rfl rfl rfl (eg37 _ _ _ _ _ _) (eql37 _ (decide_eq_true (by rw [hf, e0]; rfl)))) ?_
      simp only [zp]
      refine sm (.bool true) 13 rfl rfl rfl rfl ?_
      simp only [zp]
      refine sv (.pointer (some ⟨b1, 2, none⟩)) 14 rfl rfl (ex_fa (p := (.pointer (some ⟨b1, 0, none⟩))) rfl rfl (fa25_1 _ _)) ?_
      simp only [zp]
      refine sv (.int .i64 q.d) 15 rfl rfl (ex_load (p := (.pointer (some ⟨b1, 2, none⟩))) rfl rfl (ld3 (at_cell k1 rfl))) ?_
      simp only [zp]
      refine sv (.bool false) 16 rfl rfl (ex_bin (u := (.int .i64 q.d)) (r := (.int .i64 1)) rfl rfl rfl (eg3 _ _ _ _ _ _) (geq3 _ (decide_eq_false (by omega)))) ?_
      simp only [zp]
      refine sv (.bool false) 17 rfl rfl (ex_pkT rfl rfl rfl) ?_
      simp only [zp]
      refine sm (.bool false) 18 rfl rfl rfl rfl ?_
      simp only [zp]
      refine sn 19 rfl rfl ?_
      simp only [zp]
      refine sn 20 rfl rfl ?_
      simp only [zp]
      refine sn 21 rfl rfl ?_
      simp only [zp]
      refine sv (.bool false) 22 rfl rfl (ex_pkF rfl rfl rfl) ?_
      simp only [zp]
      refine sm (.bool false) 23 rfl rfl rfl rfl ?_
      simp only [zp]
      refine sn 24 rfl rfl ?_
      simp only [zp]
      refine sn 25 rfl rfl ?_
      simp only [zp]
      refine sn 26 rfl rfl ?_
      simp only [zp]
      refine sv (.bool false) 27 rfl rfl (ex_pkF rfl rfl rfl) ?_
      simp only [zp]
      refine sm (.bool false) 28 rfl rfl rfl rfl ?_
      simp only [zp]
      refine sn 29 rfl rfl ?_
      simp only [zp]
      refine sn 30 rfl rfl ?_
      simp only [zp]
      refine sn 31 rfl rfl ?_
      simp only [zp]
      refine sv (.bool false) 32 rfl rfl (ex_pkF rfl rfl rfl) ?_
      simp only [zp]
      refine sm (.bool false) 33 rfl rfl rfl rfl ?_
      simp only [zp]
      refine sn 34 rfl rfl ?_
      simp only [zp]
      refine sn 35 rfl rfl ?_
      simp only [zp]
      refine sn 36 rfl rfl ?_
      simp only [zp]
      refine sv (.bool false) 37 rfl rfl (ex_pkF rfl rfl rfl) ?_
      simp only [zp]
      refine sm (.bool false) 38 rfl rfl rfl rfl ?_
      simp only [zp]
      refine sn 39 rfl rfl ?_
      simp only [zp]
      refine sn 40 rfl rfl ?_
      simp only [zp]
      refine sn 41 rfl rfl ?_
      simp only [zp]
      refine sv (.bool false) 42 rfl rfl (ex_pkF rfl rfl rfl) ?_
      simp only [zp]
      refine sg (.bool false) 2 rfl rfl rfl rfl ?_
      simp only [zp]
      refine st_end ?_
      subst hQ
      refine wp_ret ?_
      repeat (first | refine ret_out ?_ | refine ret_blk ?_)
      refine bodyPost_ret (results_tmp Try.results9 _ _ _) rfl ⟨?_, E⟩
      show Ending.returned (.bool false) = _
      simp [mayR, e0, e1]
  · skip
    replace e0 := Bool.eq_false_iff.2 e0
    have E : Below w.heap.size w w := Below.refl _ _
    go_enter Try.func9, Try.ntmps9
    refine wq fun Q hQ => ?_
    refine st_new (fun b => .pointer (some ⟨b, 0, none⟩)) (some 1) rfl rfl (ex_box rfl rfl) ?_
    intro b1 W1 k1 g1 B
    simp only [zp]
    have ge_b1 := Nat.le_trans E.size g1
    replace E := below_next E B
    clear B
    refine sg (.bool false) 2 rfl rfl rfl rfl ?_
    simp only [zp]
    refine st_end ?_
    subst hQ
    refine wq fun Q hQ => ?_
    refine sv (.pointer (some ⟨b1, 0, none⟩)) 6 rfl rfl (ex_fa (p := (.pointer (some ⟨b1, 0, none⟩))) rfl rfl (fa25_0 _ _)) ?_
    simp only [zp]
    refine sv (.agg (FL q)) 7 rfl rfl (ex_load (p := (.pointer (some ⟨b1, 0, none⟩))) rfl rfl (ldF k1)) ?_
    simp only [zp]
    refine st_call (some 8) rfl rfl (fee_any q.b q.r 0 W1 hb (by decide)) (ex_call (f := 23) (vs := [(.agg (FL q)), (.int .i64 0)]) rfl (cf23 _) rfl) ?_
    rintro e W2 ⟨rfl, B⟩
    refine ⟨_, rfl, ?_⟩
    simp only [zp]
    replace E := below_next E B
    replace k1 := keep B k1
    refine sm (.tuple #[(.int .i64 (feeN q.b q.r 0)), (.int .i64 (feeE q.b q.r 0))]) 5 rfl rfl rfl rfl ?_
    simp only [zp]
    refine sv (.int .i64 (feeN q.b q.r 0)) 9 rfl rfl (ex_ext rfl rfl rfl) ?_
    simp only [zp]
    refine sv (.int .i64 (feeE q.b q.r 0)) 10 rfl rfl (ex_ext rfl rfl rfl) ?_
    simp only [zp]
    refine sg (.int .i64 (feeN q.b q.r 0)) 3 rfl rfl rfl rfl ?_
    simp only [zp]
    refine sg (.int .i64 (feeE q.b q.r 0)) 4 rfl rfl rfl rfl ?_
    simp only [zp]
    refine st_end ?_
    subst hQ
    refine wq fun Q hQ => ?_
    refine sm (.int .i64 (feeE q.b q.r 0)) 11 rfl rfl rfl rfl ?_
    simp only [zp]
    refine sv (.bool false) 12 rfl rfl (ex_bin (u := (.int .i64 (feeE q.b q.r 0))) (r := (.int .i64 0)) rfl rfl rfl (eg37 _ _ _ _ _ _) (eql37 _ (decide_eq_false (by rw [hf, e0]; decide)))) ?_
    simp only [zp]
    refine sm (.bool false) 13 rfl rfl rfl rfl ?_
    simp only [zp]
    refine sn 14 rfl rfl ?_
    simp only [zp]
    refine sn 15 rfl rfl ?_
    simp only [zp]
    refine sn 16 rfl rfl ?_
    simp only [zp]
    refine sv (.bool false) 17 rfl rfl (ex_pkF rfl rfl rfl) ?_
    simp only [zp]
    refine sm (.bool false) 18 rfl rfl rfl rfl ?_
    simp only [zp]
    refine sn 19 rfl rfl ?_
    simp only [zp]
    refine sn 20 rfl rfl ?_
    simp only [zp]
    refine sn 21 rfl rfl ?_
    simp only [zp]
    refine sv (.bool false) 22 rfl rfl (ex_pkF rfl rfl rfl) ?_
    simp only [zp]
    refine sm (.bool false) 23 rfl rfl rfl rfl ?_
    simp only [zp]
    refine sn 24 rfl rfl ?_
    simp only [zp]
    refine sn 25 rfl rfl ?_
    simp only [zp]
    refine sn 26 rfl rfl ?_
    simp only [zp]
    refine sv (.bool false) 27 rfl rfl (ex_pkF rfl rfl rfl) ?_
    simp only [zp]
    refine sm (.bool false) 28 rfl rfl rfl rfl ?_
    simp only [zp]
    refine sn 29 rfl rfl ?_
    simp only [zp]
    refine sn 30 rfl rfl ?_
    simp only [zp]
    refine sn 31 rfl rfl ?_
    simp only [zp]
    refine sv (.bool false) 32 rfl rfl (ex_pkF rfl rfl rfl) ?_
    simp only [zp]
    refine sm (.bool false) 33 rfl rfl rfl rfl ?_
    simp only [zp]
    refine sn 34 rfl rfl ?_
    simp only [zp]
    refine sn 35 rfl rfl ?_
    simp only [zp]
    refine sn 36 rfl rfl ?_
    simp only [zp]
    refine sv (.bool false) 37 rfl rfl (ex_pkF rfl rfl rfl) ?_
    simp only [zp]
    refine sm (.bool false) 38 rfl rfl rfl rfl ?_
    simp only [zp]
    refine sn 39 rfl rfl ?_
    simp only [zp]
    refine sn 40 rfl rfl ?_
    simp only [zp]
    refine sn 41 rfl rfl ?_
    simp only [zp]
    refine sv (.bool false) 42 rfl rfl (ex_pkF rfl rfl rfl) ?_
    simp only [zp]
    refine sg (.bool false) 2 rfl rfl rfl rfl ?_
    simp only [zp]
    refine st_end ?_
    subst hQ
    refine wp_ret ?_
    repeat (first | refine ret_out ?_ | refine ret_blk ?_)
    refine bodyPost_ret (results_tmp Try.results9 _ _ _) rfl ⟨?_, E⟩
    show Ending.returned (.bool false) = _
    simp [mayR, e0]
theorem right_true {q : RV} (w : World) (h : rightB q.b q.r = true) : Calls Try.prog 24 #[.agg (FL q)] w fun e w' => e = .returned (.bool true) ∧ Below w.heap.size w w' := h ▸ right_any q.b q.r w
theorem right_false {q : RV} (w : World) (h : rightB q.b q.r = false) : Calls Try.prog 24 #[.agg (FL q)] w fun e w' => e = .returned (.bool false) ∧ Below w.heap.size w w' := h ▸ right_any q.b q.r w
set_option maxHeartbeats 2000000 in
theorem rmay_any {q : RV} (w : World) {c : Bool} (hc : mayR q = c) :
    Calls Try.prog 10 #[.agg (RL q)] w fun e w' => e = .returned (.bool c) ∧ Below w.heap.size w w' := by
  subst hc
  by_cases e0 : rightB q.b q.r = true
  · skip
    by_cases e1 : 1 ≤ q.d
    · skip
      by_cases e2 : q.d ≤ 1000
      · skip
        by_cases e3 : 0 ≤ q.g
        · skip
          by_cases e4 : q.g ≤ 1000
          · skip
            by_cases e5 : 1 ≤ q.f
            · skip
              by_cases e6 : q.f ≤ 2147483647
              · skip
                have E : Below w.heap.size w w := Below.refl _ _
                go_enter Try.func10, Try.ntmps10
                refine wq fun Q hQ => ?_
                refine st_new (fun b => .pointer (some ⟨b, 0, none⟩)) (some 1) rfl rfl (ex_box rfl rfl) ?_
                intro b1 W1 k1 g1 B
                simp only [zp]
                have ge_b1 := Nat.le_trans E.size g1
                replace E := below_next E B
                clear B
                refine sg (.bool false) 2 rfl rfl rfl rfl ?_
                simp only [zp]
                refine st_end ?_
                subst hQ
                refine wq fun Q hQ => ?_
                refine sv (.pointer (some ⟨b1, 0, none⟩)) 3 rfl rfl (ex_fa (p := (.pointer (some ⟨b1, 0, none⟩))) rfl rfl (fa25_0 _ _)) ?_
                simp only [zp]
                refine sv (.agg (FL q)) 4 rfl rfl (ex_load (p := (.pointer (some ⟨b1, 0, none⟩))) rfl rfl (ldF k1)) ?_
                simp only [zp]
                refine st_call (some 5) rfl rfl (right_true W1 e0) (ex_call (f := 24) (vs := [(.agg (FL q))]) rfl (cf24 _) rfl) ?_
                rintro e W2 ⟨rfl, B⟩
                refine ⟨_, rfl, ?_⟩
                simp only [zp]
                replace E := below_next E B
                replace k1 := keep B k1
                refine sm (.bool true) 6 rfl rfl rfl rfl ?_
                simp only [zp]
                refine sv (.pointer (some ⟨b1, 2, none⟩)) 7 rfl rfl (ex_fa (p := (.pointer (some ⟨b1, 0, none⟩))) rfl rfl (fa25_1 _ _)) ?_
                simp only [zp]
                refine sv (.int .i64 q.d) 8 rfl rfl (ex_load (p := (.pointer (some ⟨b1, 2, none⟩))) rfl rfl (ld3 (at_cell k1 rfl))) ?_
                simp only [zp]
                refine sv (.bool true) 9 rfl rfl (ex_bin (u := (.int .i64 q.d)) (r := (.int .i64 1)) rfl rfl rfl (eg3 _ _ _ _ _ _) (geq3 _ (decide_eq_true (by omega)))) ?_
                simp only [zp]
                refine sv (.bool true) 10 rfl rfl (ex_pkT rfl rfl rfl) ?_
                simp only [zp]
                refine sm (.bool true) 11 rfl rfl rfl rfl ?_
                simp only [zp]
                refine sv (.pointer (some ⟨b1, 2, none⟩)) 12 rfl rfl (ex_fa (p := (.pointer (some ⟨b1, 0, none⟩))) rfl rfl (fa25_1 _ _)) ?_
                simp only [zp]
                refine sv (.int .i64 q.d) 13 rfl rfl (ex_load (p := (.pointer (some ⟨b1, 2, none⟩))) rfl rfl (ld3 (at_cell k1 rfl))) ?_
                simp only [zp]
                refine sv (.bool true) 14 rfl rfl (ex_bin (u := (.int .i64 q.d)) (r := (.int .i64 1000)) rfl rfl rfl (eg3 _ _ _ _ _ _) (leq3 _ (decide_eq_true (by omega)))) ?_
                simp only [zp]
                refine sv (.bool true) 15 rfl rfl (ex_pkT rfl rfl rfl) ?_
                simp only [zp]
                refine sm (.bool true) 16 rfl rfl rfl rfl ?_
                simp only [zp]
                refine sv (.pointer (some ⟨b1, 3, none⟩)) 17 rfl rfl (ex_fa (p := (.pointer (some ⟨b1, 0, none⟩))) rfl rfl (fa25_2 _ _)) ?_
                simp only [zp]
                refine sv (.int .i64 q.g) 18 rfl rfl (ex_load (p := (.pointer (some ⟨b1, 3, none⟩))) rfl rfl (ld3 (at_cell k1 rfl))) ?_
                simp only [zp]
                refine sv (.bool true) 19 rfl rfl (ex_bin (u := (.int .i64 q.g)) (r := (.int .i64 0)) rfl rfl rfl (eg3 _ _ _ _ _ _) (geq3 _ (decide_eq_true (by omega)))) ?_
                simp only [zp]
                refine sv (.bool true) 20 rfl rfl (ex_pkT rfl rfl rfl) ?_
                simp only [zp]
                refine sm (.bool true) 21 rfl rfl rfl rfl ?_
                simp only [zp]
                refine sv (.pointer (some ⟨b1, 3, none⟩)) 22 rfl rfl (ex_fa (p := (.pointer (some ⟨b1, 0, none⟩))) rfl rfl (fa25_2 _ _)) ?_
                simp only [zp]
                refine sv (.int .i64 q.g) 23 rfl rfl (ex_load (p := (.pointer (some ⟨b1, 3, none⟩))) rfl rfl (ld3 (at_cell k1 rfl))) ?_
                simp only [zp]
                refine sv (.bool true) 24 rfl rfl (ex_bin (u := (.int .i64 q.g)) (r := (.int .i64 1000)) rfl rfl rfl (eg3 _ _ _ _ _ _) (leq3 _ (decide_eq_true (by omega)))) ?_
                simp only [zp]
                refine sv (.bool true) 25 rfl rfl (ex_pkT rfl rfl rfl) ?_
                simp only [zp]
                refine sm (.bool true) 26 rfl rfl rfl rfl ?_
                simp only [zp]
                refine sv (.pointer (some ⟨b1, 4, none⟩)) 27 rfl rfl (ex_fa (p := (.pointer (some ⟨b1, 0, none⟩))) rfl rfl (fa25_3 _ _)) ?_
                simp only [zp]
                refine sv (.int .i64 q.f) 28 rfl rfl (ex_load (p := (.pointer (some ⟨b1, 4, none⟩))) rfl rfl (ld3 (at_cell k1 rfl))) ?_
                simp only [zp]
                refine sv (.bool true) 29 rfl rfl (ex_bin (u := (.int .i64 q.f)) (r := (.int .i64 1)) rfl rfl rfl (eg3 _ _ _ _ _ _) (geq3 _ (decide_eq_true (by omega)))) ?_
                simp only [zp]
                refine sv (.bool true) 30 rfl rfl (ex_pkT rfl rfl rfl) ?_
                simp only [zp]
                refine sm (.bool true) 31 rfl rfl rfl rfl ?_
                simp only [zp]
                refine sv (.pointer (some ⟨b1, 4, none⟩)) 32 rfl rfl (ex_fa (p := (.pointer (some ⟨b1, 0, none⟩))) rfl rfl (fa25_3 _ _)) ?_
                simp only [zp]
                refine sv (.int .i64 q.f) 33 rfl rfl (ex_load (p := (.pointer (some ⟨b1, 4, none⟩))) rfl rfl (ld3 (at_cell k1 rfl))) ?_
                simp only [zp]
                refine sv (.bool true) 34 rfl rfl (ex_bin (u := (.int .i64 q.f)) (r := (.int .i64 2147483647)) rfl rfl rfl (eg3 _ _ _ _ _ _) (leq3 _ (decide_eq_true (by omega)))) ?_
                simp only [zp]
                refine sv (.bool true) 35 rfl rfl (ex_pkT rfl rfl rfl) ?_
                simp only [zp]
                refine sg (.bool true) 2 rfl rfl rfl rfl ?_
                simp only [zp]
                refine st_end ?_
                subst hQ
                refine wp_ret ?_
                repeat (first | refine ret_out ?_ | refine ret_blk ?_)
                refine bodyPost_ret (results_tmp Try.results10 _ _ _) rfl ⟨?_, E⟩
                show Ending.returned (.bool true) = _
                simp [mayR, e0, e1, e2, e3, e4, e5, e6]
              · skip
                have E : Below w.heap.size w w := Below.refl _ _
                go_enter Try.func10, Try.ntmps10
                refine wq fun Q hQ => ?_
                refine st_new (fun b => .pointer (some ⟨b, 0, none⟩)) (some 1) rfl rfl (ex_box rfl rfl) ?_
                intro b1 W1 k1 g1 B
                simp only [zp]
                have ge_b1 := Nat.le_trans E.size g1
                replace E := below_next E B
                clear B
                refine sg (.bool false) 2 rfl rfl rfl rfl ?_
                simp only [zp]
                refine st_end ?_
                subst hQ
                refine wq fun Q hQ => ?_
                refine sv (.pointer (some ⟨b1, 0, none⟩)) 3 rfl rfl (ex_fa (p := (.pointer (some ⟨b1, 0, none⟩))) rfl rfl (fa25_0 _ _)) ?_
                simp only [zp]
                refine sv (.agg (FL q)) 4 rfl rfl (ex_load (p := (.pointer (some ⟨b1, 0, none⟩))) rfl rfl (ldF k1)) ?_
                simp only [zp]
                refine st_call (some 5) rfl rfl (right_true W1 e0) (ex_call (f := 24) (vs := [(.agg (FL q))]) rfl (cf24 _) rfl) ?_
                rintro e W2 ⟨rfl, B⟩
                refine ⟨_, rfl, ?_⟩
                simp only [zp]
                replace E := below_next E B
                replace k1 := keep B k1
                refine sm (.bool true) 6 rfl rfl rfl rfl ?_
                simp only [zp]
                refine sv (.pointer (some ⟨b1, 2, none⟩)) 7 rfl rfl (ex_fa (p := (.pointer (some ⟨b1, 0, none⟩))) rfl rfl (fa25_1 _ _)) ?_
                simp only [zp]
                refine sv (.int .i64 q.d) 8 rfl rfl (ex_load (p := (.pointer (some ⟨b1, 2, none⟩))) rfl rfl (ld3 (at_cell k1 rfl))) ?_
                simp only [zp]
                refine sv (.bool true) 9 rfl rfl (ex_bin (u := (.int .i64 q.d)) (r := (.int .i64 1)) rfl rfl rfl (eg3 _ _ _ _ _ _) (geq3 _ (decide_eq_true (by omega)))) ?_
                simp only [zp]
                refine sv (.bool true) 10 rfl rfl (ex_pkT rfl rfl rfl) ?_
                simp only [zp]
                refine sm (.bool true) 11 rfl rfl rfl rfl ?_
                simp only [zp]
                refine sv (.pointer (some ⟨b1, 2, none⟩)) 12 rfl rfl (ex_fa (p := (.pointer (some ⟨b1, 0, none⟩))) rfl rfl (fa25_1 _ _)) ?_
                simp only [zp]
                refine sv (.int .i64 q.d) 13 rfl rfl (ex_load (p := (.pointer (some ⟨b1, 2, none⟩))) rfl rfl (ld3 (at_cell k1 rfl))) ?_
                simp only [zp]
                refine sv (.bool true) 14 rfl rfl (ex_bin (u := (.int .i64 q.d)) (r := (.int .i64 1000)) rfl rfl rfl (eg3 _ _ _ _ _ _) (leq3 _ (decide_eq_true (by omega)))) ?_
                simp only [zp]
                refine sv (.bool true) 15 rfl rfl (ex_pkT rfl rfl rfl) ?_
                simp only [zp]
                refine sm (.bool true) 16 rfl rfl rfl rfl ?_
                simp only [zp]
                refine sv (.pointer (some ⟨b1, 3, none⟩)) 17 rfl rfl (ex_fa (p := (.pointer (some ⟨b1, 0, none⟩))) rfl rfl (fa25_2 _ _)) ?_
                simp only [zp]
                refine sv (.int .i64 q.g) 18 rfl rfl (ex_load (p := (.pointer (some ⟨b1, 3, none⟩))) rfl rfl (ld3 (at_cell k1 rfl))) ?_
                simp only [zp]
                refine sv (.bool true) 19 rfl rfl (ex_bin (u := (.int .i64 q.g)) (r := (.int .i64 0)) rfl rfl rfl (eg3 _ _ _ _ _ _) (geq3 _ (decide_eq_true (by omega)))) ?_
                simp only [zp]
                refine sv (.bool true) 20 rfl rfl (ex_pkT rfl rfl rfl) ?_
                simp only [zp]
                refine sm (.bool true) 21 rfl rfl rfl rfl ?_
                simp only [zp]
                refine sv (.pointer (some ⟨b1, 3, none⟩)) 22 rfl rfl (ex_fa (p := (.pointer (some ⟨b1, 0, none⟩))) rfl rfl (fa25_2 _ _)) ?_
                simp only [zp]
                refine sv (.int .i64 q.g) 23 rfl rfl (ex_load (p := (.pointer (some ⟨b1, 3, none⟩))) rfl rfl (ld3 (at_cell k1 rfl))) ?_
                simp only [zp]
                refine sv (.bool true) 24 rfl rfl (ex_bin (u := (.int .i64 q.g)) (r := (.int .i64 1000)) rfl rfl rfl (eg3 _ _ _ _ _ _) (leq3 _ (decide_eq_true (by omega)))) ?_
                simp only [zp]
                refine sv (.bool true) 25 rfl rfl (ex_pkT rfl rfl rfl) ?_
                simp only [zp]
                refine sm (.bool true) 26 rfl rfl rfl rfl ?_
                simp only [zp]
                refine sv (.pointer (some ⟨b1, 4, none⟩)) 27 rfl rfl (ex_fa (p := (.pointer (some ⟨b1, 0, none⟩))) rfl rfl (fa25_3 _ _)) ?_
                simp only [zp]
                refine sv (.int .i64 q.f) 28 rfl rfl (ex_load (p := (.pointer (some ⟨b1, 4, none⟩))) rfl rfl (ld3 (at_cell k1 rfl))) ?_
                simp only [zp]
                refine sv (.bool true) 29 rfl rfl (ex_bin (u := (.int .i64 q.f)) (r := (.int .i64 1)) rfl rfl rfl (eg3 _ _ _ _ _ _) (geq3 _ (decide_eq_true (by omega)))) ?_
                simp only [zp]
                refine sv (.bool true) 30 rfl rfl (ex_pkT rfl rfl rfl) ?_
                simp only [zp]
                refine sm (.bool true) 31 rfl rfl rfl rfl ?_
                simp only [zp]
                refine sv (.pointer (some ⟨b1, 4, none⟩)) 32 rfl rfl (ex_fa (p := (.pointer (some ⟨b1, 0, none⟩))) rfl rfl (fa25_3 _ _)) ?_
                simp only [zp]
                refine sv (.int .i64 q.f) 33 rfl rfl (ex_load (p := (.pointer (some ⟨b1, 4, none⟩))) rfl rfl (ld3 (at_cell k1 rfl))) ?_
                simp only [zp]
                refine sv (.bool false) 34 rfl rfl (ex_bin (u := (.int .i64 q.f)) (r := (.int .i64 2147483647)) rfl rfl rfl (eg3 _ _ _ _ _ _) (leq3 _ (decide_eq_false (by omega)))) ?_
                simp only [zp]
                refine sv (.bool false) 35 rfl rfl (ex_pkT rfl rfl rfl) ?_
                simp only [zp]
                refine sg (.bool false) 2 rfl rfl rfl rfl ?_
                simp only [zp]
                refine st_end ?_
                subst hQ
                refine wp_ret ?_
                repeat (first | refine ret_out ?_ | refine ret_blk ?_)
                refine bodyPost_ret (results_tmp Try.results10 _ _ _) rfl ⟨?_, E⟩
                show Ending.returned (.bool false) = _
                simp [mayR, e0, e1, e2, e3, e4, e5, e6]
            · skip
              have E : Below w.heap.size w w := Below.refl _ _
              go_enter Try.func10, Try.ntmps10
              refine wq fun Q hQ => ?_
              refine st_new (fun b => .pointer (some ⟨b, 0, none⟩)) (some 1) rfl rfl (ex_box rfl rfl) ?_
              intro b1 W1 k1 g1 B
              simp only [zp]
              have ge_b1 := Nat.le_trans E.size g1
              replace E := below_next E B
              clear B
              refine sg (.bool false) 2 rfl rfl rfl rfl ?_
              simp only [zp]
              refine st_end ?_
              subst hQ
              refine wq fun Q hQ => ?_
              refine sv (.pointer (some ⟨b1, 0, none⟩)) 3 rfl rfl (ex_fa (p := (.pointer (some ⟨b1, 0, none⟩))) rfl rfl (fa25_0 _ _)) ?_
              simp only [zp]
              refine sv (.agg (FL q)) 4 rfl rfl (ex_load (p := (.pointer (some ⟨b1, 0, none⟩))) rfl rfl (ldF k1)) ?_
              simp only [zp]
              refine st_call (some 5) rfl rfl (right_true W1 e0) (ex_call (f := 24) (vs := [(.agg (FL q))]) rfl (cf24 _) rfl) ?_
              rintro e W2 ⟨rfl, B⟩
              refine ⟨_, rfl, ?_⟩
              simp only [zp]
              replace E := below_next E B
              replace k1 := keep B k1
              refine sm (.bool true) 6 rfl rfl rfl rfl ?_
              simp only [zp]
              refine sv (.pointer (some ⟨b1, 2, none⟩)) 7 rfl rfl (ex_fa (p := (.pointer (some ⟨b1, 0, none⟩))) rfl rfl (fa25_1 _ _)) ?_
              simp only [zp]
              refine sv (.int .i64 q.d) 8 rfl rfl (ex_load (p := (.pointer (some ⟨b1, 2, none⟩))) rfl rfl (ld3 (at_cell k1 rfl))) ?_
              simp only [zp]
              refine sv (.bool true) 9 rfl rfl (ex_bin (u := (.int .i64 q.d)) (r := (.int .i64 1)) rfl rfl rfl (eg3 _ _ _ _ _ _) (geq3 _ (decide_eq_true (by omega)))) ?_
              simp only [zp]
              refine sv (.bool true) 10 rfl rfl (ex_pkT rfl rfl rfl) ?_
              simp only [zp]
              refine sm (.bool true) 11 rfl rfl rfl rfl ?_
              simp only [zp]
              refine sv (.pointer (some ⟨b1, 2, none⟩)) 12 rfl rfl (ex_fa (p := (.pointer (some ⟨b1, 0, none⟩))) rfl rfl (fa25_1 _ _)) ?_
              simp only [zp]
              refine sv (.int .i64 q.d) 13 rfl rfl (ex_load (p := (.pointer (some ⟨b1, 2, none⟩))) rfl rfl (ld3 (at_cell k1 rfl))) ?_
              simp only [zp]
              refine sv (.bool true) 14 rfl rfl (ex_bin (u := (.int .i64 q.d)) (r := (.int .i64 1000)) rfl rfl rfl (eg3 _ _ _ _ _ _) (leq3 _ (decide_eq_true (by omega)))) ?_
              simp only [zp]
              refine sv (.bool true) 15 rfl rfl (ex_pkT rfl rfl rfl) ?_
              simp only [zp]
              refine sm (.bool true) 16 rfl rfl rfl rfl ?_
              simp only [zp]
              refine sv (.pointer (some ⟨b1, 3, none⟩)) 17 rfl rfl (ex_fa (p := (.pointer (some ⟨b1, 0, none⟩))) rfl rfl (fa25_2 _ _)) ?_
              simp only [zp]
              refine sv (.int .i64 q.g) 18 rfl rfl (ex_load (p := (.pointer (some ⟨b1, 3, none⟩))) rfl rfl (ld3 (at_cell k1 rfl))) ?_
              simp only [zp]
              refine sv (.bool true) 19 rfl rfl (ex_bin (u := (.int .i64 q.g)) (r := (.int .i64 0)) rfl rfl rfl (eg3 _ _ _ _ _ _) (geq3 _ (decide_eq_true (by omega)))) ?_
              simp only [zp]
              refine sv (.bool true) 20 rfl rfl (ex_pkT rfl rfl rfl) ?_
              simp only [zp]
              refine sm (.bool true) 21 rfl rfl rfl rfl ?_
              simp only [zp]
              refine sv (.pointer (some ⟨b1, 3, none⟩)) 22 rfl rfl (ex_fa (p := (.pointer (some ⟨b1, 0, none⟩))) rfl rfl (fa25_2 _ _)) ?_
              simp only [zp]
              refine sv (.int .i64 q.g) 23 rfl rfl (ex_load (p := (.pointer (some ⟨b1, 3, none⟩))) rfl rfl (ld3 (at_cell k1 rfl))) ?_
              simp only [zp]
              refine sv (.bool true) 24 rfl rfl (ex_bin (u := (.int .i64 q.g)) (r := (.int .i64 1000)) rfl rfl rfl (eg3 _ _ _ _ _ _) (leq3 _ (decide_eq_true (by omega)))) ?_
              simp only [zp]
              refine sv (.bool true) 25 rfl rfl (ex_pkT rfl rfl rfl) ?_
              simp only [zp]
              refine sm (.bool true) 26 rfl rfl rfl rfl ?_
              simp only [zp]
              refine sv (.pointer (some ⟨b1, 4, none⟩)) 27 rfl rfl (ex_fa (p := (.pointer (some ⟨b1, 0, none⟩))) rfl rfl (fa25_3 _ _)) ?_
              simp only [zp]
              refine sv (.int .i64 q.f) 28 rfl rfl (ex_load (p := (.pointer (some ⟨b1, 4, none⟩))) rfl rfl (ld3 (at_cell k1 rfl))) ?_
              simp only [zp]
              refine sv (.bool false) 29 rfl rfl (ex_bin (u := (.int .i64 q.f)) (r := (.int .i64 1)) rfl rfl rfl (eg3 _ _ _ _ _ _) (geq3 _ (decide_eq_false (by omega)))) ?_
              simp only [zp]
              refine sv (.bool false) 30 rfl rfl (ex_pkT rfl rfl rfl) ?_
              simp only [zp]
              refine sm (.bool false) 31 rfl rfl rfl rfl ?_
              simp only [zp]
              refine sn 32 rfl rfl ?_
              simp only [zp]
              refine sn 33 rfl rfl ?_
              simp only [zp]
              refine sn 34 rfl rfl ?_
              simp only [zp]
              refine sv (.bool false) 35 rfl rfl (ex_pkF rfl rfl rfl) ?_
              simp only [zp]
              refine sg (.bool false) 2 rfl rfl rfl rfl ?_
              simp only [zp]
              refine st_end ?_
              subst hQ
              refine wp_ret ?_
              repeat (first | refine ret_out ?_ | refine ret_blk ?_)
              refine bodyPost_ret (results_tmp Try.results10 _ _ _) rfl ⟨?_, E⟩
              show Ending.returned (.bool false) = _
              simp [mayR, e0, e1, e2, e3, e4, e5]
          · skip
            have E : Below w.heap.size w w := Below.refl _ _
            go_enter Try.func10, Try.ntmps10
            refine wq fun Q hQ => ?_
            refine st_new (fun b => .pointer (some ⟨b, 0, none⟩)) (some 1) rfl rfl (ex_box rfl rfl) ?_
            intro b1 W1 k1 g1 B
            simp only [zp]
            have ge_b1 := Nat.le_trans E.size g1
            replace E := below_next E B
            clear B
            refine sg (.bool false) 2 rfl rfl rfl rfl ?_
            simp only [zp]
            refine st_end ?_
            subst hQ
            refine wq fun Q hQ => ?_
            refine sv (.pointer (some ⟨b1, 0, none⟩)) 3 rfl rfl (ex_fa (p := (.pointer (some ⟨b1, 0, none⟩))) rfl rfl (fa25_0 _ _)) ?_
            simp only [zp]
            refine sv (.agg (FL q)) 4 rfl rfl (ex_load (p := (.pointer (some ⟨b1, 0, none⟩))) rfl rfl (ldF k1)) ?_
            simp only [zp]
            refine st_call (some 5) rfl rfl (right_true W1 e0) (ex_call (f := 24) (vs := [(.agg (FL q))]) rfl (cf24 _) rfl) ?_
            rintro e W2 ⟨rfl, B⟩
            refine ⟨_, rfl, ?_⟩
            simp only [zp]
            replace E := below_next E B
            replace k1 := keep B k1
            refine sm (.bool true) 6 rfl rfl rfl rfl ?_
            simp only [zp]
            refine sv (.pointer (some ⟨b1, 2, none⟩)) 7 rfl rfl (ex_fa (p := (.pointer (some ⟨b1, 0, none⟩))) rfl rfl (fa25_1 _ _)) ?_
            simp only [zp]
            refine sv (.int .i64 q.d) 8 rfl rfl (ex_load (p := (.pointer (some ⟨b1, 2, none⟩))) rfl rfl (ld3 (at_cell k1 rfl))) ?_
            simp only [zp]
            refine sv (.bool true) 9 rfl rfl (ex_bin (u := (.int .i64 q.d)) (r := (.int .i64 1)) rfl rfl rfl (eg3 _ _ _ _ _ _) (geq3 _ (decide_eq_true (by omega)))) ?_
            simp only [zp]
            refine sv (.bool true) 10 rfl rfl (ex_pkT rfl rfl rfl) ?_
            simp only [zp]
            refine sm (.bool true) 11 rfl rfl rfl rfl ?_
            simp only [zp]
            refine sv (.pointer (some ⟨b1, 2, none⟩)) 12 rfl rfl (ex_fa (p := (.pointer (some ⟨b1, 0, none⟩))) rfl rfl (fa25_1 _ _)) ?_
            simp only [zp]
            refine sv (.int .i64 q.d) 13 rfl rfl (ex_load (p := (.pointer (some ⟨b1, 2, none⟩))) rfl rfl (ld3 (at_cell k1 rfl))) ?_
            simp only [zp]
            refine sv (.bool true) 14 rfl rfl (ex_bin (u := (.int .i64 q.d)) (r := (.int .i64 1000)) rfl rfl rfl (eg3 _ _ _ _ _ _) (leq3 _ (decide_eq_true (by omega)))) ?_
            simp only [zp]
            refine sv (.bool true) 15 rfl rfl (ex_pkT rfl rfl rfl) ?_
            simp only [zp]
            refine sm (.bool true) 16 rfl rfl rfl rfl ?_
            simp only [zp]
            refine sv (.pointer (some ⟨b1, 3, none⟩)) 17 rfl rfl (ex_fa (p := (.pointer (some ⟨b1, 0, none⟩))) rfl rfl (fa25_2 _ _)) ?_
            simp only [zp]
            refine sv (.int .i64 q.g) 18 rfl rfl (ex_load (p := (.pointer (some ⟨b1, 3, none⟩))) rfl rfl (ld3 (at_cell k1 rfl))) ?_
            simp only [zp]
            refine sv (.bool true) 19 rfl rfl (ex_bin (u := (.int .i64 q.g)) (r := (.int .i64 0)) rfl rfl rfl (eg3 _ _ _ _ _ _) (geq3 _ (decide_eq_true (by omega)))) ?_
            simp only [zp]
            refine sv (.bool true) 20 rfl rfl (ex_pkT rfl rfl rfl) ?_
            simp only [zp]
            refine sm (.bool true) 21 rfl rfl rfl rfl ?_
            simp only [zp]
            refine sv (.pointer (some ⟨b1, 3, none⟩)) 22 rfl rfl (ex_fa (p := (.pointer (some ⟨b1, 0, none⟩))) rfl rfl (fa25_2 _ _)) ?_
            simp only [zp]
            refine sv (.int .i64 q.g) 23 rfl rfl (ex_load (p := (.pointer (some ⟨b1, 3, none⟩))) rfl rfl (ld3 (at_cell k1 rfl))) ?_
            simp only [zp]
            refine sv (.bool false) 24 rfl rfl (ex_bin (u := (.int .i64 q.g)) (r := (.int .i64 1000)) rfl rfl rfl (eg3 _ _ _ _ _ _) (leq3 _ (decide_eq_false (by omega)))) ?_
            simp only [zp]
            refine sv (.bool false) 25 rfl rfl (ex_pkT rfl rfl rfl) ?_
            simp only [zp]
            refine sm (.bool false) 26 rfl rfl rfl rfl ?_
            simp only [zp]
            refine sn 27 rfl rfl ?_
            simp only [zp]
            refine sn 28 rfl rfl ?_
            simp only [zp]
            refine sn 29 rfl rfl ?_
            simp only [zp]
            refine sv (.bool false) 30 rfl rfl (ex_pkF rfl rfl rfl) ?_
            simp only [zp]
            refine sm (.bool false) 31 rfl rfl rfl rfl ?_
            simp only [zp]
            refine sn 32 rfl rfl ?_
            simp only [zp]
            refine sn 33 rfl rfl ?_
            simp only [zp]
            refine sn 34 rfl rfl ?_
            simp only [zp]
            refine sv (.bool false) 35 rfl rfl (ex_pkF rfl rfl rfl) ?_
            simp only [zp]
            refine sg (.bool false) 2 rfl rfl rfl rfl ?_
            simp only [zp]
            refine st_end ?_
            subst hQ
            refine wp_ret ?_
            repeat (first | refine ret_out ?_ | refine ret_blk ?_)
            refine bodyPost_ret (results_tmp Try.results10 _ _ _) rfl ⟨?_, E⟩
            show Ending.returned (.bool false) = _
            simp [mayR, e0, e1, e2, e3, e4]
        · skip
          have E : Below w.heap.size w w := Below.refl _ _
          go_enter Try.func10, Try.ntmps10
          refine wq fun Q hQ => ?_
          refine st_new (fun b => .pointer (some ⟨b, 0, none⟩)) (some 1) rfl rfl (ex_box rfl rfl) ?_
          intro b1 W1 k1 g1 B
          simp only [zp]
          have ge_b1 := Nat.le_trans E.size g1
          replace E := below_next E B
          clear B
          refine sg (.bool false) 2 rfl rfl rfl rfl ?_
          simp only [zp]
          refine st_end ?_
          subst hQ
          refine wq fun Q hQ => ?_
          refine sv (.pointer (some ⟨b1, 0, none⟩)) 3 rfl rfl (ex_fa (p := (.pointer (some ⟨b1, 0, none⟩))) rfl rfl (fa25_0 _ _)) ?_
          simp only [zp]
          refine sv (.agg (FL q)) 4 rfl rfl (ex_load (p := (.pointer (some ⟨b1, 0, none⟩))) rfl rfl (ldF k1)) ?_
          simp only [zp]
          refine st_call (some 5) rfl rfl (right_true W1 e0) (ex_call (f := 24) (vs := [(.agg (FL q))]) rfl (cf24 _) rfl) ?_
          rintro e W2 ⟨rfl, B⟩
          refine ⟨_, rfl, ?_⟩
          simp only [zp]
          replace E := below_next E B
          replace k1 := keep B k1
          refine sm (.bool true) 6 rfl rfl rfl rfl ?_
          simp only [zp]
          refine sv (.pointer (some ⟨b1, 2, none⟩)) 7 rfl rfl (ex_fa (p := (.pointer (some ⟨b1, 0, none⟩))) rfl rfl (fa25_1 _ _)) ?_
          simp only [zp]
          refine sv (.int .i64 q.d) 8 rfl rfl (ex_load (p := (.pointer (some ⟨b1, 2, none⟩))) rfl rfl (ld3 (at_cell k1 rfl))) ?_
          simp only [zp]
          refine sv (.bool true) 9 rfl rfl (ex_bin (u := (.int .i64 q.d)) (r := (.int .i64 1)) rfl rfl rfl (eg3 _ _ _ _ _ _) (geq3 _ (decide_eq_true (by omega)))) ?_
          simp only [zp]
          refine sv (.bool true) 10 rfl rfl (ex_pkT rfl rfl rfl) ?_
          simp only [zp]
          refine sm (.bool true) 11 rfl rfl rfl rfl ?_
          simp only [zp]
          refine sv (.pointer (some ⟨b1, 2, none⟩)) 12 rfl rfl (ex_fa (p := (.pointer (some ⟨b1, 0, none⟩))) rfl rfl (fa25_1 _ _)) ?_
          simp only [zp]
          refine sv (.int .i64 q.d) 13 rfl rfl (ex_load (p := (.pointer (some ⟨b1, 2, none⟩))) rfl rfl (ld3 (at_cell k1 rfl))) ?_
          simp only [zp]
          refine sv (.bool true) 14 rfl rfl (ex_bin (u := (.int .i64 q.d)) (r := (.int .i64 1000)) rfl rfl rfl (eg3 _ _ _ _ _ _) (leq3 _ (decide_eq_true (by omega)))) ?_
          simp only [zp]
          refine sv (.bool true) 15 rfl rfl (ex_pkT rfl rfl rfl) ?_
          simp only [zp]
          refine sm (.bool true) 16 rfl rfl rfl rfl ?_
          simp only [zp]
          refine sv (.pointer (some ⟨b1, 3, none⟩)) 17 rfl rfl (ex_fa (p := (.pointer (some ⟨b1, 0, none⟩))) rfl rfl (fa25_2 _ _)) ?_
          simp only [zp]
          refine sv (.int .i64 q.g) 18 rfl rfl (ex_load (p := (.pointer (some ⟨b1, 3, none⟩))) rfl rfl (ld3 (at_cell k1 rfl))) ?_
          simp only [zp]
          refine sv (.bool false) 19 rfl rfl (ex_bin (u := (.int .i64 q.g)) (r := (.int .i64 0)) rfl rfl rfl (eg3 _ _ _ _ _ _) (geq3 _ (decide_eq_false (by omega)))) ?_
          simp only [zp]
          refine sv (.bool false) 20 rfl rfl (ex_pkT rfl rfl rfl) ?_
          simp only [zp]
          refine sm (.bool false) 21 rfl rfl rfl rfl ?_
          simp only [zp]
          refine sn 22 rfl rfl ?_
          simp only [zp]
          refine sn 23 rfl rfl ?_
          simp only [zp]
          refine sn 24 rfl rfl ?_
          simp only [zp]
          refine sv (.bool false) 25 rfl rfl (ex_pkF rfl rfl rfl) ?_
          simp only [zp]
          refine sm (.bool false) 26 rfl rfl rfl rfl ?_
          simp only [zp]
          refine sn 27 rfl rfl ?_
          simp only [zp]
          refine sn 28 rfl rfl ?_
          simp only [zp]
          refine sn 29 rfl rfl ?_
          simp only [zp]
          refine sv (.bool false) 30 rfl rfl (ex_pkF rfl rfl rfl) ?_
          simp only [zp]
          refine sm (.bool false) 31 rfl rfl rfl rfl ?_
          simp only [zp]
          refine sn 32 rfl rfl ?_
          simp only [zp]
          refine sn 33 rfl rfl ?_
          simp only [zp]
          refine sn 34 rfl rfl ?_
          simp only [zp]
          refine sv (.bool false) 35 rfl rfl (ex_pkF rfl rfl rfl) ?_
          simp only [zp]
          refine sg (.bool false) 2 rfl rfl rfl rfl ?_
          simp only [zp]
          refine st_end ?_
          subst hQ
          refine wp_ret ?_
          repeat (first | refine ret_out ?_ | refine ret_blk ?_)
          refine bodyPost_ret (results_tmp Try.results10 _ _ _) rfl ⟨?_, E⟩
          show Ending.returned (.bool false) = _
          simp [mayR, e0, e1, e2, e3]
      · skip
        have E : Below w.heap.size w w := Below.refl _ _
        go_enter Try.func10, Try.ntmps10
        refine wq fun Q hQ => ?_
        refine st_new (fun b => .pointer (some ⟨b, 0, none⟩)) (some 1) rfl rfl (ex_box rfl rfl) ?_
        intro b1 W1 k1 g1 B
        simp only [zp]
        have ge_b1 := Nat.le_trans E.size g1
        replace E := below_next E B
        clear B
        refine sg (.bool false) 2 rfl rfl rfl rfl ?_
        simp only [zp]
        refine st_end ?_
        subst hQ
        refine wq fun Q hQ => ?_
        refine sv (.pointer (some ⟨b1, 0, none⟩)) 3 rfl rfl (ex_fa (p := (.pointer (some ⟨b1, 0, none⟩))) rfl rfl (fa25_0 _ _)) ?_
        simp only [zp]
        refine sv (.agg (FL q)) 4 rfl rfl (ex_load (p := (.pointer (some ⟨b1, 0, none⟩))) rfl rfl (ldF k1)) ?_
        simp only [zp]
        refine st_call (some 5) rfl rfl (right_true W1 e0) (ex_call (f := 24) (vs := [(.agg (FL q))]) rfl (cf24 _) rfl) ?_
        rintro e W2 ⟨rfl, B⟩
        refine ⟨_, rfl, ?_⟩
        simp only [zp]
        replace E := below_next E B
        replace k1 := keep B k1
        refine sm (.bool true) 6 rfl rfl rfl rfl ?_
        simp only [zp]
        refine sv (.pointer (some ⟨b1, 2, none⟩)) 7 rfl rfl (ex_fa (p := (.pointer (some ⟨b1, 0, none⟩))) rfl rfl (fa25_1 _ _)) ?_
        simp only [zp]
        refine sv (.int .i64 q.d) 8 rfl rfl (ex_load (p := (.pointer (some ⟨b1, 2, none⟩))) rfl rfl (ld3 (at_cell k1 rfl))) ?_
        simp only [zp]
        refine sv (.bool true) 9 rfl rfl (ex_bin (u := (.int .i64 q.d)) (r := (.int .i64 1)) rfl rfl rfl (eg3 _ _ _ _ _ _) (geq3 _ (decide_eq_true (by omega)))) ?_
        simp only [zp]
        refine sv (.bool true) 10 rfl rfl (ex_pkT rfl rfl rfl) ?_
        simp only [zp]
        refine sm (.bool true) 11 rfl rfl rfl rfl ?_
        simp only [zp]
        refine sv (.pointer (some ⟨b1, 2, none⟩)) 12 rfl rfl (ex_fa (p := (.pointer (some ⟨b1, 0, none⟩))) rfl rfl (fa25_1 _ _)) ?_
        simp only [zp]
        refine sv (.int .i64 q.d) 13 rfl rfl (ex_load (p := (.pointer (some ⟨b1, 2, none⟩))) rfl rfl (ld3 (at_cell k1 rfl))) ?_
        simp only [zp]
        refine sv (.bool false) 14 rfl rfl (ex_bin (u := (.int .i64 q.d)) (r := (.int .i64 1000)) rfl rfl rfl (eg3 _ _ _ _ _ _) (leq3 _ (decide_eq_false (by omega)))) ?_
        simp only [zp]
        refine sv (.bool false) 15 rfl rfl (ex_pkT rfl rfl rfl) ?_
        simp only [zp]
        refine sm (.bool false) 16 rfl rfl rfl rfl ?_
        simp only [zp]
        refine sn 17 rfl rfl ?_
        simp only [zp]
        refine sn 18 rfl rfl ?_
        simp only [zp]
        refine sn 19 rfl rfl ?_
        simp only [zp]
        refine sv (.bool false) 20 rfl rfl (ex_pkF rfl rfl rfl) ?_
        simp only [zp]
        refine sm (.bool false) 21 rfl rfl rfl rfl ?_
        simp only [zp]
        refine sn 22 rfl rfl ?_
        simp only [zp]
        refine sn 23 rfl rfl ?_
        simp only [zp]
        refine sn 24 rfl rfl ?_
        simp only [zp]
        refine sv (.bool false) 25 rfl rfl (ex_pkF rfl rfl rfl) ?_
        simp only [zp]
        refine sm (.bool false) 26 rfl rfl rfl rfl ?_
        simp only [zp]
        refine sn 27 rfl rfl ?_
        simp only [zp]
        refine sn 28 rfl rfl ?_
        simp only [zp]
        refine sn 29 rfl rfl ?_
        simp only [zp]
        refine sv (.bool false) 30 rfl rfl (ex_pkF rfl rfl rfl) ?_
        simp only [zp]
        refine sm (.bool false) 31 rfl rfl rfl rfl ?_
        simp only [zp]
        refine sn 32 rfl rfl ?_
        simp only [zp]
        refine sn 33 rfl rfl ?_
        simp only [zp]
        refine sn 34 rfl rfl ?_
        simp only [zp]
        refine sv (.bool false) 35 rfl rfl (ex_pkF rfl rfl rfl) ?_
        simp only [zp]
        refine sg (.bool false) 2 rfl rfl rfl rfl ?_
        simp only [zp]
        refine st_end ?_
        subst hQ
        refine wp_ret ?_
        repeat (first | refine ret_out ?_ | refine ret_blk ?_)
        refine bodyPost_ret (results_tmp Try.results10 _ _ _) rfl ⟨?_, E⟩
        show Ending.returned (.bool false) = _
        simp [mayR, e0, e1, e2]
    · skip
      have E : Below w.heap.size w w := Below.refl _ _
      go_enter Try.func10, Try.ntmps10
      refine wq fun Q hQ => ?_
      refine st_new (fun b => .pointer (some ⟨b, 0, none⟩)) (some 1) rfl rfl (ex_box rfl rfl) ?_
      intro b1 W1 k1 g1 B
      simp only [zp]
      have ge_b1 := Nat.le_trans E.size g1
      replace E := below_next E B
      clear B
      refine sg (.bool false) 2 rfl rfl rfl rfl ?_
      simp only [zp]
      refine st_end ?_
      subst hQ
      refine wq fun Q hQ => ?_
      refine sv (.pointer (some ⟨b1, 0, none⟩)) 3 rfl rfl (ex_fa (p := (.pointer (some ⟨b1, 0, none⟩))) rfl rfl (fa25_0 _ _)) ?_
      simp only [zp]
      refine sv (.agg (FL q)) 4 rfl rfl (ex_load (p := (.pointer (some ⟨b1, 0, none⟩))) rfl rfl (ldF k1)) ?_
      simp only [zp]
      refine st_call (some 5) rfl rfl (right_true W1 e0) (ex_call (f := 24) (vs := [(.agg (FL q))]) rfl (cf24 _) rfl) ?_
      rintro e W2 ⟨rfl, B⟩
      refine ⟨_, rfl, ?_⟩
      simp only [zp]
      replace E := below_next E B
      replace k1 := keep B k1
      refine sm (.bool true) 6 rfl rfl rfl rfl ?_
      simp only [zp]
      refine sv (.pointer (some ⟨b1, 2, none⟩)) 7 rfl rfl (ex_fa (p := (.pointer (some ⟨b1, 0, none⟩))) rfl rfl (fa25_1 _ _)) ?_
      simp only [zp]
      refine sv (.int .i64 q.d) 8 rfl rfl (ex_load (p := (.pointer (some ⟨b1, 2, none⟩))) rfl rfl (ld3 (at_cell k1 rfl))) ?_
      simp only [zp]
      refine sv (.bool false) 9 rfl rfl (ex_bin (u := (.int .i64 q.d)) (r := (.int .i64 1)) rfl rfl rfl (eg3 _ _ _ _ _ _) (geq3 _ (decide_eq_false (by omega)))) ?_
      simp only [zp]
      refine sv (.bool false) 10 rfl rfl (ex_pkT rfl rfl rfl) ?_
      simp only [zp]
      refine sm (.bool false) 11 rfl rfl rfl rfl ?_
      simp only [zp]
      refine sn 12 rfl rfl ?_
      simp only [zp]
      refine sn 13 rfl rfl ?_
      simp only [zp]
      refine sn 14 rfl rfl ?_
      simp only [zp]
      refine sv (.bool false) 15 rfl rfl (ex_pkF rfl rfl rfl) ?_
      simp only [zp]
      refine sm (.bool false) 16 rfl rfl rfl rfl ?_
      simp only [zp]
      refine sn 17 rfl rfl ?_
      simp only [zp]
      refine sn 18 rfl rfl ?_
      simp only [zp]
      refine sn 19 rfl rfl ?_
      simp only [zp]
      refine sv (.bool false) 20 rfl rfl (ex_pkF rfl rfl rfl) ?_
      simp only [zp]
      refine sm (.bool false) 21 rfl rfl rfl rfl ?_
      simp only [zp]
      refine sn 22 rfl rfl ?_
      simp only [zp]
      refine sn 23 rfl rfl ?_
      simp only [zp]
      refine sn 24 rfl rfl ?_
      simp only [zp]
      refine sv (.bool false) 25 rfl rfl (ex_pkF rfl rfl rfl) ?_
      simp only [zp]
      refine sm (.bool false) 26 rfl rfl rfl rfl ?_
      simp only [zp]
      refine sn 27 rfl rfl ?_
      simp only [zp]
      refine sn 28 rfl rfl ?_
      simp only [zp]
      refine sn 29 rfl rfl ?_
      simp only [zp]
      refine sv (.bool false) 30 rfl rfl (ex_pkF rfl rfl rfl) ?_
      simp only [zp]
      refine sm (.bool false) 31 rfl rfl rfl rfl ?_
      simp only [zp]
      refine sn 32 rfl rfl ?_
      simp only [zp]
      refine sn 33 rfl rfl ?_
      simp only [zp]
      refine sn 34 rfl rfl ?_
      simp only [zp]
      refine sv (.bool false) 35 rfl rfl (ex_pkF rfl rfl rfl) ?_
      simp only [zp]
      refine sg (.bool false) 2 rfl rfl rfl rfl ?_
      simp only [zp]
      refine st_end ?_
      subst hQ
      refine wp_ret ?_
      repeat (first | refine ret_out ?_ | refine ret_blk ?_)
      refine bodyPost_ret (results_tmp Try.results10 _ _ _) rfl ⟨?_, E⟩
      show Ending.returned (.bool false) = _
      simp [mayR, e0, e1]
  · skip
    replace e0 := Bool.eq_false_iff.2 e0
    have E : Below w.heap.size w w := Below.refl _ _
    go_enter Try.func10, Try.ntmps10
    refine wq fun Q hQ => ?_
    refine st_new (fun b => .pointer (some ⟨b, 0, none⟩)) (some 1) rfl rfl (ex_box rfl rfl) ?_
    intro b1 W1 k1 g1 B
    simp only [zp]
    have ge_b1 := Nat.le_trans E.size g1
    replace E := below_next E B
    clear B
    refine sg (.bool false) 2 rfl rfl rfl rfl ?_
    simp only [zp]
    refine st_end ?_
    subst hQ
    refine wq fun Q hQ => ?_
    refine sv (.pointer (some ⟨b1, 0, none⟩)) 3 rfl rfl (ex_fa (p := (.pointer (some ⟨b1, 0, none⟩))) rfl rfl (fa25_0 _ _)) ?_
    simp only [zp]
    refine sv (.agg (FL q)) 4 rfl rfl (ex_load (p := (.pointer (some ⟨b1, 0, none⟩))) rfl rfl (ldF k1)) ?_
    simp only [zp]
    refine st_call (some 5) rfl rfl (right_false W1 e0) (ex_call (f := 24) (vs := [(.agg (FL q))]) rfl (cf24 _) rfl) ?_
    rintro e W2 ⟨rfl, B⟩
    refine ⟨_, rfl, ?_⟩
    simp only [zp]
    replace E := below_next E B
    replace k1 := keep B k1
    refine sm (.bool false) 6 rfl rfl rfl rfl ?_
    simp only [zp]
    refine sn 7 rfl rfl ?_
    simp only [zp]
    refine sn 8 rfl rfl ?_
    simp only [zp]
    refine sn 9 rfl rfl ?_
    simp only [zp]
    refine sv (.bool false) 10 rfl rfl (ex_pkF rfl rfl rfl) ?_
    simp only [zp]
    refine sm (.bool false) 11 rfl rfl rfl rfl ?_
    simp only [zp]
    refine sn 12 rfl rfl ?_
    simp only [zp]
    refine sn 13 rfl rfl ?_
    simp only [zp]
    refine sn 14 rfl rfl ?_
    simp only [zp]
    refine sv (.bool false) 15 rfl rfl (ex_pkF rfl rfl rfl) ?_
    simp only [zp]
    refine sm (.bool false) 16 rfl rfl rfl rfl ?_
    simp only [zp]
    refine sn 17 rfl rfl ?_
    simp only [zp]
    refine sn 18 rfl rfl ?_
    simp only [zp]
    refine sn 19 rfl rfl ?_
    simp only [zp]
    refine sv (.bool false) 20 rfl rfl (ex_pkF rfl rfl rfl) ?_
    simp only [zp]
    refine sm (.bool false) 21 rfl rfl rfl rfl ?_
    simp only [zp]
    refine sn 22 rfl rfl ?_
    simp only [zp]
    refine sn 23 rfl rfl ?_
    simp only [zp]
    refine sn 24 rfl rfl ?_
    simp only [zp]
    refine sv (.bool false) 25 rfl rfl (ex_pkF rfl rfl rfl) ?_
    simp only [zp]
    refine sm (.bool false) 26 rfl rfl rfl rfl ?_
    simp only [zp]
    refine sn 27 rfl rfl ?_
    simp only [zp]
    refine sn 28 rfl rfl ?_
    simp only [zp]
    refine sn 29 rfl rfl ?_
    simp only [zp]
    refine sv (.bool false) 30 rfl rfl (ex_pkF rfl rfl rfl) ?_
    simp only [zp]
    refine sm (.bool false) 31 rfl rfl rfl rfl ?_
    simp only [zp]
    refine sn 32 rfl rfl ?_
    simp only [zp]
    refine sn 33 rfl rfl ?_
    simp only [zp]
    refine sn 34 rfl rfl ?_
    simp only [zp]
    refine sv (.bool false) 35 rfl rfl (ex_pkF rfl rfl rfl) ?_
    simp only [zp]
    refine sg (.bool false) 2 rfl rfl rfl rfl ?_
    simp only [zp]
    refine st_end ?_
    subst hQ
    refine wp_ret ?_
    repeat (first | refine ret_out ?_ | refine ret_blk ?_)
    refine bodyPost_ret (results_tmp Try.results10 _ _ _) rfl ⟨?_, E⟩
    show Ending.returned (.bool false) = _
    simp [mayR, e0]
theorem okh_any (x : Int) (w : World) {c : Bool} (hc : okH x = c) :
    Calls Try.prog 42 #[.int .i64 x] w fun e w' => e = .returned (.bool c) ∧ Below w.heap.size w w' := by
  subst hc
  by_cases e0 : 0 ≤ x
  · skip
    by_cases e1 : x ≤ 2147483647
    · skip
      have E : Below w.heap.size w w := Below.refl _ _
      go_enter Try.func42, Try.ntmps42
      refine wq fun Q hQ => ?_
      refine sg (.bool false) 2 rfl rfl rfl rfl ?_
      simp only [zp]
      refine st_end ?_
      subst hQ
      refine wq fun Q hQ => ?_
      refine sm (.int .i64 x) 3 rfl rfl rfl rfl ?_
      simp only [zp]
      refine sv (.bool true) 4 rfl rfl (ex_bin (u := (.int .i64 0)) (r := (.int .i64 x)) rfl rfl rfl (eg3 _ _ _ _ _ _) (leq3 _ (decide_eq_true (by omega)))) ?_
      simp only [zp]
      refine sm (.bool true) 5 rfl rfl rfl rfl ?_
      simp only [zp]
      refine sm (.int .i64 x) 6 rfl rfl rfl rfl ?_
      simp only [zp]
      refine sv (.bool true) 7 rfl rfl (ex_bin (u := (.int .i64 x)) (r := (.int .i64 2147483647)) rfl rfl rfl (eg3 _ _ _ _ _ _) (leq3 _ (decide_eq_true (by omega)))) ?_
      simp only [zp]
      refine sv (.bool true) 8 rfl rfl (ex_pkT rfl rfl rfl) ?_
      simp only [zp]
      refine sg (.bool true) 2 rfl rfl rfl rfl ?_
      simp only [zp]
      refine st_end ?_
      subst hQ
      refine wp_ret ?_
      repeat (first | refine ret_out ?_ | refine ret_blk ?_)
      refine bodyPost_ret (results_tmp Try.results42 _ _ _) rfl ⟨?_, E⟩
      show Ending.returned (.bool true) = _
      simp [okH, e0, e1]
    · skip
      have E : Below w.heap.size w w := Below.refl _ _
      go_enter Try.func42, Try.ntmps42
      refine wq fun Q hQ => ?_
      refine sg (.bool false) 2 rfl rfl rfl rfl ?_
      simp only [zp]
      refine st_end ?_
      subst hQ
      refine wq fun Q hQ => ?_
      refine sm (.int .i64 x) 3 rfl rfl rfl rfl ?_
      simp only [zp]
      refine sv (.bool true) 4 rfl rfl (ex_bin (u := (.int .i64 0)) (r := (.int .i64 x)) rfl rfl rfl (eg3 _ _ _ _ _ _) (leq3 _ (decide_eq_true (by omega)))) ?_
      simp only [zp]
      refine sm (.bool true) 5 rfl rfl rfl rfl ?_
      simp only [zp]
      refine sm (.int .i64 x) 6 rfl rfl rfl rfl ?_
      simp only [zp]
      refine sv (.bool false) 7 rfl rfl (ex_bin (u := (.int .i64 x)) (r := (.int .i64 2147483647)) rfl rfl rfl (eg3 _ _ _ _ _ _) (leq3 _ (decide_eq_false (by omega)))) ?_
      simp only [zp]
      refine sv (.bool false) 8 rfl rfl (ex_pkT rfl rfl rfl) ?_
      simp only [zp]
      refine sg (.bool false) 2 rfl rfl rfl rfl ?_
      simp only [zp]
      refine st_end ?_
      subst hQ
      refine wp_ret ?_
      repeat (first | refine ret_out ?_ | refine ret_blk ?_)
      refine bodyPost_ret (results_tmp Try.results42 _ _ _) rfl ⟨?_, E⟩
      show Ending.returned (.bool false) = _
      simp [okH, e0, e1]
  · skip
    have E : Below w.heap.size w w := Below.refl _ _
    go_enter Try.func42, Try.ntmps42
    refine wq fun Q hQ => ?_
    refine sg (.bool false) 2 rfl rfl rfl rfl ?_
    simp only [zp]
    refine st_end ?_
    subst hQ
    refine wq fun Q hQ => ?_
    refine sm (.int .i64 x) 3 rfl rfl rfl rfl ?_
    simp only [zp]
    refine sv (.bool false) 4 rfl rfl (ex_bin (u := (.int .i64 0)) (r := (.int .i64 x)) rfl rfl rfl (eg3 _ _ _ _ _ _) (leq3 _ (decide_eq_false (by omega)))) ?_
    simp only [zp]
    refine sm (.bool false) 5 rfl rfl rfl rfl ?_
    simp only [zp]
    refine sn 6 rfl rfl ?_
    simp only [zp]
    refine sn 7 rfl rfl ?_
    simp only [zp]
    refine sv (.bool false) 8 rfl rfl (ex_pkF rfl rfl rfl) ?_
    simp only [zp]
    refine sg (.bool false) 2 rfl rfl rfl rfl ?_
    simp only [zp]
    refine st_end ?_
    subst hQ
    refine wp_ret ?_
    repeat (first | refine ret_out ?_ | refine ret_blk ?_)
    refine bodyPost_ret (results_tmp Try.results42 _ _ _) rfl ⟨?_, E⟩
    show Ending.returned (.bool false) = _
    simp [okH, e0]
set_option maxHeartbeats 2000000 in
theorem wrong_any {q : RV} {a x h : Int} (w : World) (hb : q.b ≤ 9223372036854775807) {c : Bool} (hc : wrongB q a x h = c) :
    Calls Try.prog 27 #[.agg (XL q a x h)] w fun e w' => e = .returned (.bool c) ∧ Below w.heap.size w w' := by
  subst hc
  by_cases e0 : mayR q = true
  · skip
    by_cases e1 : a < 0
    · skip
      have E : Below w.heap.size w w := Below.refl _ _
      go_enter Try.func27, Try.ntmps27
      refine wq fun Q hQ => ?_
      refine st_new (fun b => .pointer (some ⟨b, 0, none⟩)) (some 1) rfl rfl (ex_box rfl rfl) ?_
      intro b1 W1 k1 g1 B
      simp only [zp]
      have ge_b1 := Nat.le_trans E.size g1
      replace E := below_next E B
      clear B
      refine sg (.bool false) 2 rfl rfl rfl rfl ?_
      simp only [zp]
      refine st_end ?_
      subst hQ
      refine wq fun Q hQ => ?_
      refine sv (.pointer (some ⟨b1, 0, none⟩)) 3 rfl rfl (ex_fa (p := (.pointer (some ⟨b1, 0, none⟩))) rfl rfl (fa50_0 _ _)) ?_
      simp only [zp]
      refine sv (.agg (RL q)) 4 rfl rfl (ex_load (p := (.pointer (some ⟨b1, 0, none⟩))) rfl rfl (ldR k1)) ?_
      simp only [zp]
      refine st_call (some 5) rfl rfl (may_any W1 hb e0) (ex_call (f := 9) (vs := [(.agg (RL q))]) rfl (cf9 _) rfl) ?_
      rintro e W2 ⟨rfl, B⟩
      refine ⟨_, rfl, ?_⟩
      simp only [zp]
      replace E := below_next E B
      replace k1 := keep B k1
      refine sv (.bool false) 6 rfl rfl (ex_not rfl rfl rfl) ?_
      simp only [zp]
      refine sm (.bool false) 7 rfl rfl rfl rfl ?_
      simp only [zp]
      refine sv (.pointer (some ⟨b1, 5, none⟩)) 8 rfl rfl (ex_fa (p := (.pointer (some ⟨b1, 0, none⟩))) rfl rfl (fa50_1 _ _)) ?_
      simp only [zp]
      refine sv (.int .i64 a) 9 rfl rfl (ex_load (p := (.pointer (some ⟨b1, 5, none⟩))) rfl rfl (ld3 (at_cell k1 rfl))) ?_
      simp only [zp]
      refine sv (.bool true) 10 rfl rfl (ex_bin (u := (.int .i64 a)) (r := (.int .i64 0)) rfl rfl rfl (eg3 _ _ _ _ _ _) (lss3 _ (decide_eq_true (by omega)))) ?_
      simp only [zp]
      refine sv (.bool true) 11 rfl rfl (ex_pkF rfl rfl rfl) ?_
      simp only [zp]
      refine sm (.bool true) 12 rfl rfl rfl rfl ?_
      simp only [zp]
      refine sn 13 rfl rfl ?_
      simp only [zp]
      refine sn 14 rfl rfl ?_
      simp only [zp]
      refine sn 15 rfl rfl ?_
      simp only [zp]
      refine sn 16 rfl rfl ?_
      simp only [zp]
      refine sv (.bool true) 17 rfl rfl (ex_pkT rfl rfl rfl) ?_
      simp only [zp]
      refine sm (.bool true) 18 rfl rfl rfl rfl ?_
      simp only [zp]
      refine sn 19 rfl rfl ?_
      simp only [zp]
      refine sn 20 rfl rfl ?_
      simp only [zp]
      refine sn 21 rfl rfl ?_
      simp only [zp]
      refine sn 22 rfl rfl ?_
      simp only [zp]
      refine sv (.bool true) 23 rfl rfl (ex_pkT rfl rfl rfl) ?_
      simp only [zp]
      refine sg (.bool true) 2 rfl rfl rfl rfl ?_
      simp only [zp]
      refine st_end ?_
      subst hQ
      refine wp_ret ?_
      repeat (first | refine ret_out ?_ | refine ret_blk ?_)
      refine bodyPost_ret (results_tmp Try.results27 _ _ _) rfl ⟨?_, E⟩
      show Ending.returned (.bool true) = _
      simp [wrongB, e0, e1]
    · skip
      by_cases e2 : okH x = true
      · skip
        by_cases e3 : okH h = true
        · skip
          have E : Below w.heap.size w w := Below.refl _ _
          go_enter Try.func27, Try.ntmps27
          refine wq fun Q hQ => ?_
          refine st_new (fun b => .pointer (some ⟨b, 0, none⟩)) (some 1) rfl rfl (ex_box rfl rfl) ?_
          intro b1 W1 k1 g1 B
          simp only [zp]
          have ge_b1 := Nat.le_trans E.size g1
          replace E := below_next E B
          clear B
          refine sg (.bool false) 2 rfl rfl rfl rfl ?_
          simp only [zp]
          refine st_end ?_
          subst hQ
          refine wq fun Q hQ => ?_
          refine sv (.pointer (some ⟨b1, 0, none⟩)) 3 rfl rfl (ex_fa (p := (.pointer (some ⟨b1, 0, none⟩))) rfl rfl (fa50_0 _ _)) ?_
          simp only [zp]
          refine sv (.agg (RL q)) 4 rfl rfl (ex_load (p := (.pointer (some ⟨b1, 0, none⟩))) rfl rfl (ldR k1)) ?_
          simp only [zp]
          refine st_call (some 5) rfl rfl (may_any W1 hb e0) (ex_call (f := 9) (vs := [(.agg (RL q))]) rfl (cf9 _) rfl) ?_
          rintro e W2 ⟨rfl, B⟩
          refine ⟨_, rfl, ?_⟩
          simp only [zp]
          replace E := below_next E B
          replace k1 := keep B k1
          refine sv (.bool false) 6 rfl rfl (ex_not rfl rfl rfl) ?_
          simp only [zp]
          refine sm (.bool false) 7 rfl rfl rfl rfl ?_
          simp only [zp]
          refine sv (.pointer (some ⟨b1, 5, none⟩)) 8 rfl rfl (ex_fa (p := (.pointer (some ⟨b1, 0, none⟩))) rfl rfl (fa50_1 _ _)) ?_
          simp only [zp]
          refine sv (.int .i64 a) 9 rfl rfl (ex_load (p := (.pointer (some ⟨b1, 5, none⟩))) rfl rfl (ld3 (at_cell k1 rfl))) ?_
          simp only [zp]
          refine sv (.bool false) 10 rfl rfl (ex_bin (u := (.int .i64 a)) (r := (.int .i64 0)) rfl rfl rfl (eg3 _ _ _ _ _ _) (lss3 _ (decide_eq_false (by omega)))) ?_
          simp only [zp]
          refine sv (.bool false) 11 rfl rfl (ex_pkF rfl rfl rfl) ?_
          simp only [zp]
          refine sm (.bool false) 12 rfl rfl rfl rfl ?_
          simp only [zp]
          refine sv (.pointer (some ⟨b1, 6, none⟩)) 13 rfl rfl (ex_fa (p := (.pointer (some ⟨b1, 0, none⟩))) rfl rfl (fa50_2 _ _)) ?_
          simp only [zp]
          refine sv (.int .i64 x) 14 rfl rfl (ex_load (p := (.pointer (some ⟨b1, 6, none⟩))) rfl rfl (ld3 (at_cell k1 rfl))) ?_
          simp only [zp]
          refine st_call (some 15) rfl rfl (okh_any _ W2 e2) (ex_call (f := 42) (vs := [(.int .i64 x)]) rfl (cf42 _) rfl) ?_
          rintro e W3 ⟨rfl, B⟩
          refine ⟨_, rfl, ?_⟩
          simp only [zp]
          replace E := below_next E B
          replace k1 := keep B k1
          refine sv (.bool false) 16 rfl rfl (ex_not rfl rfl rfl) ?_
          simp only [zp]
          refine sv (.bool false) 17 rfl rfl (ex_pkF rfl rfl rfl) ?_
          simp only [zp]
          refine sm (.bool false) 18 rfl rfl rfl rfl ?_
          simp only [zp]
          refine sv (.pointer (some ⟨b1, 7, none⟩)) 19 rfl rfl (ex_fa (p := (.pointer (some ⟨b1, 0, none⟩))) rfl rfl (fa50_3 _ _)) ?_
          simp only [zp]
          refine sv (.int .i64 h) 20 rfl rfl (ex_load (p := (.pointer (some ⟨b1, 7, none⟩))) rfl rfl (ld3 (at_cell k1 rfl))) ?_
          simp only [zp]
          refine st_call (some 21) rfl rfl (okh_any _ W3 e3) (ex_call (f := 42) (vs := [(.int .i64 h)]) rfl (cf42 _) rfl) ?_
          rintro e W4 ⟨rfl, B⟩
          refine ⟨_, rfl, ?_⟩
          simp only [zp]
          replace E := below_next E B
          replace k1 := keep B k1
          refine sv (.bool false) 22 rfl rfl (ex_not rfl rfl rfl) ?_
          simp only [zp]
          refine sv (.bool false) 23 rfl rfl (ex_pkF rfl rfl rfl) ?_
          simp only [zp]
          refine sg (.bool false) 2 rfl rfl rfl rfl ?_
          simp only [zp]
          refine st_end ?_
          subst hQ
          refine wp_ret ?_
          repeat (first | refine ret_out ?_ | refine ret_blk ?_)
          refine bodyPost_ret (results_tmp Try.results27 _ _ _) rfl ⟨?_, E⟩
          show Ending.returned (.bool false) = _
          simp [wrongB, e0, e1, e2, e3]
        · skip
          replace e3 := Bool.eq_false_iff.2 e3
          have E : Below w.heap.size w w := Below.refl _ _
          go_enter Try.func27, Try.ntmps27
          refine wq fun Q hQ => ?_
          refine st_new (fun b => .pointer (some ⟨b, 0, none⟩)) (some 1) rfl rfl (ex_box rfl rfl) ?_
          intro b1 W1 k1 g1 B
          simp only [zp]
          have ge_b1 := Nat.le_trans E.size g1
          replace E := below_next E B
          clear B
          refine sg (.bool false) 2 rfl rfl rfl rfl ?_
          simp only [zp]
          refine st_end ?_
          subst hQ
          refine wq fun Q hQ => ?_
          refine sv (.pointer (some ⟨b1, 0, none⟩)) 3 rfl rfl (ex_fa (p := (.pointer (some ⟨b1, 0, none⟩))) rfl rfl (fa50_0 _ _)) ?_
          simp only [zp]
          refine sv (.agg (RL q)) 4 rfl rfl (ex_load (p := (.pointer (some ⟨b1, 0, none⟩))) rfl rfl (ldR k1)) ?_
          simp only [zp]
          refine st_call (some 5) rfl rfl (may_any W1 hb e0) (ex_call (f := 9) (vs := [(.agg (RL q))]) rfl (cf9 _) rfl) ?_
          rintro e W2 ⟨rfl, B⟩
          refine ⟨_, rfl, ?_⟩
          simp only [zp]
          replace E := below_next E B
          replace k1 := keep B k1
          refine sv (.bool false) 6 rfl rfl (ex_not rfl rfl rfl) ?_
          simp only [zp]
          refine sm (.bool false) 7 rfl rfl rfl rfl ?_
          simp only [zp]
          refine sv (.pointer (some ⟨b1, 5, none⟩)) 8 rfl rfl (ex_fa (p := (.pointer (some ⟨b1, 0, none⟩))) rfl rfl (fa50_1 _ _)) ?_
          simp only [zp]
          refine sv (.int .i64 a) 9 rfl rfl (ex_load (p := (.pointer (some ⟨b1, 5, none⟩))) rfl rfl (ld3 (at_cell k1 rfl))) ?_
          simp only [zp]
          refine sv (.bool false) 10 rfl rfl (ex_bin (u := (.int .i64 a)) (r := (.int .i64 0)) rfl rfl rfl (eg3 _ _ _ _ _ _) (lss3 _ (decide_eq_false (by omega)))) ?_
          simp only [zp]
          refine sv (.bool false) 11 rfl rfl (ex_pkF rfl rfl rfl) ?_
          simp only [zp]
          refine sm (.bool false) 12 rfl rfl rfl rfl ?_
          simp only [zp]
          refine sv (.pointer (some ⟨b1, 6, none⟩)) 13 rfl rfl (ex_fa (p := (.pointer (some ⟨b1, 0, none⟩))) rfl rfl (fa50_2 _ _)) ?_
          simp only [zp]
          refine sv (.int .i64 x) 14 rfl rfl (ex_load (p := (.pointer (some ⟨b1, 6, none⟩))) rfl rfl (ld3 (at_cell k1 rfl))) ?_
          simp only [zp]
          refine st_call (some 15) rfl rfl (okh_any _ W2 e2) (ex_call (f := 42) (vs := [(.int .i64 x)]) rfl (cf42 _) rfl) ?_
          rintro e W3 ⟨rfl, B⟩
          refine ⟨_, rfl, ?_⟩
          simp only [zp]
          replace E := below_next E B
          replace k1 := keep B k1
          refine sv (.bool false) 16 rfl rfl (ex_not rfl rfl rfl) ?_
          simp only [zp]
          refine sv (.bool false) 17 rfl rfl (ex_pkF rfl rfl rfl) ?_
          simp only [zp]
          refine sm (.bool false) 18 rfl rfl rfl rfl ?_
          simp only [zp]
          refine sv (.pointer (some ⟨b1, 7, none⟩)) 19 rfl rfl (ex_fa (p := (.pointer (some ⟨b1, 0, none⟩))) rfl rfl (fa50_3 _ _)) ?_
          simp only [zp]
          refine sv (.int .i64 h) 20 rfl rfl (ex_load (p := (.pointer (some ⟨b1, 7, none⟩))) rfl rfl (ld3 (at_cell k1 rfl))) ?_
          simp only [zp]
          refine st_call (some 21) rfl rfl (okh_any _ W3 e3) (ex_call (f := 42) (vs := [(.int .i64 h)]) rfl (cf42 _) rfl) ?_
          rintro e W4 ⟨rfl, B⟩
          refine ⟨_, rfl, ?_⟩
          simp only [zp]
          replace E := below_next E B
          replace k1 := keep B k1
          refine sv (.bool true) 22 rfl rfl (ex_not rfl rfl rfl) ?_
          simp only [zp]
          refine sv (.bool true) 23 rfl rfl (ex_pkF rfl rfl rfl) ?_
          simp only [zp]
          refine sg (.bool true) 2 rfl rfl rfl rfl ?_
          simp only [zp]
          refine st_end ?_
          subst hQ
          refine wp_ret ?_
          repeat (first | refine ret_out ?_ | refine ret_blk ?_)
          refine bodyPost_ret (results_tmp Try.results27 _ _ _) rfl ⟨?_, E⟩
          show Ending.returned (.bool true) = _
          simp [wrongB, e0, e1, e2, e3]
      · skip
        replace e2 := Bool.eq_false_iff.2 e2
        have E : Below w.heap.size w w := Below.refl _ _
        go_enter Try.func27, Try.ntmps27
        refine wq fun Q hQ => ?_
        refine st_new (fun b => .pointer (some ⟨b, 0, none⟩)) (some 1) rfl rfl (ex_box rfl rfl) ?_
        intro b1 W1 k1 g1 B
        simp only [zp]
        have ge_b1 := Nat.le_trans E.size g1
        replace E := below_next E B
        clear B
        refine sg (.bool false) 2 rfl rfl rfl rfl ?_
        simp only [zp]
        refine st_end ?_
        subst hQ
        refine wq fun Q hQ => ?_
        refine sv (.pointer (some ⟨b1, 0, none⟩)) 3 rfl rfl (ex_fa (p := (.pointer (some ⟨b1, 0, none⟩))) rfl rfl (fa50_0 _ _)) ?_
        simp only [zp]
        refine sv (.agg (RL q)) 4 rfl rfl (ex_load (p := (.pointer (some ⟨b1, 0, none⟩))) rfl rfl (ldR k1)) ?_
        simp only [zp]
        refine st_call (some 5) rfl rfl (may_any W1 hb e0) (ex_call (f := 9) (vs := [(.agg (RL q))]) rfl (cf9 _) rfl) ?_
        rintro e W2 ⟨rfl, B⟩
        refine ⟨_, rfl, ?_⟩
        simp only [zp]
        replace E := below_next E B
        replace k1 := keep B k1
        refine sv (.bool false) 6 rfl rfl (ex_not rfl rfl rfl) ?_
        simp only [zp]
        refine sm (.bool false) 7 rfl rfl rfl rfl ?_
        simp only [zp]
        refine sv (.pointer (some ⟨b1, 5, none⟩)) 8 rfl rfl (ex_fa (p := (.pointer (some ⟨b1, 0, none⟩))) rfl rfl (fa50_1 _ _)) ?_
        simp only [zp]
        refine sv (.int .i64 a) 9 rfl rfl (ex_load (p := (.pointer (some ⟨b1, 5, none⟩))) rfl rfl (ld3 (at_cell k1 rfl))) ?_
        simp only [zp]
        refine sv (.bool false) 10 rfl rfl (ex_bin (u := (.int .i64 a)) (r := (.int .i64 0)) rfl rfl rfl (eg3 _ _ _ _ _ _) (lss3 _ (decide_eq_false (by omega)))) ?_
        simp only [zp]
        refine sv (.bool false) 11 rfl rfl (ex_pkF rfl rfl rfl) ?_
        simp only [zp]
        refine sm (.bool false) 12 rfl rfl rfl rfl ?_
        simp only [zp]
        refine sv (.pointer (some ⟨b1, 6, none⟩)) 13 rfl rfl (ex_fa (p := (.pointer (some ⟨b1, 0, none⟩))) rfl rfl (fa50_2 _ _)) ?_
        simp only [zp]
        refine sv (.int .i64 x) 14 rfl rfl (ex_load (p := (.pointer (some ⟨b1, 6, none⟩))) rfl rfl (ld3 (at_cell k1 rfl))) ?_
        simp only [zp]
        refine st_call (some 15) rfl rfl (okh_any _ W2 e2) (ex_call (f := 42) (vs := [(.int .i64 x)]) rfl (cf42 _) rfl) ?_
        rintro e W3 ⟨rfl, B⟩
        refine ⟨_, rfl, ?_⟩
        simp only [zp]
        replace E := below_next E B
        replace k1 := keep B k1
        refine sv (.bool true) 16 rfl rfl (ex_not rfl rfl rfl) ?_
        simp only [zp]
        refine sv (.bool true) 17 rfl rfl (ex_pkF rfl rfl rfl) ?_
        simp only [zp]
        refine sm (.bool true) 18 rfl rfl rfl rfl ?_
        simp only [zp]
        refine sn 19 rfl rfl ?_
        simp only [zp]
        refine sn 20 rfl rfl ?_
        simp only [zp]
        refine sn 21 rfl rfl ?_
        simp only [zp]
        refine sn 22 rfl rfl ?_
        simp only [zp]
        refine sv (.bool true) 23 rfl rfl (ex_pkT rfl rfl rfl) ?_
        simp only [zp]
        refine sg (.bool true) 2 rfl rfl rfl rfl ?_
        simp only [zp]
        refine st_end ?_
        subst hQ
        refine wp_ret ?_
        repeat (first | refine ret_out ?_ | refine ret_blk ?_)
        refine bodyPost_ret (results_tmp Try.results27 _ _ _) rfl ⟨?_, E⟩
        show Ending.returned (.bool true) = _
        simp [wrongB, e0, e1, e2]
  · skip
    replace e0 := Bool.eq_false_iff.2 e0
    have E : Below w.heap.size w w := Below.refl _ _
    go_enter Try.func27, Try.ntmps27
    refine wq fun Q hQ => ?_
    refine st_new (fun b => .pointer (some ⟨b, 0, none⟩)) (some 1) rfl rfl (ex_box rfl rfl) ?_
    intro b1 W1 k1 g1 B
    simp only [zp]
    have ge_b1 := Nat.le_trans E.size g1
    replace E := below_next E B
    clear B
    refine sg (.bool false) 2 rfl rfl rfl rfl ?_
    simp only [zp]
    refine st_end ?_
    subst hQ
    refine wq fun Q hQ => ?_
    refine sv (.pointer (some ⟨b1, 0, none⟩)) 3 rfl rfl (ex_fa (p := (.pointer (some ⟨b1, 0, none⟩))) rfl rfl (fa50_0 _ _)) ?_
    simp only [zp]
    refine sv (.agg (RL q)) 4 rfl rfl (ex_load (p := (.pointer (some ⟨b1, 0, none⟩))) rfl rfl (ldR k1)) ?_
    simp only [zp]
    refine st_call (some 5) rfl rfl (may_any W1 hb e0) (ex_call (f := 9) (vs := [(.agg (RL q))]) rfl (cf9 _) rfl) ?_
    rintro e W2 ⟨rfl, B⟩
    refine ⟨_, rfl, ?_⟩
    simp only [zp]
    replace E := below_next E B
    replace k1 := keep B k1
    refine sv (.bool true) 6 rfl rfl (ex_not rfl rfl rfl) ?_
    simp only [zp]
    refine sm (.bool true) 7 rfl rfl rfl rfl ?_
    simp only [zp]
    refine sn 8 rfl rfl ?_
    simp only [zp]
    refine sn 9 rfl rfl ?_
    simp only [zp]
    refine sn 10 rfl rfl ?_
    simp only [zp]
    refine sv (.bool true) 11 rfl rfl (ex_pkT rfl rfl rfl) ?_
    simp only [zp]
    refine sm (.bool true) 12 rfl rfl rfl rfl ?_
    simp only [zp]
    refine sn 13 rfl rfl ?_
    simp only [zp]
    refine sn 14 rfl rfl ?_
    simp only [zp]
    refine sn 15 rfl rfl ?_
    simp only [zp]
    refine sn 16 rfl rfl ?_
    simp only [zp]
    refine sv (.bool true) 17 rfl rfl (ex_pkT rfl rfl rfl) ?_
    simp only [zp]
    refine sm (.bool true) 18 rfl rfl rfl rfl ?_
    simp only [zp]
    refine sn 19 rfl rfl ?_
    simp only [zp]
    refine sn 20 rfl rfl ?_
    simp only [zp]
    refine sn 21 rfl rfl ?_
    simp only [zp]
    refine sn 22 rfl rfl ?_
    simp only [zp]
    refine sv (.bool true) 23 rfl rfl (ex_pkT rfl rfl rfl) ?_
    simp only [zp]
    refine sg (.bool true) 2 rfl rfl rfl rfl ?_
    simp only [zp]
    refine st_end ?_
    subst hQ
    refine wp_ret ?_
    repeat (first | refine ret_out ?_ | refine ret_blk ?_)
    refine bodyPost_ret (results_tmp Try.results27 _ _ _) rfl ⟨?_, E⟩
    show Ending.returned (.bool true) = _
    simp [wrongB, e0]
theorem far_any {q : RV} {a x h : Int} (w : World) (x0 : 0 ≤ x) (x1 : x ≤ 2147483647) (h0 : 0 ≤ h) (h1 : h ≤ 2147483647) {c : Bool} (hc : decide (q.f < x - h) = c) :
    Calls Try.prog 28 #[.agg (XL q a x h)] w fun e w' => e = .returned (.bool c) ∧ Below w.heap.size w w' := by
  have E : Below w.heap.size w w := Below.refl _ _
  go_enter Try.func28, Try.ntmps28
  refine wq fun Q hQ => ?_
  refine st_new (fun b => .pointer (some ⟨b, 0, none⟩)) (some 1) rfl rfl (ex_box rfl rfl) ?_
  intro b1 W1 k1 g1 B
  simp only [zp]
  have ge_b1 := Nat.le_trans E.size g1
  replace E := below_next E B
  clear B
  refine sg (.bool false) 2 rfl rfl rfl rfl ?_
  simp only [zp]
  refine st_end ?_
  subst hQ
  refine wq fun Q hQ => ?_
  refine sv (.pointer (some ⟨b1, 6, none⟩)) 3 rfl rfl (ex_fa (p := (.pointer (some ⟨b1, 0, none⟩))) rfl rfl (fa50_2 _ _)) ?_
  simp only [zp]
  refine sv (.int .i64 x) 4 rfl rfl (ex_load (p := (.pointer (some ⟨b1, 6, none⟩))) rfl rfl (ld3 (at_cell k1 rfl))) ?_
  simp only [zp]
  refine sv (.pointer (some ⟨b1, 7, none⟩)) 5 rfl rfl (ex_fa (p := (.pointer (some ⟨b1, 0, none⟩))) rfl rfl (fa50_3 _ _)) ?_
  simp only [zp]
  refine sv (.int .i64 h) 6 rfl rfl (ex_load (p := (.pointer (some ⟨b1, 7, none⟩))) rfl rfl (ld3 (at_cell k1 rfl))) ?_
  simp only [zp]
  refine sv (.int .i64 (x - h)) 7 rfl rfl (ex_bin (u := (.int .i64 x)) (r := (.int .i64 h)) rfl rfl rfl (eg3 _ _ _ _ _ _) (sub3 _ rfl (by omega))) ?_
  simp only [zp]
  refine sv (.pointer (some ⟨b1, 0, none⟩)) 8 rfl rfl (ex_fa (p := (.pointer (some ⟨b1, 0, none⟩))) rfl rfl (fa50_0 _ _)) ?_
  simp only [zp]
  refine sv (.pointer (some ⟨b1, 4, none⟩)) 9 rfl rfl (ex_fa (p := (.pointer (some ⟨b1, 0, none⟩))) rfl rfl (fa25_3 _ _)) ?_
  simp only [zp]
  refine sv (.int .i64 q.f) 10 rfl rfl (ex_load (p := (.pointer (some ⟨b1, 4, none⟩))) rfl rfl (ld3 (at_cell k1 rfl))) ?_
  simp only [zp]
  refine sv (.bool c) 11 rfl rfl (ex_bin (u := (.int .i64 (x - h))) (r := (.int .i64 q.f)) rfl rfl rfl (eg3 _ _ _ _ _ _) (gtr3 _ hc)) ?_
  simp only [zp]
  refine sg (.bool c) 2 rfl rfl rfl rfl ?_
  simp only [zp]
  refine st_end ?_
  subst hQ
  refine wp_ret ?_
  refine bodyPost_ret (results_tmp Try.results28 _ _ _) rfl ⟨rfl, E⟩
theorem soon_any {q : RV} {a x h y : Int} (w : World) (h0 : 0 ≤ h) (h1 : h ≤ 2147483647) (g0 : 0 ≤ q.g) (g1 : q.g ≤ 1000) {c : Bool} (hc : decide (y ≤ h + q.g) = c) :
    Calls Try.prog 30 #[.agg (XL q a x h), .int .i64 y] w fun e w' => e = .returned (.bool c) ∧ Below w.heap.size w w' := by
  have E : Below w.heap.size w w := Below.refl _ _
  go_enter Try.func30, Try.ntmps30
  refine wq fun Q hQ => ?_
  refine st_new (fun b => .pointer (some ⟨b, 0, none⟩)) (some 2) rfl rfl (ex_box rfl rfl) ?_
  intro b1 W1 k1 g1 B
  simp only [zp]
  have ge_b1 := Nat.le_trans E.size g1
  replace E := below_next E B
  clear B
  refine sg (.bool false) 4 rfl rfl rfl rfl ?_
  simp only [zp]
  refine st_end ?_
  subst hQ
  refine wq fun Q hQ => ?_
  refine sm (.int .i64 y) 5 rfl rfl rfl rfl ?_
  simp only [zp]
  refine sv (.pointer (some ⟨b1, 7, none⟩)) 6 rfl rfl (ex_fa (p := (.pointer (some ⟨b1, 0, none⟩))) rfl rfl (fa50_3 _ _)) ?_
  simp only [zp]
  refine sv (.int .i64 h) 7 rfl rfl (ex_load (p := (.pointer (some ⟨b1, 7, none⟩))) rfl rfl (ld3 (at_cell k1 rfl))) ?_
  simp only [zp]
  refine sv (.pointer (some ⟨b1, 0, none⟩)) 8 rfl rfl (ex_fa (p := (.pointer (some ⟨b1, 0, none⟩))) rfl rfl (fa50_0 _ _)) ?_
  simp only [zp]
  refine sv (.pointer (some ⟨b1, 3, none⟩)) 9 rfl rfl (ex_fa (p := (.pointer (some ⟨b1, 0, none⟩))) rfl rfl (fa25_2 _ _)) ?_
  simp only [zp]
  refine sv (.int .i64 q.g) 10 rfl rfl (ex_load (p := (.pointer (some ⟨b1, 3, none⟩))) rfl rfl (ld3 (at_cell k1 rfl))) ?_
  simp only [zp]
  refine sv (.int .i64 (h + q.g)) 11 rfl rfl (ex_bin (u := (.int .i64 h)) (r := (.int .i64 q.g)) rfl rfl rfl (eg3 _ _ _ _ _ _) (add3 _ rfl (by omega))) ?_
  simp only [zp]
  refine sv (.bool c) 12 rfl rfl (ex_bin (u := (.int .i64 y)) (r := (.int .i64 (h + q.g))) rfl rfl rfl (eg3 _ _ _ _ _ _) (leq3 _ hc)) ?_
  simp only [zp]
  refine sg (.bool c) 4 rfl rfl rfl rfl ?_
  simp only [zp]
  refine st_end ?_
  subst hQ
  refine wp_ret ?_
  refine bodyPost_ret (results_tmp Try.results30 _ _ _) rfl ⟨rfl, E⟩
set_option maxHeartbeats 2000000 in
theorem belowx_any {q : RV} {a x h y : Int} (w : World) (hb : q.b ≤ 9223372036854775807) (y0 : -9223372036854775808 ≤ y) (y1 : y ≤ 9223372036854775807) {c : Bool} (hc : belowB q a y = c) :
    Calls Try.prog 34 #[.agg (XL q a x h), .int .i64 y] w fun e w' => e = .returned (.bool c) ∧ Below w.heap.size w w' := by
  subst hc
  by_cases e0 : inE q.b q.r y = 0
  · skip
    by_cases e1 : a < inN q.b q.r y
    · skip
      have E : Below w.heap.size w w := Below.refl _ _
      go_enter Try.func34, Try.ntmps34
      refine wq fun Q hQ => ?_
      refine st_new (fun b => .pointer (some ⟨b, 0, none⟩)) (some 2) rfl rfl (ex_box rfl rfl) ?_
      intro b1 W1 k1 g1 B
      simp only [zp]
      have ge_b1 := Nat.le_trans E.size g1
      replace E := below_next E B
      clear B
      refine sg (.bool false) 4 rfl rfl rfl rfl ?_
      simp only [zp]
      refine st_end ?_
      subst hQ
      refine wq fun Q hQ => ?_
      refine sv (.pointer (some ⟨b1, 0, none⟩)) 8 rfl rfl (ex_fa (p := (.pointer (some ⟨b1, 0, none⟩))) rfl rfl (fa50_0 _ _)) ?_
      simp only [zp]
      refine sv (.pointer (some ⟨b1, 0, none⟩)) 9 rfl rfl (ex_fa (p := (.pointer (some ⟨b1, 0, none⟩))) rfl rfl (fa25_0 _ _)) ?_
      simp only [zp]
      refine sv (.agg (FL q)) 10 rfl rfl (ex_load (p := (.pointer (some ⟨b1, 0, none⟩))) rfl rfl (ldF2 k1)) ?_
      simp only [zp]
      refine sm (.int .i64 y) 11 rfl rfl rfl rfl ?_
      simp only [zp]
      refine st_call (some 12) rfl rfl (in_any q.b q.r y W1 hb y0 y1) (ex_call (f := 45) (vs := [(.agg (FL q)), (.int .i64 y)]) rfl (cf45 _) rfl) ?_
      rintro e W2 ⟨rfl, B⟩
      refine ⟨_, rfl, ?_⟩
      simp only [zp]
      replace E := below_next E B
      replace k1 := keep B k1
      refine sm (.tuple #[(.int .i64 (inN q.b q.r y)), (.int .i64 (inE q.b q.r y))]) 7 rfl rfl rfl rfl ?_
      simp only [zp]
      refine sv (.int .i64 (inN q.b q.r y)) 13 rfl rfl (ex_ext rfl rfl rfl) ?_
      simp only [zp]
      refine sv (.int .i64 (inE q.b q.r y)) 14 rfl rfl (ex_ext rfl rfl rfl) ?_
      simp only [zp]
      refine sg (.int .i64 (inN q.b q.r y)) 5 rfl rfl rfl rfl ?_
      simp only [zp]
      refine sg (.int .i64 (inE q.b q.r y)) 6 rfl rfl rfl rfl ?_
      simp only [zp]
      refine st_end ?_
      subst hQ
      refine wq fun Q hQ => ?_
      refine sm (.int .i64 (inE q.b q.r y)) 15 rfl rfl rfl rfl ?_
      simp only [zp]
      refine sv (.bool false) 16 rfl rfl (ex_bin (u := (.int .i64 (inE q.b q.r y))) (r := (.int .i64 0)) rfl rfl rfl (eg37 _ _ _ _ _ _) (neq37 _ (decide_eq_false (fun h => h e0)))) ?_
      simp only [zp]
      refine sm (.bool false) 17 rfl rfl rfl rfl ?_
      simp only [zp]
      refine sv (.pointer (some ⟨b1, 5, none⟩)) 18 rfl rfl (ex_fa (p := (.pointer (some ⟨b1, 0, none⟩))) rfl rfl (fa50_1 _ _)) ?_
      simp only [zp]
      refine sv (.int .i64 a) 19 rfl rfl (ex_load (p := (.pointer (some ⟨b1, 5, none⟩))) rfl rfl (ld3 (at_cell k1 rfl))) ?_
      simp only [zp]
      refine sm (.int .i64 (inN q.b q.r y)) 20 rfl rfl rfl rfl ?_
      simp only [zp]
      refine sv (.bool true) 21 rfl rfl (ex_bin (u := (.int .i64 a)) (r := (.int .i64 (inN q.b q.r y))) rfl rfl rfl (eg3 _ _ _ _ _ _) (lss3 _ (decide_eq_true e1))) ?_
      simp only [zp]
      refine sv (.bool true) 22 rfl rfl (ex_pkF rfl rfl rfl) ?_
      simp only [zp]
      refine sg (.bool true) 4 rfl rfl rfl rfl ?_
      simp only [zp]
      refine st_end ?_
      subst hQ
      refine wp_ret ?_
      repeat (first | refine ret_out ?_ | refine ret_blk ?_)
      refine bodyPost_ret (results_tmp Try.results34 _ _ _) rfl ⟨?_, E⟩
      show Ending.returned (.bool true) = _
      simp [belowB, e0, e1]
    · skip
      have E : Below w.heap.size w w := Below.refl _ _
      go_enter Try.func34, Try.ntmps34
      refine wq fun Q hQ => ?_
      refine st_new (fun b => .pointer (some ⟨b, 0, none⟩)) (some 2) rfl rfl (ex_box rfl rfl) ?_
      intro b1 W1 k1 g1 B
      simp only [zp]
      have ge_b1 := Nat.le_trans E.size g1
      replace E := below_next E B
      clear B
      refine sg (.bool false) 4 rfl rfl rfl rfl ?_
      simp only [zp]
      refine st_end ?_
      subst hQ
      refine wq fun Q hQ => ?_
      refine sv (.pointer (some ⟨b1, 0, none⟩)) 8 rfl rfl (ex_fa (p := (.pointer (some ⟨b1, 0, none⟩))) rfl rfl (fa50_0 _ _)) ?_
      simp only [zp]
      refine sv (.pointer (some ⟨b1, 0, none⟩)) 9 rfl rfl (ex_fa (p := (.pointer (some ⟨b1, 0, none⟩))) rfl rfl (fa25_0 _ _)) ?_
      simp only [zp]
      refine sv (.agg (FL q)) 10 rfl rfl (ex_load (p := (.pointer (some ⟨b1, 0, none⟩))) rfl rfl (ldF2 k1)) ?_
      simp only [zp]
      refine sm (.int .i64 y) 11 rfl rfl rfl rfl ?_
      simp only [zp]
      refine st_call (some 12) rfl rfl (in_any q.b q.r y W1 hb y0 y1) (ex_call (f := 45) (vs := [(.agg (FL q)), (.int .i64 y)]) rfl (cf45 _) rfl) ?_
      rintro e W2 ⟨rfl, B⟩
      refine ⟨_, rfl, ?_⟩
      simp only [zp]
      replace E := below_next E B
      replace k1 := keep B k1
      refine sm (.tuple #[(.int .i64 (inN q.b q.r y)), (.int .i64 (inE q.b q.r y))]) 7 rfl rfl rfl rfl ?_
      simp only [zp]
      refine sv (.int .i64 (inN q.b q.r y)) 13 rfl rfl (ex_ext rfl rfl rfl) ?_
      simp only [zp]
      refine sv (.int .i64 (inE q.b q.r y)) 14 rfl rfl (ex_ext rfl rfl rfl) ?_
      simp only [zp]
      refine sg (.int .i64 (inN q.b q.r y)) 5 rfl rfl rfl rfl ?_
      simp only [zp]
      refine sg (.int .i64 (inE q.b q.r y)) 6 rfl rfl rfl rfl ?_
      simp only [zp]
      refine st_end ?_
      subst hQ
      refine wq fun Q hQ => ?_
      refine sm (.int .i64 (inE q.b q.r y)) 15 rfl rfl rfl rfl ?_
      simp only [zp]
      refine sv (.bool false) 16 rfl rfl (ex_bin (u := (.int .i64 (inE q.b q.r y))) (r := (.int .i64 0)) rfl rfl rfl (eg37 _ _ _ _ _ _) (neq37 _ (decide_eq_false (fun h => h e0)))) ?_
      simp only [zp]
      refine sm (.bool false) 17 rfl rfl rfl rfl ?_
      simp only [zp]
      refine sv (.pointer (some ⟨b1, 5, none⟩)) 18 rfl rfl (ex_fa (p := (.pointer (some ⟨b1, 0, none⟩))) rfl rfl (fa50_1 _ _)) ?_
      simp only [zp]
      refine sv (.int .i64 a) 19 rfl rfl (ex_load (p := (.pointer (some ⟨b1, 5, none⟩))) rfl rfl (ld3 (at_cell k1 rfl))) ?_
      simp only [zp]
      refine sm (.int .i64 (inN q.b q.r y)) 20 rfl rfl rfl rfl ?_
      simp only [zp]
      refine sv (.bool false) 21 rfl rfl (ex_bin (u := (.int .i64 a)) (r := (.int .i64 (inN q.b q.r y))) rfl rfl rfl (eg3 _ _ _ _ _ _) (lss3 _ (decide_eq_false e1))) ?_
      simp only [zp]
      refine sv (.bool false) 22 rfl rfl (ex_pkF rfl rfl rfl) ?_
      simp only [zp]
      refine sg (.bool false) 4 rfl rfl rfl rfl ?_
      simp only [zp]
      refine st_end ?_
      subst hQ
      refine wp_ret ?_
      repeat (first | refine ret_out ?_ | refine ret_blk ?_)
      refine bodyPost_ret (results_tmp Try.results34 _ _ _) rfl ⟨?_, E⟩
      show Ending.returned (.bool false) = _
      simp [belowB, e0, e1]
  · skip
    have E : Below w.heap.size w w := Below.refl _ _
    go_enter Try.func34, Try.ntmps34
    refine wq fun Q hQ => ?_
    refine st_new (fun b => .pointer (some ⟨b, 0, none⟩)) (some 2) rfl rfl (ex_box rfl rfl) ?_
    intro b1 W1 k1 g1 B
    simp only [zp]
    have ge_b1 := Nat.le_trans E.size g1
    replace E := below_next E B
    clear B
    refine sg (.bool false) 4 rfl rfl rfl rfl ?_
    simp only [zp]
    refine st_end ?_
    subst hQ
    refine wq fun Q hQ => ?_
    refine sv (.pointer (some ⟨b1, 0, none⟩)) 8 rfl rfl (ex_fa (p := (.pointer (some ⟨b1, 0, none⟩))) rfl rfl (fa50_0 _ _)) ?_
    simp only [zp]
    refine sv (.pointer (some ⟨b1, 0, none⟩)) 9 rfl rfl (ex_fa (p := (.pointer (some ⟨b1, 0, none⟩))) rfl rfl (fa25_0 _ _)) ?_
    simp only [zp]
    refine sv (.agg (FL q)) 10 rfl rfl (ex_load (p := (.pointer (some ⟨b1, 0, none⟩))) rfl rfl (ldF2 k1)) ?_
    simp only [zp]
    refine sm (.int .i64 y) 11 rfl rfl rfl rfl ?_
    simp only [zp]
    refine st_call (some 12) rfl rfl (in_any q.b q.r y W1 hb y0 y1) (ex_call (f := 45) (vs := [(.agg (FL q)), (.int .i64 y)]) rfl (cf45 _) rfl) ?_
    rintro e W2 ⟨rfl, B⟩
    refine ⟨_, rfl, ?_⟩
    simp only [zp]
    replace E := below_next E B
    replace k1 := keep B k1
    refine sm (.tuple #[(.int .i64 (inN q.b q.r y)), (.int .i64 (inE q.b q.r y))]) 7 rfl rfl rfl rfl ?_
    simp only [zp]
    refine sv (.int .i64 (inN q.b q.r y)) 13 rfl rfl (ex_ext rfl rfl rfl) ?_
    simp only [zp]
    refine sv (.int .i64 (inE q.b q.r y)) 14 rfl rfl (ex_ext rfl rfl rfl) ?_
    simp only [zp]
    refine sg (.int .i64 (inN q.b q.r y)) 5 rfl rfl rfl rfl ?_
    simp only [zp]
    refine sg (.int .i64 (inE q.b q.r y)) 6 rfl rfl rfl rfl ?_
    simp only [zp]
    refine st_end ?_
    subst hQ
    refine wq fun Q hQ => ?_
    refine sm (.int .i64 (inE q.b q.r y)) 15 rfl rfl rfl rfl ?_
    simp only [zp]
    refine sv (.bool true) 16 rfl rfl (ex_bin (u := (.int .i64 (inE q.b q.r y))) (r := (.int .i64 0)) rfl rfl rfl (eg37 _ _ _ _ _ _) (neq37 _ (decide_eq_true e0))) ?_
    simp only [zp]
    refine sm (.bool true) 17 rfl rfl rfl rfl ?_
    simp only [zp]
    refine sn 18 rfl rfl ?_
    simp only [zp]
    refine sn 19 rfl rfl ?_
    simp only [zp]
    refine sn 20 rfl rfl ?_
    simp only [zp]
    refine sn 21 rfl rfl ?_
    simp only [zp]
    refine sv (.bool true) 22 rfl rfl (ex_pkT rfl rfl rfl) ?_
    simp only [zp]
    refine sg (.bool true) 4 rfl rfl rfl rfl ?_
    simp only [zp]
    refine st_end ?_
    subst hQ
    refine wp_ret ?_
    repeat (first | refine ret_out ?_ | refine ret_blk ?_)
    refine bodyPost_ret (results_tmp Try.results34 _ _ _) rfl ⟨?_, E⟩
    show Ending.returned (.bool true) = _
    simp [belowB, e0]
end Go.Proofs.Ytfbaidmnnkcaeaa
