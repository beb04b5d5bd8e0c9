/- Some texts, in one. -/
import Derived.Test.YtgnkcmmpbohafaaWay15
/- Policy over this seat: questions one after the other; Forward. -/
namespace Go.Proofs.Ytgnkcmmpbohafaa
open Go.RowKit
set_option linter.unusedVariables false
set_option linter.unusedSimpArgs false
set_option maxRecDepth 100000

/-- a question: its reason, its function, what that is bound to and what it captured, its answer -/
structure Qn where
  re : Int
  fn : Nat
  q : Array Value
  cap : Array Value
  c : Bool
def QL (x : Qn) : Array Value := #[.int .i64 x.re, .func (.func x.fn) x.q x.cap]
/-- the reason of the first one that applies, from i on -/
def frst (Qs : Nat → Qn) : Nat → Nat → Int
  | 0, _ => 0
  | m + 1, i => if (Qs i).c then (Qs i).re else frst Qs m (i + 1)
theorem frst_none {Qs : Nat → Qn} : ∀ m i, (∀ j, i ≤ j → j < i + m → (Qs j).c = false) → frst Qs m i = 0
  | 0, _, _ => rfl
  | m + 1, i, h => by
    unfold frst
    rw [h i (Nat.le_refl _) (by omega)]; exact frst_none m (i + 1) (fun j h1 h2 => h j (by omega) (by omega))
theorem frst_some {Qs : Nat → Qn} : ∀ m i k, i ≤ k → k < i + m → (Qs k).c = true → (∀ j, i ≤ j → j < k → (Qs j).c = false) → frst Qs m i = (Qs k).re
  | 0, i, k, h1, h2, _, _ => by omega
  | m + 1, i, k, h1, h2, hk, h => by
    unfold frst
    by_cases e : i = k
    · subst e
      rw [hk]
      rfl
    · rw [h i (Nat.le_refl _) (by omega)]
      exact frst_some m (i + 1) k (by omega) (by omega) hk (fun j h1 h2 => h j (by omega) h2)
section
variable {o : Oper} {a : Act} {W : World}
theorem ex_bslN {t n : Nat} {ps : Array (Nat × Operand)} (ho : o.op = .buildSlice t n ps) {vs : List (Nat × Value)} {v : Value} {W' : World} (hv : ps.toList.map (fun p => (p.1, a.eval p.2)) = vs) (hb : (Instr.buildSlice t n vs.toArray).run Try.prog W = .ok v W') : (execOp a.eval o).run Try.prog W = .ok (.value v) W' := by
  have hm : ps.map (fun p => (p.1, a.eval p.2)) = vs.toArray := by rw [← hv, ← Array.toList_map]
  unfold execOp
  simp [ho, hm, hb]
end
def XL (q : RV) (a x h : Int) : Array Value := #[.int .i64 q.b, .int .i64 q.r, .int .i64 q.d, .int .i64 q.g, .int .i64 q.f, .int .i64 a, .int .i64 x, .int .i64 h]
/-- a hop, as numbers -/
structure HP where
  ch : Int
  am : Int
  ex : Int
/-- cells that are a hop -/
structure IsHop (C : Array Value) (v : HP) : Prop where
  size : C.size = 101
  one : C.all (·.oneCell') = true
  c0 : C[0]? = some (.int .i64 v.ch)
  c1 : C[1]? = some (.int .i64 v.am)
  c2 : C[2]? = some (.int .i64 v.ex)
def Z32 : Array Value := (List.replicate 32 (Value.int .u8 0)).toArray
def HZ (ch am ex : Int) : Array Value := #[.int .i64 ch, .int .i64 am, .int .i64 ex] ++ Z32 ++ #[.int .i64 0] ++ Z32 ++ #[.int .i64 0] ++ Z32
theorem HZ_is (ch am ex : Int) : IsHop (HZ ch am ex) ⟨ch, am, ex⟩ := ⟨by kernel_rfl, by kernel_rfl, by kernel_rfl, by kernel_rfl, by kernel_rfl⟩
theorem bHop (ch am ex : Int) (W : World) : (Instr.build 54 #[(0, .int .i64 ch), (1, .int .i64 am), (2, .int .i64 ex)]).run Try.prog W = .ok (.agg (HZ ch am ex)) W := run_build W 54 _ _ (by kernel_rfl)
theorem ldF2 {W : World} {bl : Nat} {q : RV} {a x h : Int} (k : W.heap[bl]? = some (.cells (XL q a x h) 90)) : (Instr.loadAt 43 (.pointer (some ⟨bl, 0, none⟩))).run Try.prog W = .ok (.agg (FL q)) W := ld_part (o := 0) (n := 2) k (by show 0 + 2 ≤ _; simp [XL]) Try.underlying43 rfl inf43
theorem ldR2 {W : World} {bl : Nat} {q : RV} {a x h : Int} (k : W.heap[bl]? = some (.cells (XL q a x h) 90)) : (Instr.loadAt 45 (.pointer (some ⟨bl, 0, none⟩))).run Try.prog W = .ok (.agg (RL q)) W := ld_part (o := 0) (n := 5) k (by show 0 + 5 ≤ _; simp [XL]) Try.underlying45 rfl inf45
def okH (x : Int) : Bool := decide (0 ≤ x) && decide (x ≤ 2147483647)
def wrongB (q : RV) (a x h : Int) : Bool := !mayR q || decide (a < 0) || !okH x || !okH h
def belowB (q : RV) (a y : Int) : Bool := decide (¬ inE q.b q.r y = 0) || decide (a < inN q.b q.r y)
def fwdN (q : RV) (v : HP) (a x h : Int) : Int := if wrongB q a x h || decide (v.ch < 1) then 1 else if decide (q.f < x - h) then 6 else if decide (v.ex ≤ h + q.g) then 5 else if decide (x - q.d < v.ex) then 4 else if decide (v.am < 1) then 8 else if belowB q a v.am then 3 else 0
theorem mayR_of {q : RV} (h : mayR q = true) : rightB q.b q.r = true ∧ 1 ≤ q.d ∧ q.d ≤ 1000 ∧ 0 ≤ q.g ∧ q.g ≤ 1000 ∧ 1 ≤ q.f ∧ q.f ≤ 2147483647 := by
  unfold mayR at h
  simp only [Bool.and_eq_true, decide_eq_true_eq] at h; exact ⟨h.1.1.1.1.1.1, h.1.1.1.1.1.2, h.1.1.1.1.2, h.1.1.1.2, h.1.1.2, h.1.2, h.2⟩
theorem okH_of {x : Int} (h : okH x = true) : 0 ≤ x ∧ x ≤ 2147483647 := by
  unfold okH at h
  simp only [Bool.and_eq_true, decide_eq_true_eq] at h; exact h
theorem not_wrong {q : RV} {a x h : Int} (e : wrongB q a x h = false) : mayR q = true ∧ 0 ≤ a ∧ 0 ≤ x ∧ x ≤ 2147483647 ∧ 0 ≤ h ∧ h ≤ 2147483647 := by
  unfold wrongB at e
  simp only [Bool.or_eq_false_iff, Bool.not_eq_false', decide_eq_false_iff_not] at e; have h1 := okH_of e.1.2; have h2 := okH_of e.2; exact ⟨e.1.1.1, by omega, h1.1, h1.2, h2.1, h2.2⟩
theorem okh_any (x : Int) (w : World) {c : Bool} (hc : okH x = c) : Calls Try.prog 83 #[.int .i64 x] w fun e w' => e = .returned (.bool c) ∧ Below w.heap.size w w' := by
  subst hc
  have E : Below w.heap.size w w := Below.refl _ _
  go_enter Try.func83, Try.ntmps83; refine wq fun Q hQ => ?_; refine vg (.bool false) 2 rfl rfl rfl rfl ?_; refine st_end ?_; subst hQ; refine wq fun Q hQ => ?_; refine vm (.int .i64 x) 3 rfl rfl rfl rfl ?_
  by_cases e0 : 0 ≤ x
  · skip
    refine vv (.bool true) 4 rfl rfl (ex_bin (u := (.int .i64 0)) (r := (.int .i64 x)) rfl rfl rfl (eg3 _ _ _ _ _ _) (leq3 _ (decide_eq_true (by omega)))) ?_; refine vm (.bool true) 5 rfl rfl rfl rfl ?_; refine vm (.int .i64 x) 6 rfl rfl rfl rfl ?_
    by_cases e1 : x ≤ 2147483647
    · skip
      refine vv (.bool true) 7 rfl rfl (ex_bin (u := (.int .i64 x)) (r := (.int .i64 2147483647)) rfl rfl rfl (eg3 _ _ _ _ _ _) (leq3 _ (decide_eq_true (by omega)))) ?_; refine vv (.bool true) 8 rfl rfl (ex_pkT rfl rfl rfl) ?_; refine vg (.bool true) 2 rfl rfl rfl rfl ?_; refine st_end ?_; subst hQ; refine wp_ret ?_
      repeat (first | refine ret_out ?_ | refine ret_blk ?_)
      refine bodyPost_ret (results_tmp Try.results83 _ _ _) rfl ⟨?_, E⟩
      show Ending.returned (.bool true) = _
      simp [okH, e0, e1]
    · skip
      refine vv (.bool false) 7 rfl rfl (ex_bin (u := (.int .i64 x)) (r := (.int .i64 2147483647)) rfl rfl rfl (eg3 _ _ _ _ _ _) (leq3 _ (decide_eq_false (by omega)))) ?_; refine vv (.bool false) 8 rfl rfl (ex_pkT rfl rfl rfl) ?_; refine vg (.bool false) 2 rfl rfl rfl rfl ?_; refine st_end ?_; subst hQ; refine wp_ret ?_
      repeat (first | refine ret_out ?_ | refine ret_blk ?_)
      refine bodyPost_ret (results_tmp Try.results83 _ _ _) rfl ⟨?_, E⟩
      show Ending.returned (.bool false) = _
      simp [okH, e0, e1]
  · skip
    refine vv (.bool false) 4 rfl rfl (ex_bin (u := (.int .i64 0)) (r := (.int .i64 x)) rfl rfl rfl (eg3 _ _ _ _ _ _) (leq3 _ (decide_eq_false (by omega)))) ?_; refine vm (.bool false) 5 rfl rfl rfl rfl ?_; refine vn 6 rfl rfl ?_; refine vn 7 rfl rfl ?_; refine vv (.bool false) 8 rfl rfl (ex_pkF rfl rfl rfl) ?_; refine vg (.bool false) 2 rfl rfl rfl rfl ?_; refine st_end ?_; subst hQ; refine wp_ret ?_
    repeat (first | refine ret_out ?_ | refine ret_blk ?_)
    refine bodyPost_ret (results_tmp Try.results83 _ _ _) rfl ⟨?_, E⟩
    show Ending.returned (.bool false) = _
    simp [okH, e0]
set_option maxHeartbeats 4000000 in
theorem wrong_any {q : RV} {a x h : Int} (w : World) (hb : q.b ≤ 9223372036854775807) {c : Bool} (hc : wrongB q a x h = c) : Calls Try.prog 45 #[.agg (XL q a x h)] w fun e w' => e = .returned (.bool c) ∧ Below w.heap.size w w' := by
  subst hc
  have E : Below w.heap.size w w := Below.refl _ _
  go_enter Try.func45, Try.ntmps45; refine wq fun Q hQ => ?_; refine st_new (fun b => .pointer (some ⟨b, 0, none⟩)) (some 1) rfl rfl (ex_box rfl rfl) ?_; intro b1 W1 k1 g1 B; simp only [zp]; have ge_b1 := Nat.le_trans E.size g1; replace E := below_next E B; clear B; refine vg (.bool false) 2 rfl rfl rfl rfl ?_; refine st_end ?_; subst hQ; refine wq fun Q hQ => ?_; refine vv (Pz b1 0) 3 rfl rfl (ex_fa (p := (Pz b1 0)) rfl rfl (fa90_0 _ _)) ?_; refine vv (.agg (RL q)) 4 rfl rfl (ex_load (p := (Pz b1 0)) rfl rfl (ldR2 k1)) ?_
  by_cases e0 : mayR q = true
  · skip
    refine st_call (some 5) rfl rfl (may_any W1 hb e0) (ex_call (f := 82) (vs := [(.agg (RL q))]) rfl (cf82 _) rfl) ?_; rintro e W2 ⟨rfl, B⟩; refine ⟨_, rfl, ?_⟩; simp only [zp]; replace E := below_next E B; replace k1 := keep B k1; refine vv (.bool false) 6 rfl rfl (ex_not rfl rfl rfl) ?_; refine vm (.bool false) 7 rfl rfl rfl rfl ?_; refine vv (Pz b1 5) 8 rfl rfl (ex_fa (p := (Pz b1 0)) rfl rfl (fa90_1 _ _)) ?_; refine vv (.int .i64 a) 9 rfl rfl (ex_load (p := (Pz b1 5)) rfl rfl (ld3 (at_cell k1 rfl))) ?_
    by_cases e1 : a < 0
    · skip
      refine vv (.bool true) 10 rfl rfl (ex_bin (u := (.int .i64 a)) (r := (.int .i64 0)) rfl rfl rfl (eg3 _ _ _ _ _ _) (lss3 _ (decide_eq_true (by omega)))) ?_; refine vv (.bool true) 11 rfl rfl (ex_pkF rfl rfl rfl) ?_; refine vm (.bool true) 12 rfl rfl rfl rfl ?_; refine vn 13 rfl rfl ?_; refine vn 14 rfl rfl ?_; refine vn 15 rfl rfl ?_; refine vn 16 rfl rfl ?_; refine vv (.bool true) 17 rfl rfl (ex_pkT rfl rfl rfl) ?_; refine vm (.bool true) 18 rfl rfl rfl rfl ?_; refine vn 19 rfl rfl ?_; refine vn 20 rfl rfl ?_; refine vn 21 rfl rfl ?_; refine vn 22 rfl rfl ?_
      refine vv (.bool true) 23 rfl rfl (ex_pkT rfl rfl rfl) ?_; refine vg (.bool true) 2 rfl rfl rfl rfl ?_; refine st_end ?_; subst hQ; refine wp_ret ?_
      repeat (first | refine ret_out ?_ | refine ret_blk ?_)
      refine bodyPost_ret (results_tmp Try.results45 _ _ _) rfl ⟨?_, E⟩
      show Ending.returned (.bool true) = _
      simp [wrongB, e0, e1]
    · skip
      refine vv (.bool false) 10 rfl rfl (ex_bin (u := (.int .i64 a)) (r := (.int .i64 0)) rfl rfl rfl (eg3 _ _ _ _ _ _) (lss3 _ (decide_eq_false (by omega)))) ?_; refine vv (.bool false) 11 rfl rfl (ex_pkF rfl rfl rfl) ?_; refine vm (.bool false) 12 rfl rfl rfl rfl ?_; refine vv (Pz b1 6) 13 rfl rfl (ex_fa (p := (Pz b1 0)) rfl rfl (fa90_2 _ _)) ?_; refine vv (.int .i64 x) 14 rfl rfl (ex_load (p := (Pz b1 6)) rfl rfl (ld3 (at_cell k1 rfl))) ?_
      by_cases e2 : okH x = true
      · skip
        refine st_call (some 15) rfl rfl (okh_any _ W2 e2) (ex_call (f := 83) (vs := [(.int .i64 x)]) rfl (cf83 _) rfl) ?_; rintro e W3 ⟨rfl, B⟩; refine ⟨_, rfl, ?_⟩; simp only [zp]; replace E := below_next E B; replace k1 := keep B k1; refine vv (.bool false) 16 rfl rfl (ex_not rfl rfl rfl) ?_; refine vv (.bool false) 17 rfl rfl (ex_pkF rfl rfl rfl) ?_; refine vm (.bool false) 18 rfl rfl rfl rfl ?_; refine vv (Pz b1 7) 19 rfl rfl (ex_fa (p := (Pz b1 0)) rfl rfl (fa90_3 _ _)) ?_; refine vv (.int .i64 h) 20 rfl rfl (ex_load (p := (Pz b1 7)) rfl rfl (ld3 (at_cell k1 rfl))) ?_
        by_cases e3 : okH h = true
        · skip
          refine st_call (some 21) rfl rfl (okh_any _ W3 e3) (ex_call (f := 83) (vs := [(.int .i64 h)]) rfl (cf83 _) rfl) ?_; rintro e W4 ⟨rfl, B⟩; refine ⟨_, rfl, ?_⟩; simp only [zp]; replace E := below_next E B; replace k1 := keep B k1; refine vv (.bool false) 22 rfl rfl (ex_not rfl rfl rfl) ?_; refine vv (.bool false) 23 rfl rfl (ex_pkF rfl rfl rfl) ?_; refine vg (.bool false) 2 rfl rfl rfl rfl ?_; refine st_end ?_; subst hQ; refine wp_ret ?_
          repeat (first | refine ret_out ?_ | refine ret_blk ?_)
          refine bodyPost_ret (results_tmp Try.results45 _ _ _) rfl ⟨?_, E⟩
          show Ending.returned (.bool false) = _
          simp [wrongB, e0, e1, e2, e3]
        · skip
          replace e3 := Bool.eq_false_iff.2 e3; refine st_call (some 21) rfl rfl (okh_any _ W3 e3) (ex_call (f := 83) (vs := [(.int .i64 h)]) rfl (cf83 _) rfl) ?_; rintro e W4 ⟨rfl, B⟩; refine ⟨_, rfl, ?_⟩; simp only [zp]; replace E := below_next E B; replace k1 := keep B k1; refine vv (.bool true) 22 rfl rfl (ex_not rfl rfl rfl) ?_; refine vv (.bool true) 23 rfl rfl (ex_pkF rfl rfl rfl) ?_; refine vg (.bool true) 2 rfl rfl rfl rfl ?_; refine st_end ?_; subst hQ; refine wp_ret ?_
          repeat (first | refine ret_out ?_ | refine ret_blk ?_)
          refine bodyPost_ret (results_tmp Try.results45 _ _ _) rfl ⟨?_, E⟩
          show Ending.returned (.bool true) = _
          simp [wrongB, e0, e1, e2, e3]
      · skip
        replace e2 := Bool.eq_false_iff.2 e2; refine st_call (some 15) rfl rfl (okh_any _ W2 e2) (ex_call (f := 83) (vs := [(.int .i64 x)]) rfl (cf83 _) rfl) ?_; rintro e W3 ⟨rfl, B⟩; refine ⟨_, rfl, ?_⟩; simp only [zp]; replace E := below_next E B; replace k1 := keep B k1; refine vv (.bool true) 16 rfl rfl (ex_not rfl rfl rfl) ?_; refine vv (.bool true) 17 rfl rfl (ex_pkF rfl rfl rfl) ?_; refine vm (.bool true) 18 rfl rfl rfl rfl ?_; refine vn 19 rfl rfl ?_; refine vn 20 rfl rfl ?_; refine vn 21 rfl rfl ?_; refine vn 22 rfl rfl ?_
        refine vv (.bool true) 23 rfl rfl (ex_pkT rfl rfl rfl) ?_; refine vg (.bool true) 2 rfl rfl rfl rfl ?_; refine st_end ?_; subst hQ; refine wp_ret ?_
        repeat (first | refine ret_out ?_ | refine ret_blk ?_)
        refine bodyPost_ret (results_tmp Try.results45 _ _ _) rfl ⟨?_, E⟩
        show Ending.returned (.bool true) = _
        simp [wrongB, e0, e1, e2]
  · skip
    replace e0 := Bool.eq_false_iff.2 e0; refine st_call (some 5) rfl rfl (may_any W1 hb e0) (ex_call (f := 82) (vs := [(.agg (RL q))]) rfl (cf82 _) rfl) ?_; rintro e W2 ⟨rfl, B⟩; refine ⟨_, rfl, ?_⟩; simp only [zp]; replace E := below_next E B; replace k1 := keep B k1; refine vv (.bool true) 6 rfl rfl (ex_not rfl rfl rfl) ?_; refine vm (.bool true) 7 rfl rfl rfl rfl ?_; refine vn 8 rfl rfl ?_; refine vn 9 rfl rfl ?_; refine vn 10 rfl rfl ?_; refine vv (.bool true) 11 rfl rfl (ex_pkT rfl rfl rfl) ?_; refine vm (.bool true) 12 rfl rfl rfl rfl ?_; refine vn 13 rfl rfl ?_
    refine vn 14 rfl rfl ?_; refine vn 15 rfl rfl ?_; refine vn 16 rfl rfl ?_; refine vv (.bool true) 17 rfl rfl (ex_pkT rfl rfl rfl) ?_; refine vm (.bool true) 18 rfl rfl rfl rfl ?_; refine vn 19 rfl rfl ?_; refine vn 20 rfl rfl ?_; refine vn 21 rfl rfl ?_; refine vn 22 rfl rfl ?_; refine vv (.bool true) 23 rfl rfl (ex_pkT rfl rfl rfl) ?_; refine vg (.bool true) 2 rfl rfl rfl rfl ?_; refine st_end ?_; subst hQ; refine wp_ret ?_
    repeat (first | refine ret_out ?_ | refine ret_blk ?_)
    refine bodyPost_ret (results_tmp Try.results45 _ _ _) rfl ⟨?_, E⟩
    show Ending.returned (.bool true) = _
    simp [wrongB, e0]
set_option maxHeartbeats 4000000 in
theorem far_any {q : RV} {a x h : Int} (w : World) (x0 : 0 ≤ x) (x1 : x ≤ 2147483647) (h0 : 0 ≤ h) (h1 : h ≤ 2147483647) {c : Bool} (hc : decide (q.f < x - h) = c) : Calls Try.prog 46 #[.agg (XL q a x h)] w fun e w' => e = .returned (.bool c) ∧ Below w.heap.size w w' := by
  have E : Below w.heap.size w w := Below.refl _ _
  go_enter Try.func46, Try.ntmps46; refine wq fun Q hQ => ?_; refine st_new (fun b => .pointer (some ⟨b, 0, none⟩)) (some 1) rfl rfl (ex_box rfl rfl) ?_; intro b1 W1 k1 g1 B; simp only [zp]; have ge_b1 := Nat.le_trans E.size g1; replace E := below_next E B; clear B; refine vg (.bool false) 2 rfl rfl rfl rfl ?_; refine st_end ?_; subst hQ; refine wq fun Q hQ => ?_; refine vv (Pz b1 6) 3 rfl rfl (ex_fa (p := (Pz b1 0)) rfl rfl (fa90_2 _ _)) ?_; refine vv (.int .i64 x) 4 rfl rfl (ex_load (p := (Pz b1 6)) rfl rfl (ld3 (at_cell k1 rfl))) ?_
  refine vv (Pz b1 7) 5 rfl rfl (ex_fa (p := (Pz b1 0)) rfl rfl (fa90_3 _ _)) ?_; refine vv (.int .i64 h) 6 rfl rfl (ex_load (p := (Pz b1 7)) rfl rfl (ld3 (at_cell k1 rfl))) ?_; refine vv (.int .i64 (x - h)) 7 rfl rfl (ex_bin rfl rfl rfl (eg3 _ _ _ _ _ _) (sub3 _ rfl (by omega))) ?_; refine vv (Pz b1 0) 8 rfl rfl (ex_fa (p := (Pz b1 0)) rfl rfl (fa90_0 _ _)) ?_; refine vv (Pz b1 4) 9 rfl rfl (ex_fa (p := (Pz b1 0)) rfl rfl (fa45_3 _ _)) ?_; refine vv (.int .i64 q.f) 10 rfl rfl (ex_load (p := (Pz b1 4)) rfl rfl (ld3 (at_cell k1 rfl))) ?_
  refine vv (.bool c) 11 rfl rfl (ex_bin (u := (.int .i64 (x - h))) (r := (.int .i64 q.f)) rfl rfl rfl (eg3 _ _ _ _ _ _) (gtr3 _ hc)) ?_; refine vg (.bool c) 2 rfl rfl rfl rfl ?_; refine st_end ?_; subst hQ; refine wp_ret ?_
  repeat (first | refine ret_out ?_ | refine ret_blk ?_)
  exact bodyPost_ret (results_tmp Try.results46 _ _ _) rfl ⟨rfl, E⟩
set_option maxHeartbeats 4000000 in
theorem soon_any {q : RV} {a x h y : Int} (w : World) (h0 : 0 ≤ h) (h1 : h ≤ 2147483647) (g0 : 0 ≤ q.g) (g1 : q.g ≤ 1000) {c : Bool} (hc : decide (y ≤ h + q.g) = c) : Calls Try.prog 48 #[.agg (XL q a x h), .int .i64 y] w fun e w' => e = .returned (.bool c) ∧ Below w.heap.size w w' := by
  have E : Below w.heap.size w w := Below.refl _ _
  go_enter Try.func48, Try.ntmps48; refine wq fun Q hQ => ?_; refine st_new (fun b => .pointer (some ⟨b, 0, none⟩)) (some 2) rfl rfl (ex_box rfl rfl) ?_; intro b1 W1 k1 g1 B; simp only [zp]; have ge_b1 := Nat.le_trans E.size g1; replace E := below_next E B; clear B; refine vg (.bool false) 4 rfl rfl rfl rfl ?_; refine st_end ?_; subst hQ; refine wq fun Q hQ => ?_; refine vm (.int .i64 y) 5 rfl rfl rfl rfl ?_; refine vv (Pz b1 7) 6 rfl rfl (ex_fa (p := (Pz b1 0)) rfl rfl (fa90_3 _ _)) ?_; refine vv (.int .i64 h) 7 rfl rfl (ex_load (p := (Pz b1 7)) rfl rfl (ld3 (at_cell k1 rfl))) ?_
  refine vv (Pz b1 0) 8 rfl rfl (ex_fa (p := (Pz b1 0)) rfl rfl (fa90_0 _ _)) ?_; refine vv (Pz b1 3) 9 rfl rfl (ex_fa (p := (Pz b1 0)) rfl rfl (fa45_2 _ _)) ?_; refine vv (.int .i64 q.g) 10 rfl rfl (ex_load (p := (Pz b1 3)) rfl rfl (ld3 (at_cell k1 rfl))) ?_; refine vv (.int .i64 (h + q.g)) 11 rfl rfl (ex_bin rfl rfl rfl (eg3 _ _ _ _ _ _) (add3 _ rfl (by omega))) ?_; refine vv (.bool c) 12 rfl rfl (ex_bin (u := (.int .i64 y)) (r := (.int .i64 (h + q.g))) rfl rfl rfl (eg3 _ _ _ _ _ _) (leq3 _ hc)) ?_; refine vg (.bool c) 4 rfl rfl rfl rfl ?_; refine st_end ?_; subst hQ; refine wp_ret ?_
  repeat (first | refine ret_out ?_ | refine ret_blk ?_)
  exact bodyPost_ret (results_tmp Try.results48 _ _ _) rfl ⟨rfl, E⟩
set_option maxHeartbeats 4000000 in
theorem belowx_any {q : RV} {a x h y : Int} (w : World) (hb : q.b ≤ 9223372036854775807) (y0 : -9223372036854775808 ≤ y) (y1 : y ≤ 9223372036854775807) {c : Bool} (hc : belowB q a y = c) : Calls Try.prog 52 #[.agg (XL q a x h), .int .i64 y] w fun e w' => e = .returned (.bool c) ∧ Below w.heap.size w w' := by
  subst hc
  have E : Below w.heap.size w w := Below.refl _ _
  go_enter Try.func52, Try.ntmps52; refine wq fun Q hQ => ?_; refine st_new (fun b => .pointer (some ⟨b, 0, none⟩)) (some 2) rfl rfl (ex_box rfl rfl) ?_; intro b1 W1 k1 g1 B; simp only [zp]; have ge_b1 := Nat.le_trans E.size g1; replace E := below_next E B; clear B; refine vg (.bool false) 4 rfl rfl rfl rfl ?_; refine st_end ?_; subst hQ; refine wq fun Q hQ => ?_; refine vv (Pz b1 0) 8 rfl rfl (ex_fa (p := (Pz b1 0)) rfl rfl (fa90_0 _ _)) ?_; refine vv (Pz b1 0) 9 rfl rfl (ex_fa (p := (Pz b1 0)) rfl rfl (fa45_0 _ _)) ?_
  refine vv (.agg (FL q)) 10 rfl rfl (ex_load (p := (Pz b1 0)) rfl rfl (ldF2 k1)) ?_; refine vm (.int .i64 y) 11 rfl rfl rfl rfl ?_; refine st_call (some 12) rfl rfl (in_any q.b q.r y W1 hb y0 y1) (ex_call (f := 76) (vs := [(.agg (FL q)), (.int .i64 y)]) rfl (cf76 _) rfl) ?_; rintro e W2 ⟨rfl, B⟩; refine ⟨_, rfl, ?_⟩; simp only [zp]; replace E := below_next E B; replace k1 := keep B k1; refine vm (.tuple #[(.int .i64 (inN q.b q.r y)), (.int .i64 (inE q.b q.r y))]) 7 rfl rfl rfl rfl ?_; refine vv (.int .i64 (inN q.b q.r y)) 13 rfl rfl (ex_ext rfl rfl rfl) ?_
  refine vv (.int .i64 (inE q.b q.r y)) 14 rfl rfl (ex_ext rfl rfl rfl) ?_; refine vg (.int .i64 (inN q.b q.r y)) 5 rfl rfl rfl rfl ?_; refine vg (.int .i64 (inE q.b q.r y)) 6 rfl rfl rfl rfl ?_; refine st_end ?_; subst hQ; refine wq fun Q hQ => ?_; refine vm (.int .i64 (inE q.b q.r y)) 15 rfl rfl rfl rfl ?_
  by_cases e0 : inE q.b q.r y = 0
  · skip
    refine vv (.bool false) 16 rfl rfl (ex_bin (u := (.int .i64 (inE q.b q.r y))) (r := (.int .i64 0)) rfl rfl rfl (eg37 _ _ _ _ _ _) (neq37 _ (decide_eq_false (fun h => h e0)))) ?_; refine vm (.bool false) 17 rfl rfl rfl rfl ?_; refine vv (Pz b1 5) 18 rfl rfl (ex_fa (p := (Pz b1 0)) rfl rfl (fa90_1 _ _)) ?_; refine vv (.int .i64 a) 19 rfl rfl (ex_load (p := (Pz b1 5)) rfl rfl (ld3 (at_cell k1 rfl))) ?_; refine vm (.int .i64 (inN q.b q.r y)) 20 rfl rfl rfl rfl ?_
    by_cases e1 : a < inN q.b q.r y
    · skip
      refine vv (.bool true) 21 rfl rfl (ex_bin (u := (.int .i64 a)) (r := (.int .i64 (inN q.b q.r y))) rfl rfl rfl (eg3 _ _ _ _ _ _) (lss3 _ (decide_eq_true e1))) ?_; refine vv (.bool true) 22 rfl rfl (ex_pkF rfl rfl rfl) ?_; refine vg (.bool true) 4 rfl rfl rfl rfl ?_; refine st_end ?_; subst hQ; refine wp_ret ?_
      repeat (first | refine ret_out ?_ | refine ret_blk ?_)
      refine bodyPost_ret (results_tmp Try.results52 _ _ _) rfl ⟨?_, E⟩
      show Ending.returned (.bool true) = _
      simp [belowB, e0, e1]
    · skip
      refine vv (.bool false) 21 rfl rfl (ex_bin (u := (.int .i64 a)) (r := (.int .i64 (inN q.b q.r y))) rfl rfl rfl (eg3 _ _ _ _ _ _) (lss3 _ (decide_eq_false e1))) ?_; refine vv (.bool false) 22 rfl rfl (ex_pkF rfl rfl rfl) ?_; refine vg (.bool false) 4 rfl rfl rfl rfl ?_; refine st_end ?_; subst hQ; refine wp_ret ?_
      repeat (first | refine ret_out ?_ | refine ret_blk ?_)
      refine bodyPost_ret (results_tmp Try.results52 _ _ _) rfl ⟨?_, E⟩
      show Ending.returned (.bool false) = _
      simp [belowB, e0, e1]
  · skip
    refine vv (.bool true) 16 rfl rfl (ex_bin (u := (.int .i64 (inE q.b q.r y))) (r := (.int .i64 0)) rfl rfl rfl (eg37 _ _ _ _ _ _) (neq37 _ (decide_eq_true e0))) ?_; refine vm (.bool true) 17 rfl rfl rfl rfl ?_; refine vn 18 rfl rfl ?_; refine vn 19 rfl rfl ?_; refine vn 20 rfl rfl ?_; refine vn 21 rfl rfl ?_; refine vv (.bool true) 22 rfl rfl (ex_pkT rfl rfl rfl) ?_; refine vg (.bool true) 4 rfl rfl rfl rfl ?_; refine st_end ?_; subst hQ; refine wp_ret ?_
    repeat (first | refine ret_out ?_ | refine ret_blk ?_)
    refine bodyPost_ret (results_tmp Try.results52 _ _ _) rfl ⟨?_, E⟩
    show Ending.returned (.bool true) = _
    simp [belowB, e0]
set_option maxHeartbeats 8000000 in
theorem first_any (b n : Nat) (Qs : Nat → Qn) (w : World) (hr : ∀ i, i < n → w.rangeAt b (0 + i * 2) (QL (Qs i)).toList) (hn : n ≤ 100) (hkk : ∀ i, i < n → ∀ W vs, (callFunc (Qs i).fn vs).run Try.prog W = .ok (.enter (Qs i).fn vs) W)
    (hP : ∀ i, i < n → (∀ j, j < i → (Qs j).c = false) → ∀ W, Below w.heap.size w W → Calls Try.prog (Qs i).fn ((Qs i).q ++ [].toArray ++ (Qs i).cap) W fun e w' => e = .returned (.bool (Qs i).c) ∧ Below W.heap.size W w') :
    Calls Try.prog 43 #[.slice (some ⟨b, 0, none⟩) n n] w fun e w' => e = .returned (.int .i64 (frst Qs n 0)) ∧ Below w.heap.size w w' := by
  have E : Below w.heap.size w w := Below.refl _ _
  go_enter Try.func43, Try.ntmps43; refine wq fun Q hQ => ?_; refine vg (.int .i64 0) 2 rfl rfl rfl rfl ?_; refine st_end ?_; subst hQ; refine wp_seq ?_; refine wq fun Q hQ => ?_; refine vm (.slice (some ⟨b, 0, none⟩) n n) 5 rfl rfl rfl rfl ?_; refine vv (.int .i64 (n : Nat)) 6 rfl rfl (ex_len rfl rfl (len124 _ _ _ _ _)) ?_; refine vm (.int .i64 0) 7 rfl rfl rfl rfl ?_; refine st_end ?_; subst hQ; refine wp_block ?_
  go_loopw [7] (fun v7 wr => ∃ i : Nat, i ≤ n ∧ v7 = .int .i64 i ∧ Below w.heap.size w wr ∧ ∀ j, j < i → (Qs j).c = false) (fun v7 _ => n - (intOf v7).toNat)
  case atStart => exact ⟨0, Nat.zero_le _, rfl, E, fun j hj => by omega⟩
  case round =>
    clear E; obtain ⟨i, hi, rfl, E, hno⟩ := hrel
    by_cases hlt : i < n
    · have HC := hr i hlt
      have hk := hkk i hlt
      cases hp : (Qs i).c with
      | true =>
        refine wq fun Q hQ => ?_; refine vv (.bool true) 8 rfl rfl (ex_bin (u := (.int .i64 (i : Nat))) (r := (.int .i64 (n : Nat))) rfl rfl rfl (eg3 _ _ _ _ _ _) (lss3 _ (decide_eq_true (by omega)))) ?_; refine st_end ?_; subst hQ; refine wp_seq ?_; refine wp_cond_true rfl ?_; refine wp_skip ?_; refine wp_seq ?_; refine wp_block ?_; refine wq fun Q hQ => ?_; refine vv (.pointer (some ⟨b, (0 + i * 2), none⟩)) 9 rfl rfl (ix124 (k := i) rfl rfl rfl (rfl) (hlt)) ?_; refine vv (.agg (QL (Qs i))) 10 rfl rfl (ex_load rfl rfl (ld_range (range_below HC E) Try.underlying93 rfl inf93)) ?_
        refine st_new (fun b => .pointer (some ⟨b, 0, none⟩)) (some 4) rfl rfl (ex_alloc rfl zero93) ?_; intro b1 W1 k1 g1 B; simp only [zp]; have ge_b1 := Nat.le_trans E.size g1; replace E := below_next E B; clear B; obtain ⟨W2, hst, kn, K⟩ := put_all (D := (QL (Qs i))) k1 rfl inf93 (by kernel_rfl); refine st_sk rfl rfl (ex_store rfl rfl rfl hst) ?_; replace E := below_put E ge_b1 K; replace k1 := kn; clear kn K hst; refine st_end ?_; subst hQ; refine wq fun Q hQ => ?_; refine vv (Pz b1 1) 11 rfl rfl (ex_fa (p := (Pz b1 0)) rfl rfl (fa93_1 _ _)) ?_
        refine vv (.func (.func (Qs i).fn) (Qs i).q (Qs i).cap) 12 rfl rfl (ex_load (p := (Pz b1 1)) rfl rfl (ld27 (at_cell k1 rfl))) ?_; refine st_call (some 13) rfl rfl (hp ▸ hP i hlt hno W2 E) (ex_callq (f := (Qs i).fn) (vs := []) rfl rfl (hk _) rfl) ?_; rintro e W3 ⟨rfl, B⟩; refine ⟨_, rfl, ?_⟩; simp only [zp]; replace E := below_next E B; replace k1 := keep B k1; refine st_end ?_; subst hQ; refine wp_cond_true rfl ?_; refine wq fun Q hQ => ?_; refine vv (Pz b1 0) 14 rfl rfl (ex_fa (p := (Pz b1 0)) rfl rfl (fa93_0 _ _)) ?_
        refine vv (.int .i64 (Qs i).re) 15 rfl rfl (ex_load (p := (Pz b1 0)) rfl rfl (ld3 (at_cell k1 rfl))) ?_; refine vg (.int .i64 (Qs i).re) 2 rfl rfl rfl rfl ?_; refine st_end ?_; subst hQ; refine wp_ret ?_
        repeat (first | refine ret_out ?_ | refine ret_blk ?_)
        refine bodyPost_ret (results_tmp Try.results43 _ _ _) rfl ⟨?_, E⟩; rw [frst_some n 0 i (by omega) (by omega) hp (fun j _ h => hno j h)]
        rfl
      | false =>
        refine wq fun Q hQ => ?_; refine vv (.bool true) 8 rfl rfl (ex_bin (u := (.int .i64 (i : Nat))) (r := (.int .i64 (n : Nat))) rfl rfl rfl (eg3 _ _ _ _ _ _) (lss3 _ (decide_eq_true (by omega)))) ?_; refine st_end ?_; subst hQ; refine wp_seq ?_; refine wp_cond_true rfl ?_; refine wp_skip ?_; refine wp_seq ?_; refine wp_block ?_; refine wq fun Q hQ => ?_; refine vv (.pointer (some ⟨b, (0 + i * 2), none⟩)) 9 rfl rfl (ix124 (k := i) rfl rfl rfl (rfl) (hlt)) ?_; refine vv (.agg (QL (Qs i))) 10 rfl rfl (ex_load rfl rfl (ld_range (range_below HC E) Try.underlying93 rfl inf93)) ?_
        refine st_new (fun b => .pointer (some ⟨b, 0, none⟩)) (some 4) rfl rfl (ex_alloc rfl zero93) ?_; intro b2 W4 k2 g2 B; simp only [zp]; have ge_b2 := Nat.le_trans E.size g2; replace E := below_next E B; clear B; obtain ⟨W5, hst, kn, K⟩ := put_all (D := (QL (Qs i))) k2 rfl inf93 (by kernel_rfl); refine st_sk rfl rfl (ex_store rfl rfl rfl hst) ?_; replace E := below_put E ge_b2 K; replace k2 := kn; clear kn K hst; refine st_end ?_; subst hQ; refine wq fun Q hQ => ?_; refine vv (Pz b2 1) 11 rfl rfl (ex_fa (p := (Pz b2 0)) rfl rfl (fa93_1 _ _)) ?_
        refine vv (.func (.func (Qs i).fn) (Qs i).q (Qs i).cap) 12 rfl rfl (ex_load (p := (Pz b2 1)) rfl rfl (ld27 (at_cell k2 rfl))) ?_; refine st_call (some 13) rfl rfl (hp ▸ hP i hlt hno W5 E) (ex_callq (f := (Qs i).fn) (vs := []) rfl rfl (hk _) rfl) ?_; rintro e W6 ⟨rfl, B⟩; refine ⟨_, rfl, ?_⟩; simp only [zp]; replace E := below_next E B; replace k2 := keep B k2; refine st_end ?_; subst hQ; refine wp_cond_false rfl ?_; refine wp_skip ?_; refine wl_in (wl_cap fun Q hQ => ?_)
        refine vv (.int .i64 ((i + 1 : Nat) : Int)) 16 rfl rfl (ex_bin rfl rfl rfl (eg3 _ _ _ _ _ _) (add3 _ (by omega) (by omega))) ?_; refine vm (.int .i64 ((i + 1 : Nat) : Int)) 7 rfl rfl rfl rfl ?_; refine st_end ?_; subst hQ; refine then_go ?_
        first | (go_big_round; refine ⟨?rel, ?measure⟩) | (refine ⟨?_, ?measure⟩; (repeat apply Exists.intro); refine ⟨?rel, rfl⟩)
        case rel =>
          refine ⟨i + 1, by omega, rfl, E, fun j hj => ?_⟩
          by_cases e : j = i
          · subst e; exact hp
          · exact hno j (by omega)
        case measure => simp [intOf]; omega
    · have hi' : i = n := by omega
      subst hi'; refine wq fun Q hQ => ?_; refine vv (.bool false) 8 rfl rfl (ex_bin (u := (.int .i64 (i : Nat))) (r := (.int .i64 (i : Nat))) rfl rfl rfl (eg3 _ _ _ _ _ _) (lss3 _ (decide_eq_false (by omega)))) ?_; refine st_end ?_; subst hQ; refine wp_seq ?_; refine wp_cond_false rfl ?_; refine wp_exit ?_; refine ex_then ?_; refine ex_then ?_; refine ex_blk ?_; refine wq fun Q hQ => ?_; refine vg (.int .i64 0) 2 rfl rfl rfl rfl ?_; refine st_end ?_; subst hQ; refine wp_ret ?_; refine bodyPost_ret (results_tmp Try.results43 _ _ _) rfl ⟨?_, E⟩
      rw [frst_none i 0 (fun j _ h => hno j (by omega))]
      rfl
set_option maxHeartbeats 4000000 in
theorem fw1 {q : RV} {H : Array Value} {v : HP} {a x h : Int} {px ph : Nat} (w : World) (kx : w.heap[px]? = some (.cells (XL q a x h) 90)) (kh : w.heap[ph]? = some (.cells H 54)) (hH : IsHop H v) (hb : q.b ≤ 9223372036854775807) {c : Bool} (hc : (wrongB q a x h || decide (v.ch < 1)) = c) :
    Calls Try.prog 44 #[.pointer (some ⟨px, 0, none⟩), .pointer (some ⟨ph, 0, none⟩)] w fun e w' => e = .returned (.bool c) ∧ Below w.heap.size w w' := by
  subst hc
  by_cases e0 : wrongB q a x h = true
  · skip
    have E : Below w.heap.size w w := Below.refl _ _
    go_enter Try.func44, Try.ntmps44; refine wq fun Q hQ => ?_; refine vg (.bool false) 2 rfl rfl rfl rfl ?_; refine st_end ?_; subst hQ; refine wq fun Q hQ => ?_; refine vv (.agg (XL q a x h)) 3 rfl rfl (ex_load (p := (Pz px 0)) rfl rfl (ld_all kx Try.underlying90 rfl inf90)) ?_; refine st_call (some 4) rfl rfl (wrong_any w hb e0) (ex_call (f := 45) (vs := [(.agg (XL q a x h))]) rfl (cf45 _) rfl) ?_; rintro e W1 ⟨rfl, B⟩; refine ⟨_, rfl, ?_⟩; simp only [zp]; replace E := below_next E B; replace kx := keep B kx; replace kh := keep B kh; refine vm (.bool true) 5 rfl rfl rfl rfl ?_
    refine vn 6 rfl rfl ?_; refine vn 7 rfl rfl ?_; refine vn 8 rfl rfl ?_; refine vv (.bool true) 9 rfl rfl (ex_pkT rfl rfl rfl) ?_; refine vg (.bool true) 2 rfl rfl rfl rfl ?_; refine st_end ?_; subst hQ; refine wp_ret ?_
    repeat (first | refine ret_out ?_ | refine ret_blk ?_)
    refine bodyPost_ret (results_tmp Try.results44 _ _ _) rfl ⟨?_, E⟩
    show Ending.returned (.bool true) = _
    simp [e0]
  · skip
    replace e0 := Bool.eq_false_iff.2 e0
    have E : Below w.heap.size w w := Below.refl _ _
    go_enter Try.func44, Try.ntmps44; refine wq fun Q hQ => ?_; refine vg (.bool false) 2 rfl rfl rfl rfl ?_; refine st_end ?_; subst hQ; refine wq fun Q hQ => ?_; refine vv (.agg (XL q a x h)) 3 rfl rfl (ex_load (p := (Pz px 0)) rfl rfl (ld_all kx Try.underlying90 rfl inf90)) ?_; refine st_call (some 4) rfl rfl (wrong_any w hb e0) (ex_call (f := 45) (vs := [(.agg (XL q a x h))]) rfl (cf45 _) rfl) ?_; rintro e W1 ⟨rfl, B⟩; refine ⟨_, rfl, ?_⟩; simp only [zp]; replace E := below_next E B; replace kx := keep B kx; replace kh := keep B kh; refine vm (.bool false) 5 rfl rfl rfl rfl ?_
    refine vv (Pz ph 0) 6 rfl rfl (ex_fa (p := (Pz ph 0)) rfl rfl (fa54_0 _ _)) ?_; refine vv (.int .i64 v.ch) 7 rfl rfl (ex_load (p := (Pz ph 0)) rfl rfl (ld3 (at_cell kh hH.c0))) ?_
    by_cases e1 : v.ch < 1
    · skip
      refine vv (.bool true) 8 rfl rfl (ex_bin (u := (.int .i64 v.ch)) (r := (.int .i64 1)) rfl rfl rfl (eg3 _ _ _ _ _ _) (lss3 _ (decide_eq_true (by omega)))) ?_; refine vv (.bool true) 9 rfl rfl (ex_pkF rfl rfl rfl) ?_; refine vg (.bool true) 2 rfl rfl rfl rfl ?_; refine st_end ?_; subst hQ; refine wp_ret ?_
      repeat (first | refine ret_out ?_ | refine ret_blk ?_)
      refine bodyPost_ret (results_tmp Try.results44 _ _ _) rfl ⟨?_, E⟩
      show Ending.returned (.bool true) = _
      simp [e0, e1]
    · skip
      refine vv (.bool false) 8 rfl rfl (ex_bin (u := (.int .i64 v.ch)) (r := (.int .i64 1)) rfl rfl rfl (eg3 _ _ _ _ _ _) (lss3 _ (decide_eq_false (by omega)))) ?_; refine vv (.bool false) 9 rfl rfl (ex_pkF rfl rfl rfl) ?_; refine vg (.bool false) 2 rfl rfl rfl rfl ?_; refine st_end ?_; subst hQ; refine wp_ret ?_
      repeat (first | refine ret_out ?_ | refine ret_blk ?_)
      refine bodyPost_ret (results_tmp Try.results44 _ _ _) rfl ⟨?_, E⟩
      show Ending.returned (.bool false) = _
      simp [e0, e1]
set_option maxHeartbeats 4000000 in
theorem fw2 {q : RV} {H : Array Value} {v : HP} {a x h : Int} {px ph : Nat} (w : World) (kx : w.heap[px]? = some (.cells (XL q a x h) 90)) (kh : w.heap[ph]? = some (.cells H 54)) (hH : IsHop H v) (x0 : 0 ≤ x) (x1 : x ≤ 2147483647) (h0 : 0 ≤ h) (h1 : h ≤ 2147483647) (hm : mayR q = true) {c : Bool} (hc : decide (v.ex ≤ h + q.g) = c) :
    Calls Try.prog 47 #[.pointer (some ⟨px, 0, none⟩), .pointer (some ⟨ph, 0, none⟩)] w fun e w' => e = .returned (.bool c) ∧ Below w.heap.size w w' := by
  have E : Below w.heap.size w w := Below.refl _ _
  go_enter Try.func47, Try.ntmps47; refine wq fun Q hQ => ?_; refine vg (.bool false) 2 rfl rfl rfl rfl ?_; refine st_end ?_; subst hQ; refine wq fun Q hQ => ?_; refine vv (.agg (XL q a x h)) 3 rfl rfl (ex_load (p := (Pz px 0)) rfl rfl (ld_all kx Try.underlying90 rfl inf90)) ?_; refine vv (Pz ph 2) 4 rfl rfl (ex_fa (p := (Pz ph 0)) rfl rfl (fa54_2 _ _)) ?_; refine vv (.int .i64 v.ex) 5 rfl rfl (ex_load (p := (Pz ph 2)) rfl rfl (ld3 (at_cell kh hH.c2))) ?_
  refine st_call (some 6) rfl rfl (soon_any w h0 h1 (mayR_of hm).2.2.2.1 (mayR_of hm).2.2.2.2.1 hc) (ex_call (f := 48) (vs := [(.agg (XL q a x h)), (.int .i64 v.ex)]) rfl (cf48 _) rfl) ?_; rintro e W1 ⟨rfl, B⟩; refine ⟨_, rfl, ?_⟩; simp only [zp]; replace E := below_next E B; replace kx := keep B kx; replace kh := keep B kh; refine vg (.bool c) 2 rfl rfl rfl rfl ?_; refine st_end ?_; subst hQ; refine wp_ret ?_
  repeat (first | refine ret_out ?_ | refine ret_blk ?_)
  exact bodyPost_ret (results_tmp Try.results47 _ _ _) rfl ⟨rfl, E⟩
set_option maxHeartbeats 4000000 in
theorem fw3 {q : RV} {H : Array Value} {v : HP} {a x h : Int} {ph pe pr : Nat} (w : World) (kh : w.heap[ph]? = some (.cells H 54)) (ke : w.heap[pe]? = some (.cells #[.int .i64 x] 3)) (kr : w.heap[pr]? = some (.cells (RL q) 45)) (hH : IsHop H v) (x0 : 0 ≤ x) (x1 : x ≤ 2147483647) (h0 : 0 ≤ h) (h1 : h ≤ 2147483647) (hm : mayR q = true) {c : Bool} (hc : decide (x - q.d < v.ex) = c) :
    Calls Try.prog 49 #[.pointer (some ⟨ph, 0, none⟩), .pointer (some ⟨pe, 0, none⟩), .pointer (some ⟨pr, 0, none⟩)] w fun e w' => e = .returned (.bool c) ∧ Below w.heap.size w w' := by
  have E : Below w.heap.size w w := Below.refl _ _
  go_enter Try.func49, Try.ntmps49; refine wq fun Q hQ => ?_; refine vg (.bool false) 3 rfl rfl rfl rfl ?_; refine st_end ?_; subst hQ; refine wq fun Q hQ => ?_; refine vv (Pz ph 2) 4 rfl rfl (ex_fa (p := (Pz ph 0)) rfl rfl (fa54_2 _ _)) ?_; refine vv (.int .i64 v.ex) 5 rfl rfl (ex_load (p := (Pz ph 2)) rfl rfl (ld3 (at_cell kh hH.c2))) ?_; refine vv (.int .i64 x) 6 rfl rfl (ex_load (p := (Pz pe 0)) rfl rfl (ld3 (at_cell ke rfl))) ?_; refine vv (Pz pr 2) 7 rfl rfl (ex_fa (p := (Pz pr 0)) rfl rfl (fa45_1 _ _)) ?_
  refine vv (.int .i64 q.d) 8 rfl rfl (ex_load (p := (Pz pr 2)) rfl rfl (ld3 (at_cell kr rfl))) ?_; refine vv (.int .i64 (x - q.d)) 9 rfl rfl (ex_bin rfl rfl rfl (eg3 _ _ _ _ _ _) (sub3 _ rfl (by have := mayR_of hm; omega))) ?_; refine vv (.bool c) 10 rfl rfl (ex_bin (u := (.int .i64 v.ex)) (r := (.int .i64 (x - q.d))) rfl rfl rfl (eg3 _ _ _ _ _ _) (gtr3 _ hc)) ?_; refine vg (.bool c) 3 rfl rfl rfl rfl ?_; refine st_end ?_; subst hQ; refine wp_ret ?_
  repeat (first | refine ret_out ?_ | refine ret_blk ?_)
  exact bodyPost_ret (results_tmp Try.results49 _ _ _) rfl ⟨rfl, E⟩
set_option maxHeartbeats 4000000 in
theorem fw4 {q : RV} {H : Array Value} {v : HP} {a x h : Int} {ph : Nat} (w : World) (kh : w.heap[ph]? = some (.cells H 54)) (hH : IsHop H v)  {c : Bool} (hc : decide (v.am < 1) = c) :
    Calls Try.prog 50 #[.pointer (some ⟨ph, 0, none⟩)] w fun e w' => e = .returned (.bool c) ∧ Below w.heap.size w w' := by
  have E : Below w.heap.size w w := Below.refl _ _
  go_enter Try.func50, Try.ntmps50; refine wq fun Q hQ => ?_; refine vg (.bool false) 1 rfl rfl rfl rfl ?_; refine st_end ?_; subst hQ; refine wq fun Q hQ => ?_; refine vv (Pz ph 1) 2 rfl rfl (ex_fa (p := (Pz ph 0)) rfl rfl (fa54_1 _ _)) ?_; refine vv (.int .i64 v.am) 3 rfl rfl (ex_load (p := (Pz ph 1)) rfl rfl (ld3 (at_cell kh hH.c1))) ?_; refine vv (.bool c) 4 rfl rfl (ex_bin (u := (.int .i64 v.am)) (r := (.int .i64 1)) rfl rfl rfl (eg3 _ _ _ _ _ _) (lss3 _ hc)) ?_; refine vg (.bool c) 1 rfl rfl rfl rfl ?_; refine st_end ?_; subst hQ; refine wp_ret ?_
  repeat (first | refine ret_out ?_ | refine ret_blk ?_)
  exact bodyPost_ret (results_tmp Try.results50 _ _ _) rfl ⟨rfl, E⟩
set_option maxHeartbeats 4000000 in
theorem fw5 {q : RV} {H : Array Value} {v : HP} {a x h : Int} {px ph : Nat} (w : World) (kx : w.heap[px]? = some (.cells (XL q a x h) 90)) (kh : w.heap[ph]? = some (.cells H 54)) (hH : IsHop H v) (hb : q.b ≤ 9223372036854775807) (y0 : -9223372036854775808 ≤ v.am) (y1 : v.am ≤ 9223372036854775807) {c : Bool} (hc : belowB q a v.am = c) :
    Calls Try.prog 51 #[.pointer (some ⟨px, 0, none⟩), .pointer (some ⟨ph, 0, none⟩)] w fun e w' => e = .returned (.bool c) ∧ Below w.heap.size w w' := by
  have E : Below w.heap.size w w := Below.refl _ _
  go_enter Try.func51, Try.ntmps51; refine wq fun Q hQ => ?_; refine vg (.bool false) 2 rfl rfl rfl rfl ?_; refine st_end ?_; subst hQ; refine wq fun Q hQ => ?_; refine vv (.agg (XL q a x h)) 3 rfl rfl (ex_load (p := (Pz px 0)) rfl rfl (ld_all kx Try.underlying90 rfl inf90)) ?_; refine vv (Pz ph 1) 4 rfl rfl (ex_fa (p := (Pz ph 0)) rfl rfl (fa54_1 _ _)) ?_; refine vv (.int .i64 v.am) 5 rfl rfl (ex_load (p := (Pz ph 1)) rfl rfl (ld3 (at_cell kh hH.c1))) ?_
  refine st_call (some 6) rfl rfl (belowx_any w hb y0 y1 hc) (ex_call (f := 52) (vs := [(.agg (XL q a x h)), (.int .i64 v.am)]) rfl (cf52 _) rfl) ?_; rintro e W1 ⟨rfl, B⟩; refine ⟨_, rfl, ?_⟩; simp only [zp]; replace E := below_next E B; replace kx := keep B kx; replace kh := keep B kh; refine vg (.bool c) 2 rfl rfl rfl rfl ?_; refine st_end ?_; subst hQ; refine wp_ret ?_
  repeat (first | refine ret_out ?_ | refine ret_blk ?_)
  exact bodyPost_ret (results_tmp Try.results51 _ _ _) rfl ⟨rfl, E⟩
theorem row_at {W : World} {b : Nat} {C : Array Value} (k : W.heap[b]? = some (.cells C 93)) (i : Nat) (x : Qn) (h0 : C[0 + i * 2]? = some (.int .i64 x.re)) (h1 : C[0 + i * 2 + 1]? = some (.func (.func x.fn) x.q x.cap)) : W.rangeAt b (0 + i * 2) (QL x).toList := fun j v hv => by
  match j with
  | 0 =>
    simp [QL] at hv
    subst hv; exact at_cell k h0
  | 1 =>
    simp [QL] at hv
    subst hv; exact at_cell k h1
  | j + 2 => simp [QL] at hv
theorem bQ (re : Int) (f : Fn) (q c : Array Value) (W : World) : (Instr.build 93 #[(0, .int .i64 re), (1, .func f q c)]).run Try.prog W = .ok (.agg #[.int .i64 re, .func f q c]) W := run_build W 93 _ _ (by kernel_rfl)
theorem bX (q : RV) (a x h : Int) (W : World) : (Instr.build 90 #[(0, .agg (RL q)), (1, .int .i64 a), (2, .int .i64 x), (3, .int .i64 h)]).run Try.prog W = .ok (.agg (XL q a x h)) W := run_build W 90 _ _ (by kernel_rfl)
theorem zeroQ : (Try.prog.info? 93).map (fun i => (i.zero, i.size)) = some (some (.agg #[.int .i64 0, .nilFunc]), 2) := by kernel_rfl
theorem bsQ (r0 : Int) (f0 : Fn) (q0 c0 : Array Value) (r1 : Int) (f1 : Fn) (q1 c1 : Array Value) (r2 : Int) (f2 : Fn) (q2 c2 : Array Value) (r3 : Int) (f3 : Fn) (q3 c3 : Array Value) (r4 : Int) (f4 : Fn) (q4 c4 : Array Value) (r5 : Int) (f5 : Fn) (q5 c5 : Array Value) (W : World) : (Instr.buildSlice 124 6 [(0, .agg #[.int .i64 r0, .func f0 q0 c0]), (1, .agg #[.int .i64 r1, .func f1 q1 c1]), (2, .agg #[.int .i64 r2, .func f2 q2 c2]), (3, .agg #[.int .i64 r3, .func f3 q3 c3]), (4, .agg #[.int .i64 r4, .func f4 q4 c4]), (5, .agg #[.int .i64 r5, .func f5 q5 c5])].toArray).run Try.prog W = .ok (.slice (some ⟨W.heap.size, 0, none⟩) 6 6) (W.alloc (.cells #[.int .i64 r0, .func f0 q0 c0, .int .i64 r1, .func f1 q1 c1, .int .i64 r2, .func f2 q2 c2, .int .i64 r3, .func f3 q3 c3, .int .i64 r4, .func f4 q4 c4, .int .i64 r5, .func f5 q5 c5] 93)) :=
  bslice W 124 93 6 _ _ _ 2 Try.underlying124 zeroQ (by decide) (by decide) (by kernel_rfl)
def fwQ (q : RV) (v : HP) (a x h : Int) (px ph pe pr : Nat) : Nat → Qn
  | 0 => ⟨1, 44, #[], #[.pointer (some ⟨px, 0, none⟩), .pointer (some ⟨ph, 0, none⟩)], wrongB q a x h || decide (v.ch < 1)⟩
  | 1 => ⟨6, 46, #[.agg (XL q a x h)], #[], decide (q.f < x - h)⟩
  | 2 => ⟨5, 47, #[], #[.pointer (some ⟨px, 0, none⟩), .pointer (some ⟨ph, 0, none⟩)], decide (v.ex ≤ h + q.g)⟩
  | 3 => ⟨4, 49, #[], #[.pointer (some ⟨ph, 0, none⟩), .pointer (some ⟨pe, 0, none⟩), .pointer (some ⟨pr, 0, none⟩)], decide (x - q.d < v.ex)⟩
  | 4 => ⟨8, 50, #[], #[.pointer (some ⟨ph, 0, none⟩)], decide (v.am < 1)⟩
  | _ => ⟨3, 51, #[], #[.pointer (some ⟨px, 0, none⟩), .pointer (some ⟨ph, 0, none⟩)], belowB q a v.am⟩
set_option maxHeartbeats 4000000 in
theorem fwQ_ask {q : RV} {H : Array Value} {v : HP} {a x h : Int} {px ph pe pr : Nat} (w : World) (kx : w.heap[px]? = some (.cells (XL q a x h) 90)) (kh : w.heap[ph]? = some (.cells H 54)) (ke : w.heap[pe]? = some (.cells #[.int .i64 x] 3)) (kr : w.heap[pr]? = some (.cells (RL q) 45)) (hH : IsHop H v) (hb : q.b ≤ 9223372036854775807) (y0 : -9223372036854775808 ≤ v.am) (y1 : v.am ≤ 9223372036854775807) :
    ∀ i, i < 6 → (∀ j, j < i → (fwQ q v a x h px ph pe pr j).c = false) → ∀ W, Below w.heap.size w W → Calls Try.prog (fwQ q v a x h px ph pe pr i).fn ((fwQ q v a x h px ph pe pr i).q ++ [].toArray ++ (fwQ q v a x h px ph pe pr i).cap) W fun e w' => e = .returned (.bool (fwQ q v a x h px ph pe pr i).c) ∧ Below W.heap.size W w' := by
  intro i hi hno W B
  have NW : 0 < i → mayR q = true ∧ 0 ≤ a ∧ 0 ≤ x ∧ x ≤ 2147483647 ∧ 0 ≤ h ∧ h ≤ 2147483647 := fun h0 => by
    have := hno 0 h0
    exact not_wrong (Bool.or_eq_false_iff.1 this).1
  match i, hi with
  | 0, _ =>
    skip
    exact fw1 W (keep B kx) (keep B kh) hH hb rfl
  | 1, _ =>
    obtain ⟨hm, a0, x0, x1, h0, h1⟩ := NW (by omega); exact far_any W x0 x1 h0 h1 rfl
  | 2, _ =>
    obtain ⟨hm, a0, x0, x1, h0, h1⟩ := NW (by omega); exact fw2 W (keep B kx) (keep B kh) hH x0 x1 h0 h1 hm rfl
  | 3, _ =>
    obtain ⟨hm, a0, x0, x1, h0, h1⟩ := NW (by omega); exact fw3 (a := a) W (keep B kh) (keep B ke) (keep B kr) hH x0 x1 h0 h1 hm rfl
  | 4, _ =>
    obtain ⟨hm, a0, x0, x1, h0, h1⟩ := NW (by omega); exact fw4 (q := q) (a := a) (x := x) (h := h) W (keep B kh) hH rfl
  | 5, _ =>
    obtain ⟨hm, a0, x0, x1, h0, h1⟩ := NW (by omega); exact fw5 W (keep B kx) (keep B kh) hH hb y0 y1 rfl
  | n + 6, h => omega
set_option maxHeartbeats 8000000 in
theorem fwd_any {q : RV} {H : Array Value} {v : HP} {a x h : Int} (w : World) (hH : IsHop H v) (hb : q.b ≤ 9223372036854775807) (y0 : -9223372036854775808 ≤ v.am) (y1 : v.am ≤ 9223372036854775807) : Calls Try.prog 15 #[.agg (RL q), .agg H, .int .i64 a, .int .i64 x, .int .i64 h] w fun e w' => e = .returned (.int .i64 (fwdN q v a x h)) ∧ Below w.heap.size w w' := by
  have E : Below w.heap.size w w := Below.refl _ _
  go_enter Try.func15, Try.ntmps15; refine wq fun Q hQ => ?_; refine st_new (fun b => .pointer (some ⟨b, 0, none⟩)) (some 5) rfl rfl (ex_box rfl rfl) ?_; intro b1 W1 k1 g1 B; simp only [zp]; have ge_b1 := Nat.le_trans E.size g1; replace E := below_next E B; clear B; refine st_new (fun b => .pointer (some ⟨b, 0, none⟩)) (some 6) rfl rfl (ex_box rfl rfl) ?_; intro b2 W2 k2 g2 B; simp only [zp]
  have ne_b2_b1 : b2 ≠ b1 := fun e => by have := lt_of k1; omega
  have ge_b2 := Nat.le_trans E.size g2; replace E := below_next E B; replace k1 := keep B k1; clear B; refine st_new (fun b => .pointer (some ⟨b, 0, none⟩)) (some 8) rfl rfl (ex_box3 rfl rfl) ?_; intro b3 W3 k3 g3 B; simp only [zp]
  have ne_b3_b1 : b3 ≠ b1 := fun e => by have := lt_of k1; omega
  have ne_b3_b2 : b3 ≠ b2 := fun e => by have := lt_of k2; omega
  have ge_b3 := Nat.le_trans E.size g3; replace E := below_next E B; replace k1 := keep B k1; replace k2 := keep B k2; clear B; refine vg (.int .i64 0) 10 rfl rfl rfl rfl ?_; refine st_end ?_; subst hQ; refine wq fun Q hQ => ?_; refine vv (.agg (RL q)) 12 rfl rfl (ex_load (p := (Pz b1 0)) rfl rfl (ld_all k1 Try.underlying45 rfl inf45)) ?_; refine vm (.int .i64 a) 13 rfl rfl rfl rfl ?_; refine vv (.int .i64 x) 14 rfl rfl (ex_load (p := (Pz b3 0)) rfl rfl (ld3 (at_cell k3 rfl))) ?_; refine vm (.int .i64 h) 15 rfl rfl rfl rfl ?_
  refine vv (.agg (XL q a x h)) 16 rfl rfl (ex_build4 (v1 := (.agg (RL q))) (v2 := (.int .i64 a)) (v3 := (.int .i64 x)) (v4 := (.int .i64 h)) rfl rfl rfl rfl rfl (bX _ _ _ _ _)) ?_; refine st_new (fun b => .pointer (some ⟨b, 0, none⟩)) (some 11) rfl rfl (ex_alloc rfl zero90) ?_; intro b4 W4 k4 g4 B; simp only [zp]
  have ne_b4_b1 : b4 ≠ b1 := fun e => by have := lt_of k1; omega
  have ne_b4_b2 : b4 ≠ b2 := fun e => by have := lt_of k2; omega
  have ne_b4_b3 : b4 ≠ b3 := fun e => by have := lt_of k3; omega
  have ge_b4 := Nat.le_trans E.size g4; replace E := below_next E B; replace k1 := keep B k1; replace k2 := keep B k2; replace k3 := keep B k3; clear B; obtain ⟨W5, hst, kn, K⟩ := put_all (D := (XL q a x h)) k4 rfl inf90 (by kernel_rfl); refine st_sk rfl rfl (ex_store rfl rfl rfl hst) ?_; replace E := below_put E ge_b4 K; replace k1 := keepK K k1 (fun e => ne_tag k1 k4 (by decide) e); replace k2 := keepK K k2 (fun e => ne_tag k2 k4 (by decide) e); replace k3 := keepK K k3 (fun e => ne_tag k3 k4 (by decide) e); replace k4 := kn; clear kn K hst; refine st_end ?_; subst hQ
  refine wq fun Q hQ => ?_; refine vv (.func (.func 44) #[] #[(Pz b4 0), (Pz b2 0)]) 17 rfl rfl (ex_mkf rfl rfl) ?_; refine vv (.agg #[(.int .i64 1), (.func (.func 44) #[] #[(Pz b4 0), (Pz b2 0)])]) 18 rfl rfl (ex_build2 (v1 := (.int .i64 1)) (v2 := (.func (.func 44) #[] #[(Pz b4 0), (Pz b2 0)])) rfl rfl rfl (bQ _ _ _ _ _)) ?_; refine vv (.agg (XL q a x h)) 19 rfl rfl (ex_load (p := (Pz b4 0)) rfl rfl (ld_all k4 Try.underlying90 rfl inf90)) ?_; refine vv (.func (.func 46) #[(.agg (XL q a x h))] #[]) 20 rfl rfl (ex_mkb (v := (.agg (XL q a x h))) rfl rfl) ?_
  refine vv (.agg #[(.int .i64 6), (.func (.func 46) #[(.agg (XL q a x h))] #[])]) 21 rfl rfl (ex_build2 (v1 := (.int .i64 6)) (v2 := (.func (.func 46) #[(.agg (XL q a x h))] #[])) rfl rfl rfl (bQ _ _ _ _ _)) ?_; refine vv (.func (.func 47) #[] #[(Pz b4 0), (Pz b2 0)]) 22 rfl rfl (ex_mkf rfl rfl) ?_; refine vv (.agg #[(.int .i64 5), (.func (.func 47) #[] #[(Pz b4 0), (Pz b2 0)])]) 23 rfl rfl (ex_build2 (v1 := (.int .i64 5)) (v2 := (.func (.func 47) #[] #[(Pz b4 0), (Pz b2 0)])) rfl rfl rfl (bQ _ _ _ _ _)) ?_
  refine vv (.func (.func 49) #[] #[(Pz b2 0), (Pz b3 0), (Pz b1 0)]) 24 rfl rfl (ex_mkf rfl rfl) ?_; refine vv (.agg #[(.int .i64 4), (.func (.func 49) #[] #[(Pz b2 0), (Pz b3 0), (Pz b1 0)])]) 25 rfl rfl (ex_build2 (v1 := (.int .i64 4)) (v2 := (.func (.func 49) #[] #[(Pz b2 0), (Pz b3 0), (Pz b1 0)])) rfl rfl rfl (bQ _ _ _ _ _)) ?_; refine vv (.func (.func 50) #[] #[(Pz b2 0)]) 26 rfl rfl (ex_mkf rfl rfl) ?_
  refine vv (.agg #[(.int .i64 8), (.func (.func 50) #[] #[(Pz b2 0)])]) 27 rfl rfl (ex_build2 (v1 := (.int .i64 8)) (v2 := (.func (.func 50) #[] #[(Pz b2 0)])) rfl rfl rfl (bQ _ _ _ _ _)) ?_; refine vv (.func (.func 51) #[] #[(Pz b4 0), (Pz b2 0)]) 28 rfl rfl (ex_mkf rfl rfl) ?_; refine vv (.agg #[(.int .i64 3), (.func (.func 51) #[] #[(Pz b4 0), (Pz b2 0)])]) 29 rfl rfl (ex_build2 (v1 := (.int .i64 3)) (v2 := (.func (.func 51) #[] #[(Pz b4 0), (Pz b2 0)])) rfl rfl rfl (bQ _ _ _ _ _)) ?_
  refine st_new (fun b => .slice (some ⟨b, 0, none⟩) 6 6) (some 30) rfl rfl (ex_bslN (vs := [(0, (.agg #[(.int .i64 1), (.func (.func 44) #[] #[(Pz b4 0), (Pz b2 0)])])), (1, (.agg #[(.int .i64 6), (.func (.func 46) #[(.agg (XL q a x h))] #[])])), (2, (.agg #[(.int .i64 5), (.func (.func 47) #[] #[(Pz b4 0), (Pz b2 0)])])), (3, (.agg #[(.int .i64 4), (.func (.func 49) #[] #[(Pz b2 0), (Pz b3 0), (Pz b1 0)])])), (4, (.agg #[(.int .i64 8), (.func (.func 50) #[] #[(Pz b2 0)])])), (5, (.agg #[(.int .i64 3), (.func (.func 51) #[] #[(Pz b4 0), (Pz b2 0)])]))]) rfl rfl (bsQ _ _ _ _ _ _ _ _ _ _ _ _ _ _ _ _ _ _ _ _ _ _ _ _ _)) ?_
  intro b5 W6 k5 g5 B; simp only [zp]
  have ne_b5_b1 : b5 ≠ b1 := fun e => by have := lt_of k1; omega
  have ne_b5_b2 : b5 ≠ b2 := fun e => by have := lt_of k2; omega
  have ne_b5_b3 : b5 ≠ b3 := fun e => by have := lt_of k3; omega
  have ne_b5_b4 : b5 ≠ b4 := fun e => by have := lt_of k4; omega
  have ge_b5 := Nat.le_trans E.size g5; replace E := below_next E B; replace k1 := keep B k1; replace k2 := keep B k2; replace k3 := keep B k3; replace k4 := keep B k4; clear B
  refine st_call (some 31) rfl rfl (first_any b5 6 (fwQ q v a x h b4 b2 b3 b1) W6 (fun i hi => match i, hi with | 0, _ => row_at k5 0 _ rfl rfl | 1, _ => row_at k5 1 _ rfl rfl | 2, _ => row_at k5 2 _ rfl rfl | 3, _ => row_at k5 3 _ rfl rfl | 4, _ => row_at k5 4 _ rfl rfl | 5, _ => row_at k5 5 _ rfl rfl | n + 6, h => absurd h (by omega)) (by decide) (fun i hi => match i, hi with | 0, _ => cf44 | 1, _ => cf46 | 2, _ => cf47 | 3, _ => cf49 | 4, _ => cf50 | 5, _ => cf51 | n + 6, h => absurd h (by omega)) (fwQ_ask W6 k4 k2 k3 k1 hH hb y0 y1)) (ex_call (f := 43) (vs := [(.slice (some ⟨b5, 0, none⟩) 6 6)]) rfl (cf43 _) rfl) ?_
  rintro e W7 ⟨rfl, B⟩; refine ⟨_, rfl, ?_⟩; simp only [zp]; replace E := below_next E B; replace k1 := keep B k1; replace k2 := keep B k2; replace k3 := keep B k3; replace k4 := keep B k4; replace k5 := keep B k5; refine vg (.int .i64 (frst (fwQ q v a x h b4 b2 b3 b1) 6 0)) 10 rfl rfl rfl rfl ?_; refine st_end ?_; subst hQ; refine wp_ret ?_
  repeat (first | refine ret_out ?_ | refine ret_blk ?_)
  exact bodyPost_ret (results_tmp Try.results15 _ _ _) rfl ⟨rfl, E⟩
end Go.Proofs.Ytgnkcmmpbohafaa

/- What a way that is found is: where it leads, what goes into each of its edges, when it expires there; it is handed on. -/
namespace Go.Proofs.Ytgnkcmmpbohafaa
open Go.RowKit
set_option linter.unusedVariables false
set_option linter.unusedSimpArgs false
set_option maxRecDepth 100000
theorem lay_inv {v : WV} {e : EV} {r : List EV} {z : List Int × List Int} (h : layN v (e :: r) = some z) : ∃ a x am xs, z = (a :: am, x :: xs) ∧ layN v r = some (am, xs) ∧ into v r am xs = some (a, x) ∧ a ≤ e.cap ∧ x ≤ 2147483647 := by
  unfold layN at h
  cases h1 : layN v r with
  | none => rw [h1] at h; cases h
  | some y =>
    rw [h1] at h
    have h : (into v r y.1 y.2).bind _ = _ := h
    cases h2 : into v r y.1 y.2 with
    | none => rw [h2] at h; cases h
    | some u =>
      rw [h2] at h
      have h : (if _ then _ else _) = _ := h
      split at h
      · cases h
      · cases h
        exact ⟨u.1, u.2, y.1, y.2, rfl, rfl, h2, by omega, by omega⟩
theorem into_inv {v : WV} {e : EV} {r : List EV} {a x : Int} {am xs : List Int} {b z : Int} (h : into v (e :: r) (a :: am) (x :: xs) = some (b, z)) : inE e.q.b e.q.r a = 0 ∧ b = inN e.q.b e.q.r a ∧ z = x + e.q.d := by
  have h : (if inE e.q.b e.q.r a = 0 then some (inN e.q.b e.q.r a, x + e.q.d) else none) = some (b, z) := h
  split at h
  · rename_i h0
    cases h
    exact ⟨h0, rfl, rfl⟩
  · cases h
theorem lay_cap {v : WV} : ∀ {es : List EV} {z : List Int × List Int}, layN v es = some z → ∀ (i : Nat) (e : EV) (a : Int), es[i]? = some e → z.1[i]? = some a → a ≤ e.cap
  | [], _, _, _, _, _, he, _ => by simp at he
  | d :: r, z, h, i, e, a, he, ha => by
    obtain ⟨b, x, am, xs, rfl, h1, h2, h3, h4⟩ := lay_inv h
    cases i with
    | zero => simp at he ha; subst he; subst ha; exact h3
    | succ i => exact lay_cap h1 i e a (by simpa using he) (by simpa using ha)
theorem lay_xle {v : WV} : ∀ {es : List EV} {z : List Int × List Int}, layN v es = some z → ∀ (i : Nat) (x : Int), z.2[i]? = some x → x ≤ 2147483647
  | [], z, h, i, x, hx => by cases h; simp at hx
  | d :: r, z, h, i, x, hx => by
    obtain ⟨b, y, am, xs, rfl, h1, h2, h3, h4⟩ := lay_inv h
    cases i with
    | zero => simp at hx; subst hx; exact h4
    | succ i => exact lay_xle h1 i x (by simpa using hx)
theorem lay_inn {v : WV} : ∀ {es : List EV} {z : List Int × List Int}, layN v es = some z → ∀ (i : Nat) (e : EV) (a b x y : Int), es[i + 1]? = some e → z.1[i + 1]? = some a → z.1[i]? = some b → z.2[i + 1]? = some x → z.2[i]? = some y → inE e.q.b e.q.r a = 0 ∧ b = inN e.q.b e.q.r a ∧ y = x + e.q.d
  | [], _, _, _, _, _, _, _, _, he, _, _, _, _ => by simp at he
  | d :: r, z, h, i, e, a, b, x, y, he, ha, hb, hx, hy => by
    obtain ⟨b', x', am, xs, rfl, h1, h2, h3, h4⟩ := lay_inv h
    cases i with
    | zero =>
      simp at hb hy
      subst hb; subst hy
      cases r with
      | nil => simp at he
      | cons e' r' =>
        obtain ⟨b2, x2, am2, xs2, hz, _, _, _, _⟩ := lay_inv h1
        cases hz
        simp at he ha hx
        subst he; subst ha; subst hx; exact into_inv h2
    | succ i => exact lay_inn h1 i e a b x y (by simpa using he) (by simpa using ha) (by simpa using hb) (by simpa using hx) (by simpa using hy)
theorem lay_lst {v : WV} : ∀ {es : List EV} {z : List Int × List Int}, layN v es = some z → es ≠ [] → z.1[es.length - 1]? = some v.am ∧ z.2[es.length - 1]? = some v.la
  | [], _, _, h => absurd rfl h
  | [d], z, h, _ => by
    obtain ⟨b, y, am, xs, rfl, h1, h2, h3, h4⟩ := lay_inv h
    cases h1
    unfold into at h2
    cases h2
    exact ⟨rfl, rfl⟩
  | d :: e :: r, z, h, _ => by
    obtain ⟨b, y, am, xs, rfl, h1, h2, h3, h4⟩ := lay_inv h
    have := lay_lst h1 (by simp)
    simpa using this
theorem lay_pos {v : WV} (hv : 1 ≤ v.am) : ∀ {es : List EV} {z : List Int × List Int}, layN v es = some z → ∀ a ∈ z.1, 1 ≤ a
  | [], z, h, a, ha => by cases h; simp at ha
  | d :: r, z, h, a, ha => by
    obtain ⟨b, y, am, xs, rfl, h1, h2, h3, h4⟩ := lay_inv h
    rcases List.mem_cons.1 ha with rfl | ha
    · cases r with
      | nil => unfold into at h2; cases h2; exact hv
      | cons e' r' =>
        obtain ⟨b2, x2, am2, xs2, hz, _, _, _, _⟩ := lay_inv h1
        cases hz
        have h5 := lay_pos hv h1 b2 (List.mem_cons_self ..); obtain ⟨i1, i2, _⟩ := into_inv h2
        have := in_ge i1 (by omega)
        omega
    · exact lay_pos hv h1 a ha
theorem lay_xpos {v : WV} (hv : 0 ≤ v.la) : ∀ {es : List EV} {z : List Int × List Int}, (∀ e ∈ es, 1 ≤ e.q.d) → layN v es = some z → ∀ x ∈ z.2, 0 ≤ x
  | [], z, _, h, a, ha => by cases h; simp at ha
  | d :: r, z, hd, h, a, ha => by
    obtain ⟨b, y, am, xs, rfl, h1, h2, h3, h4⟩ := lay_inv h
    have hr : ∀ e ∈ r, 1 ≤ e.q.d := fun e he => hd e (List.mem_cons_of_mem _ he)
    rcases List.mem_cons.1 ha with rfl | ha
    · cases r with
      | nil => unfold into at h2; cases h2; exact hv
      | cons e' r' =>
        obtain ⟨b2, x2, am2, xs2, hz, _, _, _, _⟩ := lay_inv h1
        cases hz
        have h5 := lay_xpos hv hr h1 x2 (List.mem_cons_self ..); obtain ⟨_, _, i3⟩ := into_inv h2
        have := hr e' (List.mem_cons_self ..)
        omega
    · exact lay_xpos hv hr h1 a ha
/-- edges that lead on, from the edges l on -/
def Pth (L : List EV) (v : WV) : List EV → List EV → Prop
  | _, [] => False
  | l, [e] => e ∈ l ∧ e.to = v.to
  | l, e :: d :: r => e ∈ l ∧ Pth L v (nxt L e.to) (d :: r)
theorem wys_path {L : List EV} {v : WV} : ∀ k g p l es, es ∈ wys L v k g p l → ∃ q, es = p ++ q ∧ Pth L v l q ∧ (∀ e ∈ q, ¬ e.to ∈ g) ∧ (q.map (·.to)).Nodup
  | 0, _, _, _, _, h => by simp [wys] at h
  | k + 1, g, p, l, es, h => by
    simp only [wys, List.mem_flatMap] at h; obtain ⟨e, he, h⟩ := h
    by_cases hs : skip v g e = true
    · rw [if_pos hs] at h; cases h
    rw [if_neg hs] at h
    have hg : ¬ e.to ∈ g := by
      unfold skip at hs
      simp only [Bool.or_eq_true, decide_eq_true_eq, not_or] at hs; exact hs.2
    by_cases hto : e.to = v.to
    · rw [if_pos hto] at h
      exact ⟨[e], List.mem_singleton.1 h, ⟨he, hto⟩, fun d hd => by rw [List.mem_singleton.1 hd]; exact hg, by simp⟩
    · rw [if_neg hto] at h
      obtain ⟨q, rfl, hp, hn, hd⟩ := wys_path k _ _ _ _ h; refine ⟨e :: q, by simp, ?_, ?_, ?_⟩
      · cases q with
        | nil => exact hp.elim
        | cons d r => exact ⟨he, hp⟩
      · intro d hd
        rcases List.mem_cons.1 hd with rfl | hd
        · exact hg
        · exact fun h => hn d hd (List.mem_cons_of_mem _ h)
      · simp only [List.map_cons, List.nodup_cons]
        refine ⟨fun h => ?_, hd⟩; obtain ⟨d, hd1, hd2⟩ := List.mem_map.1 h; exact hn d hd1 (by rw [hd2]; exact List.mem_cons_self ..)
theorem pth_mem {L : List EV} {v : WV} : ∀ {q l : List EV}, (∀ e ∈ l, e ∈ L) → Pth L v l q → ∀ e ∈ q, e ∈ L
  | [], _, _, h, _, _ => h.elim
  | [d], l, hl, h, e, he => by rw [List.mem_singleton.1 he]; exact hl d h.1
  | d :: f :: r, l, hl, h, e, he => by
    rcases List.mem_cons.1 he with rfl | he
    · exact hl e h.1
    · exact pth_mem (fun x hx => (List.mem_filter.1 hx).1) h.2 e he
theorem pth_ne {L : List EV} {v : WV} {l q : List EV} (h : Pth L v l q) : q ≠ [] := fun e => by subst e; exact h
theorem pth_fst {L : List EV} {v : WV} {n : Int} {q : List EV} (h : Pth L v (nxt L n) q) {e : EV} (he : q[0]? = some e) : e.fr = n := by
  have key : ∀ d, d ∈ nxt L n → d.fr = n := fun d hd => by
    have := (List.mem_filter.1 hd).2
    simpa using this
  match q, h with
  | [d], h => simp at he; subst he; exact key d h.1
  | d :: f :: r, h => simp at he; subst he; exact key d h.1
theorem pth_lst {L : List EV} {v : WV} : ∀ {q l : List EV}, Pth L v l q → ∀ e, q[q.length - 1]? = some e → e.to = v.to
  | [], _, h, _, _ => h.elim
  | [d], _, h, e, he => by simp at he; subst he; exact h.2
  | d :: f :: r, _, h, e, he => pth_lst h.2 e (by simpa using he)
theorem pth_stp {L : List EV} {v : WV} : ∀ {q l : List EV}, Pth L v l q → ∀ (i : Nat) (d e : EV), q[i]? = some d → q[i + 1]? = some e → e.fr = d.to
  | [], _, h, _, _, _, _, _ => h.elim
  | [_], _, _, _, _, _, _, he => by simp at he
  | c :: f :: r, _, h, i, d, e, hd, he => by
    cases i with
    | zero =>
      simp at hd
      subst hd; exact pth_fst h.2 (by simpa using he)
    | succ i => exact pth_stp h.2 i d e (by simpa using hd) (by simpa using he)
structure Wok (L : List EV) (v : WV) (y : YV) : Prop where
  n1 : 1 ≤ y.es.length
  n8 : y.es.length ≤ 8
  na : y.am.length = y.es.length
  nx : y.xs.length = y.es.length
  fst : ∀ e, y.es[0]? = some e → e.fr = v.fr
  lst : ∀ e, y.es[y.es.length - 1]? = some e → e.to = v.to
  aml : y.am[y.es.length - 1]? = some v.am
  xsl : y.xs[y.es.length - 1]? = some v.la
  fee : ∀ a, y.am[0]? = some a → a - v.am = y.fee
  mo : y.fee ≤ v.mo
  eb : ∀ e ∈ y.es, EB e
  stp : ∀ (i : Nat) (d e : EV), y.es[i]? = some d → y.es[i + 1]? = some e → e.fr = d.to
  cap : ∀ (i : Nat) (e : EV) (a : Int), y.es[i]? = some e → y.am[i]? = some a → a ≤ e.cap
  inn : ∀ (i : Nat) (e : EV) (a b x z : Int), y.es[i + 1]? = some e → y.am[i + 1]? = some a → y.am[i]? = some b → y.xs[i + 1]? = some x → y.xs[i]? = some z → inE e.q.b e.q.r a = 0 ∧ b = inN e.q.b e.q.r a ∧ z = x + e.q.d
  pos : ∀ a ∈ y.am, 1 ≤ a
  xle : ∀ x ∈ y.xs, 0 ≤ x ∧ x ≤ 2147483647
  cst : y.cost = jn (cstN v.ti none y.es y.am) 0
  nan : lsN y.cost 9218868437227405312 = true
theorem find_ok {L : List EV} {v : WV} {y : YV} (hI : ∀ e ∈ L, EB e) (h : fndR L v = (0, some y)) : Wok L v y := by
  unfold fndR at h
  by_cases hw : mayW v = false
  · rw [if_pos hw] at h; simp at h
  rw [if_neg hw] at h
  have hw' : mayW v = true := by simpa using hw
  unfold mayW at hw'
  simp only [Bool.and_eq_true, decide_eq_true_eq] at hw'; obtain ⟨⟨⟨⟨⟨⟨nf, nt⟩, nne⟩, ham⟩, hla⟩, hla2⟩, hmo⟩ := hw'
  cases hb : bst v none (rem L v [(E0 v, nxt L v.fr)]) with
  | none => rw [hb] at h; simp at h
  | some y' =>
    rw [hb] at h; simp only at h
    split at h
    · cases h
    · cases h
      rcases bst_mem _ none _ hb with ⟨es, he, hx⟩ | h0
      rotate_left
      · cases h0
      have he' : es ∈ wys L v 9 (gon [(E0 v, nxt L v.fr)]) (pre [(E0 v, nxt L v.fr)]) (nxt L v.fr) := by simpa [rem] using he
      obtain ⟨q, hq, hp, hgone, hnd⟩ := wys_path _ _ _ _ _ he'
      have hq : es = q := by simpa [pre] using hq
      subst hq; have hmem := pth_mem (fun x hx => (List.mem_filter.1 hx).1) hp
      have heb : ∀ e ∈ es, EB e := fun e he => hI e (hmem e he)
      have hesy := way_its hx
      have hlen : es.length ≤ 8 := by
        have := few 8 (es.map (·.to)) hnd (fun x hx => by
          obtain ⟨e, he, rfl⟩ := List.mem_map.1 hx
          have := (heb e he).ok
          unfold mayE nodeB at this
          simp only [Bool.and_eq_true, decide_eq_true_eq] at this
          omega)
        simpa using this
      have hne := pth_ne hp
      have hl1 : 1 ≤ es.length := by
        cases es with
        | nil => exact absurd rfl hne
        | cons a r => simp
      unfold wayN at hx
      cases hz : layN v es with
      | none => rw [hz] at hx; cases hx
      | some z =>
        rw [hz] at hx
        have hx : (if _ then _ else _) = _ := hx
        split at hx
        · cases hx
        · rename_i hfee
          split at hx
          · rename_i hnan
            cases hx
            have hll := lay_len hz
            have hdl : ∀ e ∈ es, 1 ≤ e.q.d := fun e he => (heb e he).delta.1
            have hlst := lay_lst hz hne; refine ⟨hl1, hlen, hll.1, hll.2, fun e he => pth_fst hp he, pth_lst hp, hlst.1, hlst.2, fun a ha => ?_, Int.not_lt.1 hfee, heb, pth_stp hp, lay_cap hz, lay_inn hz, lay_pos (by omega) hz, fun x hx => ⟨lay_xpos (by omega) hdl hz x hx, ?_⟩, rfl, hnan⟩
            · cases hz1 : z.1 with
              | nil => rw [hz1] at ha; simp at ha
              | cons a' r => rw [hz1] at ha; simp at ha; subst ha; rfl
            · obtain ⟨i, hi⟩ := List.getElem?_of_mem hx
              exact lay_xle hz i x hi
          · cases hx
/-- what is reckoned for a way is handed on: but it may be too far off, or too soon -/
theorem fwd_way {L : List EV} {v : WV} {y : YV} (h : Wok L v y) {i : Nat} {e : EV} {a b x z t : Int} (he : y.es[i + 1]? = some e) (ha : y.am[i + 1]? = some a) (hb : y.am[i]? = some b) (hx : y.xs[i + 1]? = some x) (hz : y.xs[i]? = some z) (t0 : 0 ≤ t) (t1 : t ≤ 2147483647) : fwdN e.q ⟨e.ch, a, x⟩ b z t = 0 ∨ fwdN e.q ⟨e.ch, a, x⟩ b z t = 6 ∨ fwdN e.q ⟨e.ch, a, x⟩ b z t = 5 := by
  obtain ⟨i1, i2, i3⟩ := h.inn i e a b x z he ha hb hx hz; have hE := h.eb e (List.mem_of_getElem? he); have hok := hE.ok; have hA := h.pos a (List.mem_of_getElem? ha); have hB := h.pos b (List.mem_of_getElem? hb); have hZ := h.xle z (List.mem_of_getElem? hz); have hX := h.xle x (List.mem_of_getElem? hx)
  have hm : mayR e.q = true := by
    unfold mayE at hok
    simp only [Bool.and_eq_true] at hok; exact hok.2
  have hch : 1 ≤ e.ch := by
    unfold mayE chanB at hok
    simp only [Bool.and_eq_true, decide_eq_true_eq] at hok
    omega
  have hw : wrongB e.q b z t = false := by
    unfold wrongB okH
    rw [hm]; simp only [Bool.not_true, Bool.false_or, Bool.or_eq_false_iff, decide_eq_false_iff_not, Bool.not_eq_false', Bool.and_eq_true, decide_eq_true_eq]
    omega
  unfold fwdN
  rw [hw, if_neg (by simp only [Bool.false_or, decide_eq_true_eq]; omega)]
  split
  · exact .inr (.inl rfl)
  · split
    · exact .inr (.inr rfl)
    · rw [if_neg (by simp only [decide_eq_true_eq]; omega), if_neg (by simp only [decide_eq_true_eq]; omega), if_neg]
      · exact .inl rfl
      · unfold belowB
        simp only [Bool.or_eq_true, decide_eq_true_eq]
        omega
end Go.Proofs.Ytgnkcmmpbohafaa
