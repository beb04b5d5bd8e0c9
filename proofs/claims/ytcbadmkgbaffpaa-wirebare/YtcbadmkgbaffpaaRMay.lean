/- What the document's May asks, as plain numbers; and laws for its chain of comparisons. -/
import Derived.Test.YtcbadmkgbaffpaaRBare
import Derived.Test.YtcbadmkgbaffpaaRSame
namespace Go.Proofs.Ytcbadmkgbaffpaa
open Go.RowKit
set_option linter.unusedVariables false

theorem zero_same {f : Fld} {i : Nat} (h : f.fits i) : decide (f.plain = (ZF i).plain) = zeroB f := by
  rcases form_cases i with hf | hf | hf
  · obtain ⟨n, rfl⟩ := fits_num h hf
    by_cases e : n = 0 <;> simp [ZF, hf, Fld.plain, zeroB, e]
  · obtain ⟨l, rfl, _⟩ := fits_arr h hf
    by_cases e : l = Z32 <;> simp [ZF, hf, Fld.plain, zeroB, e]
  · obtain ⟨a, c, l, rfl⟩ := fits_lst h hf
    cases l <;> simp [ZF, hf, Fld.plain, zeroB] <;> omega
theorem bareF_in {K : Int} {F : Nat → Fld} {i : Nat} (h : i ∈ fl K) : bareF K F i = F i := by simp [bareF, bareK, h]
theorem bareF_out {K : Int} {F : Nat → Fld} {i : Nat} (h : i ∉ fl K) : bareF K F i = ZF i := by simp [bareF, bareK, h]
theorem same_bare {K : Int} {F : Nat → Fld} (hF : Fits F) : sameB K K F (bareF K F) = true ↔ ∀ i, i < 12 → i ∉ fl K → zeroB (F i) = true := by
  unfold sameB
  simp only [beq_self_eq_true, Bool.true_and, List.all_eq_true, List.mem_range]
  constructor
  · intro h i hi hn
    have := h i hi
    rw [bareF_out hn, zero_same (hF i hi)] at this
    exact this
  · intro h i hi
    by_cases hm : i ∈ fl K
    · rw [bareF_in hm]; simp
    · rw [bareF_out hm, zero_same (hF i hi)]; exact h i hi hm
theorem mayB_iff {K : Int} {F : Nat → Fld} : mayB K F = true ↔ fl K ≠ [] ∧ ∀ i, i < 12 → okB K F i = true := by
  unfold mayB
  rw [Bool.and_eq_true, allB_true]
  simp
theorem fl_zero {K : Int} (h : fl K ≠ []) : 0 ∈ fl K := by
  unfold fl at *
  repeat' split at h
  all_goals first | exact absurd rfl h | simp [*]
theorem fl_five {K : Int} : 5 ∈ fl K ↔ K = 1 := by
  unfold fl
  repeat' split
  all_goals simp_all
/-- is a number of a message too great or too small, or its reason too long? -/
def badB (x0 x1 x2 x3 x9 x10 n : Int) : Bool :=
  (((((((((((decide (x0 < 1) || decide (x0 > 65535)) || decide (x1 < 0)) || decide (x1 > 2147483647)) || decide (x2 < 0)) || decide (x3 < 0)) || decide (x3 > 2147483647)) || decide (x9 < 0)) || decide (x9 > 2147483647)) || decide (x10 < 0)) || decide (x10 > 2147483647)) || decide (n > 256))
theorem rmay_math {K : Int} {F : Nat → Fld} (hF : Fits F) (hf : fl K ≠ []) {x0 x1 x2 x3 x9 x10 : Int} {a5 a11 : Option Addr} {c5 c11 : Nat} {l5 l11 : List Int} (hA : x2 ≤ 9223372036854775807)
    (h0 : F 0 = .num x0) (h1 : F 1 = .num x1) (h2 : F 2 = .num x2) (h3 : F 3 = .num x3) (h9 : F 9 = .num x9) (h10 : F 10 = .num x10) (h5 : F 5 = .lst a5 c5 l5) (h11 : F 11 = .lst a11 c11 l11) :
    mayB K F = (sameB K K F (bareF K F) && (!badB x0 x1 x2 x3 x9 x10 l11.length && ((K != 1) || ((l5.length : Int) == 2112)))) := by
  rw [Bool.eq_iff_iff, mayB_iff, Bool.and_eq_true, Bool.and_eq_true, same_bare hF]
  have hb : (!badB x0 x1 x2 x3 x9 x10 l11.length) = true ↔ (1 ≤ x0 ∧ x0 ≤ 65535 ∧ 0 ≤ x1 ∧ x1 ≤ 2147483647 ∧ 0 ≤ x2 ∧ 0 ≤ x3 ∧ x3 ≤ 2147483647 ∧ 0 ≤ x9 ∧ x9 ≤ 2147483647 ∧ 0 ≤ x10 ∧ x10 ≤ 2147483647 ∧ (l11.length : Int) ≤ 256) := by
    unfold badB
    simp only [Bool.not_eq_true', Bool.or_eq_false_iff, decide_eq_false_iff_not, Int.not_lt, gt_iff_lt]
    omega
  have h5' : ((K != 1) || ((l5.length : Int) == 2112)) = true ↔ (K = 1 → (l5.length : Int) = 2112) := by
    simp only [Bool.or_eq_true, bne_iff_ne, beq_iff_eq]
    omega
  rw [hb, h5']
  have ok : ∀ i, okB K F i = if i ∈ fl K then withinB i (F i) else zeroB (F i) := fun i => rfl
  constructor
  · rintro ⟨_, h⟩
    have g : ∀ i, i < 12 → i ∈ fl K → withinB i (F i) = true := fun i hi hm => by have := h i hi; rw [ok, if_pos hm] at this; exact this
    have z : ∀ i, i < 12 → i ∉ fl K → zeroB (F i) = true := fun i hi hm => by have := h i hi; rw [ok, if_neg hm] at this; exact this
    have num : ∀ i x, i < 12 → F i = .num x → (i ∈ fl K ∧ lo i ≤ x ∧ x ≤ hi i) ∨ (i ∉ fl K ∧ x = 0) := fun i x hi hx => by
      by_cases hm : i ∈ fl K
      · have := g i hi hm; rw [hx] at this; exact .inl ⟨hm, of_decide_eq_true this⟩
      · have := z i hi hm; rw [hx] at this; exact .inr ⟨hm, by simpa [zeroB] using this⟩
    have lst : ∀ i a c l, i < 12 → F i = .lst a c l → (i ∈ fl K ∧ lo i ≤ (l.length : Int) ∧ (l.length : Int) ≤ hi i) ∨ (i ∉ fl K ∧ (l.length : Int) = 0) := fun i a c l hi hx => by
      by_cases hm : i ∈ fl K
      · have := g i hi hm; rw [hx] at this; exact .inl ⟨hm, of_decide_eq_true this⟩
      · have := z i hi hm; rw [hx] at this; exact .inr ⟨hm, by simpa [zeroB] using this⟩
    have n0 := num 0 x0 (by omega) h0
    have n1 := num 1 x1 (by omega) h1
    have n2 := num 2 x2 (by omega) h2
    have n3 := num 3 x3 (by omega) h3
    have n9 := num 9 x9 (by omega) h9
    have n10 := num 10 x10 (by omega) h10
    have m5 := lst 5 _ _ _ (by omega) h5
    have m11 := lst 11 _ _ _ (by omega) h11
    have f0 := fl_zero hf
    simp only [lo, hi] at n0 n1 n2 n3 n9 n10 m5 m11
    have n0' : 1 ≤ x0 ∧ x0 ≤ 65535 := by
      rcases n0 with ⟨_, h⟩ | ⟨h, _⟩
      · exact h
      · exact absurd f0 h
    refine ⟨z, by omega, fun e => ?_⟩
    rcases m5 with ⟨_, h⟩ | ⟨h, _⟩
    · omega
    · exact absurd (fl_five.2 e) h
  · rintro ⟨z, r, q⟩
    refine ⟨hf, fun i h12 => ?_⟩
    rw [ok]
    split
    · rename_i hm
      match i, h12 with
      | 0, _ => rw [h0]; exact decide_eq_true (by simp only [lo, hi]; omega)
      | 1, _ => rw [h1]; exact decide_eq_true (by simp only [lo, hi]; omega)
      | 2, _ => rw [h2]; exact decide_eq_true (by simp only [lo, hi]; omega)
      | 3, _ => rw [h3]; exact decide_eq_true (by simp only [lo, hi]; omega)
      | 4, _ => obtain ⟨l, e, _⟩ := fits_arr (hF 4 (by omega)) rfl; rw [e]; rfl
      | 5, _ => rw [h5]; exact decide_eq_true (by have := q (fl_five.1 hm); simp only [lo, hi]; omega)
      | 6, _ => obtain ⟨l, e, _⟩ := fits_arr (hF 6 (by omega)) rfl; rw [e]; rfl
      | 7, _ => obtain ⟨l, e, _⟩ := fits_arr (hF 7 (by omega)) rfl; rw [e]; rfl
      | 8, _ => obtain ⟨l, e, _⟩ := fits_arr (hF 8 (by omega)) rfl; rw [e]; rfl
      | 9, _ => rw [h9]; exact decide_eq_true (by simp only [lo, hi]; omega)
      | 10, _ => rw [h10]; exact decide_eq_true (by simp only [lo, hi]; omega)
      | 11, _ => rw [h11]; exact decide_eq_true (by simp only [lo, hi]; omega)
    · rename_i hm
      exact z i h12 hm

/-- what is known of the frame: the message, and what the chain has come to -/
structure Kr (a : Act) (n m b : Nat) (r : Bool) : Prop where
  size : a.tmps.size = n
  one : a.tmps[1]? = some (.pointer (some ⟨b, 0, none⟩))
  last : a.tmps[m]? = some (.bool r)
  defers : a.defers = []
theorem Kr.put {a : Act} {n m b d : Nat} {r : Bool} (h : Kr a n m b r) (v : Value) (h4 : 1 < d) (hm : m ≠ d) : Kr (a.put (some d) v) n m b r :=
  ⟨put_size.trans h.size, (put_at (by omega)).trans h.one, (put_at hm).trans h.last, h.defers⟩
theorem Kr.to {a : Act} {n m b d : Nat} {r r' : Bool} (h : Kr a n m b r) (h4 : 1 < d) (hd : d < n) : Kr (a.put (some d) (.bool r')) n d b r' :=
  ⟨put_size.trans h.size, (put_at (by omega)).trans h.one, put_same (by rw [h.size]; exact hd), h.defers⟩
section
variable {ops : Array Oper} {rest : List Oper} {op : Oper} {a : Act} {W : World} {Q : Exit → Act → World → Prop}
theorem wanted_not {gi m : Nat} {r : Bool} (hg : op.guard = some (gi, false)) (hd : (ops[gi]?).bind (·.dst) = some m) (hm : a.tmps[m]? = some (.bool r)) : Region.wanted op (yielded ops a.tmps) = !r := by
  have hy : yielded ops a.tmps gi = some r := by
    unfold yielded
    rw [hd]
    show (match a.tmps[m]? with | some (.bool b) => some b | _ => none) = some r
    rw [hm]
  unfold Region.wanted
  rw [hg]
  show (yielded ops a.tmps gi == some false) = !r
  rw [hy]
  cases r <;> rfl
theorem ex_bin {x y : Operand} {bop : BinOp} {t t2 : Nat} (ho : op.op = .binOp bop t x y t2) {u v : Value} {c : Value} (hx : a.eval x = u) (hy : a.eval y = v) (hq : (eqGuard bop t x y u v).run Try.prog W = .ok () W) (hl : (binOp bop t u v).run Try.prog W = .ok c W) : (execOp a.eval op).run Try.prog W = .ok (.value c) W := by
  unfold execOp
  simp only [ho, hx, hy, Sem.run_bind, Sem.run_pure, hq, hl, Result.andThen_ok]
theorem ex_pickOr {x y : Operand} (ho : op.op = .pick x (.const (.bool true)) y) {r : Bool} (hx : a.eval x = .bool r) : (execOp a.eval op).run Try.prog W = .ok (.value (if r = true then .bool true else a.eval y)) W := by
  unfold execOp
  simp only [ho, hx, Sem.run_bind, Sem.run_pure]
  cases r <;> rfl
theorem ex_len {k : Nat} (ho : op.op = .call { callee := .builtin .len, args := #[.tmp k], argTypes := #[23] }) {b : Option Addr} {n c : Nat} (hx : a.tmps[k]? = some (.slice b n c)) : (execOp a.eval op).run Try.prog W = .ok (.value (.int .i64 n)) W := by
  unfold execOp
  simp only [ho]
  go_simp
theorem ex_len44 {k : Nat} (ho : op.op = .call { callee := .builtin .len, args := #[.tmp k], argTypes := #[44] }) {b : Option Addr} {n c : Nat} (hx : a.tmps[k]? = some (.slice b n c)) : (execOp a.eval op).run Try.prog W = .ok (.value (.int .i64 n)) W := by
  unfold execOp
  simp only [ho]
  go_simp
theorem ex_not {x : Operand} (ho : op.op = .unOp .not 4 x) {r : Bool} (hx : a.eval x = .bool r) : (execOp a.eval op).run Try.prog W = .ok (.value (.bool (!r))) W := by
  unfold execOp
  simp only [ho, hx]
  cases r <;> rfl
end
theorem lss3 (x y : Int) (W : World) : (binOp .lss 3 (.int .i64 x) (.int .i64 y)).run Try.prog W = .ok (.bool (decide (x < y))) W := by go_simp
theorem gtr3 (x y : Int) (W : World) : (binOp .gtr 3 (.int .i64 x) (.int .i64 y)).run Try.prog W = .ok (.bool (decide (x > y))) W := by go_simp
theorem neq3 (x y : Int) (W : World) : (binOp .neq 3 (.int .i64 x) (.int .i64 y)).run Try.prog W = .ok (.bool (x != y)) W := by go_simp
theorem eg3' (bop : BinOp) (x y : Operand) (u v : Int) (W : World) : (eqGuard bop 3 x y (.int .i64 u) (.int .i64 v)).run Try.prog W = .ok () W := by cases bop <;> rfl

/-- a comparison of a field behind a guard: if it is not true already -/
theorem blockOr {ops : Array Oper} {rest : List Oper} {a : Act} {W : World} {Q : Exit → Act → World → Prop} {o1 o2 o3 o4 o5 : Oper} {n m gi s i b o : Nat} {bop : BinOp} {r c : Bool} {x k : Int} (h : Kr a n m b r) (hd : (ops[gi]?).bind (·.dst) = some m) (h4 : 1 < s) (hn : s + 4 < n) (hm : m < s)
    (p1 : o1.op = .fieldAddr 25 (.tmp 1) i ∧ o1.dst = some s ∧ o1.guard = some (gi, false)) (p2 : o2.op = .load 3 (.tmp s) ∧ o2.dst = some (s + 1) ∧ o2.guard = some (gi, false))
    (p3 : o3.op = .binOp bop 3 (.tmp (s + 1)) (.const (.int .i64 k)) 3 ∧ o3.dst = some (s + 2) ∧ o3.guard = some (gi, false)) (p4 : o4.op = .pick (.tmp m) (.const (.bool true)) (.tmp (s + 2)) ∧ o4.dst = some (s + 3) ∧ o4.guard = none) (p5 : o5.op = .move (.tmp (s + 3)) ∧ o5.dst = some (s + 4) ∧ o5.guard = none)
    (hf : (Instr.fieldAt 25 (.pointer (some ⟨b, 0, none⟩)) i).run Try.prog W = .ok (.pointer (some ⟨b, o, none⟩)) W) (l1 : (Instr.loadAt 3 (.pointer (some ⟨b, o, none⟩))).run Try.prog W = .ok (.int .i64 x) W)
    (he : (binOp bop 3 (.int .i64 x) (.int .i64 k)).run Try.prog W = .ok (.bool c) W)
    (hk : ∀ a', Kr a' n (s + 4) b (r || c) → wpList Try.prog ops Q rest a' W) : wpList Try.prog ops Q (o1 :: o2 :: o3 :: o4 :: o5 :: rest) a W := by
  have fin : ∀ {a5 : Act} (y : Value), Kr a5 n m b r → a5.tmps[s + 2]? = some y → (r = false → y = .bool c) → wpList Try.prog ops Q (o4 :: o5 :: rest) a5 W := fun {a5} y h5 hx hr => by
    have e6 := ex_pickOr (W := W) p4.1 (eval_tmp h5.last)
    have ev : (if r = true then .bool true else a5.eval (.tmp (s + 2))) = Value.bool (r || c) := by
      cases r with
      | true => rfl
      | false => show a5.eval (.tmp (s + 2)) = _; rw [eval_tmp hx, hr rfl]; rfl
    rw [ev] at e6
    refine st_any (wanted_none p4.2.2) e6 ?_
    rw [p4.2.1]
    have h6 := h5.put (d := s + 3) (.bool (r || c)) (by omega) (by omega)
    have e7 := ex_move (a := a5.put (some (s + 3)) (.bool (r || c))) (W := W) p5.1
    rw [eval_tmp (put_same (by rw [h5.size]; omega))] at e7
    refine st_any (wanted_none p5.2.2) e7 ?_
    rw [p5.2.1]
    exact hk _ (h6.to (by omega) (by omega))
  cases r with
  | false =>
    refine st_any (wanted_not p1.2.2 hd h.last) (ex_fld p1.1 (eval_tmp h.one) hf) ?_
    rw [p1.2.1]
    have h1 := h.put (d := s) (.pointer (some ⟨b, o, none⟩)) h4 (by omega)
    have q1 := put_same (a := a) (d := s) (v := .pointer (some ⟨b, o, none⟩)) (by rw [h.size]; omega)
    generalize a.put (some s) (.pointer (some ⟨b, o, none⟩)) = a1 at *
    refine st_any (wanted_not p2.2.2 hd h1.last) (ex_load p2.1 (eval_tmp q1) l1) ?_
    rw [p2.2.1]
    have h2 := h1.put (d := s + 1) (.int .i64 x) (by omega) (by omega)
    have q2 := put_same (a := a1) (d := s + 1) (v := .int .i64 x) (by rw [h1.size]; omega)
    generalize a1.put (some (s + 1)) (.int .i64 x) = a2 at *
    refine st_any (wanted_not p3.2.2 hd h2.last) (ex_bin p3.1 (eval_tmp q2) rfl (eg3' _ _ _ _ _ _) he) ?_
    rw [p3.2.1]
    exact fin (.bool c) (h2.put (d := s + 2) (.bool c) (by omega) (by omega)) (put_same (by rw [h2.size]; omega)) (fun _ => rfl)
  | true =>
    refine wpList_skip (wanted_not p1.2.2 hd h.last) ?_
    rw [p1.2.1]
    have h1 := h.put (d := s) undef h4 (by omega)
    refine wpList_skip (wanted_not p2.2.2 hd h1.last) ?_
    rw [p2.2.1]
    have h2 := h1.put (d := s + 1) undef (by omega) (by omega)
    refine wpList_skip (wanted_not p3.2.2 hd h2.last) ?_
    rw [p3.2.1]
    exact fin undef (h2.put (d := s + 2) undef (by omega) (by omega)) (put_same (by rw [h2.size]; omega)) (fun e => by cases e)
/-- a list's length against a number, behind a guard -/
theorem blockLen {ops : Array Oper} {rest : List Oper} {a : Act} {W : World} {Q : Exit → Act → World → Prop} {o1 o2 o2' o3 o4 : Oper} {n m gi s i b o : Nat} {bop : BinOp} {r c : Bool} {ao : Option Addr} {ln cp : Nat} {k : Int} (h : Kr a n m b r) (hd : (ops[gi]?).bind (·.dst) = some m) (h4 : 1 < s) (hn : s + 4 < n) (hm : m < s)
    (p1 : o1.op = .fieldAddr 25 (.tmp 1) i ∧ o1.dst = some s ∧ o1.guard = some (gi, false)) (p2 : o2.op = .load 23 (.tmp s) ∧ o2.dst = some (s + 1) ∧ o2.guard = some (gi, false)) (p2' : o2'.op = .call { callee := .builtin .len, args := #[.tmp (s + 1)], argTypes := #[23] } ∧ o2'.dst = some (s + 2) ∧ o2'.guard = some (gi, false))
    (p3 : o3.op = .binOp bop 3 (.tmp (s + 2)) (.const (.int .i64 k)) 3 ∧ o3.dst = some (s + 3) ∧ o3.guard = some (gi, false)) (p4 : o4.op = .pick (.tmp m) (.const (.bool true)) (.tmp (s + 3)) ∧ o4.dst = some (s + 4) ∧ o4.guard = none)
    (hf : (Instr.fieldAt 25 (.pointer (some ⟨b, 0, none⟩)) i).run Try.prog W = .ok (.pointer (some ⟨b, o, none⟩)) W) (l1 : (Instr.loadAt 23 (.pointer (some ⟨b, o, none⟩))).run Try.prog W = .ok (.slice ao ln cp) W)
    (he : (binOp bop 3 (.int .i64 ln) (.int .i64 k)).run Try.prog W = .ok (.bool c) W)
    (hk : ∀ a', Kr a' n (s + 4) b (r || c) → wpList Try.prog ops Q rest a' W) : wpList Try.prog ops Q (o1 :: o2 :: o2' :: o3 :: o4 :: rest) a W := by
  have fin : ∀ {a5 : Act} (y : Value), Kr a5 n m b r → a5.tmps[s + 3]? = some y → (r = false → y = .bool c) → wpList Try.prog ops Q (o4 :: rest) a5 W := fun {a5} y h5 hx hr => by
    have e6 := ex_pickOr (W := W) p4.1 (eval_tmp h5.last)
    have ev : (if r = true then .bool true else a5.eval (.tmp (s + 3))) = Value.bool (r || c) := by
      cases r with
      | true => rfl
      | false => show a5.eval (.tmp (s + 3)) = _; rw [eval_tmp hx, hr rfl]; rfl
    rw [ev] at e6
    refine st_any (wanted_none p4.2.2) e6 ?_
    rw [p4.2.1]
    exact hk _ (h5.to (by omega) (by omega))
  cases r with
  | false =>
    refine st_any (wanted_not p1.2.2 hd h.last) (ex_fld p1.1 (eval_tmp h.one) hf) ?_
    rw [p1.2.1]
    have h1 := h.put (d := s) (.pointer (some ⟨b, o, none⟩)) h4 (by omega)
    have q1 := put_same (a := a) (d := s) (v := .pointer (some ⟨b, o, none⟩)) (by rw [h.size]; omega)
    generalize a.put (some s) (.pointer (some ⟨b, o, none⟩)) = a1 at *
    refine st_any (wanted_not p2.2.2 hd h1.last) (ex_load p2.1 (eval_tmp q1) l1) ?_
    rw [p2.2.1]
    have h2 := h1.put (d := s + 1) (.slice ao ln cp) (by omega) (by omega)
    have q2 := put_same (a := a1) (d := s + 1) (v := .slice ao ln cp) (by rw [h1.size]; omega)
    generalize a1.put (some (s + 1)) (.slice ao ln cp) = a2 at *
    refine st_any (wanted_not p2'.2.2 hd h2.last) (ex_len p2'.1 q2) ?_
    rw [p2'.2.1]
    have h3 := h2.put (d := s + 2) (.int .i64 ln) (by omega) (by omega)
    have q3 := put_same (a := a2) (d := s + 2) (v := .int .i64 ln) (by rw [h2.size]; omega)
    generalize a2.put (some (s + 2)) (.int .i64 ln) = a3 at *
    refine st_any (wanted_not p3.2.2 hd h3.last) (ex_bin p3.1 (eval_tmp q3) rfl (eg3' _ _ _ _ _ _) he) ?_
    rw [p3.2.1]
    exact fin (.bool c) (h3.put (d := s + 3) (.bool c) (by omega) (by omega)) (put_same (by rw [h3.size]; omega)) (fun _ => rfl)
  | true =>
    refine wpList_skip (wanted_not p1.2.2 hd h.last) ?_
    rw [p1.2.1]
    have h1 := h.put (d := s) undef h4 (by omega)
    refine wpList_skip (wanted_not p2.2.2 hd h1.last) ?_
    rw [p2.2.1]
    have h2 := h1.put (d := s + 1) undef (by omega) (by omega)
    refine wpList_skip (wanted_not p2'.2.2 hd h2.last) ?_
    rw [p2'.2.1]
    have h3 := h2.put (d := s + 2) undef (by omega) (by omega)
    refine wpList_skip (wanted_not p3.2.2 hd h3.last) ?_
    rw [p3.2.1]
    exact fin undef (h3.put (d := s + 3) undef (by omega) (by omega)) (put_same (by rw [h3.size]; omega)) (fun e => by cases e)
theorem kr_start {ops : Array Oper} {rest : List Oper} {a : Act} {W : World} {Q : Exit → Act → World → Prop} {n m b : Nat} {r : Bool} (h : Kr a n m b r) (hk : ∀ a', Kr a' n m b r → wpList Try.prog ops Q rest a' W) : wpList Try.prog ops Q rest a W := hk _ h
end Go.Proofs.Ytcbadmkgbaffpaa
