/- Policy: Forward and Final. -/
import Derived.Test.YtfbaidmnnkcaeaaPClo
namespace Go.Proofs.Ytfbaidmnnkcaeaa
open Go.RowKit
set_option linter.unusedVariables false
set_option linter.unusedSimpArgs false
set_option maxRecDepth 100000

theorem row_at {W : World} {b : Nat} {C : Array Value} (k : W.heap[b]? = some (.cells C 53)) (i : Nat) (x : Qn) (h0 : C[0 + i * 2]? = some (.int .i64 x.re)) (h1 : C[0 + i * 2 + 1]? = some (.func (.func x.fn) x.q x.cap)) : W.rangeAt b (0 + i * 2) (QL x).toList := fun j v hv => by
  match j with
  | 0 =>
    simp [QL] at hv
    subst hv
    exact at_cell k h0
  | 1 =>
    simp [QL] at hv
    subst hv
    exact at_cell k h1
  | j + 2 => simp [QL] at hv
theorem b53 (re : Int) (f : Fn) (q c : Array Value) (W : World) : (Instr.build 53 #[(0, .int .i64 re), (1, .func f q c)]).run Try.prog W = .ok (.agg #[.int .i64 re, .func f q c]) W := run_build W 53 _ _ (by kernel_rfl)
theorem b50 (q : RV) (a x h : Int) (W : World) : (Instr.build 50 #[(0, .agg (RL q)), (1, .int .i64 a), (2, .int .i64 x), (3, .int .i64 h)]).run Try.prog W = .ok (.agg (XL q a x h)) W := run_build W 50 _ _ (by kernel_rfl)
theorem bs60_5 (r0 : Int) (f0 : Fn) (q0 c0 : Array Value) (r1 : Int) (f1 : Fn) (q1 c1 : Array Value) (r2 : Int) (f2 : Fn) (q2 c2 : Array Value) (r3 : Int) (f3 : Fn) (q3 c3 : Array Value) (r4 : Int) (f4 : Fn) (q4 c4 : Array Value) (W : World) : (Instr.buildSlice 60 5 [(0, .agg #[.int .i64 r0, .func f0 q0 c0]), (1, .agg #[.int .i64 r1, .func f1 q1 c1]), (2, .agg #[.int .i64 r2, .func f2 q2 c2]), (3, .agg #[.int .i64 r3, .func f3 q3 c3]), (4, .agg #[.int .i64 r4, .func f4 q4 c4])].toArray).run Try.prog W = .ok (.slice (some ⟨W.heap.size, 0, none⟩) 5 5) (W.alloc (.cells #[.int .i64 r0, .func f0 q0 c0, .int .i64 r1, .func f1 q1 c1, .int .i64 r2, .func f2 q2 c2, .int .i64 r3, .func f3 q3 c3, .int .i64 r4, .func f4 q4 c4] 53)) :=
  bslice W 60 53 5 _ _ _ 2 Try.underlying60 zero53 (by decide) (by decide) (by kernel_rfl)
theorem bs60_6 (r0 : Int) (f0 : Fn) (q0 c0 : Array Value) (r1 : Int) (f1 : Fn) (q1 c1 : Array Value) (r2 : Int) (f2 : Fn) (q2 c2 : Array Value) (r3 : Int) (f3 : Fn) (q3 c3 : Array Value) (r4 : Int) (f4 : Fn) (q4 c4 : Array Value) (r5 : Int) (f5 : Fn) (q5 c5 : Array Value) (W : World) : (Instr.buildSlice 60 6 [(0, .agg #[.int .i64 r0, .func f0 q0 c0]), (1, .agg #[.int .i64 r1, .func f1 q1 c1]), (2, .agg #[.int .i64 r2, .func f2 q2 c2]), (3, .agg #[.int .i64 r3, .func f3 q3 c3]), (4, .agg #[.int .i64 r4, .func f4 q4 c4]), (5, .agg #[.int .i64 r5, .func f5 q5 c5])].toArray).run Try.prog W = .ok (.slice (some ⟨W.heap.size, 0, none⟩) 6 6) (W.alloc (.cells #[.int .i64 r0, .func f0 q0 c0, .int .i64 r1, .func f1 q1 c1, .int .i64 r2, .func f2 q2 c2, .int .i64 r3, .func f3 q3 c3, .int .i64 r4, .func f4 q4 c4, .int .i64 r5, .func f5 q5 c5] 53)) :=
  bslice W 60 53 6 _ _ _ 2 Try.underlying60 zero53 (by decide) (by decide) (by kernel_rfl)
def fwQ (q : RV) (v : HP) (a x h : Int) (px ph pe pr : Nat) : Nat → Qn
  | 0 => ⟨1, 26, #[], #[.pointer (some ⟨px, 0, none⟩), .pointer (some ⟨ph, 0, none⟩)], wrongB q a x h || decide (v.ch < 1)⟩
  | 1 => ⟨6, 28, #[.agg (XL q a x h)], #[], decide (q.f < x - h)⟩
  | 2 => ⟨5, 29, #[], #[.pointer (some ⟨px, 0, none⟩), .pointer (some ⟨ph, 0, none⟩)], decide (v.ex ≤ h + q.g)⟩
  | 3 => ⟨4, 31, #[], #[.pointer (some ⟨ph, 0, none⟩), .pointer (some ⟨pe, 0, none⟩), .pointer (some ⟨pr, 0, none⟩)], decide (x - q.d < v.ex)⟩
  | 4 => ⟨8, 32, #[], #[.pointer (some ⟨ph, 0, none⟩)], decide (v.am < 1)⟩
  | _ => ⟨3, 33, #[], #[.pointer (some ⟨px, 0, none⟩), .pointer (some ⟨ph, 0, none⟩)], belowB q a v.am⟩
def fiQ (q : RV) (v : HP) (a x h : Int) (px ph pe pa : Nat) : Nat → Qn
  | 0 => ⟨1, 38, #[], #[.pointer (some ⟨px, 0, none⟩), .pointer (some ⟨ph, 0, none⟩)], wrongB q a x h || decide (¬ v.ch = 0)⟩
  | 1 => ⟨6, 28, #[.agg (XL q a x h)], #[], decide (q.f < x - h)⟩
  | 2 => ⟨5, 39, #[], #[.pointer (some ⟨px, 0, none⟩), .pointer (some ⟨pe, 0, none⟩)], decide (x ≤ h + q.g)⟩
  | 3 => ⟨4, 40, #[], #[.pointer (some ⟨pe, 0, none⟩), .pointer (some ⟨ph, 0, none⟩)], decide (x < v.ex)⟩
  | _ => ⟨8, 41, #[], #[.pointer (some ⟨pa, 0, none⟩), .pointer (some ⟨ph, 0, none⟩)], decide (a < v.am) || decide (v.am < 1) || decide (v.tot < v.am)⟩
theorem not_wrong {q : RV} {a x h : Int} (e : wrongB q a x h = false) : mayR q = true ∧ 0 ≤ a ∧ 0 ≤ x ∧ x ≤ 2147483647 ∧ 0 ≤ h ∧ h ≤ 2147483647 := by
  unfold wrongB at e
  simp only [Bool.or_eq_false_iff, Bool.not_eq_false', decide_eq_false_iff_not] at e
  have h1 := okH_of e.1.2
  have h2 := okH_of e.2
  exact ⟨e.1.1.1, by omega, h1.1, h1.2, h2.1, h2.2⟩
theorem fw_first (q : RV) (v : HP) (a x h : Int) (px ph pe pr : Nat) : frst (fwQ q v a x h px ph pe pr) 6 0 = fwdN q v a x h := rfl
theorem fi_first (q : RV) (v : HP) (a x h : Int) (px ph pe pa : Nat) : frst (fiQ q v a x h px ph pe pa) 5 0 = finN q v a x h := rfl

set_option maxHeartbeats 2000000 in
theorem fwQ_ask {q : RV} {H : Array Value} {v : HP} {a x h : Int} {px ph pe pr : Nat} (w : World) (kx : w.heap[px]? = some (.cells (XL q a x h) 50)) (kh : w.heap[ph]? = some (.cells H 28)) (ke : w.heap[pe]? = some (.cells #[.int .i64 x] 3)) (kr : w.heap[pr]? = some (.cells (RL q) 25)) (hH : IsHop H v) (hb : q.b ≤ 9223372036854775807) (y0 : -9223372036854775808 ≤ v.am) (y1 : v.am ≤ 9223372036854775807) :
    ∀ i, i < 6 → (∀ j, j < i → (fwQ q v a x h px ph pe pr j).c = false) → ∀ W, Below w.heap.size w W → Calls Try.prog (fwQ q v a x h px ph pe pr i).fn ((fwQ q v a x h px ph pe pr i).q ++ [].toArray ++ (fwQ q v a x h px ph pe pr i).cap) W fun e w' => e = .returned (.bool (fwQ q v a x h px ph pe pr i).c) ∧ Below W.heap.size W w' := by
  intro i hi hno W B
  have NW : 0 < i → mayR q = true ∧ 0 ≤ a ∧ 0 ≤ x ∧ x ≤ 2147483647 ∧ 0 ≤ h ∧ h ≤ 2147483647 := fun h0 => by
    have := hno 0 h0
    exact not_wrong (Bool.or_eq_false_iff.1 this).1
  match i, hi with
  | 0, _ =>
    skip
    exact fw1 W (keep B kx) (keep B kh) hH hb rfl
  | 1, _ =>
    obtain ⟨hm, a0, x0, x1, h0, h1⟩ := NW (by omega)
    exact far_any W x0 x1 h0 h1 rfl
  | 2, _ =>
    obtain ⟨hm, a0, x0, x1, h0, h1⟩ := NW (by omega)
    exact fw2 W (keep B kx) (keep B kh) hH x0 x1 h0 h1 hm rfl
  | 3, _ =>
    obtain ⟨hm, a0, x0, x1, h0, h1⟩ := NW (by omega)
    exact fw3 (a := a) W (keep B kh) (keep B ke) (keep B kr) hH x0 x1 h0 h1 hm rfl
  | 4, _ =>
    obtain ⟨hm, a0, x0, x1, h0, h1⟩ := NW (by omega)
    exact fw4 (q := q) (a := a) (x := x) (h := h) W (keep B kh) hH rfl
  | 5, _ =>
    obtain ⟨hm, a0, x0, x1, h0, h1⟩ := NW (by omega)
    exact fw5 W (keep B kx) (keep B kh) hH hb y0 y1 rfl
  | n + 6, h => omega
set_option maxHeartbeats 2000000 in
theorem fiQ_ask {q : RV} {H : Array Value} {v : HP} {a x h : Int} {px ph pe pa : Nat} (w : World) (kx : w.heap[px]? = some (.cells (XL q a x h) 50)) (kh : w.heap[ph]? = some (.cells H 28)) (ke : w.heap[pe]? = some (.cells #[.int .i64 x] 3)) (ka : w.heap[pa]? = some (.cells #[.int .i64 a] 3)) (hH : IsHop H v) (hb : q.b ≤ 9223372036854775807) (y0 : -9223372036854775808 ≤ v.am) (y1 : v.am ≤ 9223372036854775807) :
    ∀ i, i < 5 → (∀ j, j < i → (fiQ q v a x h px ph pe pa j).c = false) → ∀ W, Below w.heap.size w W → Calls Try.prog (fiQ q v a x h px ph pe pa i).fn ((fiQ q v a x h px ph pe pa i).q ++ [].toArray ++ (fiQ q v a x h px ph pe pa i).cap) W fun e w' => e = .returned (.bool (fiQ q v a x h px ph pe pa i).c) ∧ Below W.heap.size W w' := by
  intro i hi hno W B
  have NW : 0 < i → mayR q = true ∧ 0 ≤ a ∧ 0 ≤ x ∧ x ≤ 2147483647 ∧ 0 ≤ h ∧ h ≤ 2147483647 := fun h0 => by
    have := hno 0 h0
    exact not_wrong (Bool.or_eq_false_iff.1 this).1
  match i, hi with
  | 0, _ =>
    skip
    exact fi1 W (keep B kx) (keep B kh) hH hb rfl
  | 1, _ =>
    obtain ⟨hm, a0, x0, x1, h0, h1⟩ := NW (by omega)
    exact far_any W x0 x1 h0 h1 rfl
  | 2, _ =>
    obtain ⟨hm, a0, x0, x1, h0, h1⟩ := NW (by omega)
    exact fi2 (v := v) W (keep B kx) (keep B ke) hH x0 x1 h0 h1 hm rfl
  | 3, _ =>
    obtain ⟨hm, a0, x0, x1, h0, h1⟩ := NW (by omega)
    exact fi3 (q := q) (a := a) (h := h) W (keep B ke) (keep B kh) hH rfl
  | 4, _ =>
    obtain ⟨hm, a0, x0, x1, h0, h1⟩ := NW (by omega)
    exact fi4 (q := q) (x := x) (h := h) W (keep B ka) (keep B kh) hH rfl
  | n + 5, h => omega
set_option maxHeartbeats 2000000 in
theorem fwd_any {q : RV} {H : Array Value} {v : HP} {a x h : Int} (w : World) (hH : IsHop H v) (hb : q.b ≤ 9223372036854775807) (y0 : -9223372036854775808 ≤ v.am) (y1 : v.am ≤ 9223372036854775807) {c : Int} (hc : fwdN q v a x h = c) :
    Calls Try.prog 11 #[.agg (RL q), .agg H, .int .i64 a, .int .i64 x, .int .i64 h] w fun e w' => e = .returned (.int .i64 c) ∧ Below w.heap.size w w' := by
  subst hc
  have E : Below w.heap.size w w := Below.refl _ _
  go_enter Try.func11, Try.ntmps11
  refine wq fun Q hQ => ?_
  refine st_new (fun b => .pointer (some ⟨b, 0, none⟩)) (some 5) rfl rfl (ex_box rfl rfl) ?_
  intro b1 W1 k1 g1 B
  simp only [zp]
  have ge_b1 := Nat.le_trans E.size g1
  replace E := below_next E B
  clear B
  refine st_new (fun b => .pointer (some ⟨b, 0, none⟩)) (some 6) rfl rfl (ex_box rfl rfl) ?_
  intro b2 W2 k2 g2 B
  simp only [zp]
  have ne_b2_b1 : b2 ≠ b1 := fun e => by have := lt_of k1; omega
  have ge_b2 := Nat.le_trans E.size g2
  replace E := below_next E B
  replace k1 := keep B k1
  clear B
  refine st_new (fun b => .pointer (some ⟨b, 0, none⟩)) (some 8) rfl rfl (ex_box3 rfl rfl) ?_
  intro b3 W3 k3 g3 B
  simp only [zp]
  have ne_b3_b1 : b3 ≠ b1 := fun e => by have := lt_of k1; omega
  have ne_b3_b2 : b3 ≠ b2 := fun e => by have := lt_of k2; omega
  have ge_b3 := Nat.le_trans E.size g3
  replace E := below_next E B
  replace k1 := keep B k1
  replace k2 := keep B k2
  clear B
  refine sg (.int .i64 0) 10 rfl rfl rfl rfl ?_
  simp only [zp]
  refine st_end ?_
  subst hQ
  refine wq fun Q hQ => ?_
  refine sv (.agg (RL q)) 12 rfl rfl (ex_load (p := (.pointer (some ⟨b1, 0, none⟩))) rfl rfl (ld_all k1 Try.underlying25 rfl inf25)) ?_
  simp only [zp]
  refine sm (.int .i64 a) 13 rfl rfl rfl rfl ?_
  simp only [zp]
  refine sv (.int .i64 x) 14 rfl rfl (ex_load (p := (.pointer (some ⟨b3, 0, none⟩))) rfl rfl (ld3 (at_cell k3 rfl))) ?_
  simp only [zp]
  refine sm (.int .i64 h) 15 rfl rfl rfl rfl ?_
  simp only [zp]
  refine sv (.agg (XL q a x h)) 16 rfl rfl (ex_build4 (v1 := (.agg (RL q))) (v2 := (.int .i64 a)) (v3 := (.int .i64 x)) (v4 := (.int .i64 h)) rfl rfl rfl rfl rfl (b50 _ _ _ _ _)) ?_
  simp only [zp]
  refine st_new (fun b => .pointer (some ⟨b, 0, none⟩)) (some 11) rfl rfl (ex_alloc rfl zero50) ?_
  intro b4 W4 k4 g4 B
  simp only [zp]
  have ne_b4_b1 : b4 ≠ b1 := fun e => by have := lt_of k1; omega
  have ne_b4_b2 : b4 ≠ b2 := fun e => by have := lt_of k2; omega
  have ne_b4_b3 : b4 ≠ b3 := fun e => by have := lt_of k3; omega
  have ge_b4 := Nat.le_trans E.size g4
  replace E := below_next E B
  replace k1 := keep B k1
  replace k2 := keep B k2
  replace k3 := keep B k3
  clear B
  obtain ⟨W5, hst, kn, K⟩ := put_all (D := (XL q a x h)) k4 rfl inf50 (by kernel_rfl)
  refine st_sk rfl rfl (ex_store rfl rfl rfl hst) ?_
  replace E := below_put E ge_b4 K
  replace k1 := keepK K k1 (fun e => ne_tag k1 k4 (by decide) e)
  replace k2 := keepK K k2 (fun e => ne_tag k2 k4 (by decide) e)
  replace k3 := keepK K k3 (fun e => ne_tag k3 k4 (by decide) e)
  replace k4 := kn
  clear kn K hst
  refine st_end ?_
  subst hQ
  refine wq fun Q hQ => ?_
  refine sv (.func (.func 26) #[] #[(.pointer (some ⟨b4, 0, none⟩)), (.pointer (some ⟨b2, 0, none⟩))]) 17 rfl rfl (ex_mkf rfl rfl) ?_
  simp only [zp]
  refine sv (.agg #[(.int .i64 1), (.func (.func 26) #[] #[(.pointer (some ⟨b4, 0, none⟩)), (.pointer (some ⟨b2, 0, none⟩))])]) 18 rfl rfl (ex_build2 (v1 := (.int .i64 1)) (v2 := (.func (.func 26) #[] #[(.pointer (some ⟨b4, 0, none⟩)), (.pointer (some ⟨b2, 0, none⟩))])) rfl rfl rfl (b53 _ _ _ _ _)) ?_
  simp only [zp]
  refine sv (.agg (XL q a x h)) 19 rfl rfl (ex_load (p := (.pointer (some ⟨b4, 0, none⟩))) rfl rfl (ld_all k4 Try.underlying50 rfl inf50)) ?_
  simp only [zp]
  refine sv (.func (.func 28) #[(.agg (XL q a x h))] #[]) 20 rfl rfl (ex_mkb (v := (.agg (XL q a x h))) rfl rfl) ?_
  simp only [zp]
  refine sv (.agg #[(.int .i64 6), (.func (.func 28) #[(.agg (XL q a x h))] #[])]) 21 rfl rfl (ex_build2 (v1 := (.int .i64 6)) (v2 := (.func (.func 28) #[(.agg (XL q a x h))] #[])) rfl rfl rfl (b53 _ _ _ _ _)) ?_
  simp only [zp]
  refine sv (.func (.func 29) #[] #[(.pointer (some ⟨b4, 0, none⟩)), (.pointer (some ⟨b2, 0, none⟩))]) 22 rfl rfl (ex_mkf rfl rfl) ?_
  simp only [zp]
  refine sv (.agg #[(.int .i64 5), (.func (.func 29) #[] #[(.pointer (some ⟨b4, 0, none⟩)), (.pointer (some ⟨b2, 0, none⟩))])]) 23 rfl rfl (ex_build2 (v1 := (.int .i64 5)) (v2 := (.func (.func 29) #[] #[(.pointer (some ⟨b4, 0, none⟩)), (.pointer (some ⟨b2, 0, none⟩))])) rfl rfl rfl (b53 _ _ _ _ _)) ?_
  simp only [zp]
  refine sv (.func (.func 31) #[] #[(.pointer (some ⟨b2, 0, none⟩)), (.pointer (some ⟨b3, 0, none⟩)), (.pointer (some ⟨b1, 0, none⟩))]) 24 rfl rfl (ex_mkf rfl rfl) ?_
  simp only [zp]
  refine sv (.agg #[(.int .i64 4), (.func (.func 31) #[] #[(.pointer (some ⟨b2, 0, none⟩)), (.pointer (some ⟨b3, 0, none⟩)), (.pointer (some ⟨b1, 0, none⟩))])]) 25 rfl rfl (ex_build2 (v1 := (.int .i64 4)) (v2 := (.func (.func 31) #[] #[(.pointer (some ⟨b2, 0, none⟩)), (.pointer (some ⟨b3, 0, none⟩)), (.pointer (some ⟨b1, 0, none⟩))])) rfl rfl rfl (b53 _ _ _ _ _)) ?_
  simp only [zp]
  refine sv (.func (.func 32) #[] #[(.pointer (some ⟨b2, 0, none⟩))]) 26 rfl rfl (ex_mkf rfl rfl) ?_
  simp only [zp]
  refine sv (.agg #[(.int .i64 8), (.func (.func 32) #[] #[(.pointer (some ⟨b2, 0, none⟩))])]) 27 rfl rfl (ex_build2 (v1 := (.int .i64 8)) (v2 := (.func (.func 32) #[] #[(.pointer (some ⟨b2, 0, none⟩))])) rfl rfl rfl (b53 _ _ _ _ _)) ?_
  simp only [zp]
  refine sv (.func (.func 33) #[] #[(.pointer (some ⟨b4, 0, none⟩)), (.pointer (some ⟨b2, 0, none⟩))]) 28 rfl rfl (ex_mkf rfl rfl) ?_
  simp only [zp]
  refine sv (.agg #[(.int .i64 3), (.func (.func 33) #[] #[(.pointer (some ⟨b4, 0, none⟩)), (.pointer (some ⟨b2, 0, none⟩))])]) 29 rfl rfl (ex_build2 (v1 := (.int .i64 3)) (v2 := (.func (.func 33) #[] #[(.pointer (some ⟨b4, 0, none⟩)), (.pointer (some ⟨b2, 0, none⟩))])) rfl rfl rfl (b53 _ _ _ _ _)) ?_
  simp only [zp]
  refine st_new (fun b => .slice (some ⟨b, 0, none⟩) 6 6) (some 30) rfl rfl (ex_bslN (vs := [(0, (.agg #[(.int .i64 1), (.func (.func 26) #[] #[(.pointer (some ⟨b4, 0, none⟩)), (.pointer (some ⟨b2, 0, none⟩))])])), (1, (.agg #[(.int .i64 6), (.func (.func 28) #[(.agg (XL q a x h))] #[])])), (2, (.agg #[(.int .i64 5), (.func (.func 29) #[] #[(.pointer (some ⟨b4, 0, none⟩)), (.pointer (some ⟨b2, 0, none⟩))])])), (3, (.agg #[(.int .i64 4), (.func (.func 31) #[] #[(.pointer (some ⟨b2, 0, none⟩)), (.pointer (some ⟨b3, 0, none⟩)), (.pointer (some ⟨b1, 0, none⟩))])])), (4, (.agg #[(.int .i64 8), (.func (.func 32) #[] #[(.pointer (some ⟨b2, 0, none⟩))])])), (5, (.agg #[(.int .i64 3), (.func (.func 33) #[] #[(.pointer (some ⟨b4, 0, none⟩)), (.pointer (some ⟨b2, 0, none⟩))])]))]) rfl rfl (bs60_6 _ _ _ _ _ _ _ _ _ _ _ _ _ _ _ _ _ _ _ _ _ _ _ _ _)) ?_
  intro b5 W6 k5 g5 B
  simp only [zp]
  have ne_b5_b1 : b5 ≠ b1 := fun e => by have := lt_of k1; omega
  have ne_b5_b2 : b5 ≠ b2 := fun e => by have := lt_of k2; omega
  have ne_b5_b3 : b5 ≠ b3 := fun e => by have := lt_of k3; omega
  have ne_b5_b4 : b5 ≠ b4 := fun e => by have := lt_of k4; omega
  have ge_b5 := Nat.le_trans E.size g5
  replace E := below_next E B
  replace k1 := keep B k1
  replace k2 := keep B k2
  replace k3 := keep B k3
  replace k4 := keep B k4
  clear B
  refine st_call (some 31) rfl rfl (first_any b5 6 (fwQ q v a x h b4 b2 b3 b1) W6 (fun i hi => match i, hi with | 0, _ => row_at k5 0 _ rfl rfl | 1, _ => row_at k5 1 _ rfl rfl | 2, _ => row_at k5 2 _ rfl rfl | 3, _ => row_at k5 3 _ rfl rfl | 4, _ => row_at k5 4 _ rfl rfl | 5, _ => row_at k5 5 _ rfl rfl | n + 6, h => absurd h (by omega)) (by decide) (fun i hi => match i, hi with | 0, _ => cf26 | 1, _ => cf28 | 2, _ => cf29 | 3, _ => cf31 | 4, _ => cf32 | 5, _ => cf33 | n + 6, h => absurd h (by omega)) (fwQ_ask W6 k4 k2 k3 k1 hH hb y0 y1)) (ex_call (f := 25) (vs := [(.slice (some ⟨b5, 0, none⟩) 6 6)]) rfl (cf25 _) rfl) ?_
  rintro e W7 ⟨rfl, B⟩
  refine ⟨_, rfl, ?_⟩
  simp only [zp]
  replace E := below_next E B
  replace k1 := keep B k1
  replace k2 := keep B k2
  replace k3 := keep B k3
  replace k4 := keep B k4
  replace k5 := keep B k5
  refine sg (.int .i64 (frst (fwQ q v a x h b4 b2 b3 b1) 6 0)) 10 rfl rfl rfl rfl ?_
  simp only [zp]
  refine st_end ?_
  subst hQ
  refine wp_ret ?_
  exact bodyPost_ret (results_tmp Try.results11 _ _ _) rfl ⟨rfl, E⟩
set_option maxHeartbeats 2000000 in
theorem fin_any {q : RV} {H : Array Value} {v : HP} {a x h : Int} (w : World) (hH : IsHop H v) (hb : q.b ≤ 9223372036854775807) (y0 : -9223372036854775808 ≤ v.am) (y1 : v.am ≤ 9223372036854775807) {c : Int} (hc : finN q v a x h = c) :
    Calls Try.prog 15 #[.agg (RL q), .agg H, .int .i64 a, .int .i64 x, .int .i64 h] w fun e w' => e = .returned (.int .i64 c) ∧ Below w.heap.size w w' := by
  subst hc
  have E : Below w.heap.size w w := Below.refl _ _
  go_enter Try.func15, Try.ntmps15
  refine wq fun Q hQ => ?_
  refine st_new (fun b => .pointer (some ⟨b, 0, none⟩)) (some 5) rfl rfl (ex_box rfl rfl) ?_
  intro b1 W1 k1 g1 B
  simp only [zp]
  have ge_b1 := Nat.le_trans E.size g1
  replace E := below_next E B
  clear B
  refine st_new (fun b => .pointer (some ⟨b, 0, none⟩)) (some 6) rfl rfl (ex_box rfl rfl) ?_
  intro b2 W2 k2 g2 B
  simp only [zp]
  have ne_b2_b1 : b2 ≠ b1 := fun e => by have := lt_of k1; omega
  have ge_b2 := Nat.le_trans E.size g2
  replace E := below_next E B
  replace k1 := keep B k1
  clear B
  refine st_new (fun b => .pointer (some ⟨b, 0, none⟩)) (some 7) rfl rfl (ex_box3 rfl rfl) ?_
  intro b3 W3 k3 g3 B
  simp only [zp]
  have ne_b3_b1 : b3 ≠ b1 := fun e => by have := lt_of k1; omega
  have ne_b3_b2 : b3 ≠ b2 := fun e => by have := lt_of k2; omega
  have ge_b3 := Nat.le_trans E.size g3
  replace E := below_next E B
  replace k1 := keep B k1
  replace k2 := keep B k2
  clear B
  refine st_new (fun b => .pointer (some ⟨b, 0, none⟩)) (some 8) rfl rfl (ex_box3 rfl rfl) ?_
  intro b4 W4 k4 g4 B
  simp only [zp]
  have ne_b4_b1 : b4 ≠ b1 := fun e => by have := lt_of k1; omega
  have ne_b4_b2 : b4 ≠ b2 := fun e => by have := lt_of k2; omega
  have ne_b4_b3 : b4 ≠ b3 := fun e => by have := lt_of k3; omega
  have ge_b4 := Nat.le_trans E.size g4
  replace E := below_next E B
  replace k1 := keep B k1
  replace k2 := keep B k2
  replace k3 := keep B k3
  clear B
  refine sg (.int .i64 0) 10 rfl rfl rfl rfl ?_
  simp only [zp]
  refine st_end ?_
  subst hQ
  refine wq fun Q hQ => ?_
  refine sv (.agg (RL q)) 12 rfl rfl (ex_load (p := (.pointer (some ⟨b1, 0, none⟩))) rfl rfl (ld_all k1 Try.underlying25 rfl inf25)) ?_
  simp only [zp]
  refine sv (.int .i64 a) 13 rfl rfl (ex_load (p := (.pointer (some ⟨b3, 0, none⟩))) rfl rfl (ld3 (at_cell k3 rfl))) ?_
  simp only [zp]
  refine sv (.int .i64 x) 14 rfl rfl (ex_load (p := (.pointer (some ⟨b4, 0, none⟩))) rfl rfl (ld3 (at_cell k4 rfl))) ?_
  simp only [zp]
  refine sm (.int .i64 h) 15 rfl rfl rfl rfl ?_
  simp only [zp]
  refine sv (.agg (XL q a x h)) 16 rfl rfl (ex_build4 (v1 := (.agg (RL q))) (v2 := (.int .i64 a)) (v3 := (.int .i64 x)) (v4 := (.int .i64 h)) rfl rfl rfl rfl rfl (b50 _ _ _ _ _)) ?_
  simp only [zp]
  refine st_new (fun b => .pointer (some ⟨b, 0, none⟩)) (some 11) rfl rfl (ex_alloc rfl zero50) ?_
  intro b5 W5 k5 g5 B
  simp only [zp]
  have ne_b5_b1 : b5 ≠ b1 := fun e => by have := lt_of k1; omega
  have ne_b5_b2 : b5 ≠ b2 := fun e => by have := lt_of k2; omega
  have ne_b5_b3 : b5 ≠ b3 := fun e => by have := lt_of k3; omega
  have ne_b5_b4 : b5 ≠ b4 := fun e => by have := lt_of k4; omega
  have ge_b5 := Nat.le_trans E.size g5
  replace E := below_next E B
  replace k1 := keep B k1
  replace k2 := keep B k2
  replace k3 := keep B k3
  replace k4 := keep B k4
  clear B
  obtain ⟨W6, hst, kn, K⟩ := put_all (D := (XL q a x h)) k5 rfl inf50 (by kernel_rfl)
  refine st_sk rfl rfl (ex_store rfl rfl rfl hst) ?_
  replace E := below_put E ge_b5 K
  replace k1 := keepK K k1 (fun e => ne_tag k1 k5 (by decide) e)
  replace k2 := keepK K k2 (fun e => ne_tag k2 k5 (by decide) e)
  replace k3 := keepK K k3 (fun e => ne_tag k3 k5 (by decide) e)
  replace k4 := keepK K k4 (fun e => ne_tag k4 k5 (by decide) e)
  replace k5 := kn
  clear kn K hst
  refine st_end ?_
  subst hQ
  refine wq fun Q hQ => ?_
  refine sv (.func (.func 38) #[] #[(.pointer (some ⟨b5, 0, none⟩)), (.pointer (some ⟨b2, 0, none⟩))]) 17 rfl rfl (ex_mkf rfl rfl) ?_
  simp only [zp]
  refine sv (.agg #[(.int .i64 1), (.func (.func 38) #[] #[(.pointer (some ⟨b5, 0, none⟩)), (.pointer (some ⟨b2, 0, none⟩))])]) 18 rfl rfl (ex_build2 (v1 := (.int .i64 1)) (v2 := (.func (.func 38) #[] #[(.pointer (some ⟨b5, 0, none⟩)), (.pointer (some ⟨b2, 0, none⟩))])) rfl rfl rfl (b53 _ _ _ _ _)) ?_
  simp only [zp]
  refine sv (.agg (XL q a x h)) 19 rfl rfl (ex_load (p := (.pointer (some ⟨b5, 0, none⟩))) rfl rfl (ld_all k5 Try.underlying50 rfl inf50)) ?_
  simp only [zp]
  refine sv (.func (.func 28) #[(.agg (XL q a x h))] #[]) 20 rfl rfl (ex_mkb (v := (.agg (XL q a x h))) rfl rfl) ?_
  simp only [zp]
  refine sv (.agg #[(.int .i64 6), (.func (.func 28) #[(.agg (XL q a x h))] #[])]) 21 rfl rfl (ex_build2 (v1 := (.int .i64 6)) (v2 := (.func (.func 28) #[(.agg (XL q a x h))] #[])) rfl rfl rfl (b53 _ _ _ _ _)) ?_
  simp only [zp]
  refine sv (.func (.func 39) #[] #[(.pointer (some ⟨b5, 0, none⟩)), (.pointer (some ⟨b4, 0, none⟩))]) 22 rfl rfl (ex_mkf rfl rfl) ?_
  simp only [zp]
  refine sv (.agg #[(.int .i64 5), (.func (.func 39) #[] #[(.pointer (some ⟨b5, 0, none⟩)), (.pointer (some ⟨b4, 0, none⟩))])]) 23 rfl rfl (ex_build2 (v1 := (.int .i64 5)) (v2 := (.func (.func 39) #[] #[(.pointer (some ⟨b5, 0, none⟩)), (.pointer (some ⟨b4, 0, none⟩))])) rfl rfl rfl (b53 _ _ _ _ _)) ?_
  simp only [zp]
  refine sv (.func (.func 40) #[] #[(.pointer (some ⟨b4, 0, none⟩)), (.pointer (some ⟨b2, 0, none⟩))]) 24 rfl rfl (ex_mkf rfl rfl) ?_
  simp only [zp]
  refine sv (.agg #[(.int .i64 4), (.func (.func 40) #[] #[(.pointer (some ⟨b4, 0, none⟩)), (.pointer (some ⟨b2, 0, none⟩))])]) 25 rfl rfl (ex_build2 (v1 := (.int .i64 4)) (v2 := (.func (.func 40) #[] #[(.pointer (some ⟨b4, 0, none⟩)), (.pointer (some ⟨b2, 0, none⟩))])) rfl rfl rfl (b53 _ _ _ _ _)) ?_
  simp only [zp]
  refine sv (.func (.func 41) #[] #[(.pointer (some ⟨b3, 0, none⟩)), (.pointer (some ⟨b2, 0, none⟩))]) 26 rfl rfl (ex_mkf rfl rfl) ?_
  simp only [zp]
  refine sv (.agg #[(.int .i64 8), (.func (.func 41) #[] #[(.pointer (some ⟨b3, 0, none⟩)), (.pointer (some ⟨b2, 0, none⟩))])]) 27 rfl rfl (ex_build2 (v1 := (.int .i64 8)) (v2 := (.func (.func 41) #[] #[(.pointer (some ⟨b3, 0, none⟩)), (.pointer (some ⟨b2, 0, none⟩))])) rfl rfl rfl (b53 _ _ _ _ _)) ?_
  simp only [zp]
  refine st_new (fun b => .slice (some ⟨b, 0, none⟩) 5 5) (some 28) rfl rfl (ex_bslN (vs := [(0, (.agg #[(.int .i64 1), (.func (.func 38) #[] #[(.pointer (some ⟨b5, 0, none⟩)), (.pointer (some ⟨b2, 0, none⟩))])])), (1, (.agg #[(.int .i64 6), (.func (.func 28) #[(.agg (XL q a x h))] #[])])), (2, (.agg #[(.int .i64 5), (.func (.func 39) #[] #[(.pointer (some ⟨b5, 0, none⟩)), (.pointer (some ⟨b4, 0, none⟩))])])), (3, (.agg #[(.int .i64 4), (.func (.func 40) #[] #[(.pointer (some ⟨b4, 0, none⟩)), (.pointer (some ⟨b2, 0, none⟩))])])), (4, (.agg #[(.int .i64 8), (.func (.func 41) #[] #[(.pointer (some ⟨b3, 0, none⟩)), (.pointer (some ⟨b2, 0, none⟩))])]))]) rfl rfl (bs60_5 _ _ _ _ _ _ _ _ _ _ _ _ _ _ _ _ _ _ _ _ _)) ?_
  intro b6 W7 k6 g6 B
  simp only [zp]
  have ne_b6_b1 : b6 ≠ b1 := fun e => by have := lt_of k1; omega
  have ne_b6_b2 : b6 ≠ b2 := fun e => by have := lt_of k2; omega
  have ne_b6_b3 : b6 ≠ b3 := fun e => by have := lt_of k3; omega
  have ne_b6_b4 : b6 ≠ b4 := fun e => by have := lt_of k4; omega
  have ne_b6_b5 : b6 ≠ b5 := fun e => by have := lt_of k5; omega
  have ge_b6 := Nat.le_trans E.size g6
  replace E := below_next E B
  replace k1 := keep B k1
  replace k2 := keep B k2
  replace k3 := keep B k3
  replace k4 := keep B k4
  replace k5 := keep B k5
  clear B
  refine st_call (some 29) rfl rfl (first_any b6 5 (fiQ q v a x h b5 b2 b4 b3) W7 (fun i hi => match i, hi with | 0, _ => row_at k6 0 _ rfl rfl | 1, _ => row_at k6 1 _ rfl rfl | 2, _ => row_at k6 2 _ rfl rfl | 3, _ => row_at k6 3 _ rfl rfl | 4, _ => row_at k6 4 _ rfl rfl | n + 5, h => absurd h (by omega)) (by decide) (fun i hi => match i, hi with | 0, _ => cf38 | 1, _ => cf28 | 2, _ => cf39 | 3, _ => cf40 | 4, _ => cf41 | n + 5, h => absurd h (by omega)) (fiQ_ask W7 k5 k2 k4 k3 hH hb y0 y1)) (ex_call (f := 25) (vs := [(.slice (some ⟨b6, 0, none⟩) 5 5)]) rfl (cf25 _) rfl) ?_
  rintro e W8 ⟨rfl, B⟩
  refine ⟨_, rfl, ?_⟩
  simp only [zp]
  replace E := below_next E B
  replace k1 := keep B k1
  replace k2 := keep B k2
  replace k3 := keep B k3
  replace k4 := keep B k4
  replace k5 := keep B k5
  replace k6 := keep B k6
  refine sg (.int .i64 (frst (fiQ q v a x h b5 b2 b4 b3) 5 0)) 10 rfl rfl rfl rfl ?_
  simp only [zp]
  refine st_end ?_
  subst hQ
  refine wp_ret ?_
  exact bodyPost_ret (results_tmp Try.results15 _ _ _) rfl ⟨rfl, E⟩
end Go.Proofs.Ytfbaidmnnkcaeaa
