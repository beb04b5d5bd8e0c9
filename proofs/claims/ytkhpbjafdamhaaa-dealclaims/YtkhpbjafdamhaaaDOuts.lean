/- The document's look at outputs, where they may be. -/
import Derived.Test.YtkhpbjafdamhaaaDPl
namespace Go.Proofs.Ytkhpbjafdamhaaa
open Go.RowKit
set_option linter.unusedVariables false
set_option linter.unusedSimpArgs false
set_option maxRecDepth 100000

theorem pth_c0 (a b h d : Int) (t : Bool) (v : Array Value) : (pth a b t h d v)[0]? = some (.int .i64 a) := by unfold pth; rw [Array.getElem?_append_left (by simp)]; rfl
theorem pth_c1 (a b h d : Int) (t : Bool) (v : Array Value) : (pth a b t h d v)[1]? = some (.int .i64 b) := by unfold pth; rw [Array.getElem?_append_left (by simp)]; rfl
theorem pth_c2 (a b h d : Int) (t : Bool) (v : Array Value) : (pth a b t h d v)[2]? = some (.bool t) := by unfold pth; rw [Array.getElem?_append_left (by simp)]; rfl
theorem pth_c3 (a b h d : Int) (t : Bool) (v : Array Value) : (pth a b t h d v)[3]? = some (.int .i64 h) := by unfold pth; rw [Array.getElem?_append_left (by simp)]; rfl
theorem pth_c4 (a b h d : Int) (t : Bool) (v : Array Value) : (pth a b t h d v)[4]? = some (.int .i64 d) := by unfold pth; rw [Array.getElem?_append_left (by simp)]; rfl
theorem radd_ok {a b : Int} (w : World) (h : 0 ≤ a ∧ 0 ≤ b ∧ a + b ≤ 9223372036854775807) :
    Calls Try.prog 36 #[.int .i64 a, .int .i64 b] w fun e w' => e = .returned (.tuple #[.int .i64 (a + b), .int .i64 0]) ∧ Below w.heap.size w w' := by
  have E : Below w.heap.size w w := Below.refl _ _
  go_enter Try.func36, Try.ntmps36; refine wq fun Q hQ => ?_; refine sg (.int .i64 0) 4 rfl rfl rfl rfl ?_; simp only [zp]; refine sg (.int .i64 0) 5 rfl rfl rfl rfl ?_; simp only [zp]; refine st_end ?_; subst hQ; refine wp_seq ?_; refine wq fun Q hQ => ?_; refine sm (.int .i64 a) 6 rfl rfl rfl rfl ?_; simp only [zp]; refine sv (.bool false) 7 rfl rfl (ex_bin (u := (.int .i64 a)) (r := (.int .i64 0)) rfl rfl rfl (eg3 _ _ _ _ _ _) (lss3 _ (decide_eq_false (by omega)))) ?_; simp only [zp]; refine sm (.bool false) 8 rfl rfl rfl rfl ?_; simp only [zp]
  refine sm (.int .i64 b) 9 rfl rfl rfl rfl ?_; simp only [zp]; refine sv (.bool false) 10 rfl rfl (ex_bin (u := (.int .i64 b)) (r := (.int .i64 0)) rfl rfl rfl (eg3 _ _ _ _ _ _) (lss3 _ (decide_eq_false (by omega)))) ?_; simp only [zp]; refine sv (.bool false) 11 rfl rfl (ex_pkF rfl rfl rfl) ?_; simp only [zp]; refine st_end ?_; subst hQ; refine wp_cond_false rfl ?_; refine wp_skip ?_; refine wp_seq ?_; refine wq fun Q hQ => ?_; refine sm (.int .i64 a) 12 rfl rfl rfl rfl ?_; simp only [zp]; refine sm (.int .i64 b) 13 rfl rfl rfl rfl ?_; simp only [zp]
  refine sv (.int .i64 (9223372036854775807 - b)) 14 rfl rfl (ex_bin rfl rfl rfl (eg3 _ _ _ _ _ _) (sub3 _ rfl (by omega))) ?_; simp only [zp]; refine sv (.bool false) 15 rfl rfl (ex_bin (u := (.int .i64 a)) (r := (.int .i64 (9223372036854775807 - b))) rfl rfl rfl (eg3 _ _ _ _ _ _) (gtr3 _ (decide_eq_false (by omega)))) ?_; simp only [zp]; refine st_end ?_; subst hQ; refine wp_cond_false rfl ?_; refine wp_skip ?_; refine wq fun Q hQ => ?_; refine sm (.int .i64 a) 16 rfl rfl rfl rfl ?_; simp only [zp]; refine sm (.int .i64 b) 17 rfl rfl rfl rfl ?_; simp only [zp]
  refine sv (.int .i64 (a + b)) 18 rfl rfl (ex_bin rfl rfl rfl (eg3 _ _ _ _ _ _) (add3 _ rfl (by omega))) ?_; simp only [zp]; refine sg (.int .i64 (a + b)) 4 rfl rfl rfl rfl ?_; simp only [zp]; refine sg (.int .i64 0) 5 rfl rfl rfl rfl ?_; simp only [zp]; refine st_end ?_; subst hQ; refine wp_ret ?_; refine bodyPost_ret (results_tmp2 Try.results36 _ _ _) rfl ⟨rfl, E⟩

theorem ex_ix44 {o : Oper} {a : Act} {W : World} {x y : Operand} {b n c k : Nat} (ho : o.op = .indexAddr 44 x y) (hx : a.eval x = .slice (some ⟨b, 0, none⟩) n c) (hy : a.eval y = .int .i64 k) (hk : k < n) : (execOp a.eval o).run Try.prog W = .ok (.value (.pointer (some ⟨b, k * 37, none⟩))) W := by
  have h1 : (k : Int) < (n : Int) := by omega
  unfold execOp
  simp only [ho, hx, hy]
  go_simp
end Go.Proofs.Ytkhpbjafdamhaaa
