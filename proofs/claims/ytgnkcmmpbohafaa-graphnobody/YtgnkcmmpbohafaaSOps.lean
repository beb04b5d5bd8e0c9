/- Conversions to floats, bits of floats. -/
import Derived.Test.YtgnkcmmpbohafaaGOps
namespace Go.Proofs.Ytgnkcmmpbohafaa
open Go.RowKit
set_option linter.unusedVariables false
set_option linter.unusedSimpArgs false
set_option maxRecDepth 100000
section
variable {o : Oper} {a : Act} {W : World}
theorem ex_cvt {x : Operand} {n : Int} (ho : o.op = .convert 3 34 x) (hx : a.eval x = .int .i64 n) : (execOp a.eval o).run Try.prog W = .ok (.value (.float .f64 (FloatKind.f64.nearest n))) W := by
  have := run_convert_int_float (P := Try.prog) W 3 34 .i64 .f64 n (by rw [Try.underlying3]; rfl) Try.underlying34
  unfold execOp
  simp only [ho, hx]
  simp [this]
  rfl
theorem ex_ext1 {f : Nat} {x : Operand} {ts : Array TypeId} {v r : Value} (ho : o.op = .call { callee := .value (.func f), args := #[x], argTypes := ts }) (hx : a.eval x = v) (hf : (callFunc f #[v]).run Try.prog W = .ok (.value r) W) : (execOp a.eval o).run Try.prog W = .ok (.value r) W := by
  have hm : #[x].map a.eval = #[v] := by rw [← hx]; simp
  unfold execOp
  simp only [ho, resolve, Sem.run_bind]
  have he : a.eval (.func f) = .func (.func f) #[] #[] := rfl
  rw [he, hm]
  simp [Deferred.ofValue, invoke, hf]
theorem call_bits (b : Nat) (W : World) : (callFunc 42 #[.float .f64 b]).run Try.prog W = .ok (.value (.int .u64 (b : Int))) W := by
  rw [run_callFunc_extern (fn := Try.f42) (e := Extern.MathFloatBits.float64bits) Try.func42 (by kernel_rfl) (by kernel_rfl) (by kernel_rfl) (by kernel_rfl)]
  rfl
theorem call_frombits (b : Nat) (W : World) : (callFunc 84 #[.int .u64 (b : Int)]).run Try.prog W = .ok (.value (.float .f64 b)) W := by
  rw [run_callFunc_extern (fn := Try.f84) (e := Extern.MathFloatBits.float64frombits) Try.func84 (by kernel_rfl) (by kernel_rfl) (by kernel_rfl) (by kernel_rfl)]
  rfl
end
end Go.Proofs.Ytgnkcmmpbohafaa
