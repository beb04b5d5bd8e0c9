/- Terms and Htlcs as cells; worlds that are only added to. -/
import Derived.Test.YtkhpbjafdamhaaaRows
import Derived.WalkKit
import Derived.WalkSpells
import Derived.WalkLawsBesides
import Derived.Handy
import Derived.Deep.MidRow
import Derived.Deep.WholeRow
namespace Go.Proofs.Ytkhpbjafdamhaaa
open Go.RowKit
set_option linter.unusedVariables false

theorem hide {p : Prop} (h : p) : Hid p := h

/-- terms, as numbers -/
structure TV where
  ch : Int
  a : Int
  b : Int
  fo : Int
  sa : Int
  sb : Int
  d : Int
  fee : Int
  res : Int
  sl : Int
  fl : Int
/-- cells that are terms -/
structure IsT (C : Array Value) (t : TV) : Prop where
  size : C.size = 43
  one : C.all (·.oneCell') = true
  c0 : C[0]? = some (.int .i64 t.ch)
  c1 : C[1]? = some (.int .i64 t.a)
  c2 : C[2]? = some (.int .i64 t.b)
  c35 : C[35]? = some (.int .i64 t.fo)
  c36 : C[36]? = some (.int .i64 t.sa)
  c37 : C[37]? = some (.int .i64 t.sb)
  c38 : C[38]? = some (.int .i64 t.d)
  c39 : C[39]? = some (.int .i64 t.fee)
  c40 : C[40]? = some (.int .i64 t.res)
  c41 : C[41]? = some (.int .i64 t.sl)
  c42 : C[42]? = some (.int .i64 t.fl)
theorem cell_new (w : World) (C : Array Value) (T k : Nat) (v : Value) (h : C[k]? = some v) : (w.alloc (.cells C T)).cell? ⟨w.heap.size, k, none⟩ = some v := by
  unfold World.cell?
  rw [heap_alloc_last]; exact h
/-- bytes as values -/
def U8 (zs : List Int) : List Value := zs.map (Value.int .u8)
theorem U8_at (l : List Int) (i : Nat) (h : i < l.length) : (U8 l)[i]? = some (.int .u8 (l.getD i 0)) := by simp [U8, h]
theorem U8_one (l : List Int) : (U8 l).toArray.all (·.oneCell') = true := by
  rw [List.all_toArray]
  simp [U8, Value.oneCell']
theorem U8_size (l : List Int) (h : l.length = 32) : (U8 l).toArray.size = 32 := by simp [U8, h]
/-- an Htlc, as numbers and a hash -/
structure HV where
  by_ : Int
  id : Int
  am : Int
  ex : Int
  hl : List Int
def HV.hash (h : HV) : Array Value := (U8 h.hl).toArray
/-- cells that are an Htlc -/
structure IsH (C : Array Value) (h : HV) : Prop where
  size : C.size = 36
  one : C.all (·.oneCell') = true
  c0 : C[0]? = some (.int .i64 h.by_)
  c1 : C[1]? = some (.int .i64 h.id)
  c2 : C[2]? = some (.int .i64 h.am)
  c35 : C[35]? = some (.int .i64 h.ex)
  part : C.extract 3 35 = h.hash
  len : h.hl.length = 32
theorem IsH.hs {C : Array Value} {h : HV} (x : IsH C h) : h.hash.size = 32 := U8_size _ x.len
/-- cells that are a side: the holder, the other one, the delay, the point -/
structure IsS (C : Array Value) (x y d : Int) (v : Array Value) : Prop where
  size : C.size = 35
  one : C.all (·.oneCell') = true
  c0 : C[0]? = some (.int .i64 x)
  c1 : C[1]? = some (.int .i64 y)
  c2 : C[2]? = some (.int .i64 d)
  part : C.extract 3 35 = v
  hs : v.size = 32
section
variable {w : World} {C : Array Value} {t : TV}
set_option maxHeartbeats 400000 in
theorem isOf_any (n : Int) (w : World) (h : IsT C t) {c : Bool} (hc : decide (n = t.a ∨ n = t.b) = c) :
    Calls Try.prog 27 #[.agg C, .int .i64 n] w fun e w' => e = .returned (.bool c) ∧ Below w.heap.size w w' := by
  subst hc; have h1 := cell_new w C 26 1 _ h.c1; have h2 := cell_new w C 26 2 _ h.c2; have HB := hide ((Below.refl w.heap.size w).alloc (Nat.le_refl _) (.cells C 26))
  by_cases e1 : n = t.a
  · go_enter Try.func27, Try.ntmps27
    go_wp2
    go_ret
    exact ⟨by simp [e1], HB.out⟩
  · by_cases e2 : n = t.b
    · go_enter Try.func27, Try.ntmps27
      go_wp2
      go_ret
      exact ⟨by simp [e2], HB.out⟩
    · go_enter Try.func27, Try.ntmps27
      go_wp2
      go_ret
      exact ⟨by simp [e1, e2], HB.out⟩
/-- the other one -/
def othN (t : TV) (n : Int) : Int := if n = t.a then t.b else if n = t.b then t.a else -1
set_option maxHeartbeats 400000 in
theorem other_any (n : Int) (w : World) (h : IsT C t) :
    Calls Try.prog 16 #[.agg C, .int .i64 n] w fun e w' => e = .returned (.int .i64 (othN t n)) ∧ Below w.heap.size w w' := by
  have h1 := cell_new w C 26 1 _ h.c1; have h2 := cell_new w C 26 2 _ h.c2; have HB := hide ((Below.refl w.heap.size w).alloc (Nat.le_refl _) (.cells C 26))
  unfold othN
  by_cases e1 : n = t.a
  · rw [if_pos e1]
    go_enter Try.func16, Try.ntmps16
    go_wp2
    go_ret
    exact ⟨rfl, HB.out⟩
  · rw [if_neg e1]
    by_cases e2 : n = t.b
    · rw [if_pos e2]
      go_enter Try.func16, Try.ntmps16
      go_wp2
      go_ret
      exact ⟨rfl, HB.out⟩
    · rw [if_neg e2]
      go_enter Try.func16, Try.ntmps16
      go_wp2
      go_ret
      exact ⟨rfl, HB.out⟩
/-- does one stand ahead of the other? -/
def belowB (x y : HV) : Bool := decide (x.by_ < y.by_ ∨ x.by_ = y.by_ ∧ x.id < y.id)
end
/-- what a step puts into the frame -/
theorem zp : (∀ (a : Act) (d : Tmp) (v : Value), a.put (some d) v = { a with tmps := a.tmps.setIfInBounds d v }) ∧ (∀ (a : Act) (v : Value), a.put none v = a) ∧ (∀ (l : List Value) (i : Nat) (v : Value), l.toArray.setIfInBounds i v = (l.set i v).toArray) ∧ (∀ (x v : Value) (l : List Value), (x :: l).set 0 v = v :: l) ∧ (∀ (x v : Value) (l : List Value) (n : Nat), (x :: l).set (n + 1) v = x :: l.set n v) :=
  ⟨fun _ _ _ => rfl, fun _ _ => rfl, fun _ _ _ => List.setIfInBounds_toArray _ _ _, fun _ _ _ => rfl, fun _ _ _ _ => rfl⟩
end Go.Proofs.Ytkhpbjafdamhaaa
