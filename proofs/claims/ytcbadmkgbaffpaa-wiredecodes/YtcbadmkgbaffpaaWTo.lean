/- The contract of wire's deed.to over this seat's translation: it calls the deed of the field's form at the field. -/
import Derived.Test.YtcbadmkgbaffpaaWMsg
import Derived.Deep.RegionHeld3
namespace Go.Proofs.Ytcbadmkgbaffpaa
open Go.RowKit
set_option linter.unusedVariables false

/-- function k is entered where it is called -/
def Enters (k : Nat) : Prop := ∀ args W, (callFunc k args).run Try.prog W = .ok (.enter k args) W
/-- a deed: three functions that share what they captured -/
def deedV (k0 k1 k2 : Nat) (cap : Array Value) : Value := .agg #[.func (.func k0) #[] cap, .func (.func k1) #[] cap, .func (.func k2) #[] cap]
def lo : Nat → Int
  | 0 => 1 | 5 => 2112 | _ => 0
def hi : Nat → Int
  | 0 => 65535 | 1 => 2147483647 | 2 => 9223372036854775807 | 3 => 2147483647 | 5 => 2112 | 9 => 2147483647 | 10 => 2147483647 | 11 => 256 | _ => 0
def deedK (k0 k1 k2 : Nat) (i : Nat) : Nat := if form i = 0 then k0 else if form i = 1 then k1 else k2
def deedArgs (b i : Nat) : Array Value := if form i = 1 then #[.pointer (some ⟨b, off i, none⟩)] else #[.pointer (some ⟨b, off i, none⟩), .int .i64 (lo i), .int .i64 (hi i)]


set_option maxHeartbeats 1000000 in
theorem to0 (k0 k1 k2 b : Nat) (cap : Array Value) (w : World) (R : Bool → World → Prop) (hk : Enters k0)
    (h : ∀ W, Below w.heap.size w W → Calls Try.prog k0 (#[.pointer (some ⟨b, 1, none⟩), .int .i64 1, .int .i64 65535] ++ cap) W fun e w' => ∃ r, e = .returned (.bool r) ∧ R r w') :
    Calls Try.prog 22 #[deedV k0 k1 k2 cap, .pointer (some ⟨b, 0, none⟩), .int .u64 1] w fun e w' => ∃ r, e = .returned (.bool r) ∧ R r w' := by
  unfold deedV
  unfold Enters at hk
  have H := hide h
  clear h
  go_enter Try.func22, Try.ntmps22
  go_wp2
  go_region_with (refine (H.out _ ((Below.refl _ _).alloc (Nat.le_refl _) _).drew).mono ?_; rintro e w' ⟨r, rfl, hr⟩)
  all_goals (go_wp2; go_ret; exact ⟨r, rfl, hr⟩)


set_option maxHeartbeats 1000000 in
theorem to1 (k0 k1 k2 b : Nat) (cap : Array Value) (w : World) (R : Bool → World → Prop) (hk : Enters k0)
    (h : ∀ W, Below w.heap.size w W → Calls Try.prog k0 (#[.pointer (some ⟨b, 2, none⟩), .int .i64 0, .int .i64 2147483647] ++ cap) W fun e w' => ∃ r, e = .returned (.bool r) ∧ R r w') :
    Calls Try.prog 22 #[deedV k0 k1 k2 cap, .pointer (some ⟨b, 0, none⟩), .int .u64 3] w fun e w' => ∃ r, e = .returned (.bool r) ∧ R r w' := by
  unfold deedV
  unfold Enters at hk
  have H := hide h
  clear h
  go_enter Try.func22, Try.ntmps22
  go_wp2
  go_region_with (refine (H.out _ ((Below.refl _ _).alloc (Nat.le_refl _) _).drew).mono ?_; rintro e w' ⟨r, rfl, hr⟩)
  all_goals (go_wp2; go_ret; exact ⟨r, rfl, hr⟩)


set_option maxHeartbeats 1000000 in
theorem to2 (k0 k1 k2 b : Nat) (cap : Array Value) (w : World) (R : Bool → World → Prop) (hk : Enters k0)
    (h : ∀ W, Below w.heap.size w W → Calls Try.prog k0 (#[.pointer (some ⟨b, 3, none⟩), .int .i64 0, .int .i64 9223372036854775807] ++ cap) W fun e w' => ∃ r, e = .returned (.bool r) ∧ R r w') :
    Calls Try.prog 22 #[deedV k0 k1 k2 cap, .pointer (some ⟨b, 0, none⟩), .int .u64 5] w fun e w' => ∃ r, e = .returned (.bool r) ∧ R r w' := by
  unfold deedV
  unfold Enters at hk
  have H := hide h
  clear h
  go_enter Try.func22, Try.ntmps22
  go_wp2
  go_region_with (refine (H.out _ ((Below.refl _ _).alloc (Nat.le_refl _) _).drew).mono ?_; rintro e w' ⟨r, rfl, hr⟩)
  all_goals (go_wp2; go_ret; exact ⟨r, rfl, hr⟩)


set_option maxHeartbeats 1000000 in
theorem to3 (k0 k1 k2 b : Nat) (cap : Array Value) (w : World) (R : Bool → World → Prop) (hk : Enters k0)
    (h : ∀ W, Below w.heap.size w W → Calls Try.prog k0 (#[.pointer (some ⟨b, 4, none⟩), .int .i64 0, .int .i64 2147483647] ++ cap) W fun e w' => ∃ r, e = .returned (.bool r) ∧ R r w') :
    Calls Try.prog 22 #[deedV k0 k1 k2 cap, .pointer (some ⟨b, 0, none⟩), .int .u64 7] w fun e w' => ∃ r, e = .returned (.bool r) ∧ R r w' := by
  unfold deedV
  unfold Enters at hk
  have H := hide h
  clear h
  go_enter Try.func22, Try.ntmps22
  go_wp2
  go_region_with (refine (H.out _ ((Below.refl _ _).alloc (Nat.le_refl _) _).drew).mono ?_; rintro e w' ⟨r, rfl, hr⟩)
  all_goals (go_wp2; go_ret; exact ⟨r, rfl, hr⟩)


set_option maxHeartbeats 1000000 in
theorem to4 (k0 k1 k2 b : Nat) (cap : Array Value) (w : World) (R : Bool → World → Prop) (hk : Enters k1)
    (h : ∀ W, Below w.heap.size w W → Calls Try.prog k1 (#[.pointer (some ⟨b, 5, none⟩)] ++ cap) W fun e w' => ∃ r, e = .returned (.bool r) ∧ R r w') :
    Calls Try.prog 22 #[deedV k0 k1 k2 cap, .pointer (some ⟨b, 0, none⟩), .int .u64 9] w fun e w' => ∃ r, e = .returned (.bool r) ∧ R r w' := by
  unfold deedV
  unfold Enters at hk
  have H := hide h
  clear h
  go_enter Try.func22, Try.ntmps22
  go_wp2
  go_region_with (refine (H.out _ ((Below.refl _ _).alloc (Nat.le_refl _) _).drew).mono ?_; rintro e w' ⟨r, rfl, hr⟩)
  all_goals (go_wp2; go_ret; exact ⟨r, rfl, hr⟩)


set_option maxHeartbeats 1000000 in
theorem to5 (k0 k1 k2 b : Nat) (cap : Array Value) (w : World) (R : Bool → World → Prop) (hk : Enters k2)
    (h : ∀ W, Below w.heap.size w W → Calls Try.prog k2 (#[.pointer (some ⟨b, 37, none⟩), .int .i64 2112, .int .i64 2112] ++ cap) W fun e w' => ∃ r, e = .returned (.bool r) ∧ R r w') :
    Calls Try.prog 22 #[deedV k0 k1 k2 cap, .pointer (some ⟨b, 0, none⟩), .int .u64 11] w fun e w' => ∃ r, e = .returned (.bool r) ∧ R r w' := by
  unfold deedV
  unfold Enters at hk
  have H := hide h
  clear h
  go_enter Try.func22, Try.ntmps22
  go_wp2
  go_region_with (refine (H.out _ ((Below.refl _ _).alloc (Nat.le_refl _) _).drew).mono ?_; rintro e w' ⟨r, rfl, hr⟩)
  all_goals (go_wp2; go_ret; exact ⟨r, rfl, hr⟩)


set_option maxHeartbeats 1000000 in
theorem to6 (k0 k1 k2 b : Nat) (cap : Array Value) (w : World) (R : Bool → World → Prop) (hk : Enters k1)
    (h : ∀ W, Below w.heap.size w W → Calls Try.prog k1 (#[.pointer (some ⟨b, 38, none⟩)] ++ cap) W fun e w' => ∃ r, e = .returned (.bool r) ∧ R r w') :
    Calls Try.prog 22 #[deedV k0 k1 k2 cap, .pointer (some ⟨b, 0, none⟩), .int .u64 13] w fun e w' => ∃ r, e = .returned (.bool r) ∧ R r w' := by
  unfold deedV
  unfold Enters at hk
  have H := hide h
  clear h
  go_enter Try.func22, Try.ntmps22
  go_wp2
  go_region_with (refine (H.out _ ((Below.refl _ _).alloc (Nat.le_refl _) _).drew).mono ?_; rintro e w' ⟨r, rfl, hr⟩)
  all_goals (go_wp2; go_ret; exact ⟨r, rfl, hr⟩)


set_option maxHeartbeats 1000000 in
theorem to7 (k0 k1 k2 b : Nat) (cap : Array Value) (w : World) (R : Bool → World → Prop) (hk : Enters k1)
    (h : ∀ W, Below w.heap.size w W → Calls Try.prog k1 (#[.pointer (some ⟨b, 70, none⟩)] ++ cap) W fun e w' => ∃ r, e = .returned (.bool r) ∧ R r w') :
    Calls Try.prog 22 #[deedV k0 k1 k2 cap, .pointer (some ⟨b, 0, none⟩), .int .u64 15] w fun e w' => ∃ r, e = .returned (.bool r) ∧ R r w' := by
  unfold deedV
  unfold Enters at hk
  have H := hide h
  clear h
  go_enter Try.func22, Try.ntmps22
  go_wp2
  go_region_with (refine (H.out _ ((Below.refl _ _).alloc (Nat.le_refl _) _).drew).mono ?_; rintro e w' ⟨r, rfl, hr⟩)
  all_goals (go_wp2; go_ret; exact ⟨r, rfl, hr⟩)


set_option maxHeartbeats 1000000 in
theorem to8 (k0 k1 k2 b : Nat) (cap : Array Value) (w : World) (R : Bool → World → Prop) (hk : Enters k1)
    (h : ∀ W, Below w.heap.size w W → Calls Try.prog k1 (#[.pointer (some ⟨b, 102, none⟩)] ++ cap) W fun e w' => ∃ r, e = .returned (.bool r) ∧ R r w') :
    Calls Try.prog 22 #[deedV k0 k1 k2 cap, .pointer (some ⟨b, 0, none⟩), .int .u64 17] w fun e w' => ∃ r, e = .returned (.bool r) ∧ R r w' := by
  unfold deedV
  unfold Enters at hk
  have H := hide h
  clear h
  go_enter Try.func22, Try.ntmps22
  go_wp2
  go_region_with (refine (H.out _ ((Below.refl _ _).alloc (Nat.le_refl _) _).drew).mono ?_; rintro e w' ⟨r, rfl, hr⟩)
  all_goals (go_wp2; go_ret; exact ⟨r, rfl, hr⟩)


set_option maxHeartbeats 1000000 in
theorem to9 (k0 k1 k2 b : Nat) (cap : Array Value) (w : World) (R : Bool → World → Prop) (hk : Enters k0)
    (h : ∀ W, Below w.heap.size w W → Calls Try.prog k0 (#[.pointer (some ⟨b, 134, none⟩), .int .i64 0, .int .i64 2147483647] ++ cap) W fun e w' => ∃ r, e = .returned (.bool r) ∧ R r w') :
    Calls Try.prog 22 #[deedV k0 k1 k2 cap, .pointer (some ⟨b, 0, none⟩), .int .u64 19] w fun e w' => ∃ r, e = .returned (.bool r) ∧ R r w' := by
  unfold deedV
  unfold Enters at hk
  have H := hide h
  clear h
  go_enter Try.func22, Try.ntmps22
  go_wp2
  go_region_with (refine (H.out _ ((Below.refl _ _).alloc (Nat.le_refl _) _).drew).mono ?_; rintro e w' ⟨r, rfl, hr⟩)
  all_goals (go_wp2; go_ret; exact ⟨r, rfl, hr⟩)


set_option maxHeartbeats 1000000 in
theorem to10 (k0 k1 k2 b : Nat) (cap : Array Value) (w : World) (R : Bool → World → Prop) (hk : Enters k0)
    (h : ∀ W, Below w.heap.size w W → Calls Try.prog k0 (#[.pointer (some ⟨b, 135, none⟩), .int .i64 0, .int .i64 2147483647] ++ cap) W fun e w' => ∃ r, e = .returned (.bool r) ∧ R r w') :
    Calls Try.prog 22 #[deedV k0 k1 k2 cap, .pointer (some ⟨b, 0, none⟩), .int .u64 21] w fun e w' => ∃ r, e = .returned (.bool r) ∧ R r w' := by
  unfold deedV
  unfold Enters at hk
  have H := hide h
  clear h
  go_enter Try.func22, Try.ntmps22
  go_wp2
  go_region_with (refine (H.out _ ((Below.refl _ _).alloc (Nat.le_refl _) _).drew).mono ?_; rintro e w' ⟨r, rfl, hr⟩)
  all_goals (go_wp2; go_ret; exact ⟨r, rfl, hr⟩)


set_option maxHeartbeats 1000000 in
theorem to11 (k0 k1 k2 b : Nat) (cap : Array Value) (w : World) (R : Bool → World → Prop) (hk : Enters k2)
    (h : ∀ W, Below w.heap.size w W → Calls Try.prog k2 (#[.pointer (some ⟨b, 136, none⟩), .int .i64 0, .int .i64 256] ++ cap) W fun e w' => ∃ r, e = .returned (.bool r) ∧ R r w') :
    Calls Try.prog 22 #[deedV k0 k1 k2 cap, .pointer (some ⟨b, 0, none⟩), .int .u64 23] w fun e w' => ∃ r, e = .returned (.bool r) ∧ R r w' := by
  unfold deedV
  unfold Enters at hk
  have H := hide h
  clear h
  go_enter Try.func22, Try.ntmps22
  go_wp2
  go_region_with (refine (H.out _ ((Below.refl _ _).alloc (Nat.le_refl _) _).drew).mono ?_; rintro e w' ⟨r, rfl, hr⟩)
  all_goals (go_wp2; go_ret; exact ⟨r, rfl, hr⟩)


/-- deed.to at the field number i -/
theorem to_any (i : Nat) (hi : i < 12) (k0 k1 k2 b : Nat) (cap : Array Value) (w : World) (R : Bool → World → Prop) (h0 : Enters k0) (h1 : Enters k1) (h2 : Enters k2)
    (h : ∀ W, Below w.heap.size w W → Calls Try.prog (deedK k0 k1 k2 i) (deedArgs b i ++ cap) W fun e w' => ∃ r, e = .returned (.bool r) ∧ R r w') :
    Calls Try.prog 22 #[deedV k0 k1 k2 cap, .pointer (some ⟨b, 0, none⟩), .int .u64 (2 * i + 1)] w fun e w' => ∃ r, e = .returned (.bool r) ∧ R r w' := by
  match i, hi with
  | 0, _ => exact to0 k0 k1 k2 b cap w R h0 h
  | 1, _ => exact to1 k0 k1 k2 b cap w R h0 h
  | 2, _ => exact to2 k0 k1 k2 b cap w R h0 h
  | 3, _ => exact to3 k0 k1 k2 b cap w R h0 h
  | 4, _ => exact to4 k0 k1 k2 b cap w R h1 h
  | 5, _ => exact to5 k0 k1 k2 b cap w R h2 h
  | 6, _ => exact to6 k0 k1 k2 b cap w R h1 h
  | 7, _ => exact to7 k0 k1 k2 b cap w R h1 h
  | 8, _ => exact to8 k0 k1 k2 b cap w R h1 h
  | 9, _ => exact to9 k0 k1 k2 b cap w R h0 h
  | 10, _ => exact to10 k0 k1 k2 b cap w R h0 h
  | 11, _ => exact to11 k0 k1 k2 b cap w R h2 h
end Go.Proofs.Ytcbadmkgbaffpaa
