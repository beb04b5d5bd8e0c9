/- The deeds of package wire that ask and leave, over this seat's translation. -/
import Derived.Test.YtcbadmkgbaffpaaWMsg
import Derived.Deep.MidRow
import Derived.Laws.EntriesVeiled
namespace Go.Proofs.Ytcbadmkgbaffpaa
open Go.RowKit
set_option linter.unusedVariables false

theorem within1 (b o : Nat) (n least most : Int) (w : World) (h : w.cell? ⟨b, o, none⟩ = some (.int .i64 n)) :
    Calls Try.prog 46 #[.pointer (some ⟨b, o, none⟩), .int .i64 least, .int .i64 most] w fun e w' => e = .returned (.bool (decide (least ≤ n ∧ n ≤ most))) ∧ w' = w := by
  by_cases h1 : least ≤ n
  · go_enter Try.func46, Try.ntmps46
    go_wp2
    go_ret
    exact ⟨by simp; omega, rfl⟩
  · go_enter Try.func46, Try.ntmps46
    go_wp2
    go_ret
    exact ⟨by simp; omega, rfl⟩

theorem within2 (p : Value) (w : World) : Calls Try.prog 47 #[p] w fun e w' => e = .returned (.bool true) ∧ w' = w := by
  go_enter Try.func47, Try.ntmps47
  go_wp2
  go_ret
  exact ⟨rfl, rfl⟩

theorem within3 (b o : Nat) (ao : Option Addr) (n c : Nat) (least most : Int) (w : World) (h : w.cell? ⟨b, o, none⟩ = some (.slice ao n c)) (hn : n ≤ 9223372036854775807) :
    Calls Try.prog 48 #[.pointer (some ⟨b, o, none⟩), .int .i64 least, .int .i64 most] w fun e w' => e = .returned (.bool (decide (least ≤ (n : Int) ∧ (n : Int) ≤ most))) ∧ w' = w := by
  by_cases h1 : least ≤ (n : Int)
  · go_enter Try.func48, Try.ntmps48
    go_wp2
    go_ret
    exact ⟨by simp; omega, rfl⟩
  · go_enter Try.func48, Try.ntmps48
    go_wp2
    go_ret
    exact ⟨by simp; omega, rfl⟩

theorem zero1 (b o : Nat) (n : Int) (l m : Value) (w : World) (h : w.cell? ⟨b, o, none⟩ = some (.int .i64 n)) :
    Calls Try.prog 49 #[.pointer (some ⟨b, o, none⟩), l, m] w fun e w' => e = .returned (.bool (n == 0)) ∧ w' = w := by
  go_enter Try.func49, Try.ntmps49
  go_wp2
  go_ret
  exact ⟨rfl, rfl⟩

theorem zero3 (b o : Nat) (ao : Option Addr) (n c : Nat) (l m : Value) (w : World) (h : w.cell? ⟨b, o, none⟩ = some (.slice ao n c)) (hn : n ≤ 9223372036854775807) :
    Calls Try.prog 51 #[.pointer (some ⟨b, o, none⟩), l, m] w fun e w' => e = .returned (.bool ((n : Int) == 0)) ∧ w' = w := by
  go_enter Try.func51, Try.ntmps51
  go_wp2
  go_ret
  exact ⟨rfl, rfl⟩

theorem cloned1 (p l m : Value) (w : World) : Calls Try.prog 52 #[p, l, m] w fun e w' => e = .returned (.bool true) ∧ w' = w := by
  go_enter Try.func52, Try.ntmps52
  go_wp2
  go_ret
  exact ⟨rfl, rfl⟩
theorem cloned2 (p : Value) (w : World) : Calls Try.prog 53 #[p] w fun e w' => e = .returned (.bool true) ∧ w' = w := by
  go_enter Try.func53, Try.ntmps53
  go_wp2
  go_ret
  exact ⟨rfl, rfl⟩
theorem wiped1 (b o : Nat) (v l m : Value) (w : World) (h : w.cell? ⟨b, o, none⟩ = some v) (hf : w.frozen? ⟨b, o, none⟩ = false) :
    Calls Try.prog 56 #[.pointer (some ⟨b, o, none⟩), l, m] w fun e w' => e = .returned (.bool true) ∧ w' = w.setCell ⟨b, o, none⟩ (.int .i64 0) := by
  go_enter Try.func56, Try.ntmps56
  go_wp2
  go_ret
  exact ⟨rfl, rfl⟩
theorem wiped3 (b o : Nat) (v l m : Value) (w : World) (h : w.cell? ⟨b, o, none⟩ = some v) (hf : w.frozen? ⟨b, o, none⟩ = false) :
    Calls Try.prog 58 #[.pointer (some ⟨b, o, none⟩), l, m] w fun e w' => e = .returned (.bool true) ∧ w' = w.setCell ⟨b, o, none⟩ (.slice none 0 0) := by
  go_enter Try.func58, Try.ntmps58
  go_wp2
  go_ret
  exact ⟨rfl, rfl⟩
end Go.Proofs.Ytcbadmkgbaffpaa
