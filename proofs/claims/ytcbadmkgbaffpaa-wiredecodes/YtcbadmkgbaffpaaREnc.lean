/- The contract of the document's Encode over this seat's translation. -/
import Derived.Test.YtcbadmkgbaffpaaBigEncode
import Derived.Deep.DeepAppendWide
import Derived.Deep.AppendLies
import Derived.Deep.RegionHeld3
import Derived.Laws.AppendOwnNone
namespace Go.Proofs.Ytcbadmkgbaffpaa
open Go.RowKit
set_option linter.unusedVariables false

/-- an append of any slice of bytes to a row of the call's own, of what length may be -/
theorem wpList_append_ownw {w : World} {ops : Array Oper} {rest : List Oper} {o : Oper} {a : Act} {Q : Exit → Act → World → Prop} (hgd : o.guard = none) (s x : Operand)
    (ho : o.op = .call { callee := .builtin .append, args := #[s, x], argTypes := #[23, 23] }) (base : Nat)
    (v : Value) (n : Nat) (xs : List Int) (hs : a.eval s = v) (hown : w.ownsRow base 5 1 v n (U8 xs))
    (ao : Option Addr) (m c : Nat) (news : List Int) (hx : a.eval x = .slice ao m c) (hm : news.length = m) (hB : IsB w ao c news)
    (hbytes : n + m ≤ 140737488700000) (hbase : base ≤ w.heap.size)
    (h : ∀ v' w', w'.ownsRow base 5 1 v' (n + m) (U8 (xs ++ news)) → w.grownBy w' v.ownBlock → wpList Try.prog ops Q rest (a.put o.dst v') w') : wpList Try.prog ops Q (o :: rest) a w := by
  obtain ⟨i0, hi, hz0, hz1, hz2⟩ := info_parts Try.info5
  rw [U8_append] at h
  rcases hB with ⟨rfl, rfl, rfl⟩ | ⟨ad, rfl, hc⟩
  · simp at hm
    subst hm
    refine wpList_append_own_none hgd s x 23 ho base 5 i0 1 Try.underlying23 hi v n (U8 xs) hs hown hx ?_
    exact h v w (by simpa [U8] using hown) (World.grownBy.refl _ _)
  · exact wpList_append_own_wide w hgd s x 23 ho base 5 i0 (.int .u8 0) 1 1 Try.underlying23 hi hz0 hz1 hz2 rfl (by decide) v n (U8 xs) hs hown ad m c (U8 news) hx (by simp [U8, hm]) hc (one_u8 news) (by unfold maxLen; omega) (by omega) hbase
      fun v' w' h1 h2 _ => h v' w' h1 h2

set_option maxRecDepth 100000 in
set_option maxHeartbeats 1000000 in
theorem renc_order (b off len cap : Nat) (ty : Nat → Int) (ao : Nat → Option Addr) (cp : Nat → Nat) (L : Nat → List Int) (w : World) (hR : Recs w b off len ty ao cp L) (hl : len ≤ 4398046511104) (hris : risB ty len = false) :
    Calls Try.prog 25 #[.slice (some ⟨b, off, none⟩) len cap] w fun e w' => e = .returned (.tuple #[.slice none 0 0, .int .i64 11]) ∧ Below w.heap.size w w' := by
  have HR := hide hR
  have HZ := hide hris
  clear hR hris
  have h0 : 0 < len := by
    by_cases h : 0 < len
    · exact h
    · exact absurd HZ.out (by rw [show risB ty len = true from decide_eq_true fun k hk => by omega]; decide)
  go_enter Try.func25, Try.ntmps25
  go_wp2
  go_loopw [4] (fun i wr => ∃ k : Nat, k + 1 ≤ len ∧ i = .int .i64 ((k : Int) + 1) ∧ Hid (∀ j, j < k → ty j < ty (j + 1)) ∧ Hid (Below w.heap.size w wr)) (fun i _ => len - (intOf i).toNat)
  case atStart => exact ⟨0, by omega, rfl, fun j hj => absurd hj (Nat.not_lt_zero _), Below.refl _ _⟩
  case round =>
    obtain ⟨k, hk, rfl, HN, HB⟩ := hrel
    have hlt : k + 1 < len := by
      by_cases h : k + 1 < len
      · exact h
      · exact absurd HZ.out (by rw [show risB ty len = true from decide_eq_true fun j hj => HN.out j (by omega)]; decide)
    have R := HR.out.below HB.out
    have q0 : wr.cell? ⟨b, off + k * 2, none⟩ = some (.int .u64 (ty k)) := R.type k (by omega)
    have q1 : wr.cell? ⟨b, off + (k + 1) * 2, none⟩ = some (.int .u64 (ty (k + 1))) := R.type (k + 1) hlt
    clear R
    have t1 : ((k : Int) + 1).toNat = k + 1 := by omega
    have p1 : (k : Int) + 1 < (len : Int) := by omega
    have p0 : (k : Int) < (len : Int) := by omega
    by_cases hc : ty (k + 1) ≤ ty k
    · generalize ty k = x at *
      generalize ty (k + 1) = y at *
      go_wp2
      go_quiet (fail)
      go_wp2
      go_ret2
      exact ⟨rfl, below_drewN HB.out _⟩
    · have HS := hide (show ∀ j, j < k + 1 → ty j < ty (j + 1) from fun j hj => by
        by_cases e : j < k
        · exact HN.out j e
        · have e : j = k := by omega
          subst e; omega)
      generalize ty k = x at q0 hc
      generalize ty (k + 1) = y at q1 hc
      go_wp2
      go_quiet (fail)
      go_wp2
      go_roundw
      case rel => exact ⟨k + 1, by omega, by go_num, HS, below_drewN HB.out _⟩
      case measure => simp [intOf]; omega
end Go.Proofs.Ytcbadmkgbaffpaa
