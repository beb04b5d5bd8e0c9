/- A disk of one file that the caller made: more contracts over this seat's translation. -/
import Derived.Test.YtdmhcgneafacmaaFLiv
import Derived.Test.YtdmhcgneafacmaaFRem
import Derived.Test.YtdmhcgneafacmaaFRen
import Derived.Test.YtdmhcgneafacmaaFRight
namespace Go.Proofs.Ytdmhcgneafacmaa
open Go.RowKit
set_option linter.unusedVariables false
set_option linter.unusedSimpArgs false
set_option maxRecDepth 100000

section
variable {w W : World} {f : Nat} {size : Int} {F GS : ByteArray → Option (List Int)} {acts : List AM} {M MS : Nat}
theorem Live.keep {W' : World} (h : Live w W f size F GS acts M MS) (k : Kept Not W W') : Live w W' f size F GS acts M MS := h.next k.newBelow
theorem ren_one (s : ByteArray) (zs : List Int) : doF (upd noF s (some zs)) ⟨3, s, s, [], 0⟩ = upd noF s (some zs) := by
  funext n
  show upd (upd (upd noF s (some zs)) s none) s (some ((upd noF s (some zs) s).getD [])) n = _
  unfold upd
  rw [beq_same]
  cases n == s <;> rfl
theorem del_one (s : ByteArray) (zs : List Int) : doF (upd noF s (some zs)) ⟨4, s, s, [], 0⟩ = noF := by
  funext n
  show upd (upd noF s (some zs)) s none n = _
  unfold upd
  cases n == s <;> rfl
theorem live_append_no (h : Live w W f size F GS acts M MS) (s : ByteArray) (hs : s.size ≤ 9223372036854775807) (ho : okN s = false) (ao : Option Addr) (n cap : Nat) :
    Calls Try.prog 11 #[.pointer (some ⟨f, 0, none⟩), .string s, .slice ao n cap] W fun e w' => e = .returned (.int .i64 1) ∧ Hid (Live w w' f size F GS acts M MS) := by
  have h' := h
  obtain ⟨c, nb, sb, uv, N, S, hd, _⟩ := h'
  exact (append_no hd s hs ho ao n cap).mono fun e w' hp => ⟨hp.1, hide (h.keep hp.2.out)⟩
theorem live_rename_no (h : Live w W f size F GS acts M MS) (s t : ByteArray) (hs : s.size ≤ 9223372036854775807) (ht : t.size ≤ 9223372036854775807) (ho : okN s = false) :
    Calls Try.prog 15 #[.pointer (some ⟨f, 0, none⟩), .string s, .string t] W fun e w' => e = .returned (.int .i64 1) ∧ Hid (Live w w' f size F GS acts M MS) := by
  have h' := h
  obtain ⟨c, nb, sb, uv, N, S, hd, _⟩ := h'
  exact (rename_no s t hs ht hd (by rw [ho]; rfl)).mono fun e w' hp => ⟨hp.1, hide (h.keep hp.2.out)⟩
theorem live_remove_no (h : Live w W f size F GS acts M MS) (s : ByteArray) (hs : s.size ≤ 9223372036854775807) (ho : okN s = false) :
    Calls Try.prog 16 #[.pointer (some ⟨f, 0, none⟩), .string s] W fun e w' => e = .returned (.int .i64 1) ∧ Hid (Live w w' f size F GS acts M MS) := by
  have h' := h
  obtain ⟨c, nb, sb, uv, N, S, hd, _⟩ := h'
  exact (remove_no hd s hs 1 (by decide) (fun W k => refusalOf_no (hd.new k) s hs true (by rw [ho]; rfl))).mono fun e w' hp => ⟨hp.1, hide (h.keep hp.2.out)⟩
theorem live_remove_none (h : Live w W f size noF GS acts M MS) (s : ByteArray) (hs : s.size ≤ 9223372036854775807) (ho : okN s = true) :
    Calls Try.prog 16 #[.pointer (some ⟨f, 0, none⟩), .string s] W fun e w' => e = .returned (.int .i64 4) ∧ Hid (Live w w' f size noF GS acts M MS) := by
  have h' := h
  obtain ⟨c, nb, sb, uv, N, S, hd, _, _, hN, _⟩ := h'
  exact (remove_no hd s hs 4 (by decide) (fun W k => by have := refusalOf_yes (hd.new k) s hs ho; rw [hN] at this; exact this)).mono fun e w' hp => ⟨hp.1, hide (h.keep hp.2.out)⟩
theorem live_remove_yes (s : ByteArray) (zs : List Int) (h : Live w W f size (upd noF s (some zs)) GS acts M MS) (ho : okN s = true) (hM : M ≤ 140737488355328) (ha : acts.length ≤ 1000000000) :
    Calls Try.prog 16 #[.pointer (some ⟨f, 0, none⟩), .string s] W fun e w' => e = .returned (.int .i64 0) ∧ Hid (Live w w' f size noF GS (acts ++ [⟨4, s, s, [], 0⟩]) M MS) := by
  obtain ⟨c, nb, sb, uv, N, S, hd, hh, hb, hN, hS, hM', hMS⟩ := h
  refine (remove_yes hd s ho zs (by rw [hN]; unfold upd; rw [beq_same]; rfl) (by omega) ha).mono fun e w' hp => ⟨hp.1, hide ?_⟩
  have := hp.2.out.live hd hh hb hN hS hM' hMS
  rw [del_one] at this
  exact this
theorem live_rename_yes (s : ByteArray) (zs : List Int) (h : Live w W f size (upd noF s (some zs)) GS acts M MS) (ho : okN s = true) (hM : M ≤ 140737488355328) (ha : acts.length ≤ 1000000000) :
    Calls Try.prog 15 #[.pointer (some ⟨f, 0, none⟩), .string s, .string s] W fun e w' => e = .returned (.int .i64 0) ∧ Hid (Live w w' f size (upd noF s (some zs)) GS (acts ++ [⟨3, s, s, [], 0⟩]) M MS) := by
  obtain ⟨c, nb, sb, uv, N, S, hd, hh, hb, hN, hS, hM', hMS⟩ := h
  refine (rename_yes s s hd ho ho zs (by rw [hN]; unfold upd; rw [beq_same]; rfl) (by omega) ha).mono fun e w' hp => ⟨hp.1, hide ?_⟩
  have := hp.2.out.live hd hh hb hN hS hM' hMS
  rw [ren_one] at this
  exact this
theorem live_left0 (h : Live w W f size noF GS acts M MS) (h0 : 0 ≤ size) (h1 : size ≤ 268435456) : Calls Try.prog 23 #[.pointer (some ⟨f, 0, none⟩)] W fun e w' => e = .returned (.int .i64 size) ∧ Hid (Below W.heap.size W w') := by
  obtain ⟨c, nb, sb, uv, N, S, hd, hh, hb, hN, hS, hM, hMS⟩ := h
  obtain rfl := nil_of hd.now hN
  have h2 := left_any hd h0 h1 (by simp [sum])
  simpa [sum, ptr] using h2
end
end Go.Proofs.Ytdmhcgneafacmaa
