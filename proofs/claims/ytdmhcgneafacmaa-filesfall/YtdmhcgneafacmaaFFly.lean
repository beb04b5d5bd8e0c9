/- A disk of the law's: every call on it, whatever is handed in; what it tells behind it. -/
import Derived.Test.YtdmhcgneafacmaaFLiv
import Derived.Test.YtdmhcgneafacmaaFFul
import Derived.Test.YtdmhcgneafacmaaFSrt
namespace Go.Proofs.Ytdmhcgneafacmaa
open Go.RowKit
set_option linter.unusedVariables false
set_option linter.unusedSimpArgs false
set_option maxRecDepth 100000

/-- behind at most k acts on a new disk -/
def Fly (w W : World) (f k : Nat) : Prop :=
  ∃ c nb sb uv N acts, Disk W c f 65536 nb sb uv N [] acts ∧ High w.heap.size c ∧ Below w.heap.size w W ∧ sum N ≤ 65536 ∧ acts.length ≤ k ∧ tot acts ≤ k * 65536
section
variable {w W : World} {f k : Nat}
theorem Fly.below (h : Fly w W f k) : Below w.heap.size w W := by
  obtain ⟨c, nb, sb, uv, N, acts, _, _, h1, _⟩ := h
  exact h1
theorem Fly.next {W' : World} (h : Fly w W f k) (b : Below W.heap.size W W') : Fly w W' f k := by
  obtain ⟨c, nb, sb, uv, N, acts, h1, h2, h3, h4⟩ := h
  exact ⟨c, nb, sb, uv, N, acts, h1.new (Kept.ofBelow b), h2, h3.trans (b.mono h3.size), h4⟩
theorem Fly.more (h : Fly w W f k) : Fly w W f (k + 1) := by
  obtain ⟨c, nb, sb, uv, N, acts, h1, h2, h3, h4, h5, h6⟩ := h
  have h7 : tot acts ≤ (k + 1) * 65536 := Nat.le_trans h6 (Nat.mul_le_mul_right _ (Nat.le_succ k))
  exact ⟨c, nb, sb, uv, N, acts, h1, h2, h3, h4, Nat.le_succ_of_le h5, h7⟩
theorem Fly.keep {W' : World} (h : Fly w W f k) (b : Kept Not W W') : Fly w W' f (k + 1) := (h.next b.newBelow).more
theorem fly_new (w : World) : Calls Try.prog 7 #[.int .i64 65536] w fun e w' => e = .returned (.tuple #[.pointer (some ⟨w.heap.size + 2, 0, none⟩), .int .i64 0]) ∧ Hid (Fly w w' (w.heap.size + 2) 0) :=
  (new_any 65536 (by decide) (by decide) w).mono fun e w' hp => ⟨hp.1, hide ⟨_, _, _, _, _, _, hp.2.out.1, hp.2.out.2.2, hp.2.out.2.1, by rw [show sum ([] : List Ent) = 0 from rfl]; omega, Nat.le_refl _, by rw [show tot ([] : List AM) = 0 from rfl]; omega⟩⟩
theorem After.fly {w' : World} {c : Nat → Nat} {nb sb : Nat} {N : List Ent} {acts : List AM} {A : AM} (hh : High w.heap.size c) (hb : Below w.heap.size w W) (hs : sum N + addLen A ≤ 65536) (hk : acts.length ≤ k) (ht : tot acts ≤ k * 65536) (h : After W w' c f 65536 nb sb N [] acts A) : Fly w w' f (k + 1) := by
  obtain ⟨c', uv', N', h1, h2, h3, h4⟩ := h
  exact ⟨c', nb, sb, uv', N', _, h1, hh.step h2 hb.size, hb.trans (h2.below hh hb.size), by omega, by simp; omega, by rw [tot_append, tot_one]; omega⟩
/-- Append, whatever is handed in -/
theorem fly_append (h : Fly w W f k) (hk : k ≤ 1000) (s : ByteArray) (hs : s.size ≤ 9223372036854775807) (ao : Option Addr) (cap : Nat) (zs : List Int) (n : Nat) (hz : zs.length = n) (hB : IsB W ao cap zs) (hcap : n ≤ cap) (hc2 : cap ≤ 9223372036854775807) :
    Calls Try.prog 11 #[.pointer (some ⟨f, 0, none⟩), .string s, .slice ao n cap] W fun e w' => ∃ E : Int, e = .returned (.int .i64 E) ∧ Hid (Fly w w' f (k + 1)) := by
  have h' := h
  obtain ⟨c, nb, sb, uv, N, acts, hd, hh, hb, hsum, hl, ht⟩ := h'
  have hN : N.length ≤ 1000 := by
    have := len_fold hd.sure hd.now acts hd.same
    simp at this
    omega
  cases ho : okN s
  · exact (append_no hd s hs ho ao n cap).mono fun e w' hp => ⟨1, hp.1, hide (h.keep hp.2.out)⟩
  · by_cases hroom : (zs.length : Int) ≤ 65536 - sum N
    · cases hlk : look N s with
      | some ys => exact (append_ok2 hd (by decide) (by decide) (by omega) s hs ho ao cap zs n hz hB hcap hc2 ys hlk hroom (by omega)).mono fun e w' hp => ⟨0, hp.1, hide (hp.2.out.fly hh hb (by unfold addLen; simp only; omega) hl ht)⟩
      | none =>
        by_cases h16 : N.length < 16
        · exact (append_ok1 hd (by decide) (by decide) (by omega) s hs ho ao cap zs n hz hB hcap hc2 hlk h16 hroom (by omega)).mono fun e w' hp => ⟨0, hp.1, hide (hp.2.out.fly hh hb (by unfold addLen; simp only; omega) hl ht)⟩
        · exact (append_full1 hd (by decide) (by decide) (by omega) s hs ho ao cap zs n hz hB hcap hc2 hlk (by omega) (by omega)).mono fun e w' hp => ⟨_, hp.1, hide (h.keep hp.2.out)⟩
    · cases hlk : look N s with
      | some ys => exact (append_full3 hd (by decide) (by decide) (by omega) s hs ho ao cap zs n hz hB hcap hc2 ys hlk hroom).mono fun e w' hp => ⟨_, hp.1, hide (h.keep hp.2.out)⟩
      | none =>
        by_cases h16 : N.length < 16
        · exact (append_full2 hd (by decide) (by decide) (by omega) s hs ho ao cap zs n hz hB hcap hc2 hlk h16 hroom).mono fun e w' hp => ⟨_, hp.1, hide (h.keep hp.2.out)⟩
        · exact (append_full1 hd (by decide) (by decide) (by omega) s hs ho ao cap zs n hz hB hcap hc2 hlk (by omega) (by omega)).mono fun e w' hp => ⟨_, hp.1, hide (h.keep hp.2.out)⟩
theorem fly_trunc (h : Fly w W f k) (hk : k ≤ 1000) (s : ByteArray) (hs : s.size ≤ 9223372036854775807) (n : Int) (hn : n ≤ 9223372036854775807) :
    Calls Try.prog 14 #[.pointer (some ⟨f, 0, none⟩), .string s, .int .i64 n] W fun e w' => ∃ E : Int, e = .returned (.int .i64 E) ∧ Hid (Fly w w' f (k + 1)) := by
  have h' := h
  obtain ⟨c, nb, sb, uv, N, acts, hd, hh, hb, hsum, hl, ht⟩ := h'
  by_cases hbad : (okN s && decide (0 ≤ n)) = false
  · exact (trunc_no s n 1 (by decide) (fun W' kk => refusalOf_no (hd.new kk) s hs _ hbad)).mono fun e w' hp => ⟨1, hp.1, hide (h.keep hp.2.out)⟩
  · simp at hbad
    obtain ⟨ho, h0⟩ := hbad
    cases hlk : look N s with
    | none => exact (trunc_no s n 4 (by decide) (fun W' kk => by
        have := refusalOf_yes (hd.new kk) s hs ho
        rw [hlk] at this
        rw [decide_eq_true h0]
        exact this)).mono fun e w' hp => ⟨4, hp.1, hide (h.keep hp.2.out)⟩
    | some ys =>
      obtain ⟨m, rfl⟩ : ∃ m : Nat, n = m := ⟨n.toNat, by omega⟩
      exact (trunc_yes hd s m (by omega) ho ys hlk (by omega) (by omega)).mono fun e w' hp => ⟨0, hp.1, hide (hp.2.out.fly hh hb (by simpa [addLen] using hsum) hl ht)⟩
theorem fly_rename (h : Fly w W f k) (hk : k ≤ 1000) (s t : ByteArray) (hs : s.size ≤ 9223372036854775807) (hts : t.size ≤ 9223372036854775807) :
    Calls Try.prog 15 #[.pointer (some ⟨f, 0, none⟩), .string s, .string t] W fun e w' => ∃ E : Int, e = .returned (.int .i64 E) ∧ Hid (Fly w w' f (k + 1)) := by
  have h' := h
  obtain ⟨c, nb, sb, uv, N, acts, hd, hh, hb, hsum, hl, ht⟩ := h'
  by_cases hbad : (okN s && okN t) = false
  · exact (rename_ref s t hts 1 (by decide) (fun W' kk => refusalOf_no (hd.new kk) s hs _ hbad)).mono fun e w' hp => ⟨1, hp.1, hide (h.keep hp.2.out)⟩
  · simp at hbad
    obtain ⟨ho, ho2⟩ := hbad
    cases hlk : look N s with
    | none => exact (rename_ref s t hts 4 (by decide) (fun W' kk => by
        have := refusalOf_yes (hd.new kk) s hs ho
        rw [hlk] at this
        rw [ho2]
        exact this)).mono fun e w' hp => ⟨4, hp.1, hide (h.keep hp.2.out)⟩
    | some ys => exact (rename_yes s t hd ho ho2 ys hlk (by omega) (by omega)).mono fun e w' hp => ⟨0, hp.1, hide (hp.2.out.fly hh hb (by simpa [addLen] using hsum) hl ht)⟩
theorem fly_remove (h : Fly w W f k) (hk : k ≤ 1000) (s : ByteArray) (hs : s.size ≤ 9223372036854775807) :
    Calls Try.prog 16 #[.pointer (some ⟨f, 0, none⟩), .string s] W fun e w' => ∃ E : Int, e = .returned (.int .i64 E) ∧ Hid (Fly w w' f (k + 1)) := by
  have h' := h
  obtain ⟨c, nb, sb, uv, N, acts, hd, hh, hb, hsum, hl, ht⟩ := h'
  cases ho : okN s
  · exact (remove_no hd s hs 1 (by decide) (fun W' kk => refusalOf_no (hd.new kk) s hs true (by rw [ho]; rfl))).mono fun e w' hp => ⟨1, hp.1, hide (h.keep hp.2.out)⟩
  · cases hlk : look N s with
    | none => exact (remove_no hd s hs 4 (by decide) (fun W' kk => by
        have := refusalOf_yes (hd.new kk) s hs ho
        rw [hlk] at this
        exact this)).mono fun e w' hp => ⟨4, hp.1, hide (h.keep hp.2.out)⟩
    | some ys => exact (remove_yes hd s ho ys hlk (by omega) (by omega)).mono fun e w' hp => ⟨0, hp.1, hide (hp.2.out.fly hh hb (by simpa [addLen] using hsum) hl ht)⟩
end
/-- ahead of the crash: m acts are unsure -/
def Calm (w W : World) (f m : Nat) (sync : Bool) : Prop :=
  ∃ c nb sb uv N S acts, Disk W c f 65536 nb sb uv N S acts ∧ High w.heap.size c ∧ Below w.heap.size w W ∧ sum N ≤ 65536 ∧ sum S + tot acts ≤ 100000000 ∧ N.length ≤ 1000 ∧ S.length + acts.length ≤ 2000 ∧ acts.length = m ∧ (sync = true → m = 0)
theorem Fly.calm {w W : World} {f k : Nat} (h : Fly w W f k) (hk : k ≤ 60) : ∃ m, m ≤ 60 ∧ Calm w W f m false := by
  obtain ⟨c, nb, sb, uv, N, acts, hd, hh, hb, hsum, hl, ht⟩ := h
  have hN := len_fold hd.sure hd.now acts hd.same
  simp at hN
  exact ⟨acts.length, by omega, c, nb, sb, uv, N, [], acts, hd, hh, hb, hsum, by simp [sum]; omega, by omega, by simp; omega, rfl, fun e => by cases e⟩
theorem fly_sync {w W : World} {f k : Nat} (h : Fly w W f k) (hk : k ≤ 60) : Calls Try.prog 12 #[.pointer (some ⟨f, 0, none⟩)] W fun e w' => e = .returned (.int .i64 0) ∧ Hid (Calm w w' f 0 true) := by
  obtain ⟨c, nb, sb, uv, N, acts, hd, hh, hb, hsum, hl, ht⟩ := h
  have hN := len_fold hd.sure hd.now acts hd.same
  simp at hN
  refine (sync_any hd (by simp [sum]; omega)).mono fun e w' hp => ⟨hp.1, hide ?_⟩
  obtain ⟨c', S', h1, h2, h3⟩ := hp.2.out
  have hS := len_fold h1.now h1.sure [] h1.same.symm
  simp at hS
  have e0 : sum ([] : List Ent) = 0 := rfl
  exact ⟨c', nb, sb, _, N, S', [], h1, hh.step h3 hb.size, hb.trans (h3.below hh hb.size), hsum, by rw [show tot ([] : List AM) = 0 from rfl]; omega, by omega, by simp; omega, rfl, fun _ => rfl⟩
end Go.Proofs.Ytdmhcgneafacmaa
