/- What wire's Decode does with one field, over this seat's translation. -/
import Derived.Test.YtcbadmkgbaffpaaWRd
namespace Go.Proofs.Ytcbadmkgbaffpaa
open Go.RowKit
set_option linter.unusedVariables false

theorem or_kind (x c : Int) (h1 : 0 ≤ x) (h2 : x ≤ 255) (h3 : 0 ≤ c) (h4 : c ≤ 255) : bits .or .i64 (x * 256) c = x * 256 + c := by
  obtain ⟨n, rfl⟩ := Int.eq_ofNat_of_zero_le h1
  obtain ⟨m, rfl⟩ := Int.eq_ofNat_of_zero_le h3
  have e : ((n : Int) * 256) = ((n * 256 : Nat) : Int) := by omega
  rw [e]
  have h1 : (BitVec.ofInt 64 ((n * 256 : Nat) : Int)).toNat = n * 256 := by
    rw [BitVec.ofInt_natCast, BitVec.toNat_ofNat]; exact Nat.mod_eq_of_lt (by omega)
  have h2 : (BitVec.ofInt 64 (m : Int)).toNat = m := by
    rw [BitVec.ofInt_natCast, BitVec.toNat_ofNat]; exact Nat.mod_eq_of_lt (by omega)
  have e2 := Nat.two_pow_add_eq_or_of_lt (i := 8) (b := m) (by omega) n
  rw [show (2 : Nat) ^ 8 * n = n * 256 by omega] at e2
  show IntKind.i64.wrap ((BitVec.ofInt 64 ((n * 256 : Nat) : Int) ||| BitVec.ofInt 64 (m : Int)).toNat : Int) = _
  rw [BitVec.toNat_or, h1, h2, ← e2, IntKind.wrap_i64]
  omega

set_option maxHeartbeats 1000000 in
/-- Find where k0 is the first -/
theorem find_far (b off len cap k0 : Nat) (ty : Nat → Int) (ao : Nat → Option Addr) (cp : Nat → Nat) (L : Nat → List Int) (t : Int) (w : World) (hR : Recs w b off len ty ao cp L) (hl : len ≤ 9223372036854775807) (hk0 : k0 < len) (hyes : ty k0 = t) (hno : ∀ k, k < k0 → ty k ≠ t) (hlen : (L k0).length ≤ 140737488355328) :
    Calls Try.prog 33 #[.slice (some ⟨b, off, none⟩) len cap, .int .u64 t] w fun e w' => ∃ a c, e = .returned (.tuple #[.slice a (L k0).length c, .bool true]) ∧ Hid (IsB w' a c (L k0)) ∧ Hid (∀ x, a = some x → L k0 ≠ [] → w.heap.size ≤ x.block) ∧ Hid (Below w.heap.size w w') := by
  have HR := hide hR
  have HN := hide hno
  have HY := hide hyes
  clear hR hno hyes
  go_enter Try.func33, Try.ntmps33
  go_wp2
  go_loopw [10] (fun i wr => ∃ k : Nat, k ≤ k0 ∧ i = .int .i64 k ∧ Hid (Below w.heap.size w wr)) (fun i _ => len - (intOf i).toNat)
  case atStart => exact ⟨0, Nat.zero_le _, rfl, Below.refl _ _⟩
  case round =>
    obtain ⟨k, hk, rfl, HB⟩ := hrel
    have hltl : k < len := by omega
    have R := HR.out.below HB.out
    have q0 := R.type k hltl
    have q1 := R.value k hltl
    have HI := hide (R.bytes k hltl)
    have HB2 := hide (fun o => HB.out.alloc HB.out.size o)
    have hz := HB.out.size
    clear R
    by_cases hlt : k < k0
    · have g : (ty k == t) = false := beq_eq_false_iff_ne.2 (HN.out k hlt)
      generalize ty k = x at *
      generalize (L k).length = n at *
      go_wp2
      go_roundw
      case rel => exact ⟨k + 1, by omega, by go_num, HB2.out _⟩
      case measure => simp [intOf]; omega
    · have ek : k = k0 := by omega
      subst ek
      have g : (ty k == t) = true := by rw [HY.out]; exact beq_self_eq_true _
      have HC := hide (fun w (h : IsB w (ao k) (cp k) (L k)) => clone_far (ao k) (cp k) (L k) w h hlen)
      generalize ty k = x at *
      go_wp2_with fail
      refine (HC.out _ (HI.out.below ((Below.refl _ _).alloc (Nat.le_refl _) _))).mono ?_
      rintro e w1 ⟨a, c, rfl, hI, hfar, hb⟩
      have HB3 := hide ((HB2.out _).trans (hb.out.mono (by simp; omega)))
      have HFAR := hide (show ∀ x, a = some x → L k ≠ [] → w.heap.size ≤ x.block from fun x hx hl => by have := hfar.out x hx hl; simp at this; omega)
      clear hb hfar
      go_wp2
      go_ret2
      exact ⟨a, c, rfl, hI, HFAR, HB3⟩


/-- what bytes are as the field number i -/
def rdF (i : Nat) (L : List Int) : Option Pf :=
  if form i = 0 then (rdNum L).map .num else if form i = 1 then (if L.length = 32 then some (.arr L) else none) else some (.lst L)
/-- what the deed leaves -/
def ReadI (b : Nat) (K : Int) (G : Nat → Fld) (i : Nat) (a : Option Addr) (L : List Int) (W w' : World) : Prop :=
  W.grownBy w' (some b) ∧ ((rdF i L).isSome = true → ∃ f, f.fits i ∧ rdF i L = some f.plain ∧ MsgAt w' b K (upd G i f) ∧ GoodF w' f ∧ Apart b f ∧ ∀ a2 c2 l2, f = .lst a2 c2 l2 → a2 = a ∧ l2 = L)

theorem read_of {b i : Nat} {K : Int} {G : Nat → Fld} {a : Option Addr} {L : List Int} {W W2 w' : World} {f : Fld} (hi : i < 12) (hM : MsgAt W b K G) (hB : Below W.heap.size W W2) (hf : f.fits i) (hp : (rdF i L).isSome = true → rdF i L = some f.plain) (hg : GoodF W2 f) (ha : Apart b f) (hl : ∀ a2 c2 l2, f = .lst a2 c2 l2 → a2 = a ∧ l2 = L) (hw : w' = W2.setCells b (off i) f.cells) : ReadI b K G i a L W w' := by
  subst hw
  have h2 := grown_setCells b f.cells (off i) W2
  exact ⟨grown_trans ⟨hB.os, hB.tape, hB.output, hB.size, fun k hk _ => hB.block k hk⟩ h2, fun h => ⟨f, hf, hp h, (hM.below hB).set hi hf, hg.grown h2 ha, ha, hl⟩⟩

theorem deed_read {W : World} {b vb c i : Nat} {a : Option Addr} {L : List Int} {K : Int} {G : Nat → Fld} (hi : i < 12) (hM : MsgAt W b K G) (hv : W.cell? ⟨vb, 0, none⟩ = some (.slice a L.length c)) (hne : vb ≠ b) (hI : IsB W a c L) (hL : Bytes L) (hn : L.length ≤ 140737488351232) (hfar : ∀ x, a = some x → L ≠ [] → x.block ≠ b) :
    Calls Try.prog (deedK 62 64 65 i) (deedArgs b i ++ #[.pointer (some ⟨vb, 0, none⟩)]) W fun e w' => e = .returned (.bool (rdF i L).isSome) ∧ ReadI b K G i a L W w' := by
  have hmay := hM.may hi
  have hfree := hM.free hi
  obtain ⟨v, hc⟩ : ∃ v, W.cell? ⟨b, off i, none⟩ = some v := Option.isSome_iff_exists.1 ((hmay 0 (by unfold wide; split <;> omega)).1)
  have hn' : ∀ {p : Value}, deedArgs b i ++ #[p] = if form i = 1 then #[.pointer (some ⟨b, off i, none⟩), p] else #[.pointer (some ⟨b, off i, none⟩), .int .i64 (lo i), .int .i64 (Go.Proofs.Ytcbadmkgbaffpaa.hi i), p] := by
    intro p
    by_cases h : form i = 1 <;> simp [deedArgs, h]
  rcases form_cases i with hf | hf | hf
  · rw [deedK_0 hf, hn', if_neg (by omega)]
    have e1 : rdF i L = (rdNum L).map .num := by unfold rdF; rw [if_pos hf]
    refine (read1 b (off i) vb c a L v _ _ W hc hfree hv hI hL (by omega)).mono fun e w' hh => ?_
    refine ⟨by rw [hh.1, e1, Option.isSome_map], read_of (f := .num (numOf (rdNum L))) hi hM (Below.refl _ _) ⟨hf.symm, fun l e => by cases e⟩ (fun h => ?_) trivial (fun a c l e => by cases e) (fun a2 c2 l2 e => by cases e) (by rw [hh.2]; rfl)⟩
    rw [e1] at h ⊢
    cases hr : rdNum L with
    | none => rw [hr] at h; cases h
    | some n => rfl
  · rw [deedK_1 hf, hn', if_pos hf]
    unfold wide at hmay
    rw [if_pos hf] at hmay
    have e1 : rdF i L = if L.length = 32 then some (.arr L) else none := by unfold rdF; rw [if_neg (by omega), if_pos hf]
    refine (read2 b (off i) vb c a L W hmay hv hne hI (by omega)).mono fun e w' hh => ?_
    obtain ⟨he, W2, hw, hB⟩ := hh
    by_cases h32 : L.length = 32
    · refine ⟨by rw [he, e1, if_pos h32, h32]; rfl, read_of (f := .arr L) hi hM hB.out ⟨hf.symm, fun l e => by cases e; exact h32⟩ (fun h => by rw [e1, if_pos h32]; rfl) hL (fun a c l e => by cases e) (fun a2 c2 l2 e => by cases e) ?_⟩
      rw [hw, List.take_of_length_le (by omega)]; rfl
    · have hb : ((L.length : Int) == 32) = false := beq_eq_false_iff_ne.2 (by omega)
      refine ⟨by rw [he, e1, if_neg h32, hb]; rfl, ?_, fun h => ?_⟩
      · rw [hw]
        exact grown_trans ⟨hB.out.os, hB.out.tape, hB.out.output, hB.out.size, fun k hk _ => hB.out.block k hk⟩ (grown_setCells b _ _ _)
      · rw [e1, if_neg h32] at h; cases h
  · rw [deedK_2 hf, hn', if_neg (by omega)]
    have e1 : rdF i L = some (.lst L) := by unfold rdF; rw [if_neg (by omega), if_neg (by omega)]
    refine (read3 b (off i) vb L.length c a v _ _ W hc hfree hv).mono fun e w' hh => ?_
    exact ⟨by rw [hh.1, e1]; rfl, read_of (f := .lst a c L) hi hM (Below.refl _ _) ⟨hf.symm, fun l e => by cases e⟩ (fun h => by rw [e1]; rfl) ⟨hI, hn, hL⟩ (fun a2 c2 l2 e x hx hl => by cases e; exact hfar x hx hl) (fun a2 c2 l2 e => by cases e; exact ⟨rfl, rfl⟩) (by rw [hh.2]; rfl)⟩

theorem dec_step {W : World} {b vb c i : Nat} {a : Option Addr} {L : List Int} {K : Int} {G : Nat → Fld} (hi : i < 12) (hM : MsgAt W b K G) (hv : W.cell? ⟨vb, 0, none⟩ = some (.slice a L.length c)) (hne : vb ≠ b) (hI : IsB W a c L) (hL : Bytes L) (hn : L.length ≤ 140737488351232) (hfar : ∀ x, a = some x → L ≠ [] → x.block ≠ b) :
    Calls Try.prog 22 #[deedV 62 64 65 #[.pointer (some ⟨vb, 0, none⟩)], .pointer (some ⟨b, 0, none⟩), .int .u64 (2 * (i : Int) + 1)] W
      fun e w' => e = .returned (.bool (rdF i L).isSome) ∧ Hid (ReadI b K G i a L W w') := by
  have l1 := block_lt_of_cell hv
  refine (to_any i hi _ _ _ b _ W (fun r w' => r = (rdF i L).isSome ∧ ReadI b K G i a L W w') enters_read1 enters_read2 enters_read3 fun W' hW => ?_).mono fun e w' hh => ?_
  · refine (deed_read hi (hM.below hW) ((hW.cell l1).trans hv) hne (hI.below hW) hL hn hfar).mono fun e w' hh => ?_
    obtain ⟨he, h1, h2⟩ := hh
    exact ⟨_, he, rfl, grown_trans ⟨hW.os, hW.tape, hW.output, hW.size, fun k hk _ => hW.block k hk⟩ h1, h2⟩
  · obtain ⟨r, he, rfl, h⟩ := hh
    exact ⟨he, h⟩
end Go.Proofs.Ytcbadmkgbaffpaa
