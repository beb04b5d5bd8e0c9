/- What wire's Encode puts together, record by record, over this seat's translation. -/
import Derived.Test.YtcbadmkgbaffpaaWBare2
import Derived.Test.YtcbadmkgbaffpaaWWr
namespace Go.Proofs.Ytcbadmkgbaffpaa
open Go.RowKit
set_option linter.unusedVariables false

/-- a field's bytes -/
def bytesF : Fld → List Int
  | .inl n => digs n.toNat
  | .inr (.inl l) => l
  | .inr (.inr (_, _, l)) => l
/-- the records of a message -/
def recs (K : Int) (F : Nat → Fld) : List (Int × List Int) := (fl K).map fun (i : Nat) => (2 * (i : Int) + 1, bytesF (F i))
/-- bytes that lie below B, or in a row of the call's own -/
def SrcI (w : World) (B : Nat) (a : Option Addr) (c : Nat) (L : List Int) : Prop :=
  IsB w a c L ∧ ((∀ x, a = some x → L ≠ [] → x.block < B) ∨ w.ownsRow B 5 1 (.slice a L.length c) L.length (U8 L))
theorem SrcI.below {w w' : World} {B : Nat} {a : Option Addr} {c : Nat} {L : List Int} (h : SrcI w B a c L) (hb : Below w.heap.size w w') : SrcI w' B a c L :=
  ⟨h.1.below hb, h.2.imp id (fun k => owns_below k hb)⟩
theorem SrcI.grown {w w' : World} {B e s n : Nat} {a : Option Addr} {c : Nat} {L : List Int} {v : Value} {xs : List Value} (h : SrcI w B a c L) (hv : w.ownsRow B e s v n xs) (he : e ≠ 5) (hg : w.grownBy w' v.ownBlock) : SrcI w' B a c L := by
  rcases h with ⟨h1, h2 | h2⟩
  · refine ⟨isB_kept h1 fun x hx hl => ?_, .inl h2⟩
    subst hx
    refine hg.block _ (isB_lt h1 hl) fun e => ?_
    have h3 := (hv.lt x.block e.symm).1
    have h4 := h2 x rfl hl
    omega
  · have h3 := h2.kept hg (tag_ne hv h2 he)
    obtain ⟨a', c', e', hI, _⟩ := own_isB h3
    cases e'
    exact ⟨hI, .inr h3⟩
/-- a store into a block that is neither -/
theorem SrcI.set {w : World} {B : Nat} {a : Option Addr} {c : Nat} {L : List Int} (h1 : IsB w a c L) {p : Addr} (hp : B ≤ p.block) (u : Value) (h2 : (∀ x, a = some x → L ≠ [] → x.block < B) ∨ (∃ N, B ≤ N ∧ p.block < N ∧ w.ownsRow N 5 1 (.slice a L.length c) L.length (U8 L))) : SrcI (w.setCell p u) B a c L := by
  rcases h2 with h2 | ⟨N, hN, hpN, h2⟩
  · refine ⟨isB_kept h1 fun x hx hl => ?_, .inl h2⟩
    have := h2 x hx hl
    exact Below.heap_setCell w p u _ (by omega)
  · have h3 := owns_mono (ownsRow_setCell_below h2 hpN u) hN
    obtain ⟨a', c', e', hI, _⟩ := own_isB h3
    cases e'
    exact ⟨hI, .inr h3⟩
/-- lists lie below B -/
def Low (B : Nat) (F : Nat → Fld) : Prop := ∀ i, i < 12 → ∀ a c l, F i = .lst a c l → ∀ x, a = some x → l ≠ [] → x.block < B
theorem Good.low {w : World} {F : Nat → Fld} (h : Good w F) {B : Nat} (hB : w.heap.size ≤ B) : Low B F := fun i hi a c l e x hx hl => by
  have := h i hi
  rw [e] at this
  subst hx
  have := isB_lt this.1 hl
  omega
theorem grown_setCell (w : World) (b o : Nat) (v : Value) : w.grownBy (w.setCell ⟨b, o, none⟩ v) (some b) := grown_setCells b [v] o w
theorem grown_below {w w' : World} {row : Option Nat} (h : Below w.heap.size w w') : w.grownBy w' row := ⟨h.os, h.tape, h.output, h.size, fun k hk _ => h.block k hk⟩

theorem deedArgs_1' {b i : Nat} {p : Value} (h : form i = 1) : deedArgs b i ++ #[p] = #[.pointer (some ⟨b, off i, none⟩), p] := by simp [deedArgs, h]
theorem deedArgs_n' {b i : Nat} {p : Value} (h : form i ≠ 1) : deedArgs b i ++ #[p] = #[.pointer (some ⟨b, off i, none⟩), .int .i64 (lo i), .int .i64 (hi i), p] := by simp [deedArgs, h]

/-- what the deed leaves: the record's value set -/
def WrittenI (W : World) (rb B : Nat) (L : List Int) (w' : World) : Prop :=
  ∃ a c, w'.cell? ⟨rb, 1, none⟩ = some (.slice a L.length c) ∧ w'.cell? ⟨rb, 0, none⟩ = W.cell? ⟨rb, 0, none⟩ ∧ SrcI w' B a c L ∧ W.grownBy w' (some rb)

theorem written_of {W W2 w' : World} {rb B : Nat} {L : List Int} {a : Option Addr} {c : Nat} {old : Value} (hr : W.cell? ⟨rb, 1, none⟩ = some old) (hB : B ≤ rb) (hb : Below W.heap.size W W2) (hw : w' = W2.setCell ⟨rb, 1, none⟩ (.slice a L.length c)) (hI : IsB W2 a c L)
    (h2 : (∀ x, a = some x → L ≠ [] → x.block < B) ∨ (∃ N, B ≤ N ∧ rb < N ∧ W2.ownsRow N 5 1 (.slice a L.length c) L.length (U8 L))) : WrittenI W rb B L w' := by
  subst hw
  have hlt : rb < W.heap.size := block_lt_of_cell hr
  have hr2 : W2.cell? ⟨rb, 1, none⟩ = some old := (hb.cell hlt).trans hr
  refine ⟨a, c, World.cell?_setCell_same _ _ _ hr2, ?_, SrcI.set hI hB _ h2, grown_trans (grown_below hb) (grown_setCell W2 rb 1 _)⟩
  rw [World.cell?_setCell_other _ _ _ _ (by simp)]
  exact hb.cell hlt

theorem isB_arr {w : World} {b : Nat} {K : Int} {F : Nat → Fld} (h : MsgAt w b K F) {i : Nat} (hi : i < 12) {l : List Int} (hl : F i = .arr l) (c : Nat) : IsB w (some ⟨b, off i, none⟩) c l := by
  have := h.fld hi
  rw [hl] at this
  exact .inr ⟨_, rfl, fun j u hu => by rw [addr_add]; exact this j u hu⟩

theorem deed_written {W : World} {b rb vb B i : Nat} {K : Int} {F : Nat → Fld} {old : Value} (hi : i < 12) (hM : MsgAt W b K F) (hG : Good W F) (hn : ∀ n, F i = .num n → 0 ≤ n ∧ n ≤ 9223372036854775807)
    (hv : W.cell? ⟨vb, 0, none⟩ = some (.pointer (some ⟨rb, 1, none⟩))) (hr : W.cell? ⟨rb, 1, none⟩ = some old) (hf : W.frozen? ⟨rb, 1, none⟩ = false) (hb : b < B) (hL : Low B F) (hB : B ≤ rb) :
    Calls Try.prog (deedK 40 42 43 i) (deedArgs b i ++ #[.pointer (some ⟨vb, 0, none⟩)]) W fun e w' => e = .returned (.bool true) ∧ WrittenI W rb B (bytesF (F i)) w' := by
  have hlt : rb < W.heap.size := block_lt_of_cell hr
  rcases form_cases i with hf' | hf' | hf'
  · obtain ⟨n, hn'⟩ := fits_num (hM.fits i hi) hf'
    obtain ⟨n0, n1⟩ := hn n hn'
    obtain ⟨m, rfl⟩ := Int.eq_ofNat_of_zero_le n0
    rw [deedK_0 hf', deedArgs_n' (by omega), hn']
    refine (written1 b (off i) rb 1 vb m old _ _ W (hM.num hi hn') hv hr hf (by omega)).mono fun e w' hh => ?_
    obtain ⟨he, W2, v, hw, hO, hB2⟩ := hh
    obtain ⟨a, c, rfl, hI, _⟩ := own_isB hO.out
    exact ⟨he, written_of hr hB hB2.out hw hI (.inr ⟨W.heap.size, by omega, by omega, hO.out⟩)⟩
  · obtain ⟨l, hl, h32⟩ := fits_arr (hM.fits i hi) hf'
    rw [deedK_1 hf', deedArgs_1' hf', hl]
    have hc := hM.fld hi
    rw [hl] at hc
    refine (written2 b (off i) rb 1 vb _ old W (hc 0 _ (U8_at l 0 (by omega))) hv hr hf).mono fun e w' hh => ?_
    obtain ⟨he, W2, hw, hB2⟩ := hh
    refine ⟨he, written_of (L := l) (a := some ⟨b, off i, none⟩) (c := 32) hr hB hB2.out (by rw [hw, h32]) (isB_arr (hM.below hB2.out) hi hl 32) (.inl fun x hx _ => ?_)⟩
    cases hx
    exact hb
  · obtain ⟨a, c, l, hl⟩ := fits_lst (hM.fits i hi) hf'
    rw [deedK_2 hf', deedArgs_n' (by omega), hl]
    have hgl := hG i hi
    rw [hl] at hgl
    refine (written3 b (off i) rb 1 vb l.length c a old _ _ W (hM.lst hi hl) hv hr hf).mono fun e w' hh => ?_
    obtain ⟨he, W2, hw, hB2⟩ := hh
    exact ⟨he, written_of (L := l) hr hB hB2.out hw (hgl.1.below hB2.out) (.inl (hL i hi a c l hl))⟩

theorem enc_step {W : World} {b rb vb B i : Nat} {K : Int} {F : Nat → Fld} {old : Value} (hi : i < 12) (hM : MsgAt W b K F) (hG : Good W F) (hn : ∀ n, F i = .num n → 0 ≤ n ∧ n ≤ 9223372036854775807)
    (hv : W.cell? ⟨vb, 0, none⟩ = some (.pointer (some ⟨rb, 1, none⟩))) (hr : W.cell? ⟨rb, 1, none⟩ = some old) (hf : W.frozen? ⟨rb, 1, none⟩ = false) (hb : b < B) (hL : Low B F) (hB : B ≤ rb) :
    Calls Try.prog 22 #[deedV 40 42 43 #[.pointer (some ⟨vb, 0, none⟩)], .pointer (some ⟨b, 0, none⟩), .int .u64 (2 * (i : Int) + 1)] W
      fun e w' => e = .returned (.bool true) ∧ Hid (WrittenI W rb B (bytesF (F i)) w') := by
  have l1 := block_lt_of_cell hv
  have l2 := block_lt_of_cell hr
  refine (to_any i hi _ _ _ b _ W (fun r w' => r = true ∧ WrittenI W rb B (bytesF (F i)) w') enters_written1 enters_written2 enters_written3 fun W' hW => ?_).mono fun e w' hh => ?_
  · refine (deed_written hi (hM.below hW) (hG.below hW) hn ((hW.cell l1).trans hv) ((hW.cell l2).trans hr) ((hW.frozen l2).trans hf) hb hL hB).mono fun e w' hh => ?_
    obtain ⟨he, a, c, h1, h2, h3, h4⟩ := hh
    exact ⟨_, he, rfl, a, c, h1, h2.trans (hW.cell l2), h3, grown_trans (grown_below hW) h4⟩
  · obtain ⟨r, he, rfl, h⟩ := hh
    exact ⟨he, h⟩
end Go.Proofs.Ytcbadmkgbaffpaa
