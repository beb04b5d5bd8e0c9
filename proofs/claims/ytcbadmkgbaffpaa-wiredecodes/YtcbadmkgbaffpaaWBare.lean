/- The contract of wire's Bare over this seat's translation. -/
import Derived.Test.YtcbadmkgbaffpaaWMay
namespace Go.Proofs.Ytcbadmkgbaffpaa
open Go.RowKit
set_option linter.unusedVariables false

/-- a field without its place -/
abbrev Pf : Type := Sum Int (Sum (List Int) (List Int))
abbrev Pf.num (n : Int) : Pf := .inl n
abbrev Pf.arr (l : List Int) : Pf := .inr (.inl l)
abbrev Pf.lst (l : List Int) : Pf := .inr (.inr l)
def Fld.plain : Fld → Pf
  | .inl n => .num n
  | .inr (.inl l) => .arr l
  | .inr (.inr (_, _, l)) => .lst l
/-- a field that is zero -/
def ZF (i : Nat) : Fld := if form i = 0 then .num 0 else if form i = 1 then .arr Z32 else .lst none 0 []
def bareP (K : Int) (F : Nat → Fld) (i : Nat) : Pf := if i ∈ fl K then (F i).plain else (ZF i).plain
theorem ZF_fits (i : Nat) : (ZF i).fits i := by
  unfold ZF Fld.fits
  rcases form_cases i with h | h | h <;> simp [h, Fld.form, Z32]
theorem zero_cells : (Try.prog.info? 25).map (fun i => (i.zero, i.size)) = some (some (.agg (mc 0 ZF).toArray), 137) := by kernel_rfl
theorem zero25 (w : World) : (zeroValue 25).run Try.prog w = .ok (.agg (mc 0 ZF).toArray) w := (zero_of_info zero_cells).1 w

/-- what lies behind a field is there -/
def GoodF (w : World) : Fld → Prop
  | .inl _ => True
  | .inr (.inl l) => Bytes l
  | .inr (.inr (a, c, l)) => IsB w a c l ∧ l.length ≤ 140737488351232 ∧ Bytes l
def Good (w : World) (F : Nat → Fld) : Prop := ∀ i, i < 12 → GoodF w (F i)
/-- no list lies in block b -/
def Apart (b : Nat) (f : Fld) : Prop := ∀ a c l, f = .lst a c l → ∀ x, a = some x → l ≠ [] → x.block ≠ b
theorem isB_lt {w : World} {x : Addr} {c : Nat} {l : List Int} (h : IsB w (some x) c l) (hl : l ≠ []) : x.block < w.heap.size := by
  rcases h with ⟨h1, _⟩ | ⟨y, h1, h2⟩
  · cases h1
  · cases h1
    have := h2 0 _ (U8_at l 0 (List.length_pos_iff.2 hl))
    have := World.block_lt_of_cell? w _ this
    rw [addr_block] at this
    exact this
theorem isB_kept {w w' : World} {a : Option Addr} {c : Nat} {l : List Int} (h : IsB w a c l) (hb : ∀ x, a = some x → l ≠ [] → w'.heap[x.block]? = w.heap[x.block]?) : IsB w' a c l := by
  rcases h with h | ⟨x, rfl, h2⟩
  · exact .inl h
  · refine .inr ⟨x, rfl, fun j u hu => ?_⟩
    have hl : l ≠ [] := by
      intro e; subst e; simp [U8] at hu
    have := h2 j u hu
    rw [← this]
    exact World.cell?_of_block (by rw [addr_block]; exact hb x rfl hl)
theorem GoodF.grown {w w' : World} {b : Nat} {f : Fld} (h : GoodF w f) (hg : w.grownBy w' (some b)) (ha : Apart b f) : GoodF w' f := by
  rcases f with n | l | ⟨a, c, l⟩
  · trivial
  · exact h
  · exact ⟨isB_kept h.1 (fun x hx hl => by subst hx; exact hg.block _ (isB_lt h.1 hl) (fun e => ha _ c l rfl x rfl hl (Option.some.inj e))), h.2⟩
theorem GoodF.below {w w' : World} {f : Fld} (h : GoodF w f) (hg : Below w.heap.size w w') : GoodF w' f := by
  rcases f with n | l | ⟨a, c, l⟩
  · trivial
  · exact h
  · exact ⟨h.1.below hg, h.2⟩
theorem Good.below {w w' : World} {F : Nat → Fld} (h : Good w F) (hg : Below w.heap.size w w') : Good w' F := fun i hi => (h i hi).below hg
theorem Good.apart {w : World} {F : Nat → Fld} (h : Good w F) {i : Nat} (hi : i < 12) {b : Nat} (hb : w.heap.size ≤ b) : Apart b (F i) := fun a c l e x hx hl he => by
  have := h i hi
  rw [e] at this
  subst hx
  have := isB_lt this.1 hl
  omega
theorem Good.small {w : World} {F : Nat → Fld} (h : Good w F) : Small F := fun i hi a c l e => by
  have := h i hi
  rw [e] at this
  have := this.2.1
  omega
theorem GoodF.zero (w : World) (i : Nat) : GoodF w (ZF i) := by
  unfold ZF
  rcases form_cases i with h | h | h
  · simp [h, GoodF]
  · simp only [h]
    show Bytes Z32
    intro c hc
    rw [List.eq_of_mem_replicate hc]
    omega
  · simp only [h]
    exact ⟨.inl ⟨rfl, rfl, rfl⟩, by simp, fun c hc => by cases hc⟩
theorem Apart.zero (b i : Nat) : Apart b (ZF i) := fun a c l e x hx hl => by
  unfold ZF at e
  split at e
  · cases e
  · split at e
    · cases e
    · cases e; cases hx

theorem setOne (w : World) (b o : Nat) (v : Value) : w.setCell ⟨b, o, none⟩ v = w.setCells b o [v] := rfl

/-- what each deed of Bare leaves -/
def BareI (b b2 : Nat) (K : Int) (F : Nat → Fld) (i : Nat) (W : World) : Prop :=
  ∃ G, MsgAt W b K G ∧ b2 < W.heap.size ∧ (∀ j, j < 12 → GoodF W (G j) ∧ Apart b (G j) ∧ Apart b2 (G j)) ∧ (∀ j, j < i → (G j).plain = bareP K F j) ∧ ∀ j, i ≤ j → G j = F j

theorem BareI.next {b b2 i : Nat} {K : Int} {F G : Nat → Fld} {W w' : World} {f : Fld} (hi : i < 12) (hM : MsgAt W b K G) (hb2 : b2 < W.heap.size) (hG : ∀ j, j < 12 → GoodF W (G j) ∧ Apart b (G j) ∧ Apart b2 (G j)) (hp : ∀ j, j < i → (G j).plain = bareP K F j) (hr : ∀ j, i ≤ j → G j = F j)
    (hf : f.fits i) (hfp : f.plain = bareP K F i) (hgf : GoodF W f) (haf : Apart b f) (haf2 : Apart b2 f) (hw : w' = W.setCells b (off i) f.cells) : BareI b b2 K F (i + 1) w' := by
  subst hw
  have hg := grown_setCells b f.cells (off i) W
  refine ⟨upd G i f, hM.set hi hf, Nat.lt_of_lt_of_le hb2 hg.size, fun j hj => ?_, fun j hj => ?_, fun j hj => ?_⟩
  · unfold upd
    split
    · exact ⟨hgf.grown hg haf, haf, haf2⟩
    · exact ⟨(hG j hj).1.grown hg (hG j hj).2.1, (hG j hj).2⟩
  · unfold upd
    split
    · rename_i e; rw [e]; exact hfp
    · exact hp j (by omega)
  · rw [upd_other G i j f (by omega)]
    exact hr j (by omega)
theorem BareI.same {b b2 i : Nat} {K : Int} {F G : Nat → Fld} {W : World} (hM : MsgAt W b K G) (hb2 : b2 < W.heap.size) (hG : ∀ j, j < 12 → GoodF W (G j) ∧ Apart b (G j) ∧ Apart b2 (G j)) (hp : ∀ j, j < i → (G j).plain = bareP K F j) (hr : ∀ j, i ≤ j → G j = F j)
    (hfp : (F i).plain = bareP K F i) : BareI b b2 K F (i + 1) W := by
  refine ⟨G, hM, hb2, hG, fun j hj => ?_, fun j hj => hr j (by omega)⟩
  by_cases e : j = i
  · rw [e, hr i (Nat.le_refl _)]; exact hfp
  · exact hp j (by omega)
theorem BareI.below {b b2 i : Nat} {K : Int} {F : Nat → Fld} {W w' : World} (h : BareI b b2 K F i W) (hb : Below W.heap.size W w') : BareI b b2 K F i w' := by
  obtain ⟨G, hM, hb2, hG, hp, hr⟩ := h
  exact ⟨G, hM.below hb, Nat.lt_of_lt_of_le hb2 hb.size, fun j hj => ⟨(hG j hj).1.below hb, (hG j hj).2⟩, hp, hr⟩

theorem deed_cloned {W : World} {b b2 i : Nat} {K : Int} {F : Nat → Fld} (hi : i < 12) (hm : i ∈ fl K) (h : BareI b b2 K F i W) :
    Calls Try.prog (deedK 52 53 54 i) (deedArgs b i ++ #[]) W fun e w' => e = .returned (.bool true) ∧ BareI b b2 K F (i + 1) w' ∧ W.grownBy w' (some b) := by
  obtain ⟨G, hM, hb2, hG, hp, hr⟩ := h
  have hfp : (F i).plain = bareP K F i := by unfold bareP; rw [if_pos hm]
  have hGi := hr i (Nat.le_refl _)
  rcases form_cases i with hf | hf | hf
  · rw [deedK_0 hf, deedArgs_n (by omega)]
    exact (cloned1 _ _ _ W).mono fun e w' hh => ⟨hh.1, by rw [hh.2]; exact BareI.same hM hb2 hG hp hr hfp, by rw [hh.2]; exact World.grownBy.refl _ _⟩
  · rw [deedK_1 hf, deedArgs_1 hf]
    exact (cloned2 _ W).mono fun e w' hh => ⟨hh.1, by rw [hh.2]; exact BareI.same hM hb2 hG hp hr hfp, by rw [hh.2]; exact World.grownBy.refl _ _⟩
  · obtain ⟨a, c, l, hl⟩ := fits_lst (hM.fits i hi) hf
    rw [deedK_2 hf, deedArgs_n (by omega)]
    have hgl := (hG i hi).1
    rw [hl] at hgl
    have hz := hgl.2.1
    refine (cloned3 b (off i) a c l _ _ W (hM.lst hi hl) (hM.free hi) hgl.1 (by omega)).mono fun e w' hh => ?_
    obtain ⟨a', c', W1, he, hw, hI, hfar, hB⟩ := hh
    have hlt := hM.lt
    refine ⟨he, BareI.next (f := .lst a' c' l) (W := W1) (G := G) hi (hM.below hB.out) (Nat.lt_of_lt_of_le hb2 hB.out.size) (fun j hj => ⟨(hG j hj).1.below hB.out, (hG j hj).2⟩) hp hr ?_ ?_ ⟨hI.out, hgl.2⟩ ?_ ?_ (by rw [hw]; rfl), ?_⟩
    · exact ⟨hf.symm, fun l' e => by cases e⟩
    · rw [← hfp, ← hGi, hl]; rfl
    · intro a2 c2 l2 e x hx hne
      cases e
      have := hfar x hx hne
      omega
    · intro a2 c2 l2 e x hx hne
      cases e
      have := hfar x hx hne
      omega
    · rw [hw, setOne]
      exact grown_trans ⟨hB.out.os, hB.out.tape, hB.out.output, hB.out.size, fun k hk _ => hB.out.block k hk⟩ (grown_setCells b _ _ _)
end Go.Proofs.Ytcbadmkgbaffpaa
