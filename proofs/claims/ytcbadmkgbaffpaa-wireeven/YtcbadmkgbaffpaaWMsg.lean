/- Messages as cells: their fields, each at its place; what is kept and what is set. -/
import Derived.Test.YtcbadmkgbaffpaaOddW
import Derived.Deep.MidRow
import Derived.Laws.EntriesVeiled
namespace Go.Proofs.Ytcbadmkgbaffpaa
open Go.RowKit
set_option linter.unusedVariables false

/-- a field of a message, as it lies in memory -/
abbrev Fld : Type := Sum Int (Sum (List Int) (Option Addr × Nat × List Int))
abbrev Fld.num (n : Int) : Fld := .inl n
abbrev Fld.arr (l : List Int) : Fld := .inr (.inl l)
abbrev Fld.lst (ao : Option Addr) (cap : Nat) (l : List Int) : Fld := .inr (.inr (ao, cap, l))
def Fld.cells : Fld → List Value
  | .inl n => [.int .i64 n]
  | .inr (.inl l) => U8 l
  | .inr (.inr (ao, cap, l)) => [.slice ao l.length cap]
/-- the form of the field number i: 0 a number, 1 an array, 2 a list -/
def form : Nat → Nat
  | 4 => 1 | 6 => 1 | 7 => 1 | 8 => 1 | 5 => 2 | 11 => 2 | _ => 0
def off : Nat → Nat
  | 0 => 1 | 1 => 2 | 2 => 3 | 3 => 4 | 4 => 5 | 5 => 37 | 6 => 38 | 7 => 70 | 8 => 102 | 9 => 134 | 10 => 135 | 11 => 136 | _ => 137
def Fld.form : Fld → Nat
  | .inl _ => 0 | .inr (.inl _) => 1 | .inr (.inr _) => 2
def Fld.fits (f : Fld) (i : Nat) : Prop := f.form = Go.Proofs.Ytcbadmkgbaffpaa.form i ∧ ∀ l, f = .arr l → l.length = 32
def Fits (F : Nat → Fld) : Prop := ∀ i, i < 12 → (F i).fits i
def wide (i : Nat) : Nat := if form i = 1 then 32 else 1
theorem fits_len {f : Fld} {i : Nat} (h : f.fits i) : f.cells.length = wide i := by
  obtain ⟨h1, h2⟩ := h
  unfold wide
  rw [← h1]
  rcases f with n | l | ⟨a, c, l⟩
  · rfl
  · show (U8 l).length = 32; rw [U8_length, h2 l rfl]
  · rfl
theorem fits_num {f : Fld} {i : Nat} (h : f.fits i) (hi : form i = 0) : ∃ n, f = .num n := by
  have := h.1.trans hi
  rcases f with n | l | ⟨a, c, l⟩
  · exact ⟨n, rfl⟩
  · cases this
  · cases this
theorem fits_arr {f : Fld} {i : Nat} (h : f.fits i) (hi : form i = 1) : ∃ l, f = .arr l ∧ l.length = 32 := by
  have := h.1.trans hi
  rcases f with n | l | ⟨a, c, l⟩
  · cases this
  · exact ⟨l, rfl, h.2 l rfl⟩
  · cases this
theorem fits_lst {f : Fld} {i : Nat} (h : f.fits i) (hi : form i = 2) : ∃ a c l, f = .lst a c l := by
  have := h.1.trans hi
  rcases f with n | l | ⟨a, c, l⟩
  · cases this
  · cases this
  · exact ⟨a, c, l, rfl⟩

/-- the cells of the fields a up to b -/
def seg (F : Nat → Fld) (a n : Nat) : List Value := (List.range' a n).flatMap fun j => (F j).cells
/-- a message's cells -/
def mc (K : Int) (F : Nat → Fld) : List Value := .int .i64 K :: seg F 0 12
def upd (F : Nat → Fld) (i : Nat) (f : Fld) : Nat → Fld := fun j => if j = i then f else F j
theorem upd_same (F : Nat → Fld) (i : Nat) (f : Fld) : upd F i f i = f := by simp [upd]
theorem upd_other (F : Nat → Fld) (i j : Nat) (f : Fld) (h : j ≠ i) : upd F i f j = F j := by simp [upd, h]
theorem upd_self (F : Nat → Fld) (i : Nat) : upd F i (F i) = F := by
  funext j
  unfold upd
  split
  · rename_i h; rw [h]
  · rfl
theorem fits_upd {F : Nat → Fld} (h : Fits F) {i : Nat} {f : Fld} (hf : f.fits i) : Fits (upd F i f) := fun j hj => by
  unfold upd
  split
  · rename_i e; subst e; exact hf
  · exact h j hj
theorem seg_upd (F : Nat → Fld) (i a n : Nat) (f : Fld) (h : i < a ∨ a + n ≤ i) : seg (upd F i f) a n = seg F a n := by
  unfold seg
  rw [List.flatMap_def, List.flatMap_def]
  congr 1
  refine List.map_congr_left fun j hj => ?_
  have := List.mem_range'_1.1 hj
  rw [upd_other F i j f (by omega)]
theorem seg_append (F : Nat → Fld) (a n m : Nat) : seg F a (n + m) = seg F a n ++ seg F (a + n) m := by
  unfold seg
  rw [← List.flatMap_append, List.range'_append_1]
theorem seg_one (F : Nat → Fld) (i : Nat) : seg F i 1 = (F i).cells := by simp [seg, List.range']
theorem seg_len : ∀ (n : Nat) (F : Nat → Fld) (a : Nat), Fits F → a + n ≤ 12 → (seg F a n).length = off (a + n) - off a ∧ off a ≤ off (a + n)
  | 0, F, a, _, _ => by simp [seg]
  | n + 1, F, a, h, hn => by
    obtain ⟨h1, h2⟩ := seg_len n F a h (by omega)
    rw [seg_append, List.length_append, seg_one, fits_len (h (a + n) (by omega)), h1, ← Nat.add_assoc]
    have key : ∀ k, k < 12 → off (k + 1) = off k + wide k := by decide
    have := key (a + n) (by omega)
    omega
theorem mc_split (K : Int) (F : Nat → Fld) (i : Nat) (hi : i < 12) : mc K F = (.int .i64 K :: seg F 0 i) ++ (F i).cells ++ seg F (i + 1) (11 - i) := by
  unfold mc
  have e : seg F 0 12 = seg F 0 i ++ (seg F i 1 ++ seg F (i + 1) (11 - i)) := by
    rw [← seg_append, show seg F i (1 + (11 - i)) = seg F (0 + i) (1 + (11 - i)) by rw [Nat.zero_add], ← seg_append]
    congr 1
    omega
  rw [e, seg_one]
  simp
theorem head_len (K : Int) {F : Nat → Fld} (h : Fits F) (i : Nat) (hi : i < 12) : (Value.int .i64 K :: seg F 0 i).length = off i := by
  have h1 := (seg_len i F 0 h (by omega)).1
  have key : ∀ k, k < 12 → 1 ≤ off k := by decide
  have h2 := key i hi
  rw [List.length_cons, h1, Nat.zero_add]
  show off i - 1 + 1 = off i
  omega
theorem mc_len (K : Int) {F : Nat → Fld} (h : Fits F) : (mc K F).length = 137 := by
  unfold mc
  rw [List.length_cons, (seg_len 12 F 0 h (by omega)).1]
  rfl
theorem mc_upd (K : Int) (F : Nat → Fld) (i : Nat) (hi : i < 12) (f : Fld) : mc K (upd F i f) = (.int .i64 K :: seg F 0 i) ++ f.cells ++ seg F (i + 1) (11 - i) := by
  rw [mc_split K (upd F i f) i hi, upd_same, seg_upd F i 0 i f (by omega), seg_upd F i (i + 1) (11 - i) f (by omega)]
theorem oneCell (f : Fld) : ∀ v ∈ f.cells, v.oneCell' = true := by
  rcases f with n | l | ⟨a, c, l⟩
  · intro v hv; rw [List.mem_singleton.1 hv]; rfl
  · exact one_u8 l
  · intro v hv; rw [List.mem_singleton.1 hv]; rfl

/-- a message lies in block b, and may be written -/
structure MsgAt (w : World) (b : Nat) (K : Int) (F : Nat → Fld) : Prop where
  fits : Fits F
  range : w.rangeAt b 0 (mc K F)
  there : w.there b 0 137
theorem range_part {w : World} {b o : Nat} {A X C : List Value} (h : w.rangeAt b o (A ++ X ++ C)) : w.rangeAt b (o + A.length) X := fun j v hv => by
  have hj := (List.getElem?_eq_some_iff.1 hv).1
  have := h (A.length + j) v (by rw [List.append_assoc, List.getElem?_append_right (by omega), show A.length + j - A.length = j by omega, List.getElem?_append_left hj]; exact hv)
  rw [Nat.add_assoc]
  exact this
theorem MsgAt.kind {w : World} {b : Nat} {K : Int} {F : Nat → Fld} (h : MsgAt w b K F) : w.cell? ⟨b, 0, none⟩ = some (.int .i64 K) := h.range 0 _ rfl
theorem MsgAt.lt {w : World} {b : Nat} {K : Int} {F : Nat → Fld} (h : MsgAt w b K F) : b < w.heap.size := block_lt_of_cell h.kind
theorem MsgAt.fld {w : World} {b : Nat} {K : Int} {F : Nat → Fld} (h : MsgAt w b K F) {i : Nat} (hi : i < 12) : w.rangeAt b (off i) (F i).cells := by
  have := h.range
  rw [mc_split K F i hi] at this
  have := range_part this
  rw [head_len K h.fits i hi, Nat.zero_add] at this
  exact this
theorem MsgAt.may {w : World} {b : Nat} {K : Int} {F : Nat → Fld} (h : MsgAt w b K F) {i : Nat} (hi : i < 12) : w.there b (off i) (wide i) := fun j hj => by
  have key : ∀ k, k < 12 → off k + wide k ≤ 137 := by decide
  have := h.there (off i + j) (by have := key i hi; omega)
  rw [Nat.zero_add] at this
  exact this
theorem MsgAt.kept {w w' : World} {b : Nat} {K : Int} {F : Nat → Fld} (h : MsgAt w b K F) (hb : w'.heap[b]? = w.heap[b]?) : MsgAt w' b K F :=
  ⟨h.fits, fun j v hv => (World.cell?_of_block hb).trans (h.range j v hv), fun j hj => by
    obtain ⟨h1, h2⟩ := h.there j hj
    exact ⟨by rw [World.cell?_of_block (a := ⟨b, 0 + j, none⟩) hb]; exact h1, by rw [World.frozen?_of_block (a := ⟨b, 0 + j, none⟩) hb]; exact h2⟩⟩
theorem MsgAt.below {w w' : World} {b : Nat} {K : Int} {F : Nat → Fld} (h : MsgAt w b K F) (hb : Below w.heap.size w w') : MsgAt w' b K F := h.kept (hb.block b h.lt)
theorem MsgAt.grown {w w' : World} {b : Nat} {K : Int} {F : Nat → Fld} {row : Option Nat} (h : MsgAt w b K F) (hg : w.grownBy w' row) (hne : some b ≠ row) : MsgAt w' b K F := h.kept (hg.block b h.lt hne)
theorem grown_setCells (b : Nat) : ∀ (vs : List Value) (o : Nat) (w : World), w.grownBy (w.setCells b o vs) (some b)
  | [], _, w => World.grownBy.refl _ _
  | v :: r, o, w => by
    have h1 : w.grownBy (w.setCell ⟨b, o, none⟩ v) (some b) := ⟨rfl, rfl, rfl, by simp, fun k hk hne => Below.heap_setCell w _ _ k (fun e => hne (by rw [e]))⟩
    exact grown_trans h1 (grown_setCells b r (o + 1) _)
theorem MsgAt.set {w : World} {b : Nat} {K : Int} {F : Nat → Fld} (h : MsgAt w b K F) {i : Nat} (hi : i < 12) {f : Fld} (hf : f.fits i) : MsgAt (w.setCells b (off i) f.cells) b K (upd F i f) := by
  have hl := fits_len hf
  have hm := h.may hi
  rw [← hl] at hm
  refine ⟨fits_upd h.fits hf, fun j v hv => ?_, World.there_setCells h.there _ _ _⟩
  rw [Nat.zero_add]
  rw [mc_upd K F i hi f] at hv
  have hhead := head_len K h.fits i hi
  have hr := h.range
  rw [mc_split K F i hi] at hr
  have hlF := fits_len (h.fits i hi)
  by_cases h1 : j < off i
  · rw [World.cell?_setCells_out b f.cells (off i) w ⟨b, j, none⟩ (fun _ _ => .inl h1)]
    have := hr j v (by rw [List.append_assoc, List.getElem?_append_left (by omega)] at hv ⊢; exact hv)
    rw [Nat.zero_add] at this
    exact this
  · by_cases h2 : j < off i + f.cells.length
    · have hin := World.cell?_setCells_in b f.cells (off i) w (fun k hk => (hm k hk).1) (j - off i) (by omega)
      rw [show off i + (j - off i) = j by omega] at hin
      rw [hin]
      rw [List.append_assoc, List.getElem?_append_right (by omega), hhead, List.getElem?_append_left (by omega)] at hv
      rw [← hv, List.getElem?_eq_getElem (by omega)]
    · rw [World.cell?_setCells_out b f.cells (off i) w ⟨b, j, none⟩ (fun _ _ => .inr (by show off i + f.cells.length ≤ j; omega))]
      have := hr j v (by
        rw [List.append_assoc, List.getElem?_append_right (by omega), hhead, List.getElem?_append_right (by omega)] at hv ⊢
        rw [hlF, ← hl]
        exact hv)
      rw [Nat.zero_add] at this
      exact this
/-- a message that was boxed -/
theorem MsgAt.new (w : World) (K : Int) {F : Nat → Fld} (h : Fits F) : MsgAt (w.alloc (.cells (mc K F).toArray 25)) w.heap.size K F := by
  have hl := mc_len K h
  refine ⟨h, fun j v hv => ?_, fun j hj => ?_⟩
  · rw [World.cell?_alloc_at _ _ _ _ rfl, Nat.zero_add]
    simpa using hv
  · refine ⟨?_, ?_⟩
    · rw [World.cell?_alloc_at _ _ _ _ rfl, Nat.zero_add, List.getElem?_toArray, List.getElem?_eq_getElem (by omega)]; rfl
    · exact World.frozen?_alloc_at _ _ _ _ rfl
theorem Try.info25 : (Try.prog.info? 25).map (·.size) = some 137 := by kernel_rfl
/-- a message is read whole -/
theorem MsgAt.load {w : World} {b : Nat} {K : Int} {F : Nat → Fld} (h : MsgAt w b K F) : (Instr.loadAt 25 (.pointer (some ⟨b, 0, none⟩))).run Try.prog w = .ok (.agg (mc K F).toArray) w :=
  run_loadAt_mid w b 0 25 (mc K F) _ h.range Try.underlying25 rfl (by rw [mc_len K h.fits]; exact Try.info25)
/-- an array is read whole -/
theorem MsgAt.arr {w : World} {b : Nat} {K : Int} {F : Nat → Fld} (h : MsgAt w b K F) {i : Nat} (hi : i < 12) {l : List Int} (hl : F i = .arr l) : (Instr.loadAt 22 (.pointer (some ⟨b, off i, none⟩))).run Try.prog w = .ok (.agg (U8 l).toArray) w := by
  have hr := h.fld hi
  have hf := (h.fits i hi).2 l hl
  rw [hl] at hr
  exact run_loadAt_mid w b (off i) 22 (U8 l) _ hr Try.underlying22 rfl (by rw [U8_length, hf]; kernel_rfl)
theorem MsgAt.num {w : World} {b : Nat} {K : Int} {F : Nat → Fld} (h : MsgAt w b K F) {i : Nat} (hi : i < 12) {n : Int} (hn : F i = .num n) : w.cell? ⟨b, off i, none⟩ = some (.int .i64 n) := by
  have := h.fld hi
  rw [hn] at this
  exact this 0 _ rfl
theorem MsgAt.lst {w : World} {b : Nat} {K : Int} {F : Nat → Fld} (h : MsgAt w b K F) {i : Nat} (hi : i < 12) {a : Option Addr} {c : Nat} {l : List Int} (hn : F i = .lst a c l) : w.cell? ⟨b, off i, none⟩ = some (.slice a l.length c) := by
  have := h.fld hi
  rw [hn] at this
  exact this 0 _ rfl
theorem MsgAt.free {w : World} {b : Nat} {K : Int} {F : Nat → Fld} (h : MsgAt w b K F) {i : Nat} (hi : i < 12) : w.frozen? ⟨b, off i, none⟩ = false := by
  have key : ∀ k, k < 12 → 0 < wide k := by decide
  have := (h.may hi 0 (key i hi)).2
  exact this
end Go.Proofs.Ytcbadmkgbaffpaa
