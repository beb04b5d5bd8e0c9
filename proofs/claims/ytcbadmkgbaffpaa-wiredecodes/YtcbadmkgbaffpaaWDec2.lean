/- What bytes are as a message; what is found of a record; over this seat's translation. -/
import Derived.Test.YtcbadmkgbaffpaaWDec
import Derived.Test.YtcbadmkgbaffpaaWEnc2
namespace Go.Proofs.Ytcbadmkgbaffpaa
open Go.RowKit
set_option linter.unusedVariables false

/-- May, of plain fields -/
def withinP (i : Nat) : Pf → Bool
  | .inl n => decide (lo i ≤ n ∧ n ≤ hi i)
  | .inr (.inl _) => true
  | .inr (.inr l) => decide (lo i ≤ (l.length : Int) ∧ (l.length : Int) ≤ hi i)
def zeroP : Pf → Bool
  | .inl n => n == 0
  | .inr (.inl l) => decide (l = Z32)
  | .inr (.inr l) => (l.length : Int) == 0
def okP (K : Int) (P : Nat → Pf) (i : Nat) : Bool := if i ∈ fl K then withinP i (P i) else zeroP (P i)
def mayP (K : Int) (P : Nat → Pf) : Bool := decide (fl K ≠ []) && (List.range 12).all (okP K P)
theorem okB_plain (K : Int) (F : Nat → Fld) (i : Nat) : okB K F i = okP K (fun i => (F i).plain) i := by
  show (if i ∈ fl K then withinB i (F i) else zeroB (F i)) = if i ∈ fl K then withinP i (F i).plain else zeroP (F i).plain
  rcases F i with n | l | ⟨a, c, l⟩ <;> rfl
theorem mayB_plain (K : Int) (F : Nat → Fld) : mayB K F = mayP K (fun i => (F i).plain) := by
  unfold mayB mayP allB
  congr 2
  funext i
  exact okB_plain K F i
theorem mayP_congr {K : Int} {P Q : Nat → Pf} (h : ∀ i, i < 12 → P i = Q i) : mayP K P = mayP K Q := by
  unfold mayP
  congr 1
  rw [Bool.eq_iff_iff, List.all_eq_true, List.all_eq_true]
  have key : ∀ i, i ∈ List.range 12 → okP K P i = okP K Q i := fun i hi => by unfold okP; rw [h i (List.mem_range.1 hi)]
  exact ⟨fun hh i hi => by rw [← key i hi]; exact hh i hi, fun hh i hi => by rw [key i hi]; exact hh i hi⟩

def kn : Int → Bool := knows (fun _ => 0) 0
/-- the kind, the records, a record's bytes, a field of them -/
def kindOf (zs : List Int) : Int := zs.getD 0 0 * 256 + zs.getD 1 0
def recsOf (zs : List Int) : Int × List (Int × List Int) := decT kn (zs.drop 2)
def look (A : List (Int × List Int)) (i : Nat) : Option (List Int) := (A.find? fun r => r.1 == 2 * (i : Int) + 1).map (·.2)
def fldA (A : List (Int × List Int)) (i : Nat) : Option Pf := (look A i).bind (rdF i)
def decF (zs : List Int) (i : Nat) : Pf := if i ∈ fl (kindOf zs) then (fldA (recsOf zs).2 i).getD (ZF i).plain else (ZF i).plain
def decGood (zs : List Int) : Prop := 2 ≤ zs.length ∧ (recsOf zs).1 = 0 ∧ (∀ i ∈ fl (kindOf zs), (fldA (recsOf zs).2 i).isSome = true) ∧ mayP (kindOf zs) (decF zs) = true
/-- what is answered -/
def Says (zs : List Int) (K : Int) (G : Nat → Fld) (E : Int) : Prop :=
  (E = 10 ∧ K = 0 ∧ G = ZF ∧ ¬ decGood zs) ∨ (E = 0 ∧ decGood zs ∧ K = kindOf zs ∧ ∀ i, i < 12 → (G i).plain = decF zs i)

theorem look_mem {A : List (Int × List Int)} {i : Nat} {L : List Int} (h : look A i = some L) : (2 * (i : Int) + 1, L) ∈ A := by
  unfold look at h
  obtain ⟨r, hr, rfl⟩ := Option.map_eq_some_iff.1 h
  have h1 := List.find?_some hr
  have h2 := List.mem_of_find?_eq_some hr
  have h3 : r.1 = 2 * (i : Int) + 1 := by simpa using h1
  rw [← h3]
  exact h2
theorem look_none {A : List (Int × List Int)} {i : Nat} (h : ∀ r ∈ A, r.1 ≠ 2 * (i : Int) + 1) : look A i = none := by
  unfold look
  rw [List.find?_eq_none.2 (fun r hr => by simpa using h r hr)]
  rfl
theorem look_first : ∀ {A : List (Int × List Int)} {i k : Nat} {r : Int × List Int}, A[k]? = some r → r.1 = 2 * (i : Int) + 1 → (∀ j x, j < k → A[j]? = some x → x.1 ≠ 2 * (i : Int) + 1) → look A i = some r.2
  | [], i, k, r, h, _, _ => by simp at h
  | y :: t, i, 0, r, h, hr, _ => by
    have e : y = r := by simpa using h
    subst e
    unfold look
    rw [List.find?_cons_of_pos (by simpa using hr)]
    rfl
  | y :: t, i, k + 1, r, h, hr, hn => by
    have hy := hn 0 y (by omega) rfl
    have ih := look_first (A := t) (i := i) (k := k) (r := r) (by simpa using h) hr (fun j x hj hx => hn (j + 1) x (by omega) (by simpa using hx))
    unfold look at ih ⊢
    rw [List.find?_cons_of_neg (by simpa using hy)]
    exact ih

/-- Find of a field's record -/
theorem find_look {w : World} {B : Nat} {v : Value} {q : List Rq} (h : OwnRecs w B v q) (i : Nat) (hq : q.length ≤ 64) (hl : ∀ r ∈ plain q, r.2.length ≤ 140737488351232) :
    Calls Try.prog 33 #[v, .int .u64 (2 * (i : Int) + 1)] w fun e w' => ((look (plain q) i = none ∧ e = .returned (.tuple #[.slice none 0 0, .bool false])) ∨ ∃ L a c, look (plain q) i = some L ∧ e = .returned (.tuple #[.slice a L.length c, .bool true]) ∧ Hid (IsB w' a c L) ∧ Hid (∀ x, a = some x → L ≠ [] → w.heap.size ≤ x.block)) ∧ Hid (Below w.heap.size w w') := by
  by_cases h0 : q.length = 0
  · obtain ⟨a, c, rfl⟩ := h.shape
    have e0 := List.eq_nil_of_length_eq_zero h0
    subst e0
    exact (find_none a c _ w).mono fun e w' hh => ⟨.inl ⟨rfl, hh.1⟩, by rw [hh.2]; exact Below.refl _ _⟩
  · obtain ⟨g, c, rfl, R⟩ := h.open (by omega)
    by_cases hex : ∃ k, k < q.length ∧ (rqAt q k).1 = 2 * (i : Int) + 1
    · obtain ⟨k0, k1, k2, k3⟩ := first_of (ty := fun k => (rqAt q k).1) (t := 2 * (i : Int) + 1) (len := q.length) hex
      have hat := plain_at q k0 k1
      have hm := hl _ (List.mem_of_getElem? hat)
      have hlk := look_first (i := i) hat k2 (fun j x hj hx => by
        rw [plain_at q j (by omega)] at hx
        cases hx
        exact k3 j hj)
      refine (find_far g 0 q.length c k0 _ _ _ _ _ w R (by omega) k1 k2 k3 (by show (rqAt q k0).2.2.2.length ≤ _; simp only [] at hm; omega)).mono fun e w' hh => ?_
      obtain ⟨a, c', he, hI, hfar, hb⟩ := hh
      exact ⟨.inr ⟨_, a, c', hlk, he, hI, hfar⟩, hb⟩
    · have hno : ∀ k, k < q.length → (rqAt q k).1 ≠ 2 * (i : Int) + 1 := fun k hk e => hex ⟨k, hk, e⟩
      refine (find_no g 0 q.length c _ _ _ _ _ w R (by omega) hno).mono fun e w' hh => ⟨.inl ⟨look_none fun r hr => ?_, hh.1⟩, hh.2⟩
      obtain ⟨k, hk, e⟩ := List.getElem_of_mem hr
      rw [plain_length] at hk
      have := plain_at q k hk
      rw [List.getElem?_eq_getElem (by rw [plain_length]; exact hk), e] at this
      cases this
      exact hno k hk

/-- a message and a number that are handed back -/
theorem ret_msg2 {fn : Func} {p r : Tmp} (h : fn.results = #[.cell p 25, .tmp r]) (tmps : Array Value) (w : World) (g : Nat) (K : Int) {F : Nat → Fld} (hF : Fits F) (v : Value)
    (hp : tmps.getD p undef = .pointer (some ⟨g, 0, none⟩)) (hr : tmps.getD r undef = v) (hc : w.rangeAt g 0 (mc K F)) : (results fn tmps).run Try.prog w = .ok (.tuple #[.agg (mc K F).toArray, v]) w := by
  have hp' : tmps[p]?.getD undef = .pointer (some ⟨g, 0, none⟩) := by simpa using hp
  have hr' : tmps[r]?.getD undef = v := by simpa using hr
  have := run_loadVar_mid (P := Try.prog) w g 0 25 (mc K F) _ hc Try.underlying25 rfl (by rw [mc_len K hF]; exact Try.info25)
  simp [results, h, hp', hr', asAddr, this]
end Go.Proofs.Ytcbadmkgbaffpaa
