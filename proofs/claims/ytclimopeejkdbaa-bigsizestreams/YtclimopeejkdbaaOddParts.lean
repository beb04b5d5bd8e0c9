/- Rows of records whose values came in, and what a stream with one record more is, as plain lists. -/
import Derived.Test.YtclimopeejkdbaaDecEnd
import Derived.Test.YtclimopeejkdbaaSame
namespace Go.Proofs.Ytclimopeejkdbaa
open Go.RowKit
set_option linter.unusedVariables false

/-- a row of records of the call's own, opened -/
theorem row_open {w : World} {B : Nat} {v : Value} {q : List Rq} (h : w.ownsRow B 38 2 v q.length (rqCells q)) (hI : ∀ r ∈ q, IsB w r.2.1 r.2.2.1 r.2.2.2) (h0 : 0 < q.length) :
    ∃ g cap, v = .slice (some ⟨g, 0, none⟩) q.length cap ∧ Recs w g 0 q.length (fun k => (rqAt q k).1) (fun k => (rqAt q k).2.1) (fun k => (rqAt q k).2.2.1) (fun k => (rqAt q k).2.2.2) := by
  have hcells := fun (g : Nat) hg => h.cells (g := g) hg
  rcases h.2 with ⟨h1, h2⟩ | ⟨g, c, cur, h1, _, hg, _⟩
  · omega
  · subst h1
    have hc := hcells g rfl
    refine ⟨g, c, rfl, (Array.getElem?_eq_some_iff.1 hg).1, fun k hk => ?_, fun k hk => ?_, fun k hk => hI _ (rqAt_mem hk)⟩
    · have := hc _ _ (rqCells_at q k hk).1
      rw [addr_add] at this
      exact this
    · have := hc _ _ (rqCells_at q k hk).2
      rw [addr_add] at this
      rw [Nat.add_assoc]
      exact this

theorem ris_snoc : ∀ (A : List (Int × List Int)) (l : Int) (r : Int × List Int), Ris l A → l < r.1 → lastT A < r.1 → Ris l (A ++ [r])
  | [], l, r, _, h, _ => ⟨h, trivial⟩
  | [x], l, r, h, _, hl => ⟨h.1, by show x.1 < r.1; exact hl, trivial⟩
  | x :: y :: t, l, r, h, hlr, hl => by
    have hl' : lastT (y :: t) < r.1 := by
      unfold lastT at hl ⊢
      rw [List.getLast?_cons_cons] at hl
      exact hl
    have hx : x.1 < r.1 := by
      have key : ∀ (B : List (Int × List Int)) (l : Int), Ris l B → B ≠ [] → l < lastT B := by
        intro B
        induction B with
        | nil => intro l _ h; exact absurd rfl h
        | cons a B ih =>
          intro l hB _
          cases B with
          | nil => exact hB.1
          | cons b B =>
            have := ih a.1 hB.2 (by simp)
            unfold lastT at this ⊢
            rw [List.getLast?_cons_cons]
            exact Int.lt_trans hB.1 this
      exact Int.lt_trans (key (y :: t) x.1 h.2 (by simp)) hl'
    exact ⟨h.1, ris_snoc (y :: t) x.1 r h.2 hx hl'⟩

theorem ris_lt {A : List (Int × List Int)} {l : Int} (h : Ris l A) : ∀ (d i : Nat) x y, A[i]? = some x → A[i + d + 1]? = some y → x.1 < y.1 := by
  intro d
  induction d with
  | zero => intro i x y hx hy; exact ris_at A l h i x y hx hy
  | succ d ih =>
    intro i x y hx hy
    have hlt : i + d + 1 < A.length := by
      have := (List.getElem?_eq_some_iff.1 hy).1
      omega
    have hz : A[i + d + 1]? = some A[i + d + 1] := List.getElem?_eq_getElem hlt
    exact Int.lt_trans (ih i x _ hx hz) (ris_at A l h (i + d + 1) _ y hz hy)
theorem ris_one {A : List (Int × List Int)} {l : Int} (h : Ris l A) {i j : Nat} {x y : Int × List Int} (hx : A[i]? = some x) (hy : A[j]? = some y) (e : x.1 = y.1) : x = y := by
  by_cases hij : i = j
  · subst hij
    rw [hx] at hy
    exact Option.some.inj hy
  · by_cases hlt : i < j
    · have := ris_lt h (j - i - 1) i x y hx (by rw [show i + (j - i - 1) + 1 = j by omega]; exact hy)
      omega
    · have := ris_lt h (i - j - 1) j y x hy (by rw [show j + (i - j - 1) + 1 = i by omega]; exact hx)
      omega

/-- the type ahead of record k, -1 where there is none -/
def prevT (ty : Nat → Int) (k : Nat) : Int := if k = 0 then -1 else ty (k - 1)

/-- what is known of the records that were put together -/
structure Inv (w : World) (T : Int) (ty : Nat → Int) (val : List Int) (q : List Rq) (b : Bool) (k : Nat) : Prop where
  ris : Ris (-1) (plain q)
  last : lastT (plain q) = prevT ty k
  no : b = false → prevT ty k < T
  yes : b = true → ∃ r ∈ q, r.1 = T ∧ r.2.2.2 = val
  isB : ∀ r ∈ q, IsB w r.2.1 r.2.2.1 r.2.2.2
  low : ∀ r ∈ q, 0 ≤ r.1 ∧ r.1 ≤ 18446744073709551615 ∧ r.2.2.2.length ≤ 140737488351232 ∧ Bytes r.2.2.2
  known : ∀ r ∈ q, r.1 % 2 = 0 → ∃ j, j < k ∧ ty j = r.1
  len : q.length ≤ k + (if b = true then 1 else 0)

/-- one record of a type that is odd -/
theorem Inv.one {w : World} {T : Int} {ty : Nat → Int} {val : List Int} {q : List Rq} {k : Nat} (h : Inv w T ty val q false k) {va : Option Addr} {vc : Nat} (hI : IsB w va vc val) (hl : val.length ≤ 140737488351232) (hv : Bytes val) (h0 : 0 ≤ T) (h1 : T ≤ 18446744073709551615) (ho : T % 2 = 1) :
    Ris (-1) (plain (q ++ [(T, va, vc, val)])) ∧ lastT (plain (q ++ [(T, va, vc, val)])) = T ∧ (∃ r ∈ q ++ [(T, va, vc, val)], r.1 = T ∧ r.2.2.2 = val) ∧ (∀ r ∈ q ++ [(T, va, vc, val)], IsB w r.2.1 r.2.2.1 r.2.2.2) ∧
    (∀ r ∈ q ++ [(T, va, vc, val)], 0 ≤ r.1 ∧ r.1 ≤ 18446744073709551615 ∧ r.2.2.2.length ≤ 140737488351232 ∧ Bytes r.2.2.2) ∧ (∀ r ∈ q ++ [(T, va, vc, val)], r.1 % 2 = 0 → ∃ j, j < k ∧ ty j = r.1) ∧ (q ++ [(T, va, vc, val)]).length ≤ k + 1 := by
  have hlt : lastT (plain q) < T := by rw [h.last]; exact h.no rfl
  refine ⟨?_, ?_, ⟨_, List.mem_append_right _ (List.mem_singleton.2 rfl), rfl, rfl⟩, ?_, ?_, ?_, ?_⟩
  · rw [plain_append]; exact ris_snoc _ _ _ h.ris (by show (-1 : Int) < T; omega) hlt
  · rw [plain_append]; exact lastT_snoc _ _
  · intro r hr
    rcases List.mem_append.1 hr with hr | hr
    · exact h.isB r hr
    · rw [List.mem_singleton.1 hr]; exact hI
  · intro r hr
    rcases List.mem_append.1 hr with hr | hr
    · exact h.low r hr
    · rw [List.mem_singleton.1 hr]; exact ⟨h0, h1, hl, hv⟩
  · intro r hr he
    rcases List.mem_append.1 hr with hr | hr
    · exact h.known r hr he
    · rw [List.mem_singleton.1 hr] at he
      have he' : T % 2 = 0 := he
      omega
  · have := h.len
    simp at this ⊢
    omega

/-- a record of l behind -/
theorem Inv.next {w : World} {T : Int} {ty : Nat → Int} {val : List Int} {q : List Rq} {b' : Bool} {k : Nat} {a : Option Addr} {c : Nat} {V : List Int} (hris : Ris (-1) (plain q)) (hlast : lastT (plain q) < ty k) (hyes : b' = true → ∃ r ∈ q, r.1 = T ∧ r.2.2.2 = val) (hno : b' = false → ty k < T)
    (hisB : ∀ r ∈ q, IsB w r.2.1 r.2.2.1 r.2.2.2) (hlow : ∀ r ∈ q, 0 ≤ r.1 ∧ r.1 ≤ 18446744073709551615 ∧ r.2.2.2.length ≤ 140737488351232 ∧ Bytes r.2.2.2) (hknown : ∀ r ∈ q, r.1 % 2 = 0 → ∃ j, j < k ∧ ty j = r.1) (hlen : q.length ≤ k + (if b' = true then 1 else 0))
    (hI : IsB w a c V) (h0 : 0 ≤ ty k) (h1 : ty k ≤ 18446744073709551615) (h2 : V.length ≤ 140737488351232) (h3 : Bytes V) : Inv w T ty val (q ++ [(ty k, a, c, V)]) b' (k + 1) := by
  refine ⟨?_, ?_, ?_, ?_, ?_, ?_, ?_, ?_⟩
  · rw [plain_append]; exact ris_snoc _ _ _ hris (by show (-1 : Int) < ty k; omega) hlast
  · rw [plain_append]
    show lastT (plain q ++ [(ty k, V)]) = _
    rw [lastT_snoc]; simp [prevT]
  · intro hb; simp [prevT]; exact hno hb
  · intro hb
    obtain ⟨r, hr, h⟩ := hyes hb
    exact ⟨r, List.mem_append_left _ hr, h⟩
  · intro r hr
    rcases List.mem_append.1 hr with hr | hr
    · exact hisB r hr
    · rw [List.mem_singleton.1 hr]; exact hI
  · intro r hr
    rcases List.mem_append.1 hr with hr | hr
    · exact hlow r hr
    · rw [List.mem_singleton.1 hr]; exact ⟨h0, h1, h2, h3⟩
  · intro r hr he
    rcases List.mem_append.1 hr with hr | hr
    · obtain ⟨j, hj, e⟩ := hknown r hr he
      exact ⟨j, by omega, e⟩
    · rw [List.mem_singleton.1 hr]; exact ⟨k, by omega, rfl⟩
  · rw [List.length_append, List.length_singleton]; omega
end Go.Proofs.Ytclimopeejkdbaa
