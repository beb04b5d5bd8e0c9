/- What a stream's records are, encoded again, as plain lists. -/
import Derived.Test.YtcbadmkgbaffpaaDecRow
import Derived.Test.YtcbadmkgbaffpaaDecOwn
import Derived.Test.YtcbadmkgbaffpaaBigEncode
namespace Go.Proofs.Ytcbadmkgbaffpaa
open Go.RowKit
set_option linter.unusedVariables false

theorem dec_err (K : Int → Bool) (f : Nat) : ∀ (R : List Int) (acc : List (Int × List Int)) x, dec K f R acc = x → x.1 ≠ 0 → x.2 = [] := by
  induction f with
  | zero => intro R acc x hx h; subst hx; rfl
  | succ f ih =>
    intro R acc x hx h
    unfold dec at hx
    repeat' split at hx
    all_goals first
      | exact ih _ _ _ hx h
      | (subst hx; first | rfl | exact absurd rfl h)
theorem decT_err (K : Int → Bool) (zs : List Int) (h : (decT K zs).1 ≠ 0) : (decT K zs).2 = [] := by
  unfold decT at h ⊢
  by_cases hs : 65536 < zs.length
  · rw [if_pos hs]
  · rw [if_neg hs] at h ⊢
    exact dec_err K _ _ _ _ rfl h
theorem decT_ok (K : Int → Bool) (zs : List Int) (hz : Bytes zs) (h : (decT K zs).1 = 0) :
    zs.length ≤ 65536 ∧ recsB (decT K zs).2 = zs ∧ (decT K zs).2.length ≤ 64 ∧ Ris (-1) (decT K zs).2 ∧ ∀ r ∈ (decT K zs).2, 0 ≤ r.1 ∧ r.1 ≤ 18446744073709551615 ∧ r.2.length ≤ 140737488351232 ∧ Bytes r.2 := by
  unfold decT at h ⊢
  by_cases hs : 65536 < zs.length
  · rw [if_pos hs] at h; exact absurd h (by decide)
  · rw [if_neg hs] at h ⊢
    obtain ⟨A', h1, h2, h3, h4, h5⟩ := dec_ok K (zs.length + 1) zs [] (dec K (zs.length + 1) zs []).2 hz (by omega) (Prod.ext h rfl)
    rw [List.nil_append] at h1
    rw [h1] at h3 ⊢
    refine ⟨by omega, h2, h3 (by simp), h4, fun r hr => ?_⟩
    obtain ⟨a, b, c, d⟩ := h5 r hr
    exact ⟨a, b, by omega, d⟩

theorem recsB_append (a b : List (Int × List Int)) : recsB (a ++ b) = recsB a ++ recsB b := by
  induction a with
  | nil => rfl
  | cons r t ih => show numB r.1 ++ (numB r.2.length ++ (r.2 ++ recsB (t ++ b))) = _; rw [ih]; simp [recsB]
theorem plain_at (q : List Rq) (k : Nat) (h : k < q.length) : (plain q)[k]? = some ((rqAt q k).1, (rqAt q k).2.2.2) := by
  unfold plain rqAt
  rw [List.getElem?_map, List.getD_eq_getElem?_getD, List.getElem?_eq_getElem h]
  rfl
theorem plain_same {q q' : List Rq} (h : plain q = plain q') : q.length = q'.length ∧ ∀ k, k < q.length → (rqAt q' k).1 = (rqAt q k).1 ∧ (rqAt q' k).2.2.2 = (rqAt q k).2.2.2 := by
  have hl : q.length = q'.length := by rw [← plain_length q, ← plain_length q', h]
  refine ⟨hl, fun k hk => ?_⟩
  have h1 := plain_at q k hk
  have h2 := plain_at q' k (by omega)
  rw [h, h2] at h1
  simp at h1
  exact h1
theorem encL_plain (q : List Rq) : ∀ n, n ≤ q.length → encL (fun k => (rqAt q k).1) (fun k => (rqAt q k).2.2.2) n = recsB ((plain q).take n) := by
  intro n
  induction n with
  | zero => intro _; rfl
  | succ n ih =>
    intro hn
    show encL (fun k => (rqAt q k).1) (fun k => (rqAt q k).2.2.2) n ++ recB (rqAt q n).1 (rqAt q n).2.2.2 = _
    rw [ih (by omega), List.take_add_one, plain_at q n (by omega), recsB_append]
    congr 1
    show _ = numB (rqAt q n).1 ++ (numB (rqAt q n).2.2.2.length ++ ((rqAt q n).2.2.2 ++ []))
    unfold recB
    simp
theorem encL_all (q : List Rq) : encL (fun k => (rqAt q k).1) (fun k => (rqAt q k).2.2.2) q.length = recsB (plain q) := by
  rw [encL_plain q _ (Nat.le_refl _), List.take_of_length_le (by rw [plain_length]; exact Nat.le_refl _)]
theorem ris_at : ∀ (A : List (Int × List Int)) (l : Int), Ris l A → ∀ k x y, A[k]? = some x → A[k + 1]? = some y → x.1 < y.1
  | [], l, _, k, x, y, hx, _ => by simp at hx
  | [r], l, _, k, x, y, _, hy => by simp at hy
  | r :: s :: t, l, h, 0, x, y, hx, hy => by
    simp at hx hy
    subst hx hy
    exact h.2.1
  | r :: s :: t, l, h, k + 1, x, y, hx, hy => ris_at (s :: t) r.1 h.2 k x y (by simpa using hx) (by simpa using hy)
theorem ris_plain (q : List Rq) (l : Int) (h : Ris l (plain q)) : risB (fun k => (rqAt q k).1) q.length = true :=
  decide_eq_true fun k hk => ris_at (plain q) l h k _ _ (plain_at q k (by omega)) (plain_at q (k + 1) (by omega))
end Go.Proofs.Ytcbadmkgbaffpaa
