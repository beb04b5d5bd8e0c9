/- What bytes are as a stream, as plain lists. -/
import Derived.Test.YtcbadmkgbaffpaaBigMath
import Derived.Test.YtcbadmkgbaffpaaRefRead
namespace Go.Proofs.Ytcbadmkgbaffpaa
open Go.RowKit
set_option linter.unusedVariables false

/-- the type of the last record, -1 where there is none -/
def lastT (acc : List (Int × List Int)) : Int := match acc.getLast? with | some r => r.1 | none => -1
theorem lastT_snoc (acc : List (Int × List Int)) (r : Int × List Int) : lastT (acc ++ [r]) = r.1 := by
  unfold lastT; rw [List.getLast?_concat]
theorem lastT_nil : lastT [] = -1 := rfl

/-- the error and the records of the bytes R behind the records acc; K tells the types that are known -/
def dec (K : Int → Bool) : Nat → List Int → List (Int × List Int) → Int × List (Int × List Int)
  | 0, _, _ => (0, [])
  | f + 1, R, acc =>
    if R.length = 0 then (0, acc)
    else if acc.length = 64 then (3, [])
    else if rdE R ≠ 0 then (10, [])
    else if rdX R ≤ lastT acc then (11, [])
    else if rdE (R.drop (rdN R).toNat) ≠ 0 then (10, [])
    else if ((R.drop (rdN R).toNat).length : Int) - rdN (R.drop (rdN R).toNat) < rdX (R.drop (rdN R).toNat) then (10, [])
    else if rdX R % 2 = 0 ∧ K (rdX R) = false then (12, [])
    else dec K f ((R.drop (rdN R).toNat).drop ((rdN (R.drop (rdN R).toNat)).toNat + (rdX (R.drop (rdN R).toNat)).toNat))
      (acc ++ [(rdX R, ((R.drop (rdN R).toNat).drop (rdN (R.drop (rdN R).toNat)).toNat).take (rdX (R.drop (rdN R).toNat)).toNat)])

theorem val_div (z : Nat → Int) (m : Nat) (h : ∀ j, j < m → 0 ≤ z j ∧ z j ≤ 255) : ∀ k, k ≤ m → val z m / 2 ^ (8 * (m - k)) = val z k := by
  induction m with
  | zero => intro k hk; rw [show k = 0 by omega]; simp
  | succ m ih =>
    intro k hk
    by_cases e : k = m + 1
    · subst e; simp
    · rw [show m + 1 - k = 1 + (m - k) by omega, show 8 * (1 + (m - k)) = 8 + 8 * (m - k) by omega, Int.pow_add, ← Int.ediv_ediv_of_nonneg (by decide)]
      rw [← ih (fun j hj => h j (by omega)) k (by omega)]
      congr 1
      obtain ⟨a, b⟩ := h m (by omega)
      show (val z m * 256 + z m) / 256 = val z m
      omega
theorem hiB_val (z : Nat → Int) (m : Nat) (h : ∀ j, j < m → 0 ≤ z j ∧ z j ≤ 255) (k : Nat) (hk : k < m) : hiB (val z m) m k = z k := by
  unfold hiB
  rw [show m - 1 - k = m - (k + 1) by omega, val_div z m h (k + 1) (by omega)]
  obtain ⟨a, b⟩ := h k hk
  show (val z k * 256 + z k) % 256 = z k
  omega
theorem form_more (zs : List Int) (m : Nat) (hl : m + 1 ≤ zs.length) (hz : ∀ k, k < zs.length → 0 ≤ zs.getD k 0 ∧ zs.getD k 0 ≤ 255) :
    zs.getD 0 0 :: hiL (val (fun k => zs.getD (1 + k) 0) m) m m ++ zs.drop (m + 1) = zs := by
  have hb : ∀ j, j < m → 0 ≤ zs.getD (1 + j) 0 ∧ zs.getD (1 + j) 0 ≤ 255 := fun j hj => hz (1 + j) (by omega)
  match zs, hl, hb with
  | a :: t, hl, hb =>
    simp only [List.length_cons] at hl
    have e : hiL (val (fun k => (a :: t).getD (1 + k) 0) m) m m = t.take m := by
      apply List.ext_getElem?
      intro i
      unfold hiL
      rw [List.getElem?_map, List.getElem?_take]
      by_cases hi : i < m
      · rw [if_pos hi, List.getElem?_range hi]
        show some (hiB _ m i) = _
        rw [hiB_val _ m hb i hi, List.getElem?_eq_getElem (by omega)]
        rw [List.getD_eq_getElem?_getD, Nat.add_comm 1 i, List.getElem?_cons_succ, List.getElem?_eq_getElem (by omega)]
        rfl
      · rw [if_neg hi, List.getElem?_eq_none (by simp; omega)]; rfl
    rw [e]
    show a :: (t.take m ++ t.drop m) = a :: t
    rw [List.take_append_drop]
theorem mark_num (c V : Int) (h : ¬ rdS c = 1) (hs : sizeN V = rdS c) : numB V = c :: hiL V (rdS c - 1) (rdS c - 1) := by
  unfold rdS at h hs ⊢
  unfold sizeN at hs
  unfold numB
  by_cases c1 : V < 253
  · rw [if_pos c1] at hs
    exact absurd (by omega) h
  · rw [if_neg c1] at hs ⊢
    by_cases e1 : c = 253
    · rw [if_pos e1] at hs ⊢
      by_cases c2 : V ≤ 65535
      · rw [if_pos c2, e1]
      · rw [if_neg c2] at hs; split at hs <;> omega
    · rw [if_neg e1] at h hs ⊢
      by_cases e2 : c = 254
      · rw [if_pos e2] at hs ⊢
        by_cases c2 : V ≤ 65535
        · rw [if_pos c2] at hs; omega
        · rw [if_neg c2] at hs ⊢
          by_cases c3 : V ≤ 4294967295
          · rw [if_pos c3, e2]
          · rw [if_neg c3] at hs; omega
      · rw [if_neg e2] at h hs ⊢
        by_cases e3 : c = 255
        · rw [if_pos e3] at hs ⊢
          by_cases c2 : V ≤ 65535
          · rw [if_pos c2] at hs; omega
          · rw [if_neg c2] at hs ⊢
            by_cases c3 : V ≤ 4294967295
            · rw [if_pos c3] at hs; omega
            · rw [if_neg c3, e3]
        · rw [if_neg e3] at h; exact absurd rfl h

theorem rd_cases (zs : List Int) (hz : ∀ k, k < zs.length → 0 ≤ zs.getD k 0 ∧ zs.getD k 0 ≤ 255) :
    (rdX zs = 0 ∧ rdN zs = 0 ∧ rdE zs = 10) ∨ (∃ n : Nat, 1 ≤ n ∧ n ≤ 9 ∧ n ≤ zs.length ∧ rdN zs = n ∧ rdE zs = 0 ∧ 0 ≤ rdX zs ∧ rdX zs ≤ 18446744073709551615 ∧ zs = numB (rdX zs) ++ zs.drop n ∧ (numB (rdX zs)).length = n) := by
  by_cases h : (0 < zs.length ∧ rdS (zs.getD 0 0) ≤ zs.length ∧ (rdS (zs.getD 0 0) = 1 ∨ sizeN (rdV zs) = rdS (zs.getD 0 0)))
  · right
    obtain ⟨h0, h1, h2⟩ := h
    obtain ⟨s1, s2⟩ := rdS_bd (zs.getD 0 0)
    obtain ⟨c0, c1⟩ := hz 0 h0
    by_cases e1 : rdS (zs.getD 0 0) = 1
    · obtain ⟨r1, r2, r3⟩ := rd_one h0 e1
      have hlt := rdS_one _ e1 c1
      refine ⟨1, by omega, by omega, by omega, r2, r3, by omega, by omega, ?_, ?_⟩
      · rw [r1, show numB (zs.getD 0 0) = [zs.getD 0 0] from if_pos hlt]
        match zs, h0 with
        | a :: t, _ => rfl
      · rw [r1, show numB (zs.getD 0 0) = [zs.getD 0 0] from if_pos hlt]; rfl
    · have h3 : sizeN (rdV zs) = rdS (zs.getD 0 0) := h2.resolve_left e1
      obtain ⟨r1, r2, r3⟩ := rd_more h0 h1 e1 h3
      have hnl : ((numB (rdV zs)).length : Int) = rdS (zs.getD 0 0) := by rw [numB_length]; exact h3
      have hv := val_le8 (fun k => zs.getD (1 + k) 0) (rdS (zs.getD 0 0) - 1) (by omega) (fun j hj => hz (1 + j) (by omega))
      have hf := form_more zs (rdS (zs.getD 0 0) - 1) (by omega) hz
      rw [show rdS (zs.getD 0 0) - 1 + 1 = rdS (zs.getD 0 0) by omega] at hf
      refine ⟨rdS (zs.getD 0 0), by omega, by omega, h1, r2, r3, ?_, ?_, ?_, ?_⟩
      · rw [r1]; exact hv.1
      · rw [r1]; exact hv.2
      · rw [r1, mark_num _ _ e1 h3]; exact hf.symm
      · rw [r1]; omega
  · exact .inl (rd_no h)

section leaves
variable {K : Int → Bool} {f : Nat} {R : List Int} {acc : List (Int × List Int)}
theorem dec_0 (h : R.length = 0) : dec K (f + 1) R acc = (0, acc) := by
  show (if _ then _ else _) = _
  rw [if_pos h]
theorem dec_64 (h : ¬ R.length = 0) (h1 : acc.length = 64) : dec K (f + 1) R acc = (3, []) := by
  show (if _ then _ else _) = _
  rw [if_neg h, if_pos h1]
theorem dec_10a (h : ¬ R.length = 0) (h1 : ¬ acc.length = 64) (h2 : rdE R = 10) : dec K (f + 1) R acc = (10, []) := by
  show (if _ then _ else _) = _
  rw [if_neg h, if_neg h1, if_pos (by rw [h2]; decide)]
theorem dec_11 (h : ¬ R.length = 0) (h1 : ¬ acc.length = 64) (h2 : rdE R = 0) (h3 : rdX R ≤ lastT acc) : dec K (f + 1) R acc = (11, []) := by
  show (if _ then _ else _) = _
  rw [if_neg h, if_neg h1, if_neg (by rw [h2]; decide), if_pos h3]
theorem dec_10b {n : Nat} (h : ¬ R.length = 0) (h1 : ¬ acc.length = 64) (h2 : rdE R = 0) (h3 : ¬ rdX R ≤ lastT acc) (hn : rdN R = n) (h4 : rdE (R.drop n) = 10) : dec K (f + 1) R acc = (10, []) := by
  show (if _ then _ else _) = _
  rw [if_neg h, if_neg h1, if_neg (by rw [h2]; decide), if_neg h3, hn, Int.toNat_natCast, if_pos (by rw [h4]; decide)]
theorem dec_10c {n m : Nat} (h : ¬ R.length = 0) (h1 : ¬ acc.length = 64) (h2 : rdE R = 0) (h3 : ¬ rdX R ≤ lastT acc) (hn : rdN R = n) (h4 : rdE (R.drop n) = 0) (hm : rdN (R.drop n) = m) (h5 : ((R.drop n).length : Int) - m < rdX (R.drop n)) : dec K (f + 1) R acc = (10, []) := by
  show (if _ then _ else _) = _
  rw [if_neg h, if_neg h1, if_neg (by rw [h2]; decide), if_neg h3, hn, Int.toNat_natCast, if_neg (by rw [h4]; decide), hm, if_pos h5]
theorem dec_12 {n m : Nat} (h : ¬ R.length = 0) (h1 : ¬ acc.length = 64) (h2 : rdE R = 0) (h3 : ¬ rdX R ≤ lastT acc) (hn : rdN R = n) (h4 : rdE (R.drop n) = 0) (hm : rdN (R.drop n) = m) (h5 : ¬ ((R.drop n).length : Int) - m < rdX (R.drop n)) (h6 : rdX R % 2 = 0 ∧ K (rdX R) = false) : dec K (f + 1) R acc = (12, []) := by
  show (if _ then _ else _) = _
  rw [if_neg h, if_neg h1, if_neg (by rw [h2]; decide), if_neg h3, hn, Int.toNat_natCast, if_neg (by rw [h4]; decide), hm, if_neg h5, if_pos h6]
theorem dec_go {n m k : Nat} (h : ¬ R.length = 0) (h1 : ¬ acc.length = 64) (h2 : rdE R = 0) (h3 : ¬ rdX R ≤ lastT acc) (hn : rdN R = n) (h4 : rdE (R.drop n) = 0) (hm : rdN (R.drop n) = m) (hk : rdX (R.drop n) = k) (h5 : m + k ≤ (R.drop n).length) (h6 : ¬ (rdX R % 2 = 0 ∧ K (rdX R) = false)) :
    dec K (f + 1) R acc = dec K f (R.drop (n + (m + k))) (acc ++ [(rdX R, (R.drop (n + m)).take k)]) := by
  show (if _ then _ else _) = _
  rw [if_neg h, if_neg h1, if_neg (by rw [h2]; decide), if_neg h3, hn, Int.toNat_natCast, if_neg (by rw [h4]; decide), hm, hk, if_neg (by omega), if_neg h6, Int.toNat_natCast, Int.toNat_natCast, List.drop_drop, List.drop_drop]
end leaves

/-- the bytes of records -/
def recsB : List (Int × List Int) → List Int
  | [] => []
  | r :: t => numB r.1 ++ (numB r.2.length ++ (r.2 ++ recsB t))
/-- each type is above the one ahead -/
def Ris : Int → List (Int × List Int) → Prop
  | _, [] => True
  | l, r :: t => l < r.1 ∧ Ris r.1 t
abbrev Bytes (R : List Int) : Prop := ∀ c ∈ R, 0 ≤ c ∧ c ≤ 255
theorem Bytes.drop {R : List Int} (h : Bytes R) (n : Nat) : Bytes (R.drop n) := fun c hc => h c (List.mem_of_mem_drop hc)
theorem Bytes.take {R : List Int} (h : Bytes R) (n : Nat) : Bytes (R.take n) := fun c hc => h c (List.mem_of_mem_take hc)

theorem dec_ok (K : Int → Bool) (f : Nat) : ∀ (R : List Int) (acc A : List (Int × List Int)), Bytes R → R.length < f → dec K f R acc = (0, A) →
    ∃ A', A = acc ++ A' ∧ recsB A' = R ∧ (acc.length ≤ 64 → A.length ≤ 64) ∧ Ris (lastT acc) A' ∧ ∀ r ∈ A', 0 ≤ r.1 ∧ r.1 ≤ 18446744073709551615 ∧ r.2.length ≤ R.length ∧ Bytes r.2 := by
  induction f with
  | zero => intro R acc A _ h; omega
  | succ f ih =>
    intro R acc A hB hf h
    by_cases h0 : R.length = 0
    · rw [dec_0 h0] at h
      cases h
      exact ⟨[], by simp, (List.eq_nil_of_length_eq_zero h0).symm, id, trivial, fun r hr => by cases hr⟩
    by_cases h1 : acc.length = 64
    · rw [dec_64 h0 h1] at h; cases h
    rcases rd_cases R (getD_all hB) with ⟨_, _, h2⟩ | ⟨n, n1, n9, nl, hn, h2, x0, x1, hR, hnl⟩
    · rw [dec_10a h0 h1 h2] at h; cases h
    by_cases h3 : rdX R ≤ lastT acc
    · rw [dec_11 h0 h1 h2 h3] at h; cases h
    rcases rd_cases (R.drop n) (getD_all (hB.drop n)) with ⟨_, _, h4⟩ | ⟨m, m1, m9, ml, hm, h4, y0, y1, hR1, hml⟩
    · rw [dec_10b h0 h1 h2 h3 hn h4] at h; cases h
    by_cases h5 : ((R.drop n).length : Int) - m < rdX (R.drop n)
    · rw [dec_10c h0 h1 h2 h3 hn h4 hm h5] at h; cases h
    by_cases h6 : rdX R % 2 = 0 ∧ K (rdX R) = false
    · rw [dec_12 h0 h1 h2 h3 hn h4 hm h5 h6] at h; cases h
    obtain ⟨k, hk⟩ := Int.eq_ofNat_of_zero_le y0
    have h5' : m + k ≤ (R.drop n).length := by omega
    rw [dec_go h0 h1 h2 h3 hn h4 hm hk h5' h6] at h
    have hdl : (R.drop n).length = R.length - n := List.length_drop
    obtain ⟨A', hA, hrec, hlen, hris, hall⟩ := ih _ _ _ (hB.drop _) (by rw [List.length_drop]; omega) h
    rw [lastT_snoc] at hris
    have hkl : ((R.drop (n + m)).take k).length = k := by rw [List.length_take, List.length_drop]; omega
    refine ⟨(rdX R, (R.drop (n + m)).take k) :: A', by rw [hA]; simp, ?_, fun _ => hlen (by simp; omega), ⟨by omega, hris⟩, ?_⟩
    · show numB (rdX R) ++ (numB ((R.drop (n + m)).take k).length ++ ((R.drop (n + m)).take k ++ recsB A')) = R
      rw [hrec, hkl, ← hk]
      have e1 : (R.drop (n + m)).take k ++ R.drop (n + (m + k)) = R.drop (n + m) := by
        rw [show n + (m + k) = n + m + k by omega, ← List.drop_drop (i := k) (j := n + m), List.take_append_drop]
      rw [e1, ← List.drop_drop (i := m) (j := n), ← hR1, ← hR]
    · intro r hr
      rcases List.mem_cons.1 hr with rfl | hr
      · exact ⟨x0, x1, by show ((R.drop (n + m)).take k).length ≤ _; omega, (hB.drop _).take _⟩
      · obtain ⟨a, b, c, d⟩ := hall r hr
        exact ⟨a, b, by rw [List.length_drop] at c; omega, d⟩

theorem dec_of (K : Int → Bool) : ∀ (A : List (Int × List Int)) (f : Nat) (acc : List (Int × List Int)), (recsB A).length < f → Ris (lastT acc) A → acc.length + A.length ≤ 64 →
    (∀ r ∈ A, 0 ≤ r.1 ∧ r.1 ≤ 18446744073709551615 ∧ r.2.length ≤ 140737488355328 ∧ (r.1 % 2 = 0 → K r.1 = true)) → dec K f (recsB A) acc = (0, acc ++ A) := by
  intro A
  induction A with
  | nil =>
    intro f acc hf _ _ _
    obtain ⟨f, rfl⟩ : ∃ g, f = g + 1 := ⟨f - 1, by omega⟩
    rw [dec_0 rfl, List.append_nil]
  | cons r A ih =>
    intro f acc hf hris hlen hall
    obtain ⟨f, rfl⟩ : ∃ g, f = g + 1 := ⟨f - 1, by omega⟩
    obtain ⟨a0, a1, a2, a3⟩ := hall r (List.mem_cons_self ..)
    obtain ⟨hr1, hr2⟩ := hris
    simp only [List.length_cons] at hlen
    have np := numB_pos r.1
    have e : recsB (r :: A) = numB r.1 ++ (numB r.2.length ++ (r.2 ++ recsB A)) := rfl
    obtain ⟨p1, p2, p3⟩ := rd_num r.1 (numB r.2.length ++ (r.2 ++ recsB A)) a0 a1
    obtain ⟨q1, q2, q3⟩ := rd_num (r.2.length : Int) (r.2 ++ recsB A) (by omega) (by omega)
    have d1 : (numB r.1 ++ (numB r.2.length ++ (r.2 ++ recsB A))).drop (numB r.1).length = numB r.2.length ++ (r.2 ++ recsB A) := List.drop_left
    have hdl : (numB r.2.length ++ (r.2 ++ recsB A)).length = (numB r.2.length).length + (r.2.length + (recsB A).length) := by simp
    rw [e] at hf ⊢
    have hfl : (numB r.1 ++ (numB r.2.length ++ (r.2 ++ recsB A))).length = (numB r.1).length + ((numB r.2.length).length + (r.2.length + (recsB A).length)) := by simp
    rw [dec_go (n := (numB r.1).length) (m := (numB r.2.length).length) (k := r.2.length) (by omega) (by omega) p3 (by rw [p1]; omega) p2 (by rw [d1]; exact q3) (by rw [d1]; exact q2) (by rw [d1]; exact q1) (by rw [d1]; omega)
      (by rw [p1]; intro ⟨h1, h2⟩; rw [a3 h1] at h2; cases h2)]
    have d2 : (numB r.1 ++ (numB r.2.length ++ (r.2 ++ recsB A))).drop ((numB r.1).length + (numB r.2.length).length) = r.2 ++ recsB A := by
      rw [← List.drop_drop (i := (numB r.2.length).length) (j := (numB r.1).length), d1, List.drop_left]
    have d3 : (numB r.1 ++ (numB r.2.length ++ (r.2 ++ recsB A))).drop ((numB r.1).length + ((numB r.2.length).length + r.2.length)) = recsB A := by
      rw [show (numB r.1).length + ((numB r.2.length).length + r.2.length) = (numB r.1).length + (numB r.2.length).length + r.2.length by omega, ← List.drop_drop (i := r.2.length) (j := (numB r.1).length + (numB r.2.length).length), d2, List.drop_left]
    rw [d2, d3, p1, List.take_left, ih f _ (by omega) (by rw [lastT_snoc]; exact hr2) (by simp; omega) (fun x hx => hall x (List.mem_cons_of_mem _ hx))]
    simp
end Go.Proofs.Ytcbadmkgbaffpaa
