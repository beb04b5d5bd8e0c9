/- Rows of records that were put together, their streams and what is found in them, over this seat's translation. -/
import Derived.Test.YtcbadmkgbaffpaaDecEnd
import Derived.Deep.RegionHeld3
namespace Go.Proofs.Ytcbadmkgbaffpaa
open Go.RowKit
set_option linter.unusedVariables false

/-- a row of records of the call's own, opened -/
theorem row_open {w : World} {B : Nat} {v : Value} {q : List Rq} (h : w.ownsRow B 39 2 v q.length (rqCells q)) (hI : ∀ r ∈ q, IsB w r.2.1 r.2.2.1 r.2.2.2) (h0 : 0 < q.length) :
    ∃ g cap, v = .slice (some ⟨g, 0, none⟩) q.length cap ∧ Recs w g 0 q.length (fun k => (rqAt q k).1) (fun k => (rqAt q k).2.1) (fun k => (rqAt q k).2.2.1) (fun k => (rqAt q k).2.2.2) := by
  have hcells := fun (g : Nat) hg => h.cells (g := g) hg
  rcases h.2 with ⟨h1, h2⟩ | ⟨g, c, cur, h1, _, hg, _⟩
  · omega
  · subst h1
    have hc := hcells g rfl
    refine ⟨g, c, rfl, (Array.getElem?_eq_some_iff.1 hg).1, fun k hk => ?_, fun k hk => ?_, fun k hk => hI _ (rqAt_mem hk)⟩
    · have := hc _ _ (rqCells_at q k hk).1
      rw [addr_add] at this
      exact this
    · have := hc _ _ (rqCells_at q k hk).2
      rw [addr_add] at this
      rw [Nat.add_assoc]
      exact this

theorem ris_snoc : ∀ (A : List (Int × List Int)) (l : Int) (r : Int × List Int), Ris l A → l < r.1 → lastT A < r.1 → Ris l (A ++ [r])
  | [], l, r, _, h, _ => ⟨h, trivial⟩
  | [x], l, r, h, _, hl => ⟨h.1, by show x.1 < r.1; exact hl, trivial⟩
  | x :: y :: t, l, r, h, hlr, hl => by
    have hl' : lastT (y :: t) < r.1 := by
      unfold lastT at hl ⊢
      rw [List.getLast?_cons_cons] at hl
      exact hl
    have hx : x.1 < r.1 := by
      have key : ∀ (B : List (Int × List Int)) (l : Int), Ris l B → B ≠ [] → l < lastT B := by
        intro B
        induction B with
        | nil => intro l _ h; exact absurd rfl h
        | cons a B ih =>
          intro l hB _
          cases B with
          | nil => exact hB.1
          | cons b B =>
            have := ih a.1 hB.2 (by simp)
            unfold lastT at this ⊢
            rw [List.getLast?_cons_cons]
            exact Int.lt_trans hB.1 this
      exact Int.lt_trans (key (y :: t) x.1 h.2 (by simp)) hl'
    exact ⟨h.1, ris_snoc (y :: t) x.1 r h.2 hx hl'⟩

theorem ris_lt {A : List (Int × List Int)} {l : Int} (h : Ris l A) : ∀ (d i : Nat) x y, A[i]? = some x → A[i + d + 1]? = some y → x.1 < y.1 := by
  intro d
  induction d with
  | zero => intro i x y hx hy; exact ris_at A l h i x y hx hy
  | succ d ih =>
    intro i x y hx hy
    have hlt : i + d + 1 < A.length := by
      have := (List.getElem?_eq_some_iff.1 hy).1
      omega
    have hz : A[i + d + 1]? = some A[i + d + 1] := List.getElem?_eq_getElem hlt
    exact Int.lt_trans (ih i x _ hx hz) (ris_at A l h (i + d + 1) _ y hz hy)
theorem ris_one {A : List (Int × List Int)} {l : Int} (h : Ris l A) {i j : Nat} {x y : Int × List Int} (hx : A[i]? = some x) (hy : A[j]? = some y) (e : x.1 = y.1) : x = y := by
  by_cases hij : i = j
  · subst hij
    rw [hx] at hy
    exact Option.some.inj hy
  · by_cases hlt : i < j
    · have := ris_lt h (j - i - 1) i x y hx (by rw [show i + (j - i - 1) + 1 = j by omega]; exact hy)
      omega
    · have := ris_lt h (i - j - 1) j y x hy (by rw [show j + (i - j - 1) + 1 = i by omega]; exact hx)
      omega

theorem recsB_bytes : ∀ (A : List (Int × List Int)), (∀ r ∈ A, 0 ≤ r.1 ∧ Bytes r.2) → Bytes (recsB A)
  | [], _ => fun c hc => by cases hc
  | r :: t, h => by
    intro c hc
    have h1 := h r (List.mem_cons_self ..)
    simp only [recsB, List.mem_append] at hc
    rcases hc with hc | hc | hc | hc
    · exact numB_bytes _ h1.1 c hc
    · exact numB_bytes _ (by omega) c hc
    · exact h1.2 c hc
    · exact recsB_bytes t (fun x hx => h x (List.mem_cons_of_mem _ hx)) c hc

theorem decT_of (K : Int → Bool) (A : List (Int × List Int)) (hr : Ris (-1) A) (hl : A.length ≤ 64) (ha : ∀ r ∈ A, 0 ≤ r.1 ∧ r.1 ≤ 18446744073709551615 ∧ r.2.length ≤ 140737488351232 ∧ Bytes r.2) (hk : ∀ r ∈ A, r.1 % 2 = 0 → K r.1 = true) (hs : (recsB A).length ≤ 65536) : decT K (recsB A) = (0, A) := by
  unfold decT
  rw [if_neg (by omega), dec_of K A _ [] (Nat.lt_succ_self _) hr (by simpa using hl) (fun r hrm => ⟨(ha r hrm).1, (ha r hrm).2.1, by have := (ha r hrm).2.2.1; omega, hk r hrm⟩)]
  rfl

theorem plain_mem {q : List Rq} {p : Rq → Prop} {P : Int × List Int → Prop} (hP : ∀ r, p r → P (r.1, r.2.2.2)) (h : ∀ r ∈ q, p r) : ∀ r ∈ plain q, P r := by
  intro r hr
  unfold plain at hr
  obtain ⟨x, hx, rfl⟩ := List.mem_map.1 hr
  exact hP x (h x hx)

/-- Encode of records that were put together -/
theorem enc_row {W : World} {B : Nat} {v : Value} {q : List Rq} (h : W.ownsRow B 39 2 v q.length (rqCells q)) (hI : ∀ r ∈ q, IsB W r.2.1 r.2.2.1 r.2.2.2) (h0 : 0 < q.length) (hlen : q.length ≤ 4398046511104) (hr : Ris (-1) (plain q))
    (ha : ∀ r ∈ q, 0 ≤ r.1 ∧ r.1 ≤ 18446744073709551615 ∧ r.2.2.2.length ≤ 140737488351232 ∧ Bytes r.2.2.2) :
    Calls Try.prog 19 #[v] W fun e w' => ((∃ ao cp, e = .returned (.tuple #[.slice ao (recsB (plain q)).length cp, .int .i64 0]) ∧ Hid (IsB w' ao cp (recsB (plain q))) ∧ (recsB (plain q)).length ≤ cp ∧ cp ≤ 9223372036854775807 ∧ q.length ≤ 64 ∧ (recsB (plain q)).length ≤ 65536) ∨ e = .returned (.tuple #[.slice none 0 0, .int .i64 3])) ∧ Hid (Below W.heap.size W w') := by
  obtain ⟨g, c, rfl, R⟩ := row_open h hI h0
  by_cases h64 : 64 < q.length
  · exact (enc_many g 0 q.length c _ _ _ _ W R hlen (ris_plain q _ hr) h64).mono fun e w' hh => ⟨.inr hh.1, hh.2⟩
  · by_cases hs : 65536 < (recsB (plain q)).length
    · refine (enc_big g 0 q.length c _ _ _ _ W R (by omega) (fun k hk => (ha _ (rqAt_mem hk)).2.2.1) (fun k hk => (ha _ (rqAt_mem hk)).1) (ris_plain q _ hr) (by rw [encL_all]; exact hs)).mono fun e w' hh => ⟨.inr hh.1, hh.2⟩
    · have key := enc_ok g 0 q.length c _ _ _ _ W R (by omega) (fun k hk => (ha _ (rqAt_mem hk)).2.2.1) (fun k hk => ⟨(ha _ (rqAt_mem hk)).1, (ha _ (rqAt_mem hk)).2.1⟩) (ris_plain q _ hr) (by rw [encL_all]; omega)
      rw [encL_all] at key
      refine key.mono fun e w' hh => ?_
      obtain ⟨g', rfl, ho, hb⟩ := hh
      obtain ⟨ao, cap, he, hI, h1, h2⟩ := own_isB ho.out
      cases he
      exact ⟨.inl ⟨_, _, rfl, hI, h1, h2, by omega, by omega⟩, hb⟩

theorem first_of {ty : Nat → Int} {t : Int} : ∀ {len : Nat}, (∃ k, k < len ∧ ty k = t) → ∃ k0, k0 < len ∧ ty k0 = t ∧ ∀ k, k < k0 → ty k ≠ t
  | 0, ⟨k, hk, _⟩ => absurd hk (Nat.not_lt_zero _)
  | n + 1, ⟨k, hk, e⟩ => by
    by_cases h : ∃ k, k < n ∧ ty k = t
    · obtain ⟨k0, h1, h2, h3⟩ := first_of h
      exact ⟨k0, by omega, h2, h3⟩
    · have hkn : k = n := by
        by_cases h2 : k < n
        · exact absurd ⟨k, h2, e⟩ h
        · omega
      subst hkn
      exact ⟨k, by omega, e, fun j hj he => h ⟨j, hj, he⟩⟩

/-- Find of the record of type T -/
theorem find_own {w : World} {B : Nat} {v : Value} {qx q : List Rq} {T : Int} {val : List Int} (h : OwnRecs w B v qx) (hp : plain qx = plain q) (hr : Ris (-1) (plain q)) (hT : ∃ r ∈ q, r.1 = T ∧ r.2.2.2 = val) (hl : val.length ≤ 140737488355328) (hq : q.length ≤ 64) :
    Calls Try.prog 33 #[v, .int .u64 T] w fun e w' => ∃ a c, e = .returned (.tuple #[.slice a val.length c, .bool true]) ∧ Hid (IsB w' a c val) ∧ Hid (Below w.heap.size w w') := by
  obtain ⟨r, hr1, hr2, hr3⟩ := hT
  obtain ⟨i, hi, he⟩ := List.getElem_of_mem hr1
  have hpi : (plain q)[i]? = some (r.1, r.2.2.2) := by
    rw [plain_at q i hi]
    unfold rqAt
    rw [List.getD_eq_getElem?_getD, List.getElem?_eq_getElem hi, he]
    rfl
  have hlen : qx.length = q.length := by rw [← plain_length qx, ← plain_length q, hp]
  have hxi : (plain qx)[i]? = some ((rqAt qx i).1, (rqAt qx i).2.2.2) := plain_at qx i (by omega)
  rw [hp, hpi] at hxi
  simp at hxi
  obtain ⟨k0, k1, k2, k3⟩ := first_of (ty := fun k => (rqAt qx k).1) (t := T) (len := qx.length) ⟨i, by omega, by rw [← hr2]; exact hxi.1.symm⟩
  have hx0 : (plain q)[k0]? = some ((rqAt qx k0).1, (rqAt qx k0).2.2.2) := by rw [← hp]; exact plain_at qx k0 k1
  have hone := ris_one hr hx0 hpi (by rw [hr2]; exact k2)
  have hval : (rqAt qx k0).2.2.2 = val := by
    have := congrArg Prod.snd hone
    exact this.trans hr3
  obtain ⟨g, c, rfl, R⟩ := h.open (by omega)
  have key := find_yes g 0 qx.length c k0 _ _ _ _ T w R (by omega) k1 k2 k3 (by show (rqAt qx k0).2.2.2.length ≤ _; rw [hval]; exact hl)
  refine key.mono fun e w' hh => ?_
  obtain ⟨a, c', he', hI, hb⟩ := hh
  rw [hval] at he' hI
  exact ⟨a, c', he', hI, hb⟩

theorem Try.info22 : (Try.prog.info? 36).map (fun i => (i.zero, i.size, i.bytes)) = some (some (.int .u64 0), 1, 8) := by kernel_rfl
theorem or_one (x : Int) (h0 : 0 ≤ x) (h1 : x ≤ 18446744073709551615) : 0 ≤ bits .or .u64 x 1 ∧ bits .or .u64 x 1 ≤ 18446744073709551615 ∧ bits .or .u64 x 1 % 2 = 1 := by
  obtain ⟨n, rfl⟩ := Int.eq_ofNat_of_zero_le h0
  have h := bits_or_u64_nat n 1 (by omega) (by omega)
  rw [show ((1 : Nat) : Int) = 1 from rfl] at h
  have e : n ||| 1 = n / 2 * 2 + 1 := by
    have e2 := Nat.two_pow_add_eq_or_of_lt (i := 1) (b := 1) (by omega) (n / 2)
    have e3 : n = 2 * (n / 2) + n % 2 := by omega
    by_cases hn : n % 2 = 0
    · have e4 : n = 2 ^ 1 * (n / 2) := by omega
      rw [e4, ← e2]; omega
    · have e4 : n = 2 ^ 1 * (n / 2) + 1 := by omega
      have e5 : n = 2 ^ 1 * (n / 2) ||| 1 := by rw [← e2]; exact e4
      have e6 : n ||| 1 = n := by
        rw [e5, Nat.or_assoc, Nat.or_self]
      omega
  rw [h, e]
  omega

def U64L (ty : Nat → Int) (k : Nat) : List Value := (List.range k).map fun j => .int .u64 (ty j)
theorem U64L_succ (ty : Nat → Int) (k : Nat) : U64L ty (k + 1) = U64L ty k ++ [.int .u64 (ty k)] := by simp [U64L, List.range_succ]
theorem own_isU {w : World} {B k : Nat} {v : Value} {ty : Nat → Int} (h : w.ownsRow B 36 1 v k (U64L ty k)) : ∃ ao cap, v = .slice ao k cap ∧ IsU w ao k ty := by
  have hcells := fun (g : Nat) hg => h.cells (g := g) hg
  rcases h.2 with ⟨rfl, rfl⟩ | ⟨g, cap, cur, rfl, _, hg, _⟩
  · exact ⟨none, 0, rfl, .inl rfl⟩
  · refine ⟨_, cap, rfl, .inr ⟨g, 0, rfl, (Array.getElem?_eq_some_iff.1 hg).1, fun j hj => ?_⟩⟩
    have := hcells g rfl j (.int .u64 (ty j)) (by simp [U64L, hj])
    rw [addr_add] at this
    exact this
/-- one row grows, the other one of another type stays -/
theorem other_row {W W1 : World} {B e s n e' s' m : Nat} {v u : Value} {xs ys : List Value} {o : Obj} (h : W.ownsRow B e s v n xs) (k : W.ownsRow B e' s' u m ys) (hne : e ≠ e') (hg : (W.alloc o).grownBy W1 v.ownBlock) : W1.ownsRow B e' s' u m ys :=
  (owns_below k (below_alloc W o)).kept hg (tag_ne (owns_below h (below_alloc W o)) (owns_below k (below_alloc W o)) hne)
theorem below_grown {B : Nat} {w W W1 : World} {v : Value} {e s n : Nat} {xs : List Value} {o : Obj} (hb : Below B w W) (hB : B ≤ W.heap.size) (h : W.ownsRow B e s v n xs) (hg : (W.alloc o).grownBy W1 v.ownBlock) : Below B w W1 :=
  (hb.alloc hB o).grown hg (by simp; omega) (fun i hi => (h.lt i hi).1)
theorem row_shape {w : World} {B n : Nat} {e : TypeId} {s : Nat} {v : Value} {xs : List Value} (h : w.ownsRow B e s v n xs) : ∃ a c, v = .slice a n c := by
  rcases h.2 with ⟨h1, h2⟩ | ⟨g, c, cur, h1, _⟩
  · exact ⟨none, 0, by rw [h1, h2]⟩
  · exact ⟨_, c, h1⟩
theorem one_u64 {x : Int} : ∀ u ∈ [Value.int .u64 x], u.oneCell' = true := by
  intro u hu
  rw [List.mem_singleton.1 hu]
  rfl
end Go.Proofs.Ytcbadmkgbaffpaa
