/- Rows of records of the call's own, and bytes.Clone in new memory. -/
import Derived.Test.YtcbadmkgbaffpaaDecParts
namespace Go.Proofs.Ytcbadmkgbaffpaa
open Go.RowKit
set_option linter.unusedVariables false

theorem Try.infoRec : (Try.prog.info? 39).map (fun i => (i.zero, i.size, i.bytes)) = some (some (.agg #[.int .u64 0, .slice none 0 0]), 2, 32) := by kernel_rfl

theorem grown_of_below {w w' : World} (h : Below w.heap.size w w') : w.grownBy w' none := ⟨h.os, h.tape, h.output, h.size, fun k hk _ => h.block k hk⟩
theorem owns_below {w w' : World} {B n : Nat} {e : TypeId} {s : Nat} {v : Value} {xs : List Value} (h : w.ownsRow B e s v n xs) (hb : Below w.heap.size w w') : w'.ownsRow B e s v n xs :=
  h.kept (grown_of_below hb) (by cases v.ownBlock with | none => exact .inl rfl | some k => exact .inr (by simp))
theorem tag_ne {w : World} {B n m s s' e e' : Nat} {v u : Value} {xs ys : List Value} (h : w.ownsRow B e s v n xs) (k : w.ownsRow B e' s' u m ys) (hne : e ≠ e') : u.ownBlock = none ∨ u.ownBlock ≠ v.ownBlock := by
  rcases k.2 with ⟨rfl, _⟩ | ⟨g, c, cur, rfl, _, hg, _⟩
  · exact .inl rfl
  · right
    rcases h.2 with ⟨rfl, _⟩ | ⟨g', c', cur', rfl, _, hg', _⟩
    · simp [Value.ownBlock]
    · intro e1
      have e2 : g = g' := by simpa [Value.ownBlock] using e1
      subst e2
      rw [hg] at hg'
      simp at hg'
      exact hne hg'.2.symm

/-- of each record its type, its value's slice and bytes -/
abbrev Rq := Int × Option Addr × Nat × List Int
def rqCells : List Rq → List Value
  | [] => []
  | r :: t => .int .u64 r.1 :: .slice r.2.1 r.2.2.2.length r.2.2.1 :: rqCells t
theorem rqCells_append (a b : List Rq) : rqCells (a ++ b) = rqCells a ++ rqCells b := by
  induction a with
  | nil => rfl
  | cons r t ih => show _ :: _ :: rqCells (t ++ b) = _; rw [ih]; rfl
theorem rqCells_length (a : List Rq) : (rqCells a).length = a.length * 2 := by
  induction a with
  | nil => rfl
  | cons r t ih => show (rqCells t).length + 1 + 1 = (t.length + 1) * 2; omega
def plain (q : List Rq) : List (Int × List Int) := q.map fun r => (r.1, r.2.2.2)
theorem plain_length (q : List Rq) : (plain q).length = q.length := by simp [plain]
theorem plain_append (a b : List Rq) : plain (a ++ b) = plain a ++ plain b := by simp [plain]

/-- records of the call's own -/
structure OwnRecs (w : World) (B : Nat) (v : Value) (q : List Rq) : Prop where
  row : w.ownsRow B 39 2 v q.length (rqCells q)
  each : ∀ r ∈ q, w.ownsRow B 5 1 (.slice r.2.1 r.2.2.2.length r.2.2.1) r.2.2.2.length (U8 r.2.2.2)
theorem OwnRecs.below {w w' : World} {B : Nat} {v : Value} {q : List Rq} (h : OwnRecs w B v q) (hb : Below w.heap.size w w') : OwnRecs w' B v q :=
  ⟨owns_below h.row hb, fun r hr => owns_below (h.each r hr) hb⟩
theorem OwnRecs.nil (w : World) (B : Nat) : OwnRecs w B (.slice none 0 0) [] := ⟨World.ownsRow_nil _ _ _ _, fun r hr => by cases hr⟩
theorem OwnRecs.push {w w' : World} {B : Nat} {v v' : Value} {q : List Rq} {r : Rq} (h : OwnRecs w B v q) (hv : w.ownsRow B 5 1 (.slice r.2.1 r.2.2.2.length r.2.2.1) r.2.2.2.length (U8 r.2.2.2))
    (ho : w'.ownsRow B 39 2 v' (q.length + 1) (rqCells q ++ [.int .u64 r.1, .slice r.2.1 r.2.2.2.length r.2.2.1])) (hg : w.grownBy w' v.ownBlock) : OwnRecs w' B v' (q ++ [r]) := by
  refine ⟨by rw [rqCells_append, List.length_append]; exact ho, fun x hx => ?_⟩
  rcases List.mem_append.1 hx with hx | hx
  · exact (h.each x hx).kept hg (tag_ne h.row (h.each x hx) (by decide))
  · rw [List.mem_singleton.1 hx]
    exact hv.kept hg (tag_ne h.row hv (by decide))

def rqAt (q : List Rq) (k : Nat) : Rq := q.getD k (0, none, 0, [])
theorem rqAt_mem {q : List Rq} {k : Nat} (h : k < q.length) : rqAt q k ∈ q := by
  unfold rqAt
  rw [List.getD_eq_getElem?_getD, List.getElem?_eq_getElem h]
  exact List.getElem_mem h
theorem rqCells_at : ∀ (q : List Rq) (k : Nat), k < q.length → (rqCells q)[k * 2]? = some (.int .u64 (rqAt q k).1) ∧ (rqCells q)[k * 2 + 1]? = some (.slice (rqAt q k).2.1 (rqAt q k).2.2.2.length (rqAt q k).2.2.1)
  | [], k, h => absurd h (Nat.not_lt_zero _)
  | r :: t, 0, _ => ⟨rfl, rfl⟩
  | r :: t, k + 1, h => by
    have ih := rqCells_at t k (by simpa using h)
    rw [show (k + 1) * 2 = k * 2 + 1 + 1 by omega]
    exact ih
theorem OwnRecs.shape {w : World} {B : Nat} {v : Value} {q : List Rq} (h : OwnRecs w B v q) : ∃ ao cap, v = .slice ao q.length cap := by
  rcases h.row.2 with ⟨h1, h2⟩ | ⟨g, c, cur, h1, _⟩
  · exact ⟨none, 0, by rw [h1, h2]⟩
  · exact ⟨_, c, h1⟩
theorem OwnRecs.open {w : World} {B : Nat} {v : Value} {q : List Rq} (h : OwnRecs w B v q) (h0 : 0 < q.length) :
    ∃ g cap, v = .slice (some ⟨g, 0, none⟩) q.length cap ∧ Recs w g 0 q.length (fun k => (rqAt q k).1) (fun k => (rqAt q k).2.1) (fun k => (rqAt q k).2.2.1) (fun k => (rqAt q k).2.2.2) := by
  have hcells := fun (g : Nat) hg => h.row.cells (g := g) hg
  rcases h.row.2 with ⟨h1, h2⟩ | ⟨g, c, cur, h1, _, hg, _⟩
  · omega
  · subst h1
    have hc := hcells g rfl
    refine ⟨g, c, rfl, (Array.getElem?_eq_some_iff.1 hg).1, fun k hk => ?_, fun k hk => ?_, fun k hk => ?_⟩
    · have := hc _ _ (rqCells_at q k hk).1
      rw [addr_add] at this
      exact this
    · have := hc _ _ (rqCells_at q k hk).2
      rw [addr_add] at this
      rw [Nat.add_assoc]
      exact this
    · obtain ⟨ao, cap, e, hI, _⟩ := own_isB (h.each _ (rqAt_mem hk))
      cases e
      exact hI
theorem plain_last (q : List Rq) (h : 0 < q.length) : lastT (plain q) = (rqAt q (q.length - 1)).1 := by
  rcases List.eq_nil_or_concat q with rfl | ⟨t, r, rfl⟩
  · simp at h
  · rw [List.concat_eq_append, plain_append]
    show lastT (plain t ++ [(r.1, r.2.2.2)]) = _
    rw [lastT_snoc]
    simp [rqAt]

set_option maxHeartbeats 1000000 in
/-- Clone of bytes that are there: the same bytes in new memory -/
theorem clone_new (x : Addr) (cap k : Nat) (L : List Int) (w : World) (hI : IsB w (some x) cap L) (hk : L.length = k) (hl : k ≤ 140737488355328) :
    Calls Try.prog 55 #[.slice (some x) k cap] w fun e w' => ∃ ao cp, e = .returned (.slice ao k cp) ∧ Hid (w'.ownsRow w.heap.size 5 1 (.slice ao L.length cp) L.length (U8 L)) ∧ Hid (Below w.heap.size w w') := by
  have HI := hide hI
  have HL := hide hk
  clear hI hk
  have hne := fun w' => Lib.run_eql_slice_nil (P := Try.prog) w' 23 5 (some x) k cap 0 0 Try.underlying23
  go_enter Try.func55, Try.ntmps55
  go_wp2_with (at_builtin; refine wpList_append_ownx rfl (.tmp 5) (.tmp 6) rfl w.heap.size _ 0 [] rfl (own_empty w) (some x) k cap L rfl HL.out ?c1 (by omega) (by simp) ?_)
  case c1 => exact HI.out.below ((Below.refl _ _).alloc (Nat.le_refl _) _)
  intro v1 w1 ho hg
  have HB1 := hide (((Below.refl w.heap.size w).alloc (Nat.le_refl _) (.cells #[] 5)).grown hg (by simp) (fun k hk => by cases hk; exact Nat.le_refl _))
  have hv1 : ∃ ao cp, v1 = .slice ao k cp := by
    rcases ho.2 with ⟨h1, h2⟩ | ⟨g, c, cur, h1, _⟩
    · exact ⟨none, 0, by rw [h1, h2]⟩
    · exact ⟨_, c, h1⟩
  obtain ⟨ao1, cp1, rfl⟩ := hv1
  have HO := hide ho
  rw [← HL.out] at HO
  clear ho hg
  go_wp2
  go_ret
  exact ⟨ao1, cp1, rfl, HO, HB1⟩

theorem owns_mono {w : World} {B B' n : Nat} {e : TypeId} {s : Nat} {v : Value} {xs : List Value} (h : w.ownsRow B e s v n xs) (hB : B' ≤ B) : w.ownsRow B' e s v n xs := by
  rcases h with ⟨h1, h2 | ⟨g, c, cur, h2, h3, h4⟩⟩
  · exact ⟨h1, .inl h2⟩
  · exact ⟨h1, .inr ⟨g, c, cur, h2, Nat.le_trans hB h3, h4⟩⟩
theorem cell_two_new (w : World) (x y : Value) (t : TypeId) : ∀ j u, [x, y][j]? = some u → (w.alloc (.cells #[x, y] t)).cell? ((⟨w.heap.size, 0, none⟩ : Addr).add j) = some u := by
  intro j u hj
  rw [addr_add, World.cell?_alloc_at _ _ _ _ rfl]
  simpa using hj
theorem below_alloc (w : World) (o : Obj) : Below w.heap.size w (w.alloc o) := (Below.refl _ _).alloc (Nat.le_refl _) o
theorem one_rec (x y : Value) (hx : x.oneCell' = true) (hy : y.oneCell' = true) : ∀ u ∈ [x, y], u.oneCell' = true := by
  intro u hu
  rcases List.mem_cons.1 hu with rfl | hu
  · exact hx
  · rw [List.mem_singleton.1 hu]; exact hy
/-- the records, one more behind -/
theorem rec_push {w wr w4 w5 : World} {l v' : Value} {q : List Rq} {X : Int} {va : Option Addr} {vc k : Nat} {L : List Int} {o : Obj} (hO : OwnRecs wr w.heap.size l q) (hB : Below w.heap.size w wr) (hB4 : Below wr.heap.size wr w4)
    (hV : w4.ownsRow wr.heap.size 5 1 (.slice va L.length vc) L.length (U8 L)) (hk : L.length = k) (ho : w5.ownsRow w.heap.size 39 2 v' (q.length + 1) (rqCells q ++ [.int .u64 X, .slice va k vc])) (hg : (w4.alloc o).grownBy w5 l.ownBlock) :
    OwnRecs w5 w.heap.size v' (q ++ [(X, va, vc, L)]) ∧ Below w.heap.size w w5 := by
  have z := hB.size
  have z4 := hB4.size
  refine ⟨OwnRecs.push (r := (X, va, vc, L)) ((hO.below hB4).below (below_alloc w4 o)) (owns_below (owns_mono hV z) (below_alloc w4 o)) (by rw [hk]; exact ho) hg, ?_⟩
  exact ((hB.trans (hB4.mono z)).alloc (by omega) o).grown hg (by simp; omega) (fun i hi => ((hO.row).lt i hi).1)
end Go.Proofs.Ytcbadmkgbaffpaa
