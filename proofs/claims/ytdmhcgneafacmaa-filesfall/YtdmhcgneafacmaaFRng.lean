/- Ranging over a folder; contracts of slices.Clone, used and clone over this seat's translation. -/
import Derived.Test.YtdmhcgneafacmaaFDir
namespace Go.Proofs.Ytdmhcgneafacmaa
open Go.RowKit
open Go.ChangeMaps (setBlock)
set_option linter.unusedVariables false
set_option linter.unusedSimpArgs false

/-! ### which files are still to come -/
def toCome (es : Array MapEntry) (L : List Ent) (seen : Array Nat) : List Ent := ((es.toList.zip L).filter (fun p => !seen.contains p.1.born)).map (·.2)
theorem perm_step {seen : Array Nat} {p : MapEntry × Ent} : ∀ {Z : List (MapEntry × Ent)}, (Z.map (fun q => q.1.born)).Nodup → p ∈ Z → seen.contains p.1.born = false →
    (Z.filter (fun q => !seen.contains q.1.born)).Perm (p :: Z.filter (fun q => !(seen.push p.1.born).contains q.1.born))
  | [], _, h, _ => by simp at h
  | q :: Z, hnd, hp, hs => by
    simp only [List.map_cons, List.nodup_cons] at hnd
    rcases List.mem_cons.1 hp with rfl | hp
    · have e1 : Z.filter (fun q => !(seen.push p.1.born).contains q.1.born) = Z.filter (fun q => !seen.contains q.1.born) := by
        apply List.filter_congr
        intro x hx
        rw [contains_push]
        have : (x.1.born == p.1.born) = false := by
          simp only [beq_eq_false_iff_ne]
          exact fun e => hnd.1 (List.mem_map.2 ⟨x, hx, e⟩)
        simp [this]
      rw [List.filter_cons_of_pos (by show (!seen.contains _) = true; rw [hs]; rfl), List.filter_cons_of_neg (by rw [contains_push]; simp), e1]
    · have ih := perm_step hnd.2 hp hs
      have hne : (q.1.born == p.1.born) = false := by
        simp only [beq_eq_false_iff_ne]
        exact fun e => hnd.1 (List.mem_map.2 ⟨p, hp, e.symm⟩)
      by_cases hq : seen.contains q.1.born = true
      · rw [List.filter_cons_of_neg (by show ¬ (!seen.contains _) = true; rw [hq]; simp), List.filter_cons_of_neg (by show ¬ (!Array.contains _ _) = true; rw [contains_push, hq]; simp)]
        exact ih
      · rw [List.filter_cons_of_pos (by show (!seen.contains _) = true; rw [Bool.eq_false_iff.2 hq]; rfl), List.filter_cons_of_pos (by show (!Array.contains _ _) = true; rw [contains_push, Bool.eq_false_iff.2 hq, hne]; rfl)]
        exact (ih.cons q).trans (List.Perm.swap ..)

structure Iter (w : World) (b r : Nat) (L M : List Ent) : Prop where
  is : ∃ es clock since seen c0, w.heap[b]? = some (.map es clock) ∧ es.toList.map (fun e => (e.key, e.val)) = L.map (fun x => (Value.string x.1, x.2.1)) ∧ (∀ e ∈ es.toList, e.born < clock) ∧ (es.toList.map (·.born)).Nodup ∧
    w.heap[r]? = some (.mapIter (some b) since seen c0) ∧ (∀ e ∈ es.toList, e.born < since) ∧ since ≤ c0 ∧ since ≤ clock ∧ M = toCome es L seen
theorem Iter.lt {w : World} {b r : Nat} {L M : List Ent} (h : Iter w b r L M) : b < w.heap.size ∧ r < w.heap.size ∧ r ≠ b := by
  obtain ⟨es, clock, since, seen, c0, hb, _, _, _, hr, _⟩ := h.is
  refine ⟨(Array.getElem?_eq_some_iff.1 hb).1, (Array.getElem?_eq_some_iff.1 hr).1, fun e => ?_⟩
  rw [e, hb] at hr
  cases hr
theorem Iter.kept {F : Nat → Prop} {w w' : World} {b r : Nat} {L M : List Ent} (h : Iter w b r L M) (k : Kept F w w') (hb : ¬ F b) (hr : ¬ F r) : Iter w' b r L M := by
  have hl := h.lt
  obtain ⟨es, clock, since, seen, c0, hb0, h1, h2, h3, hr0, rest⟩ := h.is
  exact ⟨es, clock, since, seen, c0, (k.block b hl.1 hb).trans hb0, h1, h2, h3, (k.block r hl.2.1 hr).trans hr0, rest⟩
theorem len_of {es : Array MapEntry} {L : List Ent} (hm : es.toList.map (fun e => (e.key, e.val)) = L.map (fun x => (Value.string x.1, x.2.1))) : es.toList.length = L.length := by
  have := congrArg List.length hm
  simpa using this
theorem zip_born {es : Array MapEntry} {L : List Ent} (hm : es.toList.map (fun e => (e.key, e.val)) = L.map (fun x => (Value.string x.1, x.2.1))) : (es.toList.zip L).map (fun q => q.1.born) = es.toList.map (·.born) := by
  have h1 : (es.toList.zip L).map (fun q => q.1.born) = ((es.toList.zip L).map Prod.fst).map (·.born) := by rw [List.map_map]; rfl
  rw [h1, List.map_fst_zip (Nat.le_of_eq (len_of hm))]
theorem toCome_all {es : Array MapEntry} {L : List Ent} (hm : es.toList.map (fun e => (e.key, e.val)) = L.map (fun x => (Value.string x.1, x.2.1))) : toCome es L #[] = L := by
  unfold toCome
  rw [List.filter_eq_self.2 (by simp), List.map_snd_zip (Nat.le_of_eq (len_of hm).symm)]
theorem Dir.range {w : World} {R : Nat → Prop} {b : Nat} {L : List Ent} (h : Dir w R b L) :
    ∃ o, (Instr.range 56 (.map (some b))).run Try.prog w = .ok (.pointer (some ⟨w.heap.size, 0, none⟩)) (w.alloc o) ∧ Iter (w.alloc o) b w.heap.size L L := by
  have hlt := h.lt
  obtain ⟨es, clock, hb, hm, h1, h2⟩ := h.map
  exact ⟨_, run_range_map w 56 9 31 b es clock Try.underlying56 hb, ⟨es, clock, clock, #[], clock, ((MapKept.heap_alloc w _).2 b hlt).trans hb, hm, h1, h2, (MapKept.heap_alloc w _).1, h1, Nat.le_refl _, Nat.le_refl _, (toCome_all hm).symm⟩⟩
theorem mem_zip {es : Array MapEntry} {L : List Ent} (hm : es.toList.map (fun e => (e.key, e.val)) = L.map (fun x => (Value.string x.1, x.2.1))) {e : MapEntry} (he : e ∈ es.toList) : ∃ x, (e, x) ∈ es.toList.zip L ∧ e.key = .string x.1 ∧ e.val = x.2.1 := by
  obtain ⟨k, hk, rfl⟩ := List.mem_iff_getElem.1 he
  have hk2 : k < L.length := by rw [← len_of hm]; exact hk
  refine ⟨L[k], List.mem_iff_getElem.2 ⟨k, by rw [List.length_zip]; exact Nat.lt_min.2 ⟨hk, hk2⟩, by simp⟩, ?_⟩
  have := congrArg (fun l => l[k]?) hm
  simp only [List.getElem?_map, List.getElem?_eq_getElem hk, List.getElem?_eq_getElem hk2, Option.map_some, Option.some.injEq, Prod.mk.injEq] at this
  exact this
/-- the step -/
theorem Iter.next {w : World} {b r : Nat} {L M : List Ent} (h : Iter w b r L M) (ty : TypeId) :
    (M = [] ∧ (Instr.next (.pointer (some ⟨r, 0, none⟩)) false ty).run Try.prog w = .ok (.tuple #[.bool false]) w) ∨
    ∃ x M' w', M.Perm (x :: M') ∧ (Instr.next (.pointer (some ⟨r, 0, none⟩)) false ty).run Try.prog w = .ok (.tuple #[.bool true, .string x.1, x.2.1]) w' ∧ Iter w' b r L M' ∧ w.grownBy w' (some r) ∧ w'.heap.size = w.heap.size ∧ (Instr.entry (.pointer (some ⟨r, 0, none⟩))).run Try.prog w' = .ok (.tuple #[.string x.1, x.2.1]) w' := by
  have hne := h.lt.2.2
  obtain ⟨es, clock, since, seen, c0, hb, hm, h1, h2, hr, hold, hsc, hsk, rfl⟩ := h.is
  rcases run_next_at (P := Try.prog) w ty r b since c0 seen es clock hr hb hold hsc with ⟨h0, hrun⟩ | ⟨e, he, w1, hal, hrun⟩
  · refine Or.inl ⟨?_, hrun⟩
    unfold toCome
    rw [List.filter_eq_nil_iff.2 (fun p hp => by
      show ¬ (!seen.contains _) = true
      rw [all_seen es seen h0 p.1 (List.of_mem_zip hp).1]
      simp)]
    rfl
  · obtain ⟨hem, hes⟩ := mem_left he
    obtain ⟨x, hx, hk, hv⟩ := mem_zip hm hem
    have hr1 : w1.heap[r]? = some (.mapIter (some b) since seen c0) := by rcases hal with rfl | rfl <;> exact hr
    have hb1 : w1.heap[b]? = some (.map es clock) := by rcases hal with rfl | rfl <;> exact hb
    have hset := MapKept.heap_set (o' := .mapIter (some b) since (seen.push e.born) clock) hr1
    have hb' : (setBlock w1 r (.mapIter (some b) since (seen.push e.born) clock)).heap[b]? = some (.map es clock) := (hset.2 b (fun e1 => hne e1.symm)).trans hb1
    have hp := (perm_step (p := (e, x)) (by rw [zip_born hm]; exact h2) hx hes).map (·.2)
    have hen := run_entry_at (P := Try.prog) _ r b since seen es clock e hset.1 hb' hem h2
    rw [hk, hv] at hrun hen
    refine Or.inr ⟨x, toCome es L (seen.push e.born), _, hp, hrun, ⟨es, clock, since, seen.push e.born, clock, hb', hm, h1, h2, hset.1, hold, hsk, hsk, rfl⟩, ?_, ?_, hen⟩
    · rcases hal with rfl | rfl <;> exact ⟨rfl, rfl, rfl, by simp [setBlock], fun i _ hi => hset.2 i (fun e1 => hi (by rw [e1]))⟩
    · rcases hal with rfl | rfl <;> simp [setBlock]
/-- how many are left, read off the world -/
def left (w : World) (b r : Nat) : Nat :=
  match w.heap[b]?, w.heap[r]? with
  | some (.map es _), some (.mapIter _ _ seen _) => (leftOf es seen).size
  | _, _ => 0
theorem Iter.left {w : World} {b r : Nat} {L M : List Ent} (h : Iter w b r L M) : left w b r = M.length := by
  obtain ⟨es, clock, since, seen, c0, hb, hm, h1, h2, hr, hold, hsc, hsk, rfl⟩ := h.is
  have e1 : ((es.toList.zip L).filter (fun p => !seen.contains p.1.born)).length = (es.toList.filter (fun e => !seen.contains e.born)).length := by
    have h3 : ((es.toList.zip L).map Prod.fst).filter (fun e => !seen.contains e.born) = ((es.toList.zip L).filter (fun p => !seen.contains p.1.born)).map Prod.fst := by
      rw [List.filter_map]
      rfl
    rw [List.map_fst_zip (Nat.le_of_eq (len_of hm))] at h3
    rw [h3, List.length_map]
  simp only [Proofs.Ytdmhcgneafacmaa.left, hb, hr, toCome, List.length_map, e1, leftOf]
  rw [← Array.length_toList, Array.toList_filter]

section
variable {w w' : World} {ops : Array Oper} {rest : List Oper} {o : Oper} {a : Act} {Q : Exit → Act → World → Prop}
theorem wl_range (hg : o.guard = none) {m : Operand} {t : TypeId} (hop : o.op = Op.range t m) {vm v : Value} (hm : a.eval m = vm) (hr : (Instr.range t vm).run Try.prog w = .ok v w') (h : wpList Try.prog ops Q rest (a.put o.dst v) w') : wpList Try.prog ops Q (o :: rest) a w := by
  refine wpList_plain hg fun K' hK' => ?_
  unfold Oper.wp
  simp [execOp, hop, hm, hr, Result.andThen]
  exact hK' _ _ h
theorem wl_next (hg : o.guard = none) {m : Operand} {c : Bool} (hop : o.op = Op.next m c) {vm v : Value} (hm : a.eval m = vm) (hr : (Instr.next vm c o.type).run Try.prog w = .ok v w') (h : wpList Try.prog ops Q rest (a.put o.dst v) w') : wpList Try.prog ops Q (o :: rest) a w := by
  refine wpList_plain hg fun K' hK' => ?_
  unfold Oper.wp
  simp [execOp, hop, hm, hr, Result.andThen]
  exact hK' _ _ h
end

theorem own_empty (w : World) : Row (w.alloc (.cells #[] 5)) (.slice (some ⟨w.heap.size, 0, none⟩) 0 0) [] :=
  ⟨rfl, .inr ⟨w.heap.size, 0, #[], rfl, Nat.zero_le _, heap_alloc_new w _, Nat.le_refl _, by unfold maxLen; omega, rfl, rfl⟩⟩
/-- a new row -/
def NewRow (w w' : World) (v : Value) (zs : List Int) : Prop := Row w' v zs ∧ Below w.heap.size w w' ∧ ∀ g, v.ownBlock = some g → w.heap.size ≤ g

set_option maxHeartbeats 1000000 in
theorem clone_some (x : Addr) (cap : Nat) (L : List Int) (w : World) (hI : IsB w (some x) cap L) (hl : L.length ≤ 140737488355328) :
    Calls Try.prog 32 #[.slice (some x) L.length cap] w fun e w' => ∃ v, e = .returned v ∧ Hid (NewRow w w' v L) := by
  have HI := hide hI
  obtain ⟨len, hlen⟩ : ∃ len, L.length = len := ⟨_, rfl⟩
  rw [hlen] at hl ⊢
  have HL := hide hlen
  clear hI hlen
  have hne := fun w' => Lib.run_eql_slice_nil (P := Try.prog) w' 31 5 (some x) len cap 0 0 Try.underlying31
  go_enter Try.func32, Try.ntmps32
  go_wp2_with (at_builtin; refine wl_append rfl (.tmp 5) (.tmp 6) rfl _ [] rfl (own_empty w) (some x) len cap L rfl HL.out ?c1 (by simp; omega) ?_)
  case c1 => exact HI.out.below ((Below.refl _ _).alloc (Nat.le_refl _) _)
  intro v1 w1 ho hg hloc
  have B1 := ((Below.refl w.heap.size w).alloc (Nat.le_refl _) (.cells #[] 5)).grown hg (by simp) (fun k hk => by cases hk; exact Nat.le_refl _)
  have F := hide (⟨by simpa using ho, B1, fun g hg => by
    rcases hloc with h | h
    · rw [hg] at h
      cases h
      exact Nat.le_refl _
    · rw [hg] at h
      cases h
      simp⟩ : NewRow w w1 v1 L)
  clear ho hg hloc B1
  go_wp2
  go_ret
  exact ⟨v1, rfl, F⟩
set_option maxHeartbeats 400000 in
theorem clone_none (w : World) :
    Calls Try.prog 32 #[.slice none 0 0] w fun e w' => e = .returned (.slice none 0 0) ∧ w' = w := by
  have hne := fun w' => Lib.run_eql_slice_nil (P := Try.prog) w' 31 5 none 0 0 0 0 Try.underlying31
  go_enter Try.func32, Try.ntmps32
  go_wp2
  go_ret
  exact ⟨rfl, rfl⟩
theorem clone_any (ao : Option Addr) (cap : Nat) (L : List Int) (w : World) (hI : IsB w ao cap L) (hl : L.length ≤ 140737488355328) :
    Calls Try.prog 32 #[.slice ao L.length cap] w fun e w' => ∃ v, e = .returned v ∧ Hid (NewRow w w' v L) := by
  rcases hI with ⟨rfl, rfl, rfl⟩ | ⟨x, rfl, hc⟩
  · refine (clone_none w).mono fun e w' h => ?_
    obtain ⟨rfl, rfl⟩ := h
    exact ⟨_, rfl, hide ⟨Row.nil _, Below.refl _ _, fun g hg => by cases hg⟩⟩
  · exact clone_some x cap L w (.inr ⟨x, rfl, hc⟩) hl

theorem sum_perm {A B : List Ent} (h : A.Perm B) : sum A = sum B := (h.map _).sum_nat

set_option maxHeartbeats 1000000 in
theorem used_any (R : Nat → Prop) (b : Nat) (L : List Ent) (w : World) (h : Dir w R b L) (hl : sum L ≤ 9223372036854775807) :
    Calls Try.prog 57 #[.map (some b)] w fun e w' => e = .returned (.int .i64 (sum L)) ∧ Hid (Below w.heap.size w w') := by
  have H := hide h
  obtain ⟨o, hrun, hI⟩ := h.range
  have HI := hide hI
  have HB := hide ((Below.refl w.heap.size w).alloc (Nat.le_refl _) o)
  have HS := hide (fun (wr : World) (M : List Ent) (hM : Iter wr b w.heap.size L M) x (hx : x ∈ M) => hM)
  clear h hI HS
  go_enter Try.func57, Try.ntmps57
  go_wp2_with (at_range; refine wl_range rfl rfl rfl hrun ?_)
  go_frame
  clear hrun
  go_loopw [3] (fun sv wr => ∃ M acc, sv = .int .i64 (acc : Nat) ∧ Hid (acc + sum M = sum L) ∧ Hid (Iter wr b w.heap.size L M) ∧ Hid (Below w.heap.size w wr) ∧ Hid (∀ x ∈ M, x ∈ L)) (fun _ wr => left wr b w.heap.size)
  case atStart => exact ⟨L, 0, rfl, by simp [hide], HI, HB, fun _ h => h⟩
  case round =>
    obtain ⟨M, acc, rfl, HA, HIt, HBl, HM⟩ := hrel
    rcases HIt.out.next 0 with ⟨rfl, hrun⟩ | ⟨x, M', w', hp, hrun, hI', hg, hz, hen⟩
    · have ha : acc = sum L := by have := HA.out; simpa [sum] using this
      subst ha
      go_wp2_with (at_next; refine wl_next rfl rfl rfl hrun ?_)
      go_ret
      exact ⟨rfl, HBl⟩
    · have hxM : x ∈ M := hp.mem_iff.2 (List.mem_cons_self ..)
      obtain ⟨ao, cap, hv, _, hc1, hc2⟩ := (H.out.rows x (HM.out x hxM)).isB
      have hsum := sum_perm hp
      rw [sum_cons] at hsum
      have hsm : acc + x.2.2.length + sum M' = sum L := by have := HA.out; omega
      have HSM := hide hsm
      have hle : acc + x.2.2.length ≤ 9223372036854775807 := by omega
      have HM' := hide (fun y (hy : y ∈ M') => HM.out y (hp.mem_iff.2 (List.mem_cons_of_mem _ hy)))
      have HI' := hide hI'
      have HB' := hide (HBl.out.grown hg HBl.out.size (fun j hj => by cases hj; exact Nat.le_refl _))
      have HLT := hide (show left w' b w.heap.size < left wr b w.heap.size by
        rw [hI'.left, HIt.out.left, hp.length_eq]
        exact Nat.lt_succ_self _)
      rw [hv] at hrun hen
      generalize x.2.2.length = n at *
      generalize x.1 = s at *
      clear hp hI' hg hz hxM hv hsum hsm HA HIt HM HBl H HI HB
      go_wp2_with (at_next; refine wl_next rfl rfl rfl hrun ?_)
      go_roundw
      case rel => exact ⟨M', acc + n, by go_num, HSM, HI', HB', HM'⟩
      case measure => exact HLT.out
end Go.Proofs.Ytdmhcgneafacmaa
