/- The contracts of wire's fieldsOf and the document's Fields, and of the deeds' makers, over this seat's translation. -/
import Derived.Test.YtcbadmkgbaffpaaWTo
import Derived.Test.YtcbadmkgbaffpaaWCloB
import Derived.Shelf.Abstract
namespace Go.Proofs.Ytcbadmkgbaffpaa
open Go.RowKit
set_option linter.unusedVariables false

/-- the fields that a kind has, by their numbers -/
def fl (K : Int) : List Nat :=
  if K = 1 then [0, 1, 2, 3, 4, 5] else if K = 2 then [0, 1, 6] else if K = 3 then [0, 1, 11] else if K = 4 then [0, 8, 9] else if K = 5 then [0, 6, 7, 9] else if K = 6 then [0, 7, 9, 10] else []
/-- the type of the field number i -/
def tyV (i : Nat) : Value := .int .u64 (2 * (i : Int) + 1)
/-- a row of types in block g -/
def FlAt (w : World) (g : Nat) (l : List Nat) : Prop := (l ≠ [] → g < w.heap.size) ∧ ∀ (j i : Nat), l[j]? = some i → w.cell? ⟨g, j, none⟩ = some (tyV i)
def fv (l : List Nat) (g : Nat) : Value := if l = [] then .slice none 0 0 else .slice (some ⟨g, 0, none⟩) l.length l.length
theorem FlAt.kept {w w' : World} {g : Nat} {l : List Nat} (h : FlAt w g l) (hs : w.heap.size ≤ w'.heap.size) (hb : g < w.heap.size → w'.heap[g]? = w.heap[g]?) : FlAt w' g l :=
  ⟨fun hl => Nat.lt_of_lt_of_le (h.1 hl) hs, fun j i hj => (World.cell?_of_block (a := ⟨g, j, none⟩) (hb (h.1 (by intro e; rw [e] at hj; simp at hj)))).trans (h.2 j i hj)⟩
theorem FlAt.below {w w' : World} {g : Nat} {l : List Nat} (h : FlAt w g l) (hb : Below w.heap.size w w') : FlAt w' g l := h.kept hb.size (fun hg => hb.block g hg)
theorem FlAt.grown {w w' : World} {g : Nat} {l : List Nat} {row : Option Nat} (h : FlAt w g l) (hb : w.grownBy w' row) (hne : some g ≠ row) : FlAt w' g l := h.kept hb.size (fun hg => hb.block g hg hne)
theorem fl_new (w : World) (l : List Nat) : FlAt (w.alloc (.cells (l.map tyV).toArray 36)) w.heap.size l :=
  ⟨fun _ => by simp, fun j i hj => by rw [World.cell?_alloc_at _ _ _ _ rfl]; simp [hj]⟩

theorem fields1 (w : World) : Calls Try.prog 20 #[.int .i64 1] w fun e w' => e = .returned (fv [0, 1, 2, 3, 4, 5] w.heap.size) ∧ w' = w.alloc (.cells (([0, 1, 2, 3, 4, 5] : List Nat).map tyV).toArray 36) := by
  go_enter Try.func20, Try.ntmps20
  go_wp2
  go_ret
  exact ⟨rfl, rfl⟩
theorem fields2 (w : World) : Calls Try.prog 20 #[.int .i64 2] w fun e w' => e = .returned (fv [0, 1, 6] w.heap.size) ∧ w' = w.alloc (.cells (([0, 1, 6] : List Nat).map tyV).toArray 36) := by
  go_enter Try.func20, Try.ntmps20
  go_wp2
  go_ret
  exact ⟨rfl, rfl⟩
theorem fields3 (w : World) : Calls Try.prog 20 #[.int .i64 3] w fun e w' => e = .returned (fv [0, 1, 11] w.heap.size) ∧ w' = w.alloc (.cells (([0, 1, 11] : List Nat).map tyV).toArray 36) := by
  go_enter Try.func20, Try.ntmps20
  go_wp2
  go_ret
  exact ⟨rfl, rfl⟩
theorem fields4 (w : World) : Calls Try.prog 20 #[.int .i64 4] w fun e w' => e = .returned (fv [0, 8, 9] w.heap.size) ∧ w' = w.alloc (.cells (([0, 8, 9] : List Nat).map tyV).toArray 36) := by
  go_enter Try.func20, Try.ntmps20
  go_wp2
  go_ret
  exact ⟨rfl, rfl⟩
theorem fields5 (w : World) : Calls Try.prog 20 #[.int .i64 5] w fun e w' => e = .returned (fv [0, 6, 7, 9] w.heap.size) ∧ w' = w.alloc (.cells (([0, 6, 7, 9] : List Nat).map tyV).toArray 36) := by
  go_enter Try.func20, Try.ntmps20
  go_wp2
  go_ret
  exact ⟨rfl, rfl⟩
theorem fields6 (w : World) : Calls Try.prog 20 #[.int .i64 6] w fun e w' => e = .returned (fv [0, 7, 9, 10] w.heap.size) ∧ w' = w.alloc (.cells (([0, 7, 9, 10] : List Nat).map tyV).toArray 36) := by
  go_enter Try.func20, Try.ntmps20
  go_wp2
  go_ret
  exact ⟨rfl, rfl⟩
theorem fields0 (K : Int) (w : World) (h1 : K ≠ 1) (h2 : K ≠ 2) (h3 : K ≠ 3) (h4 : K ≠ 4) (h5 : K ≠ 5) (h6 : K ≠ 6) : Calls Try.prog 20 #[.int .i64 K] w fun e w' => e = .returned (fv [] w.heap.size) ∧ w' = w := by
  have g1 : (K == 1) = false := beq_eq_false_iff_ne.2 h1
  have g2 : (K == 2) = false := beq_eq_false_iff_ne.2 h2
  have g3 : (K == 3) = false := beq_eq_false_iff_ne.2 h3
  have g4 : (K == 4) = false := beq_eq_false_iff_ne.2 h4
  have g5 : (K == 5) = false := beq_eq_false_iff_ne.2 h5
  have g6 : (K == 6) = false := beq_eq_false_iff_ne.2 h6
  clear h1 h2 h3 h4 h5 h6
  go_enter Try.func20, Try.ntmps20
  go_wp2
  go_ret
  exact ⟨rfl, rfl⟩
theorem fields_any (K : Int) (w : World) : Calls Try.prog 20 #[.int .i64 K] w fun e w' => e = .returned (fv (fl K) w.heap.size) ∧ FlAt w' w.heap.size (fl K) ∧ Below w.heap.size w w' := by
  unfold fl
  by_cases h1 : K = 1
  · subst h1
    refine (fields1 w).mono fun e w' h => ⟨h.1, by rw [h.2]; exact fl_new w [0, 1, 2, 3, 4, 5], by rw [h.2]; exact (Below.refl _ _).alloc (Nat.le_refl _) _⟩
  rw [if_neg h1]
  by_cases h2 : K = 2
  · subst h2
    refine (fields2 w).mono fun e w' h => ⟨h.1, by rw [h.2]; exact fl_new w [0, 1, 6], by rw [h.2]; exact (Below.refl _ _).alloc (Nat.le_refl _) _⟩
  rw [if_neg h2]
  by_cases h3 : K = 3
  · subst h3
    refine (fields3 w).mono fun e w' h => ⟨h.1, by rw [h.2]; exact fl_new w [0, 1, 11], by rw [h.2]; exact (Below.refl _ _).alloc (Nat.le_refl _) _⟩
  rw [if_neg h3]
  by_cases h4 : K = 4
  · subst h4
    refine (fields4 w).mono fun e w' h => ⟨h.1, by rw [h.2]; exact fl_new w [0, 8, 9], by rw [h.2]; exact (Below.refl _ _).alloc (Nat.le_refl _) _⟩
  rw [if_neg h4]
  by_cases h5 : K = 5
  · subst h5
    refine (fields5 w).mono fun e w' h => ⟨h.1, by rw [h.2]; exact fl_new w [0, 6, 7, 9], by rw [h.2]; exact (Below.refl _ _).alloc (Nat.le_refl _) _⟩
  rw [if_neg h5]
  by_cases h6 : K = 6
  · subst h6
    refine (fields6 w).mono fun e w' h => ⟨h.1, by rw [h.2]; exact fl_new w [0, 7, 9, 10], by rw [h.2]; exact (Below.refl _ _).alloc (Nat.le_refl _) _⟩
  rw [if_neg h6]
  exact (fields0 K w h1 h2 h3 h4 h5 h6).mono fun e w' h => ⟨h.1, ⟨fun hn => absurd rfl hn, fun j i hj => by simp at hj⟩, by rw [h.2]; exact Below.refl _ _⟩

theorem rfields1 (w : World) : Calls Try.prog 23 #[.int .i64 1] w fun e w' => e = .returned (fv [0, 1, 2, 3, 4, 5] w.heap.size) ∧ w' = w.alloc (.cells (([0, 1, 2, 3, 4, 5] : List Nat).map tyV).toArray 36) := by
  go_enter Try.func23, Try.ntmps23
  go_wp2
  go_ret
  exact ⟨rfl, rfl⟩
theorem rfields2 (w : World) : Calls Try.prog 23 #[.int .i64 2] w fun e w' => e = .returned (fv [0, 1, 6] w.heap.size) ∧ w' = w.alloc (.cells (([0, 1, 6] : List Nat).map tyV).toArray 36) := by
  go_enter Try.func23, Try.ntmps23
  go_wp2
  go_ret
  exact ⟨rfl, rfl⟩
theorem rfields3 (w : World) : Calls Try.prog 23 #[.int .i64 3] w fun e w' => e = .returned (fv [0, 1, 11] w.heap.size) ∧ w' = w.alloc (.cells (([0, 1, 11] : List Nat).map tyV).toArray 36) := by
  go_enter Try.func23, Try.ntmps23
  go_wp2
  go_ret
  exact ⟨rfl, rfl⟩
theorem rfields4 (w : World) : Calls Try.prog 23 #[.int .i64 4] w fun e w' => e = .returned (fv [0, 8, 9] w.heap.size) ∧ w' = w.alloc (.cells (([0, 8, 9] : List Nat).map tyV).toArray 36) := by
  go_enter Try.func23, Try.ntmps23
  go_wp2
  go_ret
  exact ⟨rfl, rfl⟩
theorem rfields5 (w : World) : Calls Try.prog 23 #[.int .i64 5] w fun e w' => e = .returned (fv [0, 6, 7, 9] w.heap.size) ∧ w' = w.alloc (.cells (([0, 6, 7, 9] : List Nat).map tyV).toArray 36) := by
  go_enter Try.func23, Try.ntmps23
  go_wp2
  go_ret
  exact ⟨rfl, rfl⟩
theorem rfields6 (w : World) : Calls Try.prog 23 #[.int .i64 6] w fun e w' => e = .returned (fv [0, 7, 9, 10] w.heap.size) ∧ w' = w.alloc (.cells (([0, 7, 9, 10] : List Nat).map tyV).toArray 36) := by
  go_enter Try.func23, Try.ntmps23
  go_wp2
  go_ret
  exact ⟨rfl, rfl⟩
theorem rfields0 (K : Int) (w : World) (h1 : K ≠ 1) (h2 : K ≠ 2) (h3 : K ≠ 3) (h4 : K ≠ 4) (h5 : K ≠ 5) (h6 : K ≠ 6) : Calls Try.prog 23 #[.int .i64 K] w fun e w' => e = .returned (fv [] w.heap.size) ∧ w' = w := by
  have g1 : (K == 1) = false := beq_eq_false_iff_ne.2 h1
  have g2 : (K == 2) = false := beq_eq_false_iff_ne.2 h2
  have g3 : (K == 3) = false := beq_eq_false_iff_ne.2 h3
  have g4 : (K == 4) = false := beq_eq_false_iff_ne.2 h4
  have g5 : (K == 5) = false := beq_eq_false_iff_ne.2 h5
  have g6 : (K == 6) = false := beq_eq_false_iff_ne.2 h6
  clear h1 h2 h3 h4 h5 h6
  go_enter Try.func23, Try.ntmps23
  go_wp2
  go_ret
  exact ⟨rfl, rfl⟩
theorem rfields_any (K : Int) (w : World) : Calls Try.prog 23 #[.int .i64 K] w fun e w' => e = .returned (fv (fl K) w.heap.size) ∧ FlAt w' w.heap.size (fl K) ∧ Below w.heap.size w w' := by
  unfold fl
  by_cases h1 : K = 1
  · subst h1
    refine (rfields1 w).mono fun e w' h => ⟨h.1, by rw [h.2]; exact fl_new w [0, 1, 2, 3, 4, 5], by rw [h.2]; exact (Below.refl _ _).alloc (Nat.le_refl _) _⟩
  rw [if_neg h1]
  by_cases h2 : K = 2
  · subst h2
    refine (rfields2 w).mono fun e w' h => ⟨h.1, by rw [h.2]; exact fl_new w [0, 1, 6], by rw [h.2]; exact (Below.refl _ _).alloc (Nat.le_refl _) _⟩
  rw [if_neg h2]
  by_cases h3 : K = 3
  · subst h3
    refine (rfields3 w).mono fun e w' h => ⟨h.1, by rw [h.2]; exact fl_new w [0, 1, 11], by rw [h.2]; exact (Below.refl _ _).alloc (Nat.le_refl _) _⟩
  rw [if_neg h3]
  by_cases h4 : K = 4
  · subst h4
    refine (rfields4 w).mono fun e w' h => ⟨h.1, by rw [h.2]; exact fl_new w [0, 8, 9], by rw [h.2]; exact (Below.refl _ _).alloc (Nat.le_refl _) _⟩
  rw [if_neg h4]
  by_cases h5 : K = 5
  · subst h5
    refine (rfields5 w).mono fun e w' h => ⟨h.1, by rw [h.2]; exact fl_new w [0, 6, 7, 9], by rw [h.2]; exact (Below.refl _ _).alloc (Nat.le_refl _) _⟩
  rw [if_neg h5]
  by_cases h6 : K = 6
  · subst h6
    refine (rfields6 w).mono fun e w' h => ⟨h.1, by rw [h.2]; exact fl_new w [0, 7, 9, 10], by rw [h.2]; exact (Below.refl _ _).alloc (Nat.le_refl _) _⟩
  rw [if_neg h6]
  exact (rfields0 K w h1 h2 h3 h4 h5 h6).mono fun e w' h => ⟨h.1, ⟨fun hn => absurd rfl hn, fun j i hj => by simp at hj⟩, by rw [h.2]; exact Below.refl _ _⟩

theorem enters_within1 : Enters 46 := enters_of Try.func46 (by kernel_rfl) rfl
theorem enters_within2 : Enters 47 := enters_of Try.func47 (by kernel_rfl) rfl
theorem enters_within3 : Enters 48 := enters_of Try.func48 (by kernel_rfl) rfl
theorem make_within (w : World) : Calls Try.prog 27 #[] w fun e w' => e = .returned (deedV 46 47 48 #[]) ∧ Below w.heap.size w w' := by
  go_enter Try.func27, Try.ntmps27
  go_wp2
  exact bodyPost_ret (v := deedV 46 47 48 #[]) (by simp [results, Try.results27, go_sem, deedV]) rfl ⟨rfl, (Below.refl _ _).alloc (Nat.le_refl _) _⟩

theorem enters_zero1 : Enters 49 := enters_of Try.func49 (by kernel_rfl) rfl
theorem enters_zero2 : Enters 50 := enters_of Try.func50 (by kernel_rfl) rfl
theorem enters_zero3 : Enters 51 := enters_of Try.func51 (by kernel_rfl) rfl
theorem make_zero (w : World) : Calls Try.prog 28 #[] w fun e w' => e = .returned (deedV 49 50 51 #[]) ∧ Below w.heap.size w w' := by
  go_enter Try.func28, Try.ntmps28
  go_wp2
  exact bodyPost_ret (v := deedV 49 50 51 #[]) (by simp [results, Try.results28, go_sem, deedV]) rfl ⟨rfl, (Below.refl _ _).alloc (Nat.le_refl _) _⟩

theorem enters_cloned1 : Enters 52 := enters_of Try.func52 (by kernel_rfl) rfl
theorem enters_cloned2 : Enters 53 := enters_of Try.func53 (by kernel_rfl) rfl
theorem enters_cloned3 : Enters 54 := enters_of Try.func54 (by kernel_rfl) rfl
theorem make_cloned (w : World) : Calls Try.prog 29 #[] w fun e w' => e = .returned (deedV 52 53 54 #[]) ∧ Below w.heap.size w w' := by
  go_enter Try.func29, Try.ntmps29
  go_wp2
  exact bodyPost_ret (v := deedV 52 53 54 #[]) (by simp [results, Try.results29, go_sem, deedV]) rfl ⟨rfl, (Below.refl _ _).alloc (Nat.le_refl _) _⟩

theorem enters_wiped1 : Enters 56 := enters_of Try.func56 (by kernel_rfl) rfl
theorem enters_wiped2 : Enters 57 := enters_of Try.func57 (by kernel_rfl) rfl
theorem enters_wiped3 : Enters 58 := enters_of Try.func58 (by kernel_rfl) rfl
theorem make_wiped (w : World) : Calls Try.prog 30 #[] w fun e w' => e = .returned (deedV 56 57 58 #[]) ∧ Below w.heap.size w w' := by
  go_enter Try.func30, Try.ntmps30
  go_wp2
  exact bodyPost_ret (v := deedV 56 57 58 #[]) (by simp [results, Try.results30, go_sem, deedV]) rfl ⟨rfl, (Below.refl _ _).alloc (Nat.le_refl _) _⟩

end Go.Proofs.Ytcbadmkgbaffpaa
