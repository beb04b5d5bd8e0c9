/- Contracts of strings.Clone, refusalOf, New and Read over this seat's translation. -/
import Derived.Test.YtdmhcgneafacmaaFDo
namespace Go.Proofs.Ytdmhcgneafacmaa
open Go.RowKit
set_option linter.unusedVariables false
set_option linter.unusedSimpArgs false
set_option maxRecDepth 100000

set_option maxHeartbeats 1000000 in
theorem sclone_any (s : ByteArray) (w : World) (hs : s.size ≤ 32) : Calls Try.prog 31 #[.string s] w fun e w' => e = .returned (.string s) ∧ Hid (Below w.heap.size w w') := by
  have HC := hide (Try.stringslite_Clone s w (by omega))
  go_enter Try.func31, Try.ntmps31
  go_wp2_with (go_at_call 59; refine HC.out.mono ?_; rintro e w1 ⟨rfl, hb⟩; have HB := hide hb; clear hb)
  go_ret
  exact ⟨rfl, HB⟩

/-- what changes by a call on a disk -/
structure Step (w : World) (c : Nat → Nat) (w' : World) (c' : Nat → Nat) : Prop where
  old : ∀ k, k < w.heap.size → c' k = c k
  kept : Kept (fun k => 1 ≤ c k ∧ c k ≠ 7) w w'
theorem Step.trans {w w1 w2 : World} {c c1 c2 : Nat → Nat} (h : Step w c w1 c1) (k : Step w1 c1 w2 c2) : Step w c w2 c2 :=
  ⟨fun i hi => (k.old i (Nat.lt_of_lt_of_le hi h.kept.size)).trans (h.old i hi), h.kept.trans k.kept (fun _ _ e => e) (fun i hi e => by rw [h.old i hi] at e; exact e)⟩
theorem Step.of {w w' : World} {c : Nat → Nat} (k : Kept Not w w') : Step w c w' c := ⟨fun _ _ => rfl, k.mono (fun _ _ h => h.elim)⟩
def High (B : Nat) (c : Nat → Nat) : Prop := ∀ g, 1 ≤ c g → B ≤ g
theorem High.step {B : Nat} {w w' : World} {c c' : Nat → Nat} (h : High B c) (k : Step w c w' c') (hB : B ≤ w.heap.size) : High B c' := fun g hg => by
  by_cases e : g < w.heap.size
  · rw [k.old g e] at hg
    exact h g hg
  · omega
theorem Step.below {B : Nat} {w w' : World} {c c' : Nat → Nat} (k : Step w c w' c') (h : High B c) (hB : B ≤ w.heap.size) : Below B w w' := k.kept.below hB (fun g hg => h g hg.1)

section
variable {w : World} {c : Nat → Nat} {f : Nat} {size : Int} {nb sb : Nat} {uv : Value} {N S : List Ent} {acts : List AM}
/-- why nothing is done with a file -/
def noE (ok : Bool) (o : Option (List Int)) : Int := match ok, o with | false, _ => 1 | true, none => 4 | true, some _ => 0
set_option maxHeartbeats 1000000 in
theorem refusalOf_no (h : Disk w c f size nb sb uv N S acts) (s : ByteArray) (hs : s.size ≤ 9223372036854775807) (m : Bool) (hm : (okN s && m) = false) :
    Calls Try.prog 48 #[ptr f, .string s, .bool m] w fun e w' => e = .returned (.int .i64 1) ∧ Hid (Below w.heap.size w w') := by
  have HN := hide (name_any s w hs)
  have HR := hide (fun W (hb : Below w.heap.size w W) => refusal_no (h.new (Kept.ofBelow hb)))
  unfold ptr at *
  clear h
  cases ho : okN s
  · rw [ho] at HN
    go_enter Try.func48, Try.ntmps48
    go_wp2_with (first | (go_at_call 29; refine HN.out.mono ?_; rintro e w1 ⟨rfl, HB⟩) | (go_at_call 28; refine (HR.out _ HB.out).mono ?_; rintro e w2 ⟨rfl, rfl⟩))
    go_ret
    exact ⟨rfl, HB⟩
  · rw [ho] at HN hm
    simp only [Bool.true_and] at hm
    subst hm
    go_enter Try.func48, Try.ntmps48
    go_wp2_with (first | (go_at_call 29; refine HN.out.mono ?_; rintro e w1 ⟨rfl, HB⟩) | (go_at_call 28; refine (HR.out _ HB.out).mono ?_; rintro e w2 ⟨rfl, rfl⟩))
    go_ret
    exact ⟨rfl, HB⟩
set_option maxHeartbeats 1000000 in
theorem refusalOf_yes (h : Disk w c f size nb sb uv N S acts) (s : ByteArray) (hs : s.size ≤ 9223372036854775807) (ho : okN s = true) :
    Calls Try.prog 48 #[ptr f, .string s, .bool true] w fun e w' => e = .returned (.int .i64 (noE true (look N s))) ∧ Hid (Below w.heap.size w w') := by
  have HN := hide (name_any s w hs)
  rw [ho] at HN
  have HR := hide (fun W (hb : Below w.heap.size w W) => refusal_ok (h.new (Kept.ofBelow hb)))
  have HH := hide (fun W (hb : Below w.heap.size w W) => has_any _ nb N s W (h.now.new (Kept.ofBelow hb)))
  have HC := hide (fun W (hb : Below w.heap.size w W) => (h.new (Kept.ofBelow hb)).c1)
  unfold ptr at *
  clear h
  cases hl : look N s
  · rw [hl] at HH
    simp only [Option.isSome] at HH
    go_enter Try.func48, Try.ntmps48
    go_wp2_with (first | (go_at_call 29; refine HN.out.mono ?_; rintro e w1 ⟨rfl, HB⟩; have c1 := HC.out _ HB.out) | (go_at_call 28; refine (HR.out _ HB.out).mono ?_; rintro e w2 ⟨rfl, rfl⟩) | (go_at_call 30; refine (HH.out _ HB.out).mono ?_; rintro e w2 ⟨rfl, rfl⟩))
    go_ret
    exact ⟨rfl, HB⟩
  · rw [hl] at HH
    simp only [Option.isSome] at HH
    go_enter Try.func48, Try.ntmps48
    go_wp2_with (first | (go_at_call 29; refine HN.out.mono ?_; rintro e w1 ⟨rfl, HB⟩; have c1 := HC.out _ HB.out) | (go_at_call 28; refine (HR.out _ HB.out).mono ?_; rintro e w2 ⟨rfl, rfl⟩) | (go_at_call 30; refine (HH.out _ HB.out).mono ?_; rintro e w2 ⟨rfl, rfl⟩))
    go_ret
    exact ⟨rfl, HB⟩
set_option maxHeartbeats 1000000 in
theorem refusalOf_nil (s : ByteArray) (hs : s.size ≤ 9223372036854775807) (m : Bool) (w : World) :
    Calls Try.prog 48 #[.pointer none, .string s, .bool m] w fun e w' => e = .returned (.int .i64 6) ∧ Hid (Below w.heap.size w w') := by
  have HN := hide (name_any s w hs)
  have HR := hide (fun m W => refusal_nil m W)
  cases ho : okN s
  · rw [ho] at HN
    go_enter Try.func48, Try.ntmps48
    go_wp2_with (first | (go_at_call 29; refine HN.out.mono ?_; rintro e w1 ⟨rfl, HB⟩) | (go_at_call 28; refine (HR.out _ _).mono ?_; rintro e w2 ⟨rfl, rfl⟩))
    go_ret
    exact ⟨rfl, HB⟩
  · rw [ho] at HN
    go_enter Try.func48, Try.ntmps48
    go_wp2_with (first | (go_at_call 29; refine HN.out.mono ?_; rintro e w1 ⟨rfl, HB⟩) | (go_at_call 28; refine (HR.out _ _).mono ?_; rintro e w2 ⟨rfl, rfl⟩))
    go_ret
    exact ⟨rfl, HB⟩

set_option maxHeartbeats 1000000 in
/-- a file that is there is read -/
theorem read_yes (h : Disk w c f size nb sb uv N S acts) (s : ByteArray) (hs : s.size ≤ 9223372036854775807) (ho : okN s = true) (zs : List Int) (hl : look N s = some zs) (hz : zs.length ≤ 140737488355328) :
    Calls Try.prog 21 #[ptr f, .string s] w fun e w' => ∃ v, e = .returned (.tuple #[v, .int .i64 0]) ∧ Hid (NewRow w w' v zs) := by
  have HR := hide (refusalOf_yes h s hs ho)
  rw [hl] at HR
  have HC := hide (fun W (hb : Below w.heap.size w W) => (h.new (Kept.ofBelow hb)).c1)
  have HL := hide (fun W (hb : Below w.heap.size w W) => (h.now.new (Kept.ofBelow hb)).lookup s false)
  obtain ⟨ao, cap, hv, hB, hc1, hc2⟩ := (h.now.at s).1.isB
  rw [hl] at hv hB hc1
  simp only [Option.getD_some] at hv hB hc1
  have HCL := hide (fun W (hb : Below w.heap.size w W) => clone_any ao cap zs W (hB.below hb) hz)
  simp only [Bool.false_eq_true, if_false, hv] at HL
  have HF := hide (fun W w9 v (hb : Below w.heap.size w W) (hn : NewRow W w9 v zs) => show NewRow w w9 v zs from ⟨hn.1, hb.trans (hn.2.1.mono hb.size), fun g hg => Nat.le_trans hb.size (hn.2.2 g hg)⟩)
  unfold ptr at *
  clear h hv hB hl
  generalize zs.length = n at *
  go_enter Try.func21, Try.ntmps21
  go_wp2_with (first | (go_at_call 48; refine HR.out.mono ?_; rintro e w1 ⟨rfl, HB⟩; have c1 := HC.out _ HB.out; have l1 := HL.out _ HB.out) | (go_at_call 32; refine (HCL.out _ HB.out).mono ?_; rintro e w2 ⟨v, rfl, hn⟩; have HFN := hide (HF.out _ _ _ HB.out hn.out); clear hn))
  go_ret2
  exact ⟨v, rfl, HFN⟩
set_option maxHeartbeats 1000000 in
/-- one that may not be, or is not there, is not -/
theorem read_no (h : Disk w c f size nb sb uv N S acts) (s : ByteArray) (hs : s.size ≤ 9223372036854775807) (ho : okN s = false) :
    Calls Try.prog 21 #[ptr f, .string s] w fun e w' => e = .returned (.tuple #[.slice none 0 0, .int .i64 1]) ∧ Hid (Below w.heap.size w w') := by
  have HR := hide (refusalOf_no h s hs true (by rw [ho]; rfl))
  unfold ptr at *
  clear h
  go_enter Try.func21, Try.ntmps21
  go_wp2_with (first | (go_at_call 48; refine HR.out.mono ?_; rintro e w1 ⟨rfl, HB⟩))
  go_ret2
  exact ⟨rfl, HB⟩
set_option maxHeartbeats 1000000 in
theorem read_nil (s : ByteArray) (hs : s.size ≤ 9223372036854775807) (w : World) :
    Calls Try.prog 21 #[.pointer none, .string s] w fun e w' => e = .returned (.tuple #[.slice none 0 0, .int .i64 6]) ∧ Hid (Below w.heap.size w w') := by
  have HR := hide (refusalOf_nil s hs true w)
  go_enter Try.func21, Try.ntmps21
  go_wp2_with (first | (go_at_call 48; refine HR.out.mono ?_; rintro e w1 ⟨rfl, HB⟩))
  go_ret2
  exact ⟨rfl, HB⟩
end
/-- a new disk -/
def cNew (B : Nat) : Nat → Nat := fun g => if g = B then 2 else if g = B + 1 then 3 else if g = B + 2 then 1 else 0
theorem disk_new (w : World) (size : Int) : Disk (((w.alloc (.map #[] 0)).alloc (.map #[] 0)).alloc (.cells #[.int .i64 size, .map (some w.heap.size), .map (some (w.heap.size + 1)), .slice none 0 0, .int .i64 (-1)] 59)) (cNew w.heap.size) (w.heap.size + 2) size w.heap.size (w.heap.size + 1) (.slice none 0 0) [] [] [] := by
  have e0 : (((w.alloc (.map #[] 0)).alloc (.map #[] 0)).alloc (.cells #[.int .i64 size, .map (some w.heap.size), .map (some (w.heap.size + 1)), .slice none 0 0, .int .i64 (-1)] 59)).heap.size = w.heap.size + 3 := by simp
  refine ⟨?_, ?_, ⟨⟨#[], 0, ?_, rfl, by simp, by simp⟩, by simp, by simp, List.Pairwise.nil, ?_⟩, ?_, ⟨⟨#[], 0, ?_, rfl, by simp, by simp⟩, by simp, by simp, List.Pairwise.nil, ?_⟩, ?_, ⟨[], rfl, ⟨rfl, .inl ⟨rfl, rfl⟩⟩, by simp [Value.ownBlock], by simp⟩, rfl, ?_⟩
  · have := heap_alloc_new ((w.alloc (.map #[] 0)).alloc (.map #[] 0)) (.cells #[.int .i64 size, .map (some w.heap.size), .map (some (w.heap.size + 1)), .slice none 0 0, .int .i64 (-1)] 59)
    simpa using this
  · simp [cNew]
  · rw [(MapKept.heap_alloc _ _).2 _ (by simp; omega), (MapKept.heap_alloc _ _).2 _ (by simp)]
    exact heap_alloc_new w _
  · simp [cNew]
  · simp [cNew]
  · rw [(MapKept.heap_alloc _ _).2 _ (by simp)]
    have := heap_alloc_new (w.alloc (.map #[] 0)) (.map #[] 0)
    simpa using this
  · simp [cNew]
  · simp [cNew]
  · intro g hg
    rw [e0] at hg
    unfold cNew
    rw [if_neg (by omega), if_neg (by omega), if_neg (by omega)]
set_option maxHeartbeats 1000000 in
theorem new_any (size : Int) (h0 : 0 ≤ size) (h1 : size ≤ 268435456) (w : World) : Calls Try.prog 7 #[.int .i64 size] w fun e w' => e = .returned (.tuple #[ptr (w.heap.size + 2), .int .i64 0]) ∧
    Hid (Disk w' (cNew w.heap.size) (w.heap.size + 2) size w.heap.size (w.heap.size + 1) (.slice none 0 0) [] [] [] ∧ Below w.heap.size w w' ∧ High w.heap.size (cNew w.heap.size)) := by
  have HD := hide (disk_new w size)
  have HB := hide ((((Below.refl w.heap.size w).alloc (Nat.le_refl _) (.map #[] 0)).alloc (by simp) (.map #[] 0)).alloc (by simp; omega) (.cells #[.int .i64 size, .map (some w.heap.size), .map (some (w.heap.size + 1)), .slice none 0 0, .int .i64 (-1)] 59))
  have HH : High w.heap.size (cNew w.heap.size) := fun g hg => by
    unfold cNew at hg
    repeat' split at hg
    all_goals omega
  have HH' := hide HH
  have hmm := @run_makeMap Try.prog
  clear HH
  unfold ptr
  go_enter Try.func7, Try.ntmps7
  go_wp2
  go_ret2
  exact ⟨rfl, hide ⟨HD.out, HB.out, HH'.out⟩⟩
end Go.Proofs.Ytdmhcgneafacmaa
