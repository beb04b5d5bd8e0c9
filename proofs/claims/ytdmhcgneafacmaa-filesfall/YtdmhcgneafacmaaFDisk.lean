/- The disk in memory; contracts of closed, Off, refusal, Left, Unsure, spend, New over this seat's translation. -/
import Derived.Test.YtdmhcgneafacmaaFClo
import Derived.Test.YtdmhcgneafacmaaFName
import Derived.Test.YtdmhcgneafacmaaFShelf
import Derived.Deep.QuietTactic
import Derived.BigQuiet
import Derived.Deep.RegionWith
import Derived.Deep.RegionHeld3
namespace Go.Proofs.Ytdmhcgneafacmaa
open Go.RowKit
set_option linter.unusedVariables false
set_option linter.unusedSimpArgs false
set_option maxRecDepth 100000

/-- an act that is not sure -/
structure AM where
  kind : Nat
  name : ByteArray
  to : ByteArray
  bytes : List Int
  n : Nat
/-- files behind an act -/
def doF (f : ByteArray → Option (List Int)) (A : AM) : ByteArray → Option (List Int) :=
  match A.kind with
  | 1 => upd f A.name (some ((f A.name).getD [] ++ A.bytes))
  | 2 => upd f A.name (some (((f A.name).getD []).take A.n))
  | 3 => ren f A.name A.to
  | _ => upd f A.name none
def addLen (A : AM) : Nat := A.bytes.length
def ptr (x : Nat) : Value := .pointer (some ⟨x, 0, none⟩)
/-- an act's two functions, and what they hold: blocks of the colour 7 -/
structure ActV (w : World) (c : Nat → Nat) (v1 v2 : Value) (A : AM) : Prop where
  is : ∃ x y, c x = 7 ∧ c y = 7 ∧ w.cell? ⟨x, 0, none⟩ = some (.string A.name) ∧
    ((A.kind = 1 ∧ v1 = .func (.func 34) #[] #[ptr x, ptr y] ∧ v2 = .func (.func 36) #[] #[ptr y, ptr x] ∧ ∃ v, w.cell? ⟨y, 0, none⟩ = some v ∧ Row w v A.bytes ∧ ∀ g, v.ownBlock = some g → c g = 7) ∨
     (A.kind = 2 ∧ v1 = .func (.func 49) #[] #[ptr x, ptr y] ∧ v2 = .nilFunc ∧ w.cell? ⟨y, 0, none⟩ = some (.int .i64 A.n) ∧ A.n ≤ 9223372036854775807) ∨
     (A.kind = 3 ∧ v1 = .func (.func 51) #[] #[ptr x, ptr y] ∧ v2 = .nilFunc ∧ w.cell? ⟨y, 0, none⟩ = some (.string A.to)) ∨
     (A.kind = 4 ∧ v1 = .func (.func 53) #[] #[ptr x] ∧ v2 = .nilFunc))
theorem ActV.kept {F : Nat → Prop} {w w' : World} {c c' : Nat → Nat} {v1 v2 : Value} {A : AM} (h : ActV w c v1 v2 A) (k : Kept F w w') (hF : ∀ g, c g = 7 → ¬ F g) (hc : ∀ g, g < w.heap.size → c g = 7 → c' g = 7) : ActV w' c' v1 v2 A := by
  obtain ⟨x, y, hx, hy, h1, h2⟩ := h.is
  have hxl := block_lt_of_cell h1
  rcases h2 with ⟨a1, a2, a3, v, a4, a5, a6⟩ | ⟨a1, a2, a3, a4, a5⟩ | ⟨a1, a2, a3, a4⟩ | ⟨a1, a2, a3⟩
  · exact ⟨x, y, hc x hxl hx, hc y (block_lt_of_cell a4) hy, k.cell h1 (hF _ hx), .inl ⟨a1, a2, a3, v, k.cell a4 (hF _ hy), a5.kept k (fun g hg => hF g (a6 g hg)), fun g hg => hc g (a5.lt hg) (a6 g hg)⟩⟩
  · exact ⟨x, y, hc x hxl hx, hc y (block_lt_of_cell a4) hy, k.cell h1 (hF _ hx), .inr (.inl ⟨a1, a2, a3, k.cell a4 (hF _ hy), a5⟩)⟩
  · exact ⟨x, y, hc x hxl hx, hc y (block_lt_of_cell a4) hy, k.cell h1 (hF _ hx), .inr (.inr (.inl ⟨a1, a2, a3, k.cell a4 (hF _ hy)⟩))⟩
  · exact ⟨x, x, hc x hxl hx, hc x hxl hx, k.cell h1 (hF _ hx), .inr (.inr (.inr ⟨a1, a2, a3⟩))⟩

/-- the two functions of each act, one behind the other -/
def flat (fs : List (Value × Value)) : List Value := fs.flatMap fun p => [p.1, p.2]
/-- the acts that are not sure -/
structure Uns (w : World) (c : Nat → Nat) (uv : Value) (acts : List AM) : Prop where
  row : ∃ fs, fs.length = acts.length ∧ w.ownsRow 0 69 2 uv acts.length (flat fs) ∧ (∀ g, uv.ownBlock = some g → c g = 6) ∧ ∀ (i : Nat) p A, fs[i]? = some p → acts[i]? = some A → ActV w c p.1 p.2 A

structure Disk (w : World) (c : Nat → Nat) (f : Nat) (size : Int) (nb sb : Nat) (uv : Value) (N S : List Ent) (acts : List AM) : Prop where
  box : w.heap[f]? = some (.cells #[.int .i64 size, .map (some nb), .map (some sb), uv, .int .i64 (-1)] 59 (0, 0))
  cf : c f = 1
  now : Dir w (fun g => c g = 4) nb N
  cn : c nb = 2
  sure : Dir w (fun g => c g = 5) sb S
  cs : c sb = 3
  uns : Uns w c uv acts
  same : look N = acts.foldl doF (look S)
  fresh : ∀ g, w.heap.size ≤ g → c g = 0

section
variable {w : World} {c : Nat → Nat} {f : Nat} {size : Int} {nb sb : Nat} {uv : Value} {N S : List Ent} {acts : List AM}
theorem Disk.c0 (h : Disk w c f size nb sb uv N S acts) : w.cell? ⟨f, 0, none⟩ = some (.int .i64 size) := by simp [World.cell?, h.box]
theorem Disk.c1 (h : Disk w c f size nb sb uv N S acts) : w.cell? ⟨f, 1, none⟩ = some (.map (some nb)) := by simp [World.cell?, h.box]
theorem Disk.c2 (h : Disk w c f size nb sb uv N S acts) : w.cell? ⟨f, 2, none⟩ = some (.map (some sb)) := by simp [World.cell?, h.box]
theorem Disk.c3 (h : Disk w c f size nb sb uv N S acts) : w.cell? ⟨f, 3, none⟩ = some uv := by simp [World.cell?, h.box]
theorem Disk.c4 (h : Disk w c f size nb sb uv N S acts) : w.cell? ⟨f, 4, none⟩ = some (.int .i64 (-1)) := by simp [World.cell?, h.box]
theorem Disk.fz (h : Disk w c f size nb sb uv N S acts) (k : Nat) : w.frozen? ⟨f, k, none⟩ = false := by simp [World.frozen?, h.box]
theorem Disk.lt (h : Disk w c f size nb sb uv N S acts) : f < w.heap.size := (Array.getElem?_eq_some_iff.1 h.box).1
theorem Uns.kept {F : Nat → Prop} {w' : World} {c' : Nat → Nat} (h : Uns w c uv acts) (k : Kept F w w') (hF : ∀ g, c g = 6 ∨ c g = 7 → ¬ F g) (hc : ∀ g, g < w.heap.size → c g = 6 ∨ c g = 7 → c' g = c g) : Uns w' c' uv acts := by
  obtain ⟨fs, h1, h2, h3, h4⟩ := h.row
  refine ⟨fs, h1, ⟨h2.1, ?_⟩, fun g hg => ?_, fun i p A hp hA => (h4 i p A hp hA).kept k (fun g hg => hF g (.inr hg)) (fun g hl hg => (hc g hl (.inr hg)).trans hg)⟩
  · rcases h2.2 with h | ⟨g, cap, cur, rfl, h0, h5, h6⟩
    · exact .inl h
    · exact .inr ⟨g, cap, cur, rfl, h0, (k.block g (Array.getElem?_eq_some_iff.1 h5).1 (hF g (.inl (h3 g rfl)))).trans h5, h6⟩
  · rcases h2.2 with ⟨rfl, _⟩ | ⟨g', cap, cur, rfl, h0, h5, h6⟩
    · cases hg
    · cases hg
      rw [hc _ (Array.getElem?_eq_some_iff.1 h5).1 (.inl (h3 _ rfl))]
      exact h3 _ rfl
/-- a disk of which nothing is touched -/
theorem Disk.kept {F : Nat → Prop} {w' : World} (h : Disk w c f size nb sb uv N S acts) (k : Kept F w w') (hF : ∀ g, 1 ≤ c g → ¬ F g) : Disk w' c f size nb sb uv N S acts :=
  ⟨(k.block f h.lt (hF f (by rw [h.cf]; decide))).trans h.box, h.cf, h.now.kept k (hF nb (by rw [h.cn]; decide)) (fun g hg => hF g (by have e : c g = 4 := hg; omega)), h.cn, h.sure.kept k (hF sb (by rw [h.cs]; decide)) (fun g hg => hF g (by have e : c g = 5 := hg; omega)), h.cs, h.uns.kept k (fun g hg => hF g (by omega)) (fun _ _ _ => rfl), h.same, fun g hg => h.fresh g (Nat.le_trans k.size hg)⟩
theorem Disk.new {w' : World} (h : Disk w c f size nb sb uv N S acts) (k : Kept Not w w') : Disk w' c f size nb sb uv N S acts := h.kept k (fun _ _ h => h)

set_option maxHeartbeats 400000 in
theorem closed_any (h : Disk w c f size nb sb uv N S acts) : Calls Try.prog 25 #[ptr f] w fun e w' => e = .returned (.bool false) ∧ w' = w := by
  have c1 := h.c1
  clear h
  unfold ptr
  have hq := fun W => run_eql_map_nil (P := Try.prog) W 56 9 31 (some nb) Try.underlying56
  go_enter Try.func25, Try.ntmps25
  go_wp2
  go_ret
  exact ⟨rfl, rfl⟩
set_option maxHeartbeats 400000 in
theorem closed_nil (w : World) : Calls Try.prog 25 #[.pointer none] w fun e w' => e = .returned (.bool true) ∧ w' = w := by
  go_enter Try.func25, Try.ntmps25
  go_wp2
  go_ret
  exact ⟨rfl, rfl⟩
set_option maxHeartbeats 400000 in
theorem off_any (h : Disk w c f size nb sb uv N S acts) : Calls Try.prog 22 #[ptr f] w fun e w' => e = .returned (.bool false) ∧ w' = w := by
  have c4 := h.c4
  have HC := hide (closed_any h)
  clear h
  unfold ptr at *
  go_enter Try.func22, Try.ntmps22
  go_wp2_with (go_at_call 25; refine HC.out.mono ?_; rintro e w1 ⟨rfl, rfl⟩)
  go_ret
  exact ⟨rfl, rfl⟩
set_option maxHeartbeats 400000 in
theorem off_nil (w : World) : Calls Try.prog 22 #[.pointer none] w fun e w' => e = .returned (.bool false) ∧ w' = w := by
  have HC := hide (closed_nil w)
  go_enter Try.func22, Try.ntmps22
  go_wp2_with (go_at_call 25; refine HC.out.mono ?_; rintro e w1 ⟨rfl, rfl⟩)
  go_ret
  exact ⟨rfl, rfl⟩
set_option maxHeartbeats 400000 in
theorem refusal_ok (h : Disk w c f size nb sb uv N S acts) : Calls Try.prog 28 #[ptr f, .bool true] w fun e w' => e = .returned (.int .i64 0) ∧ w' = w := by
  have HC := hide (closed_any h)
  have HO := hide (off_any h)
  clear h
  unfold ptr at *
  go_enter Try.func28, Try.ntmps28
  go_wp2_with (first | (go_at_call 25; refine HC.out.mono ?_; rintro e w1 ⟨rfl, rfl⟩) | (go_at_call 22; refine HO.out.mono ?_; rintro e w1 ⟨rfl, rfl⟩))
  go_ret
  exact ⟨rfl, rfl⟩
set_option maxHeartbeats 400000 in
theorem refusal_no (h : Disk w c f size nb sb uv N S acts) : Calls Try.prog 28 #[ptr f, .bool false] w fun e w' => e = .returned (.int .i64 1) ∧ w' = w := by
  have HC := hide (closed_any h)
  clear h
  unfold ptr at *
  go_enter Try.func28, Try.ntmps28
  go_wp2_with (first | (go_at_call 25; refine HC.out.mono ?_; rintro e w1 ⟨rfl, rfl⟩))
  go_ret
  exact ⟨rfl, rfl⟩
set_option maxHeartbeats 400000 in
theorem refusal_nil (m : Bool) (w : World) : Calls Try.prog 28 #[.pointer none, .bool m] w fun e w' => e = .returned (.int .i64 6) ∧ w' = w := by
  have HC := hide (closed_nil w)
  go_enter Try.func28, Try.ntmps28
  go_wp2_with (first | (go_at_call 25; refine HC.out.mono ?_; rintro e w1 ⟨rfl, rfl⟩))
  go_ret
  exact ⟨rfl, rfl⟩
/-- what a refusal tells -/
def refE (m : Bool) : Int := match m with | true => 0 | false => 1
theorem refusal_any (h : Disk w c f size nb sb uv N S acts) (m : Bool) : Calls Try.prog 28 #[ptr f, .bool m] w fun e w' => e = .returned (.int .i64 (refE m)) ∧ w' = w := by
  cases m
  · exact refusal_no h
  · exact refusal_ok h
set_option maxHeartbeats 400000 in
theorem spend_any (h : Disk w c f size nb sb uv N S acts) : Calls Try.prog 38 #[ptr f] w fun e w' => e = .returned (.tuple #[]) ∧ w' = w := by
  have c4 := h.c4
  clear h
  unfold ptr
  go_enter Try.func38, Try.ntmps38
  go_wp2
  go_end0
  exact ⟨rfl, rfl⟩
set_option maxHeartbeats 400000 in
theorem unsure_nil (w : World) : Calls Try.prog 18 #[.pointer none] w fun e w' => e = .returned (.int .i64 0) ∧ w' = w := by
  have HC := hide (closed_nil w)
  go_enter Try.func18, Try.ntmps18
  go_wp2_with (first | (go_at_call 25; refine HC.out.mono ?_; rintro e w1 ⟨rfl, rfl⟩))
  go_ret
  exact ⟨rfl, rfl⟩
theorem Uns.shape (h : Uns w c uv acts) : ∃ ao cap, uv = .slice ao acts.length cap ∧ acts.length ≤ cap ∧ cap ≤ 9223372036854775807 := by
  obtain ⟨fs, h1, h2, h3, h4⟩ := h.row
  rcases h2.2 with ⟨rfl, h0⟩ | ⟨g, cap, cur, rfl, _, _, h5, h6, _⟩
  · exact ⟨none, 0, by rw [h0], by omega, by omega⟩
  · unfold maxLen at h6
    exact ⟨_, cap, rfl, h5, by omega⟩
set_option maxHeartbeats 400000 in
theorem unsure_any (h : Disk w c f size nb sb uv N S acts) : Calls Try.prog 18 #[ptr f] w fun e w' => e = .returned (.int .i64 acts.length) ∧ w' = w := by
  obtain ⟨ao, cap, rfl, h5, h6⟩ := h.uns.shape
  have c3 := h.c3
  have HC := hide (closed_any h)
  clear h
  unfold ptr at *
  generalize acts.length = n at *
  go_enter Try.func18, Try.ntmps18
  go_wp2_with (first | (go_at_call 25; refine HC.out.mono ?_; rintro e w1 ⟨rfl, rfl⟩))
  go_ret
  exact ⟨rfl, rfl⟩
set_option maxHeartbeats 400000 in
theorem left_nil (w : World) : Calls Try.prog 23 #[.pointer none] w fun e w' => e = .returned (.int .i64 0) ∧ w' = w := by
  have HC := hide (closed_nil w)
  go_enter Try.func23, Try.ntmps23
  go_wp2_with (first | (go_at_call 25; refine HC.out.mono ?_; rintro e w1 ⟨rfl, rfl⟩))
  go_ret
  exact ⟨rfl, rfl⟩
theorem Below.two {w W w' : World} {p q : Addr} {u v : Value} (h : Below w.heap.size w W) (hb : Below W.heap.size W w') (c0 : w.cell? p = some u) (c1 : w.cell? q = some v) : w'.cell? p = some u ∧ w'.cell? q = some v ∧ Hid (Below w.heap.size w w') :=
  have b := h.trans (hb.mono h.size)
  ⟨(b.cell (block_lt_of_cell c0)).trans c0, (b.cell (block_lt_of_cell c1)).trans c1, hide b⟩
set_option maxHeartbeats 1000000 in
theorem left_any (h : Disk w c f size nb sb uv N S acts) (h0 : 0 ≤ size) (h1 : size ≤ 268435456) (h2 : sum N ≤ 140737488355328) : Calls Try.prog 23 #[ptr f] w fun e w' => e = .returned (.int .i64 (size - sum N)) ∧ Hid (Below w.heap.size w w') := by
  have c0 := h.c0
  have c1 := h.c1
  have HC := hide (closed_any h)
  have hb := (Below.refl w.heap.size w).drew
  have HU := hide (used_any _ nb N w.drew (h.now.new (Kept.ofBelow hb)) (by omega))
  have HB2 := hide (fun w' (hb' : Below w.drew.heap.size w.drew w') => Below.two hb hb' c0 c1)
  have d0 : w.drew.cell? ⟨f, 0, none⟩ = some (.int .i64 size) := c0
  have d1 : w.drew.cell? ⟨f, 1, none⟩ = some (.map (some nb)) := c1
  clear h hb
  unfold ptr at *
  generalize sum N = m at *
  go_enter Try.func23, Try.ntmps23
  go_wp2_with (first | (go_at_call 25; refine HC.out.mono ?_; rintro e w1 ⟨rfl, rfl⟩))
  go_region_held3 (fun w' => w'.cell? ⟨f, 0, none⟩ = some (.int .i64 size) ∧ w'.cell? ⟨f, 1, none⟩ = some (.map (some nb))) (exact ⟨by assumption, by assumption⟩)
    (first
      | (go_at_call 57; refine HU.out.mono ?_; rintro e w9 ⟨rfl, hb⟩; obtain ⟨e0, e1, HB⟩ := HB2.out w9 hb.out))
  have hw : IntKind.i64.wrap (size - (m : Int)) = size - m := by rw [IntKind.wrap_i64]; omega
  go_wp2
  go_ret
  exact ⟨by rw [hw]; rfl, HB⟩
end
end Go.Proofs.Ytdmhcgneafacmaa
