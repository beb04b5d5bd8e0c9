/- The contract of Remove over this seat's translation. -/
import Derived.Test.YtdmhcgneafacmaaFApp
namespace Go.Proofs.Ytdmhcgneafacmaa
open Go.RowKit
set_option linter.unusedVariables false
set_option linter.unusedSimpArgs false
set_option maxRecDepth 100000

/-- one box that a call has laid -/
structure Ge (w : World) (u : Value) (t1 : TypeId) (W : World) : Prop where
  kept : Kept Not w W
  one : W.heap[w.heap.size]? = some (.cells #[u] t1 (0, 0))
theorem Ge.start (w : World) (u : Value) (t1 : TypeId) : Ge w u t1 (w.alloc (.cells #[u] t1)) := ⟨Kept.alloc w _, heap_alloc_new w _⟩
theorem Ge.lt {w : World} {u : Value} {t1 : TypeId} {W : World} (h : Ge w u t1 W) : w.heap.size < W.heap.size := (Array.getElem?_eq_some_iff.1 h.one).1
theorem Ge.next {w : World} {u : Value} {t1 : TypeId} {W W' : World} (h : Ge w u t1 W) (b : Below W.heap.size W W') : Ge w u t1 W' := ⟨h.kept.next (Kept.ofBelow b), (b.block _ h.lt).trans h.one⟩
theorem Ge.c0 {w : World} {u : Value} {t1 : TypeId} {W : World} (h : Ge w u t1 W) : W.cell? ⟨w.heap.size, 0, none⟩ = some u := by simp [World.cell?, h.one]
theorem Ge.f0 {w : World} {u : Value} {t1 : TypeId} {W : World} (h : Ge w u t1 W) : W.frozen? ⟨w.heap.size, 0, none⟩ = false := by simp [World.frozen?, h.one]
theorem Ge.set0 {w : World} {u u' : Value} {t1 : TypeId} {W : World} (h : Ge w u t1 W) : Ge w u' t1 (W.setCell ⟨w.heap.size, 0, none⟩ u') :=
  ⟨h.kept.trans (keptStore W _ _ _) (fun _ _ h => h) (fun i hi e => by omega), heap_setCell_same W _ 0 _ _ _ h.one⟩
section
variable {w : World} {c : Nat → Nat} {f : Nat} {size : Int} {nb sb : Nat} {uv : Value} {N S : List Ent} {acts : List AM}
set_option maxHeartbeats 1000000 in
theorem remove_no (h : Disk w c f size nb sb uv N S acts) (s : ByteArray) (hs : s.size ≤ 9223372036854775807) (E : Int) (hE : E ≠ 0)
    (HC : ∀ W, Kept Not w W → Calls Try.prog 48 #[ptr f, .string s, .bool true] W fun e w' => e = .returned (.int .i64 E) ∧ Hid (Below W.heap.size W w')) :
    Calls Try.prog 16 #[ptr f, .string s] w fun e w' => e = .returned (.int .i64 E) ∧ Hid (Kept Not w w') := by
  have g0 := Ge.start w (.string s) 9
  have H48 := hide (HC _ g0.kept)
  have HG := hide (fun W (hb : Below (w.alloc (.cells #[.string s] 9)).heap.size (w.alloc (.cells #[.string s] 9)) W) => (g0.next hb).kept)
  have hne : (E != 0) = true := by simp [hE]
  clear h g0 HC hE
  unfold ptr at *
  go_enter Try.func16, Try.ntmps16
  go_wp2_with (first | (go_at_call 48; refine H48.out.mono ?_; rintro e w1 ⟨rfl, hb⟩; have HK := hide (HG.out _ hb.out); clear hb))
  go_ret
  exact ⟨rfl, HK⟩
/-- behind the store the act is laid -/
theorem removed {w6 : World} {s : ByteArray} (h : Disk w c f size nb sb uv N S acts) (g6 : Ge w (.string s) 9 w6) (hl : sum N ≤ 140737488355328) (ha : acts.length ≤ 1000000000) :
    w6.cell? ⟨w.heap.size, 0, none⟩ = some (.string s) ∧ w6.frozen? ⟨w.heap.size, 0, none⟩ = false ∧
    Hid (Calls Try.prog 33 #[.pointer (some ⟨f, 0, none⟩), .agg #[.func (.func 53) #[] #[.pointer (some ⟨w.heap.size, 0, none⟩)], .nilFunc]] (w6.setCell ⟨w.heap.size, 0, none⟩ (.string s)) fun e w' => e = .returned (.tuple #[]) ∧ Hid (After w w' c f size nb sb N S acts ⟨4, s, s, [], 0⟩)) := by
  have g7 := g6.set0 (u' := .string s)
  have hA : ActV (w6.setCell ⟨w.heap.size, 0, none⟩ (.string s)) (paint c w.heap.size (w6.setCell ⟨w.heap.size, 0, none⟩ (.string s)).heap.size 7) (.func (.func 53) #[] #[ptr w.heap.size]) .nilFunc ⟨4, s, s, [], 0⟩ :=
    ⟨w.heap.size, w.heap.size, paint_new (Nat.le_refl _) g7.lt, paint_new (Nat.le_refl _) g7.lt, g7.c0, .inr (.inr (.inr ⟨rfl, rfl, rfl⟩))⟩
  exact ⟨g6.c0, g6.f0, hide ((do_any (h.seven g7.kept) hA (by simpa [addLen] using hl) ha).mono fun e w' hp => ⟨hp.1, hide (After.of g7.kept hp.2.out)⟩)⟩
set_option maxHeartbeats 2000000 in
theorem remove_yes (h : Disk w c f size nb sb uv N S acts) (s : ByteArray) (ho : okN s = true) (zs : List Int) (hlk : look N s = some zs) (hl : sum N ≤ 140737488355328) (ha : acts.length ≤ 1000000000) :
    Calls Try.prog 16 #[ptr f, .string s] w fun e w' => e = .returned (.int .i64 0) ∧ Hid (After w w' c f size nb sb N S acts ⟨4, s, s, [], 0⟩) := by
  have hs := (okN_le ho).2
  have g0 := Ge.start w (.string s) 9
  have hr := refusalOf_yes (h.new g0.kept) s (by omega) ho
  rw [hlk] at hr
  have H48 := hide hr
  have HG := hide (fun W (hb : Below (w.alloc (.cells #[.string s] 9)).heap.size (w.alloc (.cells #[.string s] 9)) W) => show W.cell? ⟨w.heap.size, 0, none⟩ = some (.string s) ∧ Hid (Ge w (.string s) 9 W) from ⟨(g0.next hb).c0, hide (g0.next hb)⟩)
  have H31 := hide (fun W => sclone_any s W hs)
  have HF := hide (fun W W' (g : Ge w (.string s) 9 W) (hb : Below W.heap.size W W') => removed h (g.next hb) hl ha)
  clear h g0 hr hlk hl ha hs
  unfold ptr at *
  go_enter Try.func16, Try.ntmps16
  go_wp2_with (first
    | (go_at_call 48; refine H48.out.mono ?_; rintro e w1 ⟨rfl, hb⟩; obtain ⟨a0, G1⟩ := HG.out _ hb.out; clear hb)
    | (go_at_call 31; refine (H31.out _).mono ?_; rintro e w2 ⟨rfl, hb⟩; obtain ⟨x0, x1, HFN⟩ := HF.out _ _ G1.out hb.out; clear hb)
    | (go_at_call 33; refine HFN.out.mono ?_; rintro e w3 ⟨rfl, hp⟩))
  go_ret
  exact ⟨rfl, hp⟩
end
end Go.Proofs.Ytdmhcgneafacmaa
