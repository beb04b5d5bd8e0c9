/- A nil disk: contracts over this seat's translation. -/
import Derived.Test.YtdmhcgneafacmaaFLiv
namespace Go.Proofs.Ytdmhcgneafacmaa
open Go.RowKit
set_option linter.unusedVariables false
set_option linter.unusedSimpArgs false
set_option maxRecDepth 100000

set_option maxHeartbeats 1000000 in
theorem stop_nil (n : Int) (w : World) : Calls Try.prog 20 #[.pointer none, .int .i64 n] w fun e w' => e = .returned (.tuple #[]) ∧ w' = w := by
  have HC := hide (closed_nil w)
  go_enter Try.func20, Try.ntmps20
  go_wp2_with (first | (go_at_call 25; refine HC.out.mono ?_; rintro e w1 ⟨rfl, rfl⟩))
  first | go_end0 | refine bodyPost_ret (results_none rfl _ _ _) rfl ?_
  exact ⟨rfl, rfl⟩
set_option maxHeartbeats 1000000 in
theorem list_nil (w : World) : Calls Try.prog 17 #[.pointer none] w fun e w' => e = .returned (.slice none 0 0) ∧ w' = w := by
  have HC := hide (closed_nil w)
  go_enter Try.func17, Try.ntmps17
  go_wp2_with (first | (go_at_call 25; refine HC.out.mono ?_; rintro e w1 ⟨rfl, rfl⟩))
  go_ret
  exact ⟨rfl, rfl⟩
set_option maxHeartbeats 1000000 in
theorem fork_nil (w : World) : Calls Try.prog 10 #[.pointer none] w fun e w' => e = .returned (.pointer none) ∧ w' = w := by
  have HC := hide (closed_nil w)
  go_enter Try.func10, Try.ntmps10
  go_wp2_with (first | (go_at_call 25; refine HC.out.mono ?_; rintro e w1 ⟨rfl, rfl⟩))
  go_ret
  exact ⟨rfl, rfl⟩
set_option maxHeartbeats 1000000 in
theorem sync_nil (w : World) : Calls Try.prog 12 #[.pointer none] w fun e w' => e = .returned (.int .i64 6) ∧ w' = w := by
  have HC := hide (refusal_nil true w)
  go_enter Try.func12, Try.ntmps12
  go_wp2_with (first | (go_at_call 28; refine HC.out.mono ?_; rintro e w1 ⟨rfl, rfl⟩))
  go_ret
  exact ⟨rfl, rfl⟩
theorem low1 {w w' : World} (o : Obj) (h : Below (w.alloc o).heap.size (w.alloc o) w') : Below w.heap.size w w' :=
  have b := (Below.refl w.heap.size w).alloc (Nat.le_refl _) o
  b.trans (h.mono b.size)
theorem low2 {w w' : World} (o o' : Obj) (h : Below ((w.alloc o).alloc o').heap.size ((w.alloc o).alloc o') w') : Below w.heap.size w w' := low1 o (low1 o' h)
set_option maxHeartbeats 1000000 in
theorem remove_nil (s : ByteArray) (hs : s.size ≤ 9223372036854775807) (w : World) : Calls Try.prog 16 #[.pointer none, .string s] w fun e w' => e = .returned (.int .i64 6) ∧ Hid (Below w.heap.size w w') := by
  have HC := hide (refusalOf_nil s hs true (w.alloc (.cells #[.string s] 9)))
  have HL := hide (fun w' => low1 (w := w) (w' := w') (.cells #[.string s] 9))
  go_enter Try.func16, Try.ntmps16
  go_wp2_with (first | (go_at_call 48; refine HC.out.mono ?_; rintro e w1 ⟨rfl, hb⟩; have HB := hide (HL.out _ hb.out); clear hb))
  go_ret
  exact ⟨rfl, HB⟩
set_option maxHeartbeats 1000000 in
theorem trunc_nil (s : ByteArray) (hs : s.size ≤ 9223372036854775807) (n : Int) (w : World) : Calls Try.prog 14 #[.pointer none, .string s, .int .i64 n] w fun e w' => e = .returned (.int .i64 6) ∧ Hid (Below w.heap.size w w') := by
  have HC := hide (refusalOf_nil s hs (decide (0 ≤ n)) ((w.alloc (.cells #[.string s] 9)).alloc (.cells #[.int .i64 n] 3)))
  have HL := hide (fun w' => low2 (w := w) (w' := w') (.cells #[.string s] 9) (.cells #[.int .i64 n] 3))
  go_enter Try.func14, Try.ntmps14
  go_wp2_with (first | (go_at_call 48; refine HC.out.mono ?_; rintro e w1 ⟨rfl, hb⟩; have HB := hide (HL.out _ hb.out); clear hb))
  go_ret
  exact ⟨rfl, HB⟩
set_option maxHeartbeats 2000000 in
theorem rename_nil (s t : ByteArray) (hs : s.size ≤ 9223372036854775807) (ht : t.size ≤ 9223372036854775807) (w : World) : Calls Try.prog 15 #[.pointer none, .string s, .string t] w fun e w' => e = .returned (.int .i64 6) ∧ Hid (Below w.heap.size w w') := by
  have HN := hide (name_any t ((w.alloc (.cells #[.string s] 9)).alloc (.cells #[.string t] 9)).drew ht)
  have HC := hide (fun W => refusalOf_nil s hs (okN t) W)
  have g0 := Gd.start w (.string s) (.string t) 9 9
  have gd1 : Gd w (.string s) (.string t) 9 9 ((w.alloc (.cells #[.string s] 9)).alloc (.cells #[.string t] 9)).drew := ⟨⟨g0.kept.os, g0.kept.tape, g0.kept.output, g0.kept.size, g0.kept.block⟩, g0.one, g0.two⟩
  have HX := hide (fun W W' (g : Gd w (.string s) (.string t) 9 9 W) (hb : Below W.heap.size W W') => show W'.cell? ⟨w.heap.size, 0, none⟩ = some (.string s) ∧ W'.cell? ⟨w.heap.size + 1, 0, none⟩ = some (.string t) ∧ Hid (Gd w (.string s) (.string t) 9 9 W') from ⟨(g.next hb).c0, (g.next hb).c1, hide (g.next hb)⟩)
  have G1 := hide gd1
  have d0 := gd1.c0
  have d1 := gd1.c1
  clear g0 gd1
  go_enter Try.func15, Try.ntmps15
  go_wp2
  go_region_held3 (fun W => W.cell? ⟨w.heap.size, 0, none⟩ = some (.string s) ∧ W.cell? ⟨w.heap.size + 1, 0, none⟩ = some (.string t)) (exact ⟨by assumption, by assumption⟩)
    (first
      | (go_at_call 29; refine HN.out.mono ?_; rintro e w1 ⟨rfl, hb⟩; obtain ⟨e0, e1, G2⟩ := HX.out _ w1 G1.out hb.out; clear hb)
      | (go_at_call 48; refine (HC.out _).mono ?_; rintro e w2 ⟨rfl, hb⟩; obtain ⟨e2, e3, G3⟩ := HX.out _ w2 G2.out hb.out; clear hb))
  go_wp2
  go_ret
  exact ⟨rfl, hide G3.out.kept.newBelow⟩
end Go.Proofs.Ytdmhcgneafacmaa
