/- The contracts of Truncate and Sync over this seat's translation; Rename, where it is refused. -/
import Derived.Test.YtdmhcgneafacmaaFRem
import Derived.Test.YtdmhcgneafacmaaFRen
import Derived.Test.YtdmhcgneafacmaaFCrash
namespace Go.Proofs.Ytdmhcgneafacmaa
open Go.RowKit
set_option linter.unusedVariables false
set_option linter.unusedSimpArgs false
set_option maxRecDepth 100000

section
variable {w : World} {c : Nat → Nat} {f : Nat} {size : Int} {nb sb : Nat} {uv : Value} {N S : List Ent} {acts : List AM}
set_option maxHeartbeats 1000000 in
theorem trunc_no (s : ByteArray) (n : Int) (E : Int) (hE : E ≠ 0)
    (HC : ∀ W, Kept Not w W → Calls Try.prog 48 #[ptr f, .string s, .bool (decide (0 ≤ n))] W fun e w' => e = .returned (.int .i64 E) ∧ Hid (Below W.heap.size W w')) :
    Calls Try.prog 14 #[ptr f, .string s, .int .i64 n] w fun e w' => e = .returned (.int .i64 E) ∧ Hid (Kept Not w w') := by
  have g0 := Gd.start w (.string s) (.int .i64 n) 9 3
  have H48 := hide (HC _ g0.kept)
  have HG := hide (fun W (hb : Below ((w.alloc (.cells #[.string s] 9)).alloc (.cells #[.int .i64 n] 3)).heap.size ((w.alloc (.cells #[.string s] 9)).alloc (.cells #[.int .i64 n] 3)) W) => (g0.next hb).kept)
  have hne : (E != 0) = true := by simp [hE]
  clear g0 HC hE
  unfold ptr at *
  go_enter Try.func14, Try.ntmps14
  go_wp2_with (first | (go_at_call 48; refine H48.out.mono ?_; rintro e w1 ⟨rfl, hb⟩; have HK := hide (HG.out _ hb.out); clear hb))
  go_ret
  exact ⟨rfl, HK⟩
/-- behind the store the act is laid -/
theorem truncated {w6 : World} {s : ByteArray} {n : Nat} (h : Disk w c f size nb sb uv N S acts) (g6 : Gd w (.string s) (.int .i64 n) 9 3 w6) (hn : n ≤ 9223372036854775807) (hl : sum N ≤ 140737488355328) (ha : acts.length ≤ 1000000000) :
    w6.cell? ⟨w.heap.size, 0, none⟩ = some (.string s) ∧ w6.frozen? ⟨w.heap.size, 0, none⟩ = false ∧
    Hid (Calls Try.prog 33 #[.pointer (some ⟨f, 0, none⟩), .agg #[.func (.func 49) #[] #[.pointer (some ⟨w.heap.size, 0, none⟩), .pointer (some ⟨w.heap.size + 1, 0, none⟩)], .nilFunc]] (w6.setCell ⟨w.heap.size, 0, none⟩ (.string s)) fun e w' => e = .returned (.tuple #[]) ∧ Hid (After w w' c f size nb sb N S acts ⟨2, s, s, [], n⟩)) := by
  have g7 := g6.set0 (u' := .string s)
  have hlt := g7.lt
  have hA : ActV (w6.setCell ⟨w.heap.size, 0, none⟩ (.string s)) (paint c w.heap.size (w6.setCell ⟨w.heap.size, 0, none⟩ (.string s)).heap.size 7) (.func (.func 49) #[] #[ptr w.heap.size, ptr (w.heap.size + 1)]) .nilFunc ⟨2, s, s, [], n⟩ :=
    ⟨w.heap.size, w.heap.size + 1, paint_new (Nat.le_refl _) (by omega), paint_new (by omega) hlt, g7.c0, .inr (.inl ⟨rfl, rfl, rfl, g7.c1, hn⟩)⟩
  exact ⟨g6.c0, g6.f0, hide ((do_any (h.seven g7.kept) hA (by simpa [addLen] using hl) ha).mono fun e w' hp => ⟨hp.1, hide (After.of g7.kept hp.2.out)⟩)⟩
set_option maxHeartbeats 2000000 in
theorem trunc_yes (h : Disk w c f size nb sb uv N S acts) (s : ByteArray) (n : Nat) (hn : n ≤ 9223372036854775807) (ho : okN s = true) (zs : List Int) (hlk : look N s = some zs) (hl : sum N ≤ 140737488355328) (ha : acts.length ≤ 1000000000) :
    Calls Try.prog 14 #[ptr f, .string s, .int .i64 n] w fun e w' => e = .returned (.int .i64 0) ∧ Hid (After w w' c f size nb sb N S acts ⟨2, s, s, [], n⟩) := by
  have hs := (okN_le ho).2
  have g0 := Gd.start w (.string s) (.int .i64 n) 9 3
  have hr := refusalOf_yes (h.new g0.kept) s (by omega) ho
  rw [hlk] at hr
  have H48 := hide hr
  have HG := hide (fun W (hb : Below ((w.alloc (.cells #[.string s] 9)).alloc (.cells #[.int .i64 n] 3)).heap.size ((w.alloc (.cells #[.string s] 9)).alloc (.cells #[.int .i64 n] 3)) W) => show W.cell? ⟨w.heap.size, 0, none⟩ = some (.string s) ∧ Hid (Gd w (.string s) (.int .i64 n) 9 3 W) from ⟨(g0.next hb).c0, hide (g0.next hb)⟩)
  have H31 := hide (fun W => sclone_any s W hs)
  have HF := hide (fun W W' (g : Gd w (.string s) (.int .i64 n) 9 3 W) (hb : Below W.heap.size W W') => truncated h (g.next hb) hn hl ha)
  have hi : (0 : Int) ≤ (n : Int) := by omega
  clear h g0 hr hlk hl ha hs
  unfold ptr at *
  go_enter Try.func14, Try.ntmps14
  go_wp2_with (first
    | (go_at_call 48; refine H48.out.mono ?_; rintro e w1 ⟨rfl, hb⟩; obtain ⟨a0, G1⟩ := HG.out _ hb.out; clear hb)
    | (go_at_call 31; refine (H31.out _).mono ?_; rintro e w2 ⟨rfl, hb⟩; obtain ⟨x0, x1, HFN⟩ := HF.out _ _ G1.out hb.out; clear hb)
    | (go_at_call 33; refine HFN.out.mono ?_; rintro e w3 ⟨rfl, hp⟩))
  go_ret
  exact ⟨rfl, hp⟩
set_option maxHeartbeats 2000000 in
/-- whatever is refused -/
theorem rename_ref (s t : ByteArray) (ht : t.size ≤ 9223372036854775807) (E : Int) (hE : E ≠ 0) (HCC : ∀ W, Kept Not w W → Calls Try.prog 48 #[ptr f, .string s, .bool (okN t)] W fun e w' => e = .returned (.int .i64 E) ∧ Hid (Below W.heap.size W w')) :
    Calls Try.prog 15 #[ptr f, .string s, .string t] w fun e w' => e = .returned (.int .i64 E) ∧ Hid (Kept Not w w') := by
  have g0 := Gd.start w (.string s) (.string t) 9 9
  have gd1 : Gd w (.string s) (.string t) 9 9 ((w.alloc (.cells #[.string s] 9)).alloc (.cells #[.string t] 9)).drew := ⟨⟨g0.kept.os, g0.kept.tape, g0.kept.output, g0.kept.size, g0.kept.block⟩, g0.one, g0.two⟩
  have HX := hide (fun W W' (g : Gd w (.string s) (.string t) 9 9 W) (hb : Below W.heap.size W W') => show W'.cell? ⟨w.heap.size, 0, none⟩ = some (.string s) ∧ W'.cell? ⟨w.heap.size + 1, 0, none⟩ = some (.string t) ∧ Hid (Gd w (.string s) (.string t) 9 9 W') from ⟨(g.next hb).c0, (g.next hb).c1, hide (g.next hb)⟩)
  have HN := hide (name_any t ((w.alloc (.cells #[.string s] 9)).alloc (.cells #[.string t] 9)).drew ht)
  have G1 := hide gd1
  have d0 := gd1.c0
  have d1 := gd1.c1
  have HC := hide HCC
  have hne : (E != 0) = true := by simp [hE]
  clear g0 gd1 HCC hE
  unfold ptr at *
  generalize okN t = m at *
  go_enter Try.func15, Try.ntmps15
  go_wp2
  go_region_held3 (fun W => W.cell? ⟨w.heap.size, 0, none⟩ = some (.string s) ∧ W.cell? ⟨w.heap.size + 1, 0, none⟩ = some (.string t)) (exact ⟨by assumption, by assumption⟩)
    (first
      | (go_at_call 29; refine HN.out.mono ?_; rintro e w1 ⟨rfl, hb⟩; obtain ⟨e0, e1, G2⟩ := HX.out _ w1 G1.out hb.out; clear hb)
      | (go_at_call 48; refine (HC.out _ G2.out.kept).mono ?_; rintro e w2 ⟨rfl, hb⟩; obtain ⟨e2, e3, G3⟩ := HX.out _ w2 G2.out hb.out; clear hb))
  go_wp2
  go_ret
  exact ⟨rfl, hide G3.out.kept⟩
/-- behind a Sync -/
def Synced (w w' : World) (c : Nat → Nat) (f : Nat) (size : Int) (nb sb : Nat) (N S : List Ent) (acts : List AM) : Prop :=
  ∃ c' S', Disk w' c' f size nb sb (.slice none 0 0) N S' [] ∧ sum S' ≤ sum S + tot acts ∧ Step w c w' c'
theorem Sured.synced {w' : World} (h : Disk w c f size nb sb uv N S acts) (hs : Sured w w' c f size nb sb N S acts acts.length) : Synced w w' c f size nb sb N S acts := by
  obtain ⟨c', S', h1, h2, h3, h4, h5⟩ := hs
  rw [List.take_length] at h2 h3
  exact ⟨c', S', h1.disk (h.same.trans h2.symm), h3, h4, h5.mono (fun i _ e => by omega)⟩
set_option maxHeartbeats 2000000 in
theorem sync_any (h : Disk w c f size nb sb uv N S acts) (hl : sum S + tot acts ≤ 140737488355328) :
    Calls Try.prog 12 #[ptr f] w fun e w' => e = .returned (.int .i64 0) ∧ Hid (Synced w w' c f size nb sb N S acts) := by
  have HR := hide (refusal_ok h)
  have HS := hide (sure_any h.mid hl acts.length (Nat.le_refl _))
  have HY := hide (fun w' (hs : Sured w w' c f size nb sb N S acts acts.length) => show Hid (Calls Try.prog 38 #[ptr f] w' fun e w2 => e = .returned (.tuple #[]) ∧ w2 = w') ∧ Hid (Synced w w' c f size nb sb N S acts) by
    have hy := hs.synced h
    obtain ⟨c', S', h1, _⟩ := hy
    exact ⟨hide (spend_any h1), hide (hs.synced h)⟩)
  have c3 := h.c3
  obtain ⟨ao, cap, huv, h5, h6⟩ := h.uns.shape
  rw [huv] at c3
  clear h
  unfold ptr at *
  obtain ⟨len, hlen⟩ : ∃ len, acts.length = len := ⟨_, rfl⟩
  rw [hlen] at HS HY c3 h5
  clear hlen huv hl
  go_enter Try.func12, Try.ntmps12
  go_wp2_with (first
    | (go_at_call 28; refine HR.out.mono ?_; rintro e w1 ⟨rfl, rfl⟩)
    | (go_at_call 37; refine HS.out.mono ?_; rintro e w2 ⟨rfl, hp⟩; obtain ⟨H38, HZ⟩ := HY.out _ hp.out; clear hp)
    | (go_at_call 38; refine H38.out.mono ?_; rintro e w3 ⟨rfl, rfl⟩))
  go_ret
  exact ⟨rfl, HZ⟩
end
end Go.Proofs.Ytdmhcgneafacmaa
