/- The contract of Rename over this seat's translation. -/
import Derived.Test.YtdmhcgneafacmaaFApp
namespace Go.Proofs.Ytdmhcgneafacmaa
open Go.RowKit
set_option linter.unusedVariables false
set_option linter.unusedSimpArgs false
set_option maxRecDepth 100000

section
variable {w : World} {c : Nat → Nat} {f : Nat} {size : Int} {nb sb : Nat} {uv : Value} {N S : List Ent} {acts : List AM}
theorem renamed {w7 : World} {s t : ByteArray} (h : Disk w c f size nb sb uv N S acts) (g7 : Gd w (.string s) (.string t) 9 9 w7) (hl : sum N ≤ 140737488355328) (ha : acts.length ≤ 1000000000) :
    (Instr.storeAt 9 (.pointer (some ⟨w.heap.size, 0, none⟩)) (.string s)).run Try.prog w7 = .ok () (w7.setCell ⟨w.heap.size, 0, none⟩ (.string s)) ∧
    (Instr.storeAt 9 (.pointer (some ⟨w.heap.size + 1, 0, none⟩)) (.string t)).run Try.prog (w7.setCell ⟨w.heap.size, 0, none⟩ (.string s)) = .ok () ((w7.setCell ⟨w.heap.size, 0, none⟩ (.string s)).setCell ⟨w.heap.size + 1, 0, none⟩ (.string t)) ∧
    Hid (Calls Try.prog 33 #[.pointer (some ⟨f, 0, none⟩), .agg #[.func (.func 51) #[] #[.pointer (some ⟨w.heap.size, 0, none⟩), .pointer (some ⟨w.heap.size + 1, 0, none⟩)], .nilFunc]] ((w7.setCell ⟨w.heap.size, 0, none⟩ (.string s)).setCell ⟨w.heap.size + 1, 0, none⟩ (.string t)) fun e w' => e = .returned (.tuple #[]) ∧ Hid (After w w' c f size nb sb N S acts ⟨3, s, t, [], 0⟩)) := by
  have g8 := g7.set0 (u' := .string s)
  have g9 := g8.set1 (v' := .string t)
  have s0 := g7.c0
  have s1 := g7.f0
  have s2 := g8.c1
  have s3 := g8.f1
  have hlt9 := g9.lt
  have hA : ActV ((w7.setCell ⟨w.heap.size, 0, none⟩ (.string s)).setCell ⟨w.heap.size + 1, 0, none⟩ (.string t)) (paint c w.heap.size ((w7.setCell ⟨w.heap.size, 0, none⟩ (.string s)).setCell ⟨w.heap.size + 1, 0, none⟩ (.string t)).heap.size 7) (.func (.func 51) #[] #[ptr w.heap.size, ptr (w.heap.size + 1)]) .nilFunc ⟨3, s, t, [], 0⟩ :=
    ⟨w.heap.size, w.heap.size + 1, paint_new (Nat.le_refl _) (by omega), paint_new (by omega) hlt9, g9.c0, .inr (.inr (.inl ⟨rfl, rfl, rfl, g9.c1⟩))⟩
  refine ⟨by go_simp, by go_simp, hide ((do_any (h.seven g9.kept) hA (by simpa [addLen] using hl) ha).mono fun e w' hp => ⟨hp.1, hide (After.of g9.kept hp.2.out)⟩)⟩
set_option maxHeartbeats 2000000 in
theorem rename_no (s t : ByteArray) (hs : s.size ≤ 9223372036854775807) (ht : t.size ≤ 9223372036854775807) (h : Disk w c f size nb sb uv N S acts) (hb : (okN s && okN t) = false) :
    Calls Try.prog 15 #[ptr f, .string s, .string t] w fun e w' => e = .returned (.int .i64 1) ∧ Hid (Kept Not w w') := by
  have g0 := Gd.start w (.string s) (.string t) 9 9
  have gd1 : Gd w (.string s) (.string t) 9 9 ((w.alloc (.cells #[.string s] 9)).alloc (.cells #[.string t] 9)).drew := ⟨⟨g0.kept.os, g0.kept.tape, g0.kept.output, g0.kept.size, g0.kept.block⟩, g0.one, g0.two⟩
  have HX := hide (fun W W' (g : Gd w (.string s) (.string t) 9 9 W) (hb : Below W.heap.size W W') => show W'.cell? ⟨w.heap.size, 0, none⟩ = some (.string s) ∧ W'.cell? ⟨w.heap.size + 1, 0, none⟩ = some (.string t) ∧ Hid (Gd w (.string s) (.string t) 9 9 W') from ⟨(g.next hb).c0, (g.next hb).c1, hide (g.next hb)⟩)
  have HN := hide (name_any t ((w.alloc (.cells #[.string s] 9)).alloc (.cells #[.string t] 9)).drew ht)
  have G1 := hide gd1
  have d0 := gd1.c0
  have d1 := gd1.c1
  have HC := hide (fun W (k : Kept Not w W) => refusalOf_no (h.new k) s hs (okN t) hb)
  clear g0 gd1 h hb
  unfold ptr at *
  generalize okN t = m at *
  go_enter Try.func15, Try.ntmps15
  go_wp2
  go_region_held3 (fun W => W.cell? ⟨w.heap.size, 0, none⟩ = some (.string s) ∧ W.cell? ⟨w.heap.size + 1, 0, none⟩ = some (.string t)) (exact ⟨by assumption, by assumption⟩)
    (first
      | (go_at_call 29; refine HN.out.mono ?_; rintro e w1 ⟨rfl, hb⟩; obtain ⟨e0, e1, G2⟩ := HX.out _ w1 G1.out hb.out; clear hb)
      | (go_at_call 48; refine (HC.out _ G2.out.kept).mono ?_; rintro e w2 ⟨rfl, hb⟩; obtain ⟨e2, e3, G3⟩ := HX.out _ w2 G2.out hb.out; clear hb))
  go_wp2
  go_ret
  exact ⟨rfl, hide G3.out.kept⟩
set_option maxHeartbeats 4000000 in
theorem rename_yes (s t : ByteArray) (h : Disk w c f size nb sb uv N S acts) (ho : okN s = true) (hot : okN t = true) (zs : List Int) (hlk : look N s = some zs) (hl : sum N ≤ 140737488355328) (ha : acts.length ≤ 1000000000) :
    Calls Try.prog 15 #[ptr f, .string s, .string t] w fun e w' => e = .returned (.int .i64 0) ∧ Hid (After w w' c f size nb sb N S acts ⟨3, s, t, [], 0⟩) := by
  have hs32 := (okN_le ho).2
  have ht32 := (okN_le hot).2
  have ht : t.size ≤ 9223372036854775807 := by omega
  have g0 := Gd.start w (.string s) (.string t) 9 9
  have gd1 : Gd w (.string s) (.string t) 9 9 ((w.alloc (.cells #[.string s] 9)).alloc (.cells #[.string t] 9)).drew := ⟨⟨g0.kept.os, g0.kept.tape, g0.kept.output, g0.kept.size, g0.kept.block⟩, g0.one, g0.two⟩
  have HX := hide (fun W W' (g : Gd w (.string s) (.string t) 9 9 W) (hb : Below W.heap.size W W') => show W'.cell? ⟨w.heap.size, 0, none⟩ = some (.string s) ∧ W'.cell? ⟨w.heap.size + 1, 0, none⟩ = some (.string t) ∧ Hid (Gd w (.string s) (.string t) 9 9 W') from ⟨(g.next hb).c0, (g.next hb).c1, hide (g.next hb)⟩)
  have HN := hide (name_any t ((w.alloc (.cells #[.string s] 9)).alloc (.cells #[.string t] 9)).drew ht)
  have G1 := hide gd1
  have d0 := gd1.c0
  have d1 := gd1.c1
  rw [hot] at HN
  have HC := hide (fun W (k : Kept Not w W) => (refusalOf_yes (h.new k) s (by omega) ho))
  rw [hlk] at HC
  have H := hide h
  have HF6 := hide (fun w7 (g : Gd w (.string s) (.string t) 9 9 w7) => renamed h g hl ha)
  have HL2 := hide (fun W (g : Gd w (.string s) (.string t) 9 9 W) => show (Instr.loadAt 9 (.pointer (some ⟨w.heap.size + 1, 0, none⟩))).run Try.prog W = .ok (.string t) W by have := g.c1; go_simp)
  have HL0 := hide (fun W (g : Gd w (.string s) (.string t) 9 9 W) => show (Instr.loadAt 9 (.pointer (some ⟨w.heap.size, 0, none⟩))).run Try.prog W = .ok (.string s) W by have := g.c0; go_simp)
  have HS2 := hide (fun W => sclone_any t W ht32)
  have HS0 := hide (fun W => sclone_any s W hs32)
  clear g0 gd1 h hlk hl ha hs32 ht32
  unfold ptr at *
  go_enter Try.func15, Try.ntmps15
  go_wp2
  go_region_held3 (fun W => W.cell? ⟨w.heap.size, 0, none⟩ = some (.string s) ∧ W.cell? ⟨w.heap.size + 1, 0, none⟩ = some (.string t)) (exact ⟨by assumption, by assumption⟩)
    (first
      | (go_at_call 29; refine HN.out.mono ?_; rintro e w1 ⟨rfl, hb⟩; obtain ⟨e0, e1, G2⟩ := HX.out _ w1 G1.out hb.out; clear hb)
      | (go_at_call 48; refine (HC.out _ G2.out.kept).mono ?_; rintro e w2 ⟨rfl, hb⟩; obtain ⟨e2, e3, G3⟩ := HX.out _ w2 G2.out hb.out; clear hb))
  go_wp2
  have gd4 : Gd w (.string s) (.string t) 9 9 w2.drew := ⟨⟨G3.out.kept.os, G3.out.kept.tape, G3.out.kept.output, G3.out.kept.size, G3.out.kept.block⟩, G3.out.one, G3.out.two⟩
  have G4 := hide gd4
  have HS1 := hide (HS0.out w2.drew)
  have l0 := HL0.out _ gd4
  have l2 := HL2.out _ gd4
  clear gd4 G1 G2 G3 HX HN HC d0 d1 e0 e1 e2 e3
  refine wp_region_any (by kernel_rfl) ?_
  refine an_or2 (i := 0) (j := 2) (by kernel_rfl) (ny_to (some 16) rfl rfl rfl (ex_load rfl rfl l0) ?_) (ny_to (some 18) rfl rfl rfl (ex_load rfl rfl l2) ?_)
  · simp only [Act.put, List.setIfInBounds_toArray, List.set_cons_zero, List.set_cons_succ]
    refine an_or2 (i := 1) (j := 2) (by kernel_rfl) ?_ (ny_to (some 18) rfl rfl rfl (ex_load rfl rfl l2) ?_)
    · refine (ny_call (some 17) rfl rfl rfl HS1.out (ex_call (f := 31) (vs := [.string s]) rfl (enters31 _) rfl) ?_)
      rintro e w6 ⟨rfl, hb6⟩
      refine ⟨_, rfl, ?_⟩
      simp only [Act.put, List.setIfInBounds_toArray, List.set_cons_zero, List.set_cons_succ]
      have gd6 := G4.out.next hb6.out
      have l2' := HL2.out _ gd6
      refine an_or1 (i := 2) (by kernel_rfl) (ny_to (some 18) rfl rfl rfl (ex_load rfl rfl l2') ?_)
      simp only [Act.put, List.setIfInBounds_toArray, List.set_cons_zero, List.set_cons_succ]
      clear l2'
      refine an_or1 (i := 3) (by kernel_rfl) (ny_call (some 19) rfl rfl rfl (HS2.out w6) (ex_call (f := 31) (vs := [.string t]) rfl (enters31 _) rfl) ?_)
      rintro e w7 ⟨rfl, hb7⟩
      refine ⟨_, rfl, ?_⟩
      simp only [Act.put, List.setIfInBounds_toArray, List.set_cons_zero, List.set_cons_succ]
      obtain ⟨x0, x1, HFIN⟩ := HF6.out w7 (gd6.next hb7.out)
      refine an_or1 (i := 4) (by kernel_rfl) (ny_skip rfl rfl rfl (ex_store rfl rfl rfl x0) ?_)
      refine an_or1 (i := 5) (by kernel_rfl) (ny_skip rfl rfl rfl (ex_store rfl rfl rfl x1) ?_)
      refine an_done (by kernel_rfl) ?_
      clear x0 x1 gd6 hb6 hb7
      generalize (w7.setCell ⟨w.heap.size, 0, none⟩ (.string s)).setCell ⟨w.heap.size + 1, 0, none⟩ (.string t) = w8 at *
      go_wp2_with (first | (go_at_call 33; refine HFIN.out.mono ?_; rintro e w9 ⟨rfl, hp⟩))
      go_ret
      exact ⟨rfl, hp⟩
    · simp only [Act.put, List.setIfInBounds_toArray, List.set_cons_zero, List.set_cons_succ]
      refine an_or1 (i := 1) (by kernel_rfl) (ny_call (some 17) rfl rfl rfl HS1.out (ex_call (f := 31) (vs := [.string s]) rfl (enters31 _) rfl) ?_)
      rintro e w6 ⟨rfl, hb6⟩
      refine ⟨_, rfl, ?_⟩
      simp only [Act.put, List.setIfInBounds_toArray, List.set_cons_zero, List.set_cons_succ]
      have gd6 := G4.out.next hb6.out
      refine an_or1 (i := 3) (by kernel_rfl) (ny_call (some 19) rfl rfl rfl (HS2.out w6) (ex_call (f := 31) (vs := [.string t]) rfl (enters31 _) rfl) ?_)
      rintro e w7 ⟨rfl, hb7⟩
      refine ⟨_, rfl, ?_⟩
      simp only [Act.put, List.setIfInBounds_toArray, List.set_cons_zero, List.set_cons_succ]
      obtain ⟨x0, x1, HFIN⟩ := HF6.out w7 (gd6.next hb7.out)
      refine an_or1 (i := 4) (by kernel_rfl) (ny_skip rfl rfl rfl (ex_store rfl rfl rfl x0) ?_)
      refine an_or1 (i := 5) (by kernel_rfl) (ny_skip rfl rfl rfl (ex_store rfl rfl rfl x1) ?_)
      refine an_done (by kernel_rfl) ?_
      clear x0 x1 gd6 hb6 hb7
      generalize (w7.setCell ⟨w.heap.size, 0, none⟩ (.string s)).setCell ⟨w.heap.size + 1, 0, none⟩ (.string t) = w8 at *
      go_wp2_with (first | (go_at_call 33; refine HFIN.out.mono ?_; rintro e w9 ⟨rfl, hp⟩))
      go_ret
      exact ⟨rfl, hp⟩
  · simp only [Act.put, List.setIfInBounds_toArray, List.set_cons_zero, List.set_cons_succ]
    refine an_or1 (i := 0) (by kernel_rfl) (ny_to (some 16) rfl rfl rfl (ex_load rfl rfl l0) ?_)
    simp only [Act.put, List.setIfInBounds_toArray, List.set_cons_zero, List.set_cons_succ]
    refine an_or1 (i := 1) (by kernel_rfl) (ny_call (some 17) rfl rfl rfl HS1.out (ex_call (f := 31) (vs := [.string s]) rfl (enters31 _) rfl) ?_)
    rintro e w6 ⟨rfl, hb6⟩
    refine ⟨_, rfl, ?_⟩
    simp only [Act.put, List.setIfInBounds_toArray, List.set_cons_zero, List.set_cons_succ]
    have gd6 := G4.out.next hb6.out
    refine an_or1 (i := 3) (by kernel_rfl) (ny_call (some 19) rfl rfl rfl (HS2.out w6) (ex_call (f := 31) (vs := [.string t]) rfl (enters31 _) rfl) ?_)
    rintro e w7 ⟨rfl, hb7⟩
    refine ⟨_, rfl, ?_⟩
    simp only [Act.put, List.setIfInBounds_toArray, List.set_cons_zero, List.set_cons_succ]
    obtain ⟨x0, x1, HFIN⟩ := HF6.out w7 (gd6.next hb7.out)
    refine an_or1 (i := 4) (by kernel_rfl) (ny_skip rfl rfl rfl (ex_store rfl rfl rfl x0) ?_)
    refine an_or1 (i := 5) (by kernel_rfl) (ny_skip rfl rfl rfl (ex_store rfl rfl rfl x1) ?_)
    refine an_done (by kernel_rfl) ?_
    clear x0 x1 gd6 hb6 hb7
    generalize (w7.setCell ⟨w.heap.size, 0, none⟩ (.string s)).setCell ⟨w.heap.size + 1, 0, none⟩ (.string t) = w8 at *
    go_wp2_with (first | (go_at_call 33; refine HFIN.out.mono ?_; rintro e w9 ⟨rfl, hp⟩))
    go_ret
    exact ⟨rfl, hp⟩
end
end Go.Proofs.Ytdmhcgneafacmaa
