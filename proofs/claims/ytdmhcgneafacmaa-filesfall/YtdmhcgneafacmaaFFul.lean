/- Append of what there is no room for, over this seat's translation. -/
import Derived.Test.YtdmhcgneafacmaaFApp
namespace Go.Proofs.Ytdmhcgneafacmaa
open Go.RowKit
set_option linter.unusedVariables false
set_option linter.unusedSimpArgs false
set_option maxRecDepth 100000
section
variable {w : World} {c : Nat → Nat} {f : Nat} {size : Int} {nb sb : Nat} {uv : Value} {N S : List Ent} {acts : List AM}
set_option maxHeartbeats 4000000 in
theorem append_full1 (h : Disk w c f size nb sb uv N S acts) (h0 : 0 ≤ size) (h1 : size ≤ 268435456) (hsum : sum N ≤ 140737488355328) (s : ByteArray) (hs : s.size ≤ 9223372036854775807) (ho : okN s = true) (ao : Option Addr) (cap : Nat) (zs : List Int) (n : Nat) (hz : zs.length = n) (hB : IsB w ao cap zs) (hcap : n ≤ cap) (hc2 : cap ≤ 9223372036854775807) (hl : look N s = none) (hN : 16 ≤ N.length) (hN2 : N.length ≤ 9223372036854775807) :
    Calls Try.prog 11 #[ptr f, .string s, .slice ao n cap] w fun e w' => e = .returned (.int .i64 2) ∧ Hid (Kept Not w w') := by
  have G0 := Gd.start w (.string s) (.slice ao n cap) 9 31
  have HN := hide (name_any s ((w.alloc (.cells #[.string s] 9)).alloc (.cells #[.slice ao n cap] 31)) hs)
  rw [ho] at HN
  have HR := hide (fun W (hb : Kept Not w W) => refusal_ok (h.new hb))
  have HG := hide (fun W (hb : Below ((w.alloc (.cells #[.string s] 9)).alloc (.cells #[.slice ao n cap] 31)).heap.size ((w.alloc (.cells #[.string s] 9)).alloc (.cells #[.slice ao n cap] 31)) W) => G0.next hb)
  have HH := hide (fun W (hb : Kept Not w W) => has_any _ nb N s W (h.now.new hb))
  have HL0 := fun W (hb : Kept Not w W) => left_any (h.new hb) h0 h1 hsum
  have HC := hide (fun W (hb : Kept Not w W) => (h.new hb).c1)
  have HE0 := fun W (hb : Kept Not w W) => (h.now.new hb).len
  have H := hide h
  have HI := hide hB
  clear h G0 hB
  unfold ptr at *
  have HZ := hide hz
  obtain ⟨m, hm⟩ : ∃ m, sum N = m := ⟨_, rfl⟩
  have HM := hide hm
  rw [hm] at HL0 hsum
  have HL := hide HL0
  obtain ⟨q, hq⟩ : ∃ q, N.length = q := ⟨_, rfl⟩
  rw [hq] at HE0
  rw [hq] at hN hN2
  have hdq : decide ((16 : Int) ≤ (q : Int)) = true := by simp; omega
  have HE := hide HE0
  clear hm hz hq HL0 HE0
  go_enter Try.func11, Try.ntmps11
  go_wp2_with (first | (go_at_call 29; refine HN.out.mono ?_; rintro e w1 ⟨rfl, HB⟩; have HGD := hide (HG.out _ HB.out); have HK := hide HGD.out.kept) | (go_at_call 28; refine (HR.out _ HK.out).mono ?_; rintro e w2 ⟨rfl, rfl⟩))
  have gd1 : Gd w (.string s) (.slice ao n cap) 9 31 w2.drew := ⟨⟨HGD.out.kept.os, HGD.out.kept.tape, HGD.out.kept.output, HGD.out.kept.size, HGD.out.kept.block⟩, HGD.out.one, HGD.out.two⟩
  have d1 := HC.out _ gd1.kept
  have d2 := gd1.c0
  have d3 := gd1.c1
  have d4 := HE.out _ gd1.kept
  have G1 := hide gd1
  have HH1 := hide (HH.out _ gd1.kept)
  have HL1 := hide (HL.out _ gd1.kept)
  have HX := hide (fun W (hb : Below w2.drew.heap.size w2.drew W) => show W.cell? ⟨f, 1, none⟩ = some (.map (some nb)) ∧ W.cell? ⟨w.heap.size, 0, none⟩ = some (.string s) ∧ W.cell? ⟨w.heap.size + 1, 0, none⟩ = some (.slice ao n cap) ∧ (Builtin.len_ #[56] 3 #[.map (some nb)]).run Try.prog W = .ok (.int .i64 q) W ∧ Hid (Gd w (.string s) (.slice ao n cap) 9 31 W) from
    ⟨HC.out _ (gd1.next hb).kept, (gd1.next hb).c0, (gd1.next hb).c1, HE.out _ (gd1.next hb).kept, hide (gd1.next hb)⟩)
  have hwq : IntKind.i64.wrap (q : Int) = q ∨ True := .inr trivial
  clear gd1 HB HGD HK HN HR HG HH HL hwq
  rw [hl] at HH1
  simp only [Option.isSome] at HH1
  have HLD := hide (fun W (g : Gd w (.string s) (.slice ao n cap) 9 31 W) => show (Instr.loadAt 56 (.pointer (some ⟨f, 1, none⟩))).run Try.prog W = .ok (.map (some nb)) W by have := HC.out _ g.kept; go_simp)
  have HLS := hide (fun W (g : Gd w (.string s) (.slice ao n cap) 9 31 W) => show (Instr.loadAt 9 (.pointer (some ⟨w.heap.size, 0, none⟩))).run Try.prog W = .ok (.string s) W by have := g.c0; go_simp)
  have HLB := hide (fun W (g : Gd w (.string s) (.slice ao n cap) 9 31 W) => show (Instr.loadAt 31 (.pointer (some ⟨w.heap.size + 1, 0, none⟩))).run Try.prog W = .ok (.slice ao n cap) W by have := g.c1; go_simp)
  have HLE := hide (fun W (g : Gd w (.string s) (.slice ao n cap) 9 31 W) => HE.out _ g.kept)
  clear d1 d2 d3 d4 HE HX
  refine wp_region_held (S := (fun W => Hid (Gd w (.string s) (.slice ao n cap) 9 31 W))) (by kernel_rfl) ?_
  refine ah_take (i := 0) (some 15) rfl rfl (by kernel_rfl) (by kernel_rfl) (by kernel_rfl) rfl (fun W g => ex_mv rfl rfl) G1 (fun _ _ _ h => h) ?_
  simp only [Act.put, List.setIfInBounds_toArray, List.set_cons_zero, List.set_cons_succ]
  refine ah_take (i := 1) (some 16) rfl rfl (by kernel_rfl) (by kernel_rfl) (by kernel_rfl) rfl (fun W g => ex_nck rfl rfl) G1 (fun _ _ _ h => h) ?_
  simp only [Act.put, List.setIfInBounds_toArray, List.set_cons_zero, List.set_cons_succ]
  refine ah_take (i := 2) (some 17) rfl rfl (by kernel_rfl) (by kernel_rfl) (by kernel_rfl) rfl (fun W g => ex_fa rfl rfl (fa59 f 1 (by decide) W)) G1 (fun _ _ _ h => h) ?_
  simp only [Act.put, List.setIfInBounds_toArray, List.set_cons_zero, List.set_cons_succ]
  refine ah_take (i := 3) (some 18) rfl rfl (by kernel_rfl) (by kernel_rfl) (by kernel_rfl) rfl (fun W g => ex_load rfl rfl (HLD.out W g.out)) G1 (fun _ _ _ h => h) ?_
  simp only [Act.put, List.setIfInBounds_toArray, List.set_cons_zero, List.set_cons_succ]
  refine ah_take (i := 4) (some 19) rfl rfl (by kernel_rfl) (by kernel_rfl) (by kernel_rfl) rfl (fun W g => ex_load rfl rfl (HLS.out W g.out)) G1 (fun _ _ _ h => h) ?_
  simp only [Act.put, List.setIfInBounds_toArray, List.set_cons_zero, List.set_cons_succ]
  refine ah_call (i := 5) (some 20) rfl rfl (by kernel_rfl) rfl HH1.out (ex_call (f := 30) (vs := [.map (some nb), .string s]) rfl (enters30 _) rfl) ?_
  rintro e w3 ⟨rfl, rfl⟩
  refine ⟨_, rfl, G1, ?_⟩
  simp only [Act.put, List.setIfInBounds_toArray, List.set_cons_zero, List.set_cons_succ]
  refine ah_take (i := 6) (some 21) rfl rfl (by kernel_rfl) (by kernel_rfl) (by kernel_rfl) rfl (fun W g => ex_not rfl rfl) G1 (fun _ _ _ h => h) ?_
  simp only [Act.put, List.setIfInBounds_toArray, List.set_cons_zero, List.set_cons_succ]
  simp only [Bool.not_true, Bool.not_false]
  refine ah_take (i := 7) (some 22) rfl rfl (by kernel_rfl) (by kernel_rfl) (by kernel_rfl) rfl (fun W g => ex_mv rfl rfl) G1 (fun _ _ _ h => h) ?_
  simp only [Act.put, List.setIfInBounds_toArray, List.set_cons_zero, List.set_cons_succ]
  refine ah_take (i := 8) (some 23) rfl rfl (by kernel_rfl) (by kernel_rfl) (by kernel_rfl) rfl (fun W g => ex_mv rfl rfl) G1 (fun _ _ _ h => h) ?_
  simp only [Act.put, List.setIfInBounds_toArray, List.set_cons_zero, List.set_cons_succ]
  refine ah_take (i := 9) (some 24) rfl rfl (by kernel_rfl) (by kernel_rfl) (by kernel_rfl) rfl (fun W g => ex_nck rfl rfl) G1 (fun _ _ _ h => h) ?_
  simp only [Act.put, List.setIfInBounds_toArray, List.set_cons_zero, List.set_cons_succ]
  refine ah_take (i := 10) (some 25) rfl rfl (by kernel_rfl) (by kernel_rfl) (by kernel_rfl) rfl (fun W g => ex_fa rfl rfl (fa59 f 1 (by decide) W)) G1 (fun _ _ _ h => h) ?_
  simp only [Act.put, List.setIfInBounds_toArray, List.set_cons_zero, List.set_cons_succ]
  refine ah_take (i := 11) (some 26) rfl rfl (by kernel_rfl) (by kernel_rfl) (by kernel_rfl) rfl (fun W g => ex_load rfl rfl (HLD.out W g.out)) G1 (fun _ _ _ h => h) ?_
  simp only [Act.put, List.setIfInBounds_toArray, List.set_cons_zero, List.set_cons_succ]
  refine ah_take (i := 12) (some 27) rfl rfl (by kernel_rfl) (by kernel_rfl) (by kernel_rfl) rfl (fun W g => ex_len rfl rfl (HLE.out W g.out)) G1 (fun _ _ _ h => h) ?_
  simp only [Act.put, List.setIfInBounds_toArray, List.set_cons_zero, List.set_cons_succ]
  refine ah_take (i := 13) (some 28) rfl rfl (by kernel_rfl) (by kernel_rfl) (by kernel_rfl) rfl (fun W g => ex_bin rfl rfl rfl (by go_simp) (geqI _ _ W)) G1 (fun _ _ _ h => h) ?_
  simp only [Act.put, List.setIfInBounds_toArray, List.set_cons_zero, List.set_cons_succ]
  rw [hdq]
  refine ah_take (i := 14) (some 29) rfl rfl (by kernel_rfl) (by kernel_rfl) (by kernel_rfl) rfl (fun W g => ex_pkT rfl rfl rfl) G1 (fun _ _ _ h => h) ?_
  simp only [Act.put, List.setIfInBounds_toArray, List.set_cons_zero, List.set_cons_succ]
  refine ah_take (i := 15) (some 30) rfl rfl (by kernel_rfl) (by kernel_rfl) (by kernel_rfl) rfl (fun W g => ex_mv rfl rfl) G1 (fun _ _ _ h => h) ?_
  simp only [Act.put, List.setIfInBounds_toArray, List.set_cons_zero, List.set_cons_succ]
  refine ah_skip (i := 16) (some 31) rfl rfl (by kernel_rfl) (by kernel_rfl) (by kernel_rfl) rfl G1 (fun _ _ _ h => h) ?_
  simp only [Act.put, List.setIfInBounds_toArray, List.set_cons_zero, List.set_cons_succ]
  refine ah_skip (i := 17) (some 32) rfl rfl (by kernel_rfl) (by kernel_rfl) (by kernel_rfl) rfl G1 (fun _ _ _ h => h) ?_
  simp only [Act.put, List.setIfInBounds_toArray, List.set_cons_zero, List.set_cons_succ]
  refine ah_skip (i := 18) (some 33) rfl rfl (by kernel_rfl) (by kernel_rfl) (by kernel_rfl) rfl G1 (fun _ _ _ h => h) ?_
  simp only [Act.put, List.setIfInBounds_toArray, List.set_cons_zero, List.set_cons_succ]
  refine ah_skip (i := 19) (some 34) rfl rfl (by kernel_rfl) (by kernel_rfl) (by kernel_rfl) rfl G1 (fun _ _ _ h => h) ?_
  simp only [Act.put, List.setIfInBounds_toArray, List.set_cons_zero, List.set_cons_succ]
  refine ah_skip (i := 20) (some 35) rfl rfl (by kernel_rfl) (by kernel_rfl) (by kernel_rfl) rfl G1 (fun _ _ _ h => h) ?_
  simp only [Act.put, List.setIfInBounds_toArray, List.set_cons_zero, List.set_cons_succ]
  refine ah_take (i := 21) (some 36) rfl rfl (by kernel_rfl) (by kernel_rfl) (by kernel_rfl) rfl (fun W g => ex_pkT rfl rfl rfl) G1 (fun _ _ _ h => h) ?_
  simp only [Act.put, List.setIfInBounds_toArray, List.set_cons_zero, List.set_cons_succ]
  refine ah_done (by kernel_rfl) ?_
  go_wp2
  go_ret
  exact ⟨rfl, hide G1.out.kept⟩
set_option maxHeartbeats 4000000 in
theorem append_full2 (h : Disk w c f size nb sb uv N S acts) (h0 : 0 ≤ size) (h1 : size ≤ 268435456) (hsum : sum N ≤ 140737488355328) (s : ByteArray) (hs : s.size ≤ 9223372036854775807) (ho : okN s = true) (ao : Option Addr) (cap : Nat) (zs : List Int) (n : Nat) (hz : zs.length = n) (hB : IsB w ao cap zs) (hcap : n ≤ cap) (hc2 : cap ≤ 9223372036854775807) (hl : look N s = none) (hN : N.length < 16) (hroom : ¬ (zs.length : Int) ≤ size - sum N) :
    Calls Try.prog 11 #[ptr f, .string s, .slice ao n cap] w fun e w' => e = .returned (.int .i64 2) ∧ Hid (Kept Not w w') := by
  have G0 := Gd.start w (.string s) (.slice ao n cap) 9 31
  have HN := hide (name_any s ((w.alloc (.cells #[.string s] 9)).alloc (.cells #[.slice ao n cap] 31)) hs)
  rw [ho] at HN
  have HR := hide (fun W (hb : Kept Not w W) => refusal_ok (h.new hb))
  have HG := hide (fun W (hb : Below ((w.alloc (.cells #[.string s] 9)).alloc (.cells #[.slice ao n cap] 31)).heap.size ((w.alloc (.cells #[.string s] 9)).alloc (.cells #[.slice ao n cap] 31)) W) => G0.next hb)
  have HH := hide (fun W (hb : Kept Not w W) => has_any _ nb N s W (h.now.new hb))
  have HL0 := fun W (hb : Kept Not w W) => left_any (h.new hb) h0 h1 hsum
  have HC := hide (fun W (hb : Kept Not w W) => (h.new hb).c1)
  have HE0 := fun W (hb : Kept Not w W) => (h.now.new hb).len
  have H := hide h
  have HI := hide hB
  clear h G0 hB
  unfold ptr at *
  have HZ := hide hz
  obtain ⟨m, hm⟩ : ∃ m, sum N = m := ⟨_, rfl⟩
  have HM := hide hm
  rw [hm] at HL0 hsum
  rw [hm, hz] at hroom
  have hdr : decide (size - (m : Int) < (n : Int)) = true := by simp; omega
  have HL := hide HL0
  obtain ⟨q, hq⟩ : ∃ q, N.length = q := ⟨_, rfl⟩
  rw [hq] at HE0
  rw [hq] at hN
  have hdq : decide ((16 : Int) ≤ (q : Int)) = false := by simp; omega
  have HE := hide HE0
  clear hm hz hq HL0 HE0
  go_enter Try.func11, Try.ntmps11
  go_wp2_with (first | (go_at_call 29; refine HN.out.mono ?_; rintro e w1 ⟨rfl, HB⟩; have HGD := hide (HG.out _ HB.out); have HK := hide HGD.out.kept) | (go_at_call 28; refine (HR.out _ HK.out).mono ?_; rintro e w2 ⟨rfl, rfl⟩))
  have gd1 : Gd w (.string s) (.slice ao n cap) 9 31 w2.drew := ⟨⟨HGD.out.kept.os, HGD.out.kept.tape, HGD.out.kept.output, HGD.out.kept.size, HGD.out.kept.block⟩, HGD.out.one, HGD.out.two⟩
  have d1 := HC.out _ gd1.kept
  have d2 := gd1.c0
  have d3 := gd1.c1
  have d4 := HE.out _ gd1.kept
  have G1 := hide gd1
  have HH1 := hide (HH.out _ gd1.kept)
  have HL1 := hide (HL.out _ gd1.kept)
  have HX := hide (fun W (hb : Below w2.drew.heap.size w2.drew W) => show W.cell? ⟨f, 1, none⟩ = some (.map (some nb)) ∧ W.cell? ⟨w.heap.size, 0, none⟩ = some (.string s) ∧ W.cell? ⟨w.heap.size + 1, 0, none⟩ = some (.slice ao n cap) ∧ (Builtin.len_ #[56] 3 #[.map (some nb)]).run Try.prog W = .ok (.int .i64 q) W ∧ Hid (Gd w (.string s) (.slice ao n cap) 9 31 W) from
    ⟨HC.out _ (gd1.next hb).kept, (gd1.next hb).c0, (gd1.next hb).c1, HE.out _ (gd1.next hb).kept, hide (gd1.next hb)⟩)
  have hwq : IntKind.i64.wrap (q : Int) = q ∨ True := .inr trivial
  clear gd1 HB HGD HK HN HR HG HH HL hwq
  rw [hl] at HH1
  simp only [Option.isSome] at HH1
  have HLD := hide (fun W (g : Gd w (.string s) (.slice ao n cap) 9 31 W) => show (Instr.loadAt 56 (.pointer (some ⟨f, 1, none⟩))).run Try.prog W = .ok (.map (some nb)) W by have := HC.out _ g.kept; go_simp)
  have HLS := hide (fun W (g : Gd w (.string s) (.slice ao n cap) 9 31 W) => show (Instr.loadAt 9 (.pointer (some ⟨w.heap.size, 0, none⟩))).run Try.prog W = .ok (.string s) W by have := g.c0; go_simp)
  have HLB := hide (fun W (g : Gd w (.string s) (.slice ao n cap) 9 31 W) => show (Instr.loadAt 31 (.pointer (some ⟨w.heap.size + 1, 0, none⟩))).run Try.prog W = .ok (.slice ao n cap) W by have := g.c1; go_simp)
  have HLE := hide (fun W (g : Gd w (.string s) (.slice ao n cap) 9 31 W) => HE.out _ g.kept)
  clear d1 d2 d3 d4 HE HX
  refine wp_region_held (S := (fun W => Hid (Gd w (.string s) (.slice ao n cap) 9 31 W))) (by kernel_rfl) ?_
  refine ah_take (i := 0) (some 15) rfl rfl (by kernel_rfl) (by kernel_rfl) (by kernel_rfl) rfl (fun W g => ex_mv rfl rfl) G1 (fun _ _ _ h => h) ?_
  simp only [Act.put, List.setIfInBounds_toArray, List.set_cons_zero, List.set_cons_succ]
  refine ah_take (i := 1) (some 16) rfl rfl (by kernel_rfl) (by kernel_rfl) (by kernel_rfl) rfl (fun W g => ex_nck rfl rfl) G1 (fun _ _ _ h => h) ?_
  simp only [Act.put, List.setIfInBounds_toArray, List.set_cons_zero, List.set_cons_succ]
  refine ah_take (i := 2) (some 17) rfl rfl (by kernel_rfl) (by kernel_rfl) (by kernel_rfl) rfl (fun W g => ex_fa rfl rfl (fa59 f 1 (by decide) W)) G1 (fun _ _ _ h => h) ?_
  simp only [Act.put, List.setIfInBounds_toArray, List.set_cons_zero, List.set_cons_succ]
  refine ah_take (i := 3) (some 18) rfl rfl (by kernel_rfl) (by kernel_rfl) (by kernel_rfl) rfl (fun W g => ex_load rfl rfl (HLD.out W g.out)) G1 (fun _ _ _ h => h) ?_
  simp only [Act.put, List.setIfInBounds_toArray, List.set_cons_zero, List.set_cons_succ]
  refine ah_take (i := 4) (some 19) rfl rfl (by kernel_rfl) (by kernel_rfl) (by kernel_rfl) rfl (fun W g => ex_load rfl rfl (HLS.out W g.out)) G1 (fun _ _ _ h => h) ?_
  simp only [Act.put, List.setIfInBounds_toArray, List.set_cons_zero, List.set_cons_succ]
  refine ah_call (i := 5) (some 20) rfl rfl (by kernel_rfl) rfl HH1.out (ex_call (f := 30) (vs := [.map (some nb), .string s]) rfl (enters30 _) rfl) ?_
  rintro e w3 ⟨rfl, rfl⟩
  refine ⟨_, rfl, G1, ?_⟩
  simp only [Act.put, List.setIfInBounds_toArray, List.set_cons_zero, List.set_cons_succ]
  refine ah_take (i := 6) (some 21) rfl rfl (by kernel_rfl) (by kernel_rfl) (by kernel_rfl) rfl (fun W g => ex_not rfl rfl) G1 (fun _ _ _ h => h) ?_
  simp only [Act.put, List.setIfInBounds_toArray, List.set_cons_zero, List.set_cons_succ]
  simp only [Bool.not_true, Bool.not_false]
  refine ah_take (i := 7) (some 22) rfl rfl (by kernel_rfl) (by kernel_rfl) (by kernel_rfl) rfl (fun W g => ex_mv rfl rfl) G1 (fun _ _ _ h => h) ?_
  simp only [Act.put, List.setIfInBounds_toArray, List.set_cons_zero, List.set_cons_succ]
  refine ah_take (i := 8) (some 23) rfl rfl (by kernel_rfl) (by kernel_rfl) (by kernel_rfl) rfl (fun W g => ex_mv rfl rfl) G1 (fun _ _ _ h => h) ?_
  simp only [Act.put, List.setIfInBounds_toArray, List.set_cons_zero, List.set_cons_succ]
  refine ah_take (i := 9) (some 24) rfl rfl (by kernel_rfl) (by kernel_rfl) (by kernel_rfl) rfl (fun W g => ex_nck rfl rfl) G1 (fun _ _ _ h => h) ?_
  simp only [Act.put, List.setIfInBounds_toArray, List.set_cons_zero, List.set_cons_succ]
  refine ah_take (i := 10) (some 25) rfl rfl (by kernel_rfl) (by kernel_rfl) (by kernel_rfl) rfl (fun W g => ex_fa rfl rfl (fa59 f 1 (by decide) W)) G1 (fun _ _ _ h => h) ?_
  simp only [Act.put, List.setIfInBounds_toArray, List.set_cons_zero, List.set_cons_succ]
  refine ah_take (i := 11) (some 26) rfl rfl (by kernel_rfl) (by kernel_rfl) (by kernel_rfl) rfl (fun W g => ex_load rfl rfl (HLD.out W g.out)) G1 (fun _ _ _ h => h) ?_
  simp only [Act.put, List.setIfInBounds_toArray, List.set_cons_zero, List.set_cons_succ]
  refine ah_take (i := 12) (some 27) rfl rfl (by kernel_rfl) (by kernel_rfl) (by kernel_rfl) rfl (fun W g => ex_len rfl rfl (HLE.out W g.out)) G1 (fun _ _ _ h => h) ?_
  simp only [Act.put, List.setIfInBounds_toArray, List.set_cons_zero, List.set_cons_succ]
  refine ah_take (i := 13) (some 28) rfl rfl (by kernel_rfl) (by kernel_rfl) (by kernel_rfl) rfl (fun W g => ex_bin rfl rfl rfl (by go_simp) (geqI _ _ W)) G1 (fun _ _ _ h => h) ?_
  simp only [Act.put, List.setIfInBounds_toArray, List.set_cons_zero, List.set_cons_succ]
  rw [hdq]
  refine ah_take (i := 14) (some 29) rfl rfl (by kernel_rfl) (by kernel_rfl) (by kernel_rfl) rfl (fun W g => ex_pkT rfl rfl rfl) G1 (fun _ _ _ h => h) ?_
  simp only [Act.put, List.setIfInBounds_toArray, List.set_cons_zero, List.set_cons_succ]
  refine ah_take (i := 15) (some 30) rfl rfl (by kernel_rfl) (by kernel_rfl) (by kernel_rfl) rfl (fun W g => ex_mv rfl rfl) G1 (fun _ _ _ h => h) ?_
  simp only [Act.put, List.setIfInBounds_toArray, List.set_cons_zero, List.set_cons_succ]
  refine ah_take (i := 16) (some 31) rfl rfl (by kernel_rfl) (by kernel_rfl) (by kernel_rfl) rfl (fun W g => ex_load rfl rfl (HLB.out W g.out)) G1 (fun _ _ _ h => h) ?_
  simp only [Act.put, List.setIfInBounds_toArray, List.set_cons_zero, List.set_cons_succ]
  refine ah_take (i := 17) (some 32) rfl rfl (by kernel_rfl) (by kernel_rfl) (by kernel_rfl) rfl (fun W g => ex_len rfl rfl (len31 _ _ _ _ W)) G1 (fun _ _ _ h => h) ?_
  simp only [Act.put, List.setIfInBounds_toArray, List.set_cons_zero, List.set_cons_succ]
  refine ah_take (i := 18) (some 33) rfl rfl (by kernel_rfl) (by kernel_rfl) (by kernel_rfl) rfl (fun W g => ex_mv rfl rfl) G1 (fun _ _ _ h => h) ?_
  simp only [Act.put, List.setIfInBounds_toArray, List.set_cons_zero, List.set_cons_succ]
  refine ah_call (i := 19) (some 34) rfl rfl (by kernel_rfl) rfl HL1.out (ex_call (f := 23) (vs := [.pointer (some ⟨f, 0, none⟩)]) rfl (enters23 _) rfl) ?_
  rintro e w4 ⟨rfl, hb4⟩
  have G2 := hide (G1.out.next hb4.out)
  refine ⟨_, rfl, G2, ?_⟩
  simp only [Act.put, List.setIfInBounds_toArray, List.set_cons_zero, List.set_cons_succ]
  refine ah_take (i := 20) (some 35) rfl rfl (by kernel_rfl) (by kernel_rfl) (by kernel_rfl) rfl (fun W g => ex_bin rfl rfl rfl (by go_simp) (gtrI _ _ W)) G2 (fun _ _ _ h => h) ?_
  simp only [Act.put, List.setIfInBounds_toArray, List.set_cons_zero, List.set_cons_succ]
  rw [hdr]
  refine ah_take (i := 21) (some 36) rfl rfl (by kernel_rfl) (by kernel_rfl) (by kernel_rfl) rfl (fun W g => ex_pkF rfl rfl rfl) G2 (fun _ _ _ h => h) ?_
  simp only [Act.put, List.setIfInBounds_toArray, List.set_cons_zero, List.set_cons_succ]
  refine ah_done (by kernel_rfl) ?_
  go_wp2
  go_ret
  exact ⟨rfl, hide G2.out.kept⟩
set_option maxHeartbeats 4000000 in
theorem append_full3 (h : Disk w c f size nb sb uv N S acts) (h0 : 0 ≤ size) (h1 : size ≤ 268435456) (hsum : sum N ≤ 140737488355328) (s : ByteArray) (hs : s.size ≤ 9223372036854775807) (ho : okN s = true) (ao : Option Addr) (cap : Nat) (zs : List Int) (n : Nat) (hz : zs.length = n) (hB : IsB w ao cap zs) (hcap : n ≤ cap) (hc2 : cap ≤ 9223372036854775807) (ys : List Int) (hl : look N s = some ys) (hroom : ¬ (zs.length : Int) ≤ size - sum N) :
    Calls Try.prog 11 #[ptr f, .string s, .slice ao n cap] w fun e w' => e = .returned (.int .i64 2) ∧ Hid (Kept Not w w') := by
  have G0 := Gd.start w (.string s) (.slice ao n cap) 9 31
  have HN := hide (name_any s ((w.alloc (.cells #[.string s] 9)).alloc (.cells #[.slice ao n cap] 31)) hs)
  rw [ho] at HN
  have HR := hide (fun W (hb : Kept Not w W) => refusal_ok (h.new hb))
  have HG := hide (fun W (hb : Below ((w.alloc (.cells #[.string s] 9)).alloc (.cells #[.slice ao n cap] 31)).heap.size ((w.alloc (.cells #[.string s] 9)).alloc (.cells #[.slice ao n cap] 31)) W) => G0.next hb)
  have HH := hide (fun W (hb : Kept Not w W) => has_any _ nb N s W (h.now.new hb))
  have HL0 := fun W (hb : Kept Not w W) => left_any (h.new hb) h0 h1 hsum
  have HC := hide (fun W (hb : Kept Not w W) => (h.new hb).c1)
  have HE0 := fun W (hb : Kept Not w W) => (h.now.new hb).len
  have H := hide h
  have HI := hide hB
  clear h G0 hB
  unfold ptr at *
  have HZ := hide hz
  obtain ⟨m, hm⟩ : ∃ m, sum N = m := ⟨_, rfl⟩
  have HM := hide hm
  rw [hm] at HL0 hsum
  rw [hm, hz] at hroom
  have hdr : decide (size - (m : Int) < (n : Int)) = true := by simp; omega
  have HL := hide HL0
  obtain ⟨q, hq⟩ : ∃ q, N.length = q := ⟨_, rfl⟩
  rw [hq] at HE0
  have HE := hide HE0
  clear hm hz hq HL0 HE0
  go_enter Try.func11, Try.ntmps11
  go_wp2_with (first | (go_at_call 29; refine HN.out.mono ?_; rintro e w1 ⟨rfl, HB⟩; have HGD := hide (HG.out _ HB.out); have HK := hide HGD.out.kept) | (go_at_call 28; refine (HR.out _ HK.out).mono ?_; rintro e w2 ⟨rfl, rfl⟩))
  have gd1 : Gd w (.string s) (.slice ao n cap) 9 31 w2.drew := ⟨⟨HGD.out.kept.os, HGD.out.kept.tape, HGD.out.kept.output, HGD.out.kept.size, HGD.out.kept.block⟩, HGD.out.one, HGD.out.two⟩
  have d1 := HC.out _ gd1.kept
  have d2 := gd1.c0
  have d3 := gd1.c1
  have d4 := HE.out _ gd1.kept
  have G1 := hide gd1
  have HH1 := hide (HH.out _ gd1.kept)
  have HL1 := hide (HL.out _ gd1.kept)
  have HX := hide (fun W (hb : Below w2.drew.heap.size w2.drew W) => show W.cell? ⟨f, 1, none⟩ = some (.map (some nb)) ∧ W.cell? ⟨w.heap.size, 0, none⟩ = some (.string s) ∧ W.cell? ⟨w.heap.size + 1, 0, none⟩ = some (.slice ao n cap) ∧ (Builtin.len_ #[56] 3 #[.map (some nb)]).run Try.prog W = .ok (.int .i64 q) W ∧ Hid (Gd w (.string s) (.slice ao n cap) 9 31 W) from
    ⟨HC.out _ (gd1.next hb).kept, (gd1.next hb).c0, (gd1.next hb).c1, HE.out _ (gd1.next hb).kept, hide (gd1.next hb)⟩)
  have hwq : IntKind.i64.wrap (q : Int) = q ∨ True := .inr trivial
  clear gd1 HB HGD HK HN HR HG HH HL hwq
  rw [hl] at HH1
  simp only [Option.isSome] at HH1
  have HLD := hide (fun W (g : Gd w (.string s) (.slice ao n cap) 9 31 W) => show (Instr.loadAt 56 (.pointer (some ⟨f, 1, none⟩))).run Try.prog W = .ok (.map (some nb)) W by have := HC.out _ g.kept; go_simp)
  have HLS := hide (fun W (g : Gd w (.string s) (.slice ao n cap) 9 31 W) => show (Instr.loadAt 9 (.pointer (some ⟨w.heap.size, 0, none⟩))).run Try.prog W = .ok (.string s) W by have := g.c0; go_simp)
  have HLB := hide (fun W (g : Gd w (.string s) (.slice ao n cap) 9 31 W) => show (Instr.loadAt 31 (.pointer (some ⟨w.heap.size + 1, 0, none⟩))).run Try.prog W = .ok (.slice ao n cap) W by have := g.c1; go_simp)
  have HLE := hide (fun W (g : Gd w (.string s) (.slice ao n cap) 9 31 W) => HE.out _ g.kept)
  clear d1 d2 d3 d4 HE HX
  refine wp_region_held (S := (fun W => Hid (Gd w (.string s) (.slice ao n cap) 9 31 W))) (by kernel_rfl) ?_
  refine ah_take (i := 0) (some 15) rfl rfl (by kernel_rfl) (by kernel_rfl) (by kernel_rfl) rfl (fun W g => ex_mv rfl rfl) G1 (fun _ _ _ h => h) ?_
  simp only [Act.put, List.setIfInBounds_toArray, List.set_cons_zero, List.set_cons_succ]
  refine ah_take (i := 1) (some 16) rfl rfl (by kernel_rfl) (by kernel_rfl) (by kernel_rfl) rfl (fun W g => ex_nck rfl rfl) G1 (fun _ _ _ h => h) ?_
  simp only [Act.put, List.setIfInBounds_toArray, List.set_cons_zero, List.set_cons_succ]
  refine ah_take (i := 2) (some 17) rfl rfl (by kernel_rfl) (by kernel_rfl) (by kernel_rfl) rfl (fun W g => ex_fa rfl rfl (fa59 f 1 (by decide) W)) G1 (fun _ _ _ h => h) ?_
  simp only [Act.put, List.setIfInBounds_toArray, List.set_cons_zero, List.set_cons_succ]
  refine ah_take (i := 3) (some 18) rfl rfl (by kernel_rfl) (by kernel_rfl) (by kernel_rfl) rfl (fun W g => ex_load rfl rfl (HLD.out W g.out)) G1 (fun _ _ _ h => h) ?_
  simp only [Act.put, List.setIfInBounds_toArray, List.set_cons_zero, List.set_cons_succ]
  refine ah_take (i := 4) (some 19) rfl rfl (by kernel_rfl) (by kernel_rfl) (by kernel_rfl) rfl (fun W g => ex_load rfl rfl (HLS.out W g.out)) G1 (fun _ _ _ h => h) ?_
  simp only [Act.put, List.setIfInBounds_toArray, List.set_cons_zero, List.set_cons_succ]
  refine ah_call (i := 5) (some 20) rfl rfl (by kernel_rfl) rfl HH1.out (ex_call (f := 30) (vs := [.map (some nb), .string s]) rfl (enters30 _) rfl) ?_
  rintro e w3 ⟨rfl, rfl⟩
  refine ⟨_, rfl, G1, ?_⟩
  simp only [Act.put, List.setIfInBounds_toArray, List.set_cons_zero, List.set_cons_succ]
  refine ah_take (i := 6) (some 21) rfl rfl (by kernel_rfl) (by kernel_rfl) (by kernel_rfl) rfl (fun W g => ex_not rfl rfl) G1 (fun _ _ _ h => h) ?_
  simp only [Act.put, List.setIfInBounds_toArray, List.set_cons_zero, List.set_cons_succ]
  simp only [Bool.not_true, Bool.not_false]
  refine ah_take (i := 7) (some 22) rfl rfl (by kernel_rfl) (by kernel_rfl) (by kernel_rfl) rfl (fun W g => ex_mv rfl rfl) G1 (fun _ _ _ h => h) ?_
  simp only [Act.put, List.setIfInBounds_toArray, List.set_cons_zero, List.set_cons_succ]
  refine ah_skip (i := 8) (some 23) rfl rfl (by kernel_rfl) (by kernel_rfl) (by kernel_rfl) rfl G1 (fun _ _ _ h => h) ?_
  simp only [Act.put, List.setIfInBounds_toArray, List.set_cons_zero, List.set_cons_succ]
  refine ah_skip (i := 9) (some 24) rfl rfl (by kernel_rfl) (by kernel_rfl) (by kernel_rfl) rfl G1 (fun _ _ _ h => h) ?_
  simp only [Act.put, List.setIfInBounds_toArray, List.set_cons_zero, List.set_cons_succ]
  refine ah_skip (i := 10) (some 25) rfl rfl (by kernel_rfl) (by kernel_rfl) (by kernel_rfl) rfl G1 (fun _ _ _ h => h) ?_
  simp only [Act.put, List.setIfInBounds_toArray, List.set_cons_zero, List.set_cons_succ]
  refine ah_skip (i := 11) (some 26) rfl rfl (by kernel_rfl) (by kernel_rfl) (by kernel_rfl) rfl G1 (fun _ _ _ h => h) ?_
  simp only [Act.put, List.setIfInBounds_toArray, List.set_cons_zero, List.set_cons_succ]
  refine ah_skip (i := 12) (some 27) rfl rfl (by kernel_rfl) (by kernel_rfl) (by kernel_rfl) rfl G1 (fun _ _ _ h => h) ?_
  simp only [Act.put, List.setIfInBounds_toArray, List.set_cons_zero, List.set_cons_succ]
  refine ah_skip (i := 13) (some 28) rfl rfl (by kernel_rfl) (by kernel_rfl) (by kernel_rfl) rfl G1 (fun _ _ _ h => h) ?_
  simp only [Act.put, List.setIfInBounds_toArray, List.set_cons_zero, List.set_cons_succ]
  refine ah_take (i := 14) (some 29) rfl rfl (by kernel_rfl) (by kernel_rfl) (by kernel_rfl) rfl (fun W g => ex_pkF rfl rfl rfl) G1 (fun _ _ _ h => h) ?_
  simp only [Act.put, List.setIfInBounds_toArray, List.set_cons_zero, List.set_cons_succ]
  refine ah_take (i := 15) (some 30) rfl rfl (by kernel_rfl) (by kernel_rfl) (by kernel_rfl) rfl (fun W g => ex_mv rfl rfl) G1 (fun _ _ _ h => h) ?_
  simp only [Act.put, List.setIfInBounds_toArray, List.set_cons_zero, List.set_cons_succ]
  refine ah_take (i := 16) (some 31) rfl rfl (by kernel_rfl) (by kernel_rfl) (by kernel_rfl) rfl (fun W g => ex_load rfl rfl (HLB.out W g.out)) G1 (fun _ _ _ h => h) ?_
  simp only [Act.put, List.setIfInBounds_toArray, List.set_cons_zero, List.set_cons_succ]
  refine ah_take (i := 17) (some 32) rfl rfl (by kernel_rfl) (by kernel_rfl) (by kernel_rfl) rfl (fun W g => ex_len rfl rfl (len31 _ _ _ _ W)) G1 (fun _ _ _ h => h) ?_
  simp only [Act.put, List.setIfInBounds_toArray, List.set_cons_zero, List.set_cons_succ]
  refine ah_take (i := 18) (some 33) rfl rfl (by kernel_rfl) (by kernel_rfl) (by kernel_rfl) rfl (fun W g => ex_mv rfl rfl) G1 (fun _ _ _ h => h) ?_
  simp only [Act.put, List.setIfInBounds_toArray, List.set_cons_zero, List.set_cons_succ]
  refine ah_call (i := 19) (some 34) rfl rfl (by kernel_rfl) rfl HL1.out (ex_call (f := 23) (vs := [.pointer (some ⟨f, 0, none⟩)]) rfl (enters23 _) rfl) ?_
  rintro e w4 ⟨rfl, hb4⟩
  have G2 := hide (G1.out.next hb4.out)
  refine ⟨_, rfl, G2, ?_⟩
  simp only [Act.put, List.setIfInBounds_toArray, List.set_cons_zero, List.set_cons_succ]
  refine ah_take (i := 20) (some 35) rfl rfl (by kernel_rfl) (by kernel_rfl) (by kernel_rfl) rfl (fun W g => ex_bin rfl rfl rfl (by go_simp) (gtrI _ _ W)) G2 (fun _ _ _ h => h) ?_
  simp only [Act.put, List.setIfInBounds_toArray, List.set_cons_zero, List.set_cons_succ]
  rw [hdr]
  refine ah_take (i := 21) (some 36) rfl rfl (by kernel_rfl) (by kernel_rfl) (by kernel_rfl) rfl (fun W g => ex_pkF rfl rfl rfl) G2 (fun _ _ _ h => h) ?_
  simp only [Act.put, List.setIfInBounds_toArray, List.set_cons_zero, List.set_cons_succ]
  refine ah_done (by kernel_rfl) ?_
  go_wp2
  go_ret
  exact ⟨rfl, hide G2.out.kept⟩
end
end Go.Proofs.Ytdmhcgneafacmaa
