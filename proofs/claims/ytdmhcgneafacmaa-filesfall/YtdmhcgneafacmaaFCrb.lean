/- Crash where it may be, over this seat's translation. -/
import Derived.Test.YtdmhcgneafacmaaFCra
namespace Go.Proofs.Ytdmhcgneafacmaa
open Go.RowKit
set_option linter.unusedVariables false
set_option linter.unusedSimpArgs false
set_option maxRecDepth 100000

theorem run_from57 {g n m cap : Nat} (hn : n < cap) (hm : m ≤ cap) (hnm : n ≤ m) (w : World) : (Instr.slice 57 (.slice (some ⟨g, 0, none⟩) m cap) (some (.int .i64 n)) none none).run Try.prog w = .ok (.slice (some ⟨g, n * 2, none⟩) (m - n) (cap - n)) w := by
  have hb : (Instr.sliceBounds true m cap (some (.int .i64 n)) none none).run Try.prog w = .ok (n, m, cap) w := by
    unfold Instr.sliceBounds
    simp [run_sliceBound, show (n : Int) ≤ m by omega, Result.andThen]
  have hz : (sizeOf 69).run Try.prog w = .ok 2 w := by go_simp
  unfold Instr.slice
  simp only [Sem.run_bind, run_underlying Try.underlying57, Result.andThen, hb, Sem.run_pure, hz]
  rw [if_neg (by omega)]
  have ad : (⟨g, 0, none⟩ : Addr).add (n * 2) = ⟨g, n * 2, none⟩ := by unfold Addr.add; split <;> simp_all
  simp [ad]
theorem run_fromAll {ao : Option Addr} {m cap : Nat} (hm : m ≤ cap) (w : World) : ∃ a c, (Instr.slice 57 (.slice ao m cap) (some (.int .i64 m)) none none).run Try.prog w = .ok (.slice a 0 c) w := by
  have hb : (Instr.sliceBounds true m cap (some (.int .i64 m)) none none).run Try.prog w = .ok (m, m, cap) w := by
    unfold Instr.sliceBounds
    simp [run_sliceBound, Result.andThen]
  have hz : (sizeOf 69).run Try.prog w = .ok 2 w := by go_simp
  unfold Instr.slice
  simp only [Sem.run_bind, run_underlying Try.underlying57, Result.andThen, hb, Sem.run_pure, hz, Nat.sub_self]
  exact ⟨_, _, rfl⟩
section
variable {w : World} {c : Nat → Nat} {f : Nat} {size : Int} {nb sb : Nat} {uv : Value} {N S : List Ent} {acts : List AM}
/-- the last part of a crash -/
theorem crash_end {w1 w3 : World} {c1 : Nat → Nat} {S1 N3 : List Ent} {k n : Nat} (m : Mid w1 c1 f size nb sb (.slice none 0 0) N S1 []) (ho : ∀ i, i < w.heap.size → c1 i = c i) (kk : Kept (fun i => 1 ≤ c i ∧ c i ≠ 7) w w1) (hl : n = 0 ∨ k = acts.length → look S1 = (acts.take k).foldl doF (look S)) (hs : sum S1 ≤ sum S + tot acts) (hlen : S1.length ≤ S.length + acts.length) (hc : Copy w1 w3 w1.heap.size S1 N3) :
    w3.cell? ⟨f, 1, none⟩ = some (.map (some nb)) ∧ w3.frozen? ⟨f, 1, none⟩ = false ∧ (w3.setCell ⟨f, 1, none⟩ (.map (some w1.heap.size))).cell? ⟨f, 4, none⟩ = some (.int .i64 (-1)) ∧ (w3.setCell ⟨f, 1, none⟩ (.map (some w1.heap.size))).frozen? ⟨f, 4, none⟩ = false ∧
    Hid (Crashed w ((w3.setCell ⟨f, 1, none⟩ (.map (some w1.heap.size))).setCell ⟨f, 4, none⟩ (.int .i64 (-1))) c f size sb S acts k n) := by
  obtain ⟨a1, a2, a3, a4, a5, a6, a7⟩ := m.copied hc
  refine ⟨a1, a2, a3, a4, hide ⟨_, _, N3, S1, a5, ⟨fun i hi => (a6 i (Nat.lt_of_lt_of_le hi kk.size)).trans (ho i hi), kk.trans a7 (fun _ _ h => h) (fun i hi e => by rw [ho i hi] at e; omega)⟩, fun e => by rw [hc.look]; exact hl e, by rw [hc.sums]; exact hs, by rw [hc.len]; exact hlen⟩⟩
set_option maxHeartbeats 4000000 in
/-- all acts last -/
theorem crash_all (h : Disk w c f size nb sb uv N S acts) (hl : sum S + tot acts ≤ 140737488355328) (n : Nat) :
    Calls Try.prog 19 #[ptr f, .int .i64 acts.length, .int .i64 n] w fun e w' => e = .returned (.int .i64 0) ∧ Hid (Crashed w w' c f size sb S acts acts.length n) := by
  have HC := hide (closed_any h)
  have HS := hide (sure_any h.mid hl acts.length (Nat.le_refl _))
  obtain ⟨ao, cap, rfl, hl1, hl2⟩ := h.uns.shape
  have c3 := h.c3
  obtain ⟨a9, c9, hsl⟩ := run_fromAll (ao := ao) hl1 w
  have HE := hide (fun (w1 : World) (hs : Sured w w1 c f size nb sb N S acts acts.length) => show ∃ c1 S1, Hid (Mid w1 c1 f size nb sb (.slice none 0 0) N S1 []) ∧ w1.cell? ⟨f, 2, none⟩ = some (.map (some sb)) ∧ Hid (Calls Try.prog 26 #[.map (some sb)] w1 fun e w' => e = .returned (.map (some w1.heap.size)) ∧ ∃ L', Hid (Copy w1 w' w1.heap.size S1 L')) ∧ Hid (∀ w3 N3, Copy w1 w3 w1.heap.size S1 N3 → w3.cell? ⟨f, 1, none⟩ = some (.map (some nb)) ∧ w3.frozen? ⟨f, 1, none⟩ = false ∧ (w3.setCell ⟨f, 1, none⟩ (.map (some w1.heap.size))).cell? ⟨f, 4, none⟩ = some (.int .i64 (-1)) ∧ (w3.setCell ⟨f, 1, none⟩ (.map (some w1.heap.size))).frozen? ⟨f, 4, none⟩ = false ∧
    Hid (Crashed w ((w3.setCell ⟨f, 1, none⟩ (.map (some w1.heap.size))).setCell ⟨f, 4, none⟩ (.int .i64 (-1))) c f size sb S acts acts.length n)) by
    obtain ⟨c1, S1, m1, m2, m3, m4, m5⟩ := hs
    have htk := tot_take_le acts acts.length
    have hlf := len_fold h.sure m1.sure _ m2
    rw [List.length_take, Nat.min_self] at hlf
    exact ⟨c1, S1, hide m1, m1.c2, hide (copy_any _ sb S1 w1 m1.sure (by omega)), hide (fun w3 N3 hc => crash_end m1 m4 (m5.mono (fun i _ e => by omega)) (fun _ => m2) (by omega) (by omega) hc)⟩)
  clear h
  unfold ptr at *
  obtain ⟨m, hm⟩ : ∃ m, acts.length = m := ⟨_, rfl⟩
  rw [hm] at HS HE c3 hsl hl1 ⊢
  clear hm
  go_enter Try.func19, Try.ntmps19
  go_wp2_with (first | (go_at_call 25; refine HC.out.mono ?_; rintro e w0 ⟨rfl, rfl⟩) | (go_at_call 37; refine HS.out.mono ?_; rintro e w1 ⟨rfl, hs⟩; obtain ⟨c1, S1, HM, x2, HCP, HFN⟩ := HE.out w1 hs.out; clear hs) | (go_at_call 26; refine HCP.out.mono ?_; rintro e w3 ⟨rfl, N3, hc⟩; obtain ⟨x3, x4, x5, x6, HFIN⟩ := HFN.out w3 N3 hc.out; clear hc))
  go_ret
  exact ⟨rfl, HFIN⟩
theorem neq67_nil (W : World) : (binOp .neq 67 .nilFunc .nilFunc).run Try.prog W = .ok (.bool false) W := by
  have h : ∀ d, (Op.equalIn (d + 1) 67 .nilFunc .nilFunc).run Try.prog W = .ok true W := fun d => by simp [Op.equalIn, run_underlying Try.underlying67]
  simp only [binOp]
  simp [Op.equal, Op.maxDepth, h 9999]
theorem neq67_func (k : Nat) (cp : Array Value) (W : World) : (binOp .neq 67 (.func (.func k) #[] cp) .nilFunc).run Try.prog W = .ok (.bool true) W := by
  have h : ∀ d, (Op.equalIn (d + 1) 67 (.func (.func k) #[] cp) .nilFunc).run Try.prog W = .ok false W := fun d => by simp [Op.equalIn, run_underlying Try.underlying67]
  simp only [binOp]
  simp [Op.equal, Op.maxDepth, h 9999]
set_option maxHeartbeats 4000000 in
/-- some acts last; the next one is no Append -/
theorem crash_plain (h : Disk w c f size nb sb uv N S acts) (hl : sum S + tot acts ≤ 140737488355328) (k n : Nat) (A : AM) (hA : acts[k]? = some A) (hk : A.kind ≠ 1) :
    Calls Try.prog 19 #[ptr f, .int .i64 k, .int .i64 n] w fun e w' => e = .returned (.int .i64 0) ∧ Hid (Crashed w w' c f size sb S acts k n) := by
  have HC := hide (closed_any h)
  have hkl : k < acts.length := (List.getElem?_eq_some_iff.1 hA).1
  have HS := hide (sure_any h.mid hl k (by omega))
  obtain ⟨g, cap, v1, v2, rfl, hl1, hl2, hcg, q1, q2, hact⟩ := h.uns.at hA
  have c3 := h.c3
  have hsl := run_from57 (g := g) (n := k) (m := acts.length) (cap := cap) (by omega) hl1 (by omega) w
  have hv2 : v2 = .nilFunc := by
    obtain ⟨x, y, _, _, _, h2⟩ := hact.is
    rcases h2 with ⟨a1, _⟩ | ⟨_, _, a3, _⟩ | ⟨_, _, a3, _⟩ | ⟨_, _, a3⟩
    · exact absurd a1 hk
    · exact a3
    · exact a3
    · exact a3
  subst hv2
  have HE := hide (fun (w1 : World) (hs : Sured w w1 c f size nb sb N S acts k) => show ∃ c1 S1, Hid (Mid w1 c1 f size nb sb (.slice none 0 0) N S1 []) ∧ w1.cell? ⟨f, 2, none⟩ = some (.map (some sb)) ∧ w1.cell? ⟨g, k * 2 + 1, none⟩ = some .nilFunc ∧ Hid (Calls Try.prog 26 #[.map (some sb)] w1 fun e w' => e = .returned (.map (some w1.heap.size)) ∧ ∃ L', Hid (Copy w1 w' w1.heap.size S1 L')) ∧ Hid (∀ w3 N3, Copy w1 w3 w1.heap.size S1 N3 → w3.cell? ⟨f, 1, none⟩ = some (.map (some nb)) ∧ w3.frozen? ⟨f, 1, none⟩ = false ∧ (w3.setCell ⟨f, 1, none⟩ (.map (some w1.heap.size))).cell? ⟨f, 4, none⟩ = some (.int .i64 (-1)) ∧ (w3.setCell ⟨f, 1, none⟩ (.map (some w1.heap.size))).frozen? ⟨f, 4, none⟩ = false ∧
    Hid (Crashed w ((w3.setCell ⟨f, 1, none⟩ (.map (some w1.heap.size))).setCell ⟨f, 4, none⟩ (.int .i64 (-1))) c f size sb S acts k n)) by
    obtain ⟨c1, S1, m1, m2, m3, m4, m5⟩ := hs
    have htk := tot_take_le acts k
    have hlf := len_fold h.sure m1.sure _ m2
    rw [List.length_take] at hlf
    exact ⟨c1, S1, hide m1, m1.c2, m5.cell (a := ⟨g, k * 2 + 1, none⟩) q2 (by show ¬ (c g = 1 ∨ c g = 3 ∨ c g = 5); omega), hide (copy_any _ sb S1 w1 m1.sure (by omega)), hide (fun w3 N3 hc => crash_end m1 m4 (m5.mono (fun i _ e => by omega)) (fun _ => m2) (by omega) (by omega) hc)⟩)
  clear h hact hA hk q1 q2 hcg hl
  unfold ptr at *
  have hq := neq67_nil
  obtain ⟨m, hm⟩ : ∃ m, acts.length = m := ⟨_, rfl⟩
  rw [hm] at c3 hsl hl1 hkl
  clear hm
  have hlen : (0 : Int) < ((m - k : Nat) : Int) := by omega
  obtain ⟨r, hr⟩ : ∃ r, m - k = r := ⟨_, rfl⟩
  obtain ⟨r2, hr2⟩ : ∃ r, cap - k = r := ⟨_, rfl⟩
  have h1 : (1 : Int) ≤ (r : Int) := by omega
  have h2 : (r : Int) ≤ 9223372036854775807 := by omega
  have h3 : (r : Int) ≤ (r2 : Int) := by omega
  rw [hr, hr2] at hsl
  rw [hr] at hlen
  have hkm : (k : Int) ≤ (m : Int) := by omega
  clear hr hr2
  go_enter Try.func19, Try.ntmps19
  go_wp2_with (first | (go_at_call 25; refine HC.out.mono ?_; rintro e w0 ⟨rfl, rfl⟩) | (go_at_call 37; refine HS.out.mono ?_; rintro e w1 ⟨rfl, hs⟩; obtain ⟨c1, S1, HM, x2, xg, HCP, HFN⟩ := HE.out w1 hs.out; clear hs) | (go_at_call 26; refine HCP.out.mono ?_; rintro e w3 ⟨rfl, N3, hc⟩; obtain ⟨x3, x4, x5, x6, HFIN⟩ := HFN.out w3 N3 hc.out; clear hc))
  go_ret
  exact ⟨rfl, HFIN⟩
set_option maxHeartbeats 4000000 in
/-- some acts last, and the beginning of an Append -/
theorem crash_app (h : Disk w c f size nb sb uv N S acts) (hl : sum S + tot acts ≤ 140737488355328) (k n : Nat) (A : AM) (hA : acts[k]? = some A) (hk : A.kind = 1) (hn : n ≤ 9223372036854775807) :
    Calls Try.prog 19 #[ptr f, .int .i64 k, .int .i64 n] w fun e w' => e = .returned (.int .i64 0) ∧ Hid (Crashed w w' c f size sb S acts k n) := by
  have HC := hide (closed_any h)
  have hkl : k < acts.length := (List.getElem?_eq_some_iff.1 hA).1
  have HS := hide (sure_any h.mid hl k (by omega))
  obtain ⟨g, cap, v1, v2, rfl, hl1, hl2, hcg, q1, q2, hact⟩ := h.uns.at hA
  have c3 := h.c3
  have hsl := run_from57 (g := g) (n := k) (m := acts.length) (cap := cap) (by omega) hl1 (by omega) w
  have htl := tot_le hA
  obtain ⟨cp, rfl⟩ : ∃ cp, v2 = .func (.func 36) #[] cp := by
    obtain ⟨cp, h2, _⟩ := begun_any h.mid hact hk n hn (by omega)
    exact ⟨cp, h2⟩
  have HE := hide (fun (w1 : World) (hs : Sured w w1 c f size nb sb N S acts k) => show w1.cell? ⟨f, 2, none⟩ = some (.map (some sb)) ∧ w1.cell? ⟨g, k * 2 + 1, none⟩ = some (.func (.func 36) #[] cp) ∧ ∃ P2 : World → Prop, Hid (Calls Try.prog 36 (#[.map (some sb), .int .i64 n] ++ cp) w1.drew fun e w' => e = .returned (.tuple #[]) ∧ Hid (P2 w')) ∧ Hid (∀ w2, P2 w2 → ∃ S2, w2.cell? ⟨f, 2, none⟩ = some (.map (some sb)) ∧ w2.cell? ⟨g, k * 2 + 1, none⟩ = some (.func (.func 36) #[] cp) ∧ Hid (Calls Try.prog 26 #[.map (some sb)] w2 fun e w' => e = .returned (.map (some w2.heap.size)) ∧ ∃ L', Hid (Copy w2 w' w2.heap.size S2 L')) ∧ Hid (∀ w3 N3, Copy w2 w3 w2.heap.size S2 N3 → w3.cell? ⟨f, 1, none⟩ = some (.map (some nb)) ∧ w3.frozen? ⟨f, 1, none⟩ = false ∧ (w3.setCell ⟨f, 1, none⟩ (.map (some w2.heap.size))).cell? ⟨f, 4, none⟩ = some (.int .i64 (-1)) ∧ (w3.setCell ⟨f, 1, none⟩ (.map (some w2.heap.size))).frozen? ⟨f, 4, none⟩ = false ∧
    Hid (Crashed w ((w3.setCell ⟨f, 1, none⟩ (.map (some w2.heap.size))).setCell ⟨f, 4, none⟩ (.int .i64 (-1))) c f size sb S acts k n))) by
    obtain ⟨c1, S1, m1, m2, m3, m4, m5⟩ := hs
    have htk := tot_take_le acts k
    have hlf := len_fold h.sure m1.sure _ m2
    rw [List.length_take] at hlf
    have k0 : Kept Not w1 w1.drew := Kept.ofBelow (Below.refl w1.heap.size w1).drew
    have cg1 : ¬ (c g = 1 ∨ c g = 3 ∨ c g = 5) := by omega
    have xg : w1.cell? ⟨g, k * 2 + 1, none⟩ = some (.func (.func 36) #[] cp) := m5.cell (a := ⟨g, k * 2 + 1, none⟩) q2 cg1
    have hgl : g < w.heap.size := block_lt_of_cell q2
    have hact1 : ActV w1 c1 v1 (.func (.func 36) #[] cp) A := hact.kept m5 (fun z hz => by omega) (fun z hz e => (m4 z hz).trans e)
    obtain ⟨cp', e', hcall⟩ := begun_any (m1.new k0) (hact1.kept k0 (fun _ _ h => h) (fun _ _ e => e)) hk n hn (by omega)
    cases e'
    refine ⟨m1.c2, xg, _, hide hcall, hide (fun w2 hb => ?_)⟩
    obtain ⟨c2, S2, b1, b2, b3, bl, b4, b5⟩ := m1.begun k0 hb
    have hc1g : c1 g = c g := m4 g hgl
    refine ⟨S2, b1.c2, b5.cell (a := ⟨g, k * 2 + 1, none⟩) xg (by show ¬ (c1 g = 3 ∨ c1 g = 5); omega), hide (copy_any _ sb S2 w2 b1.sure (by omega)), hide (fun w3 N3 hc => crash_end b1 (fun i hi => (b4 i (Nat.lt_of_lt_of_le hi m5.size)).trans (m4 i hi)) (m5.trans b5 (fun i _ e => by omega) (fun i hi e => by rw [m4 i hi] at e; omega)) (fun e => ?_) (by omega) (by omega) hc)⟩
    rcases e with e | e
    · rw [b2 e]
      exact m2
    · omega)
  clear h hact hA hk q1 q2 hcg hl htl
  unfold ptr at *
  have hq := neq67_func 36 cp
  have hen : ∀ args W, (callFunc 36 args).run Try.prog W = .ok (.enter 36 args) W := enters36
  obtain ⟨m, hm⟩ : ∃ m, acts.length = m := ⟨_, rfl⟩
  rw [hm] at c3 hsl hl1 hkl
  clear hm
  have hlen : (0 : Int) < ((m - k : Nat) : Int) := by omega
  obtain ⟨r, hr⟩ : ∃ r, m - k = r := ⟨_, rfl⟩
  obtain ⟨r2, hr2⟩ : ∃ r, cap - k = r := ⟨_, rfl⟩
  have h1 : (1 : Int) ≤ (r : Int) := by omega
  have h2 : (r : Int) ≤ 9223372036854775807 := by omega
  have h3 : (r : Int) ≤ (r2 : Int) := by omega
  rw [hr, hr2] at hsl
  rw [hr] at hlen
  have hkm : (k : Int) ≤ (m : Int) := by omega
  clear hr hr2
  go_enter Try.func19, Try.ntmps19
  go_wp2_with (first | (go_at_call 25; refine HC.out.mono ?_; rintro e w0 ⟨rfl, rfl⟩) | (go_at_call 37; refine HS.out.mono ?_; rintro e w1 ⟨rfl, hs⟩; obtain ⟨x2, xg, P2, HBG, HFN⟩ := HE.out w1 hs.out; clear hs))
  have x2d : w1.drew.cell? ⟨f, 2, none⟩ = some (.map (some sb)) := x2
  have xgd : w1.drew.cell? ⟨g, k * 2 + 1, none⟩ = some (.func (.func 36) #[] cp) := xg
  go_region_held3 (fun W => W.cell? ⟨f, 2, none⟩ = some (.map (some sb)) ∧ W.cell? ⟨g, k * 2 + 1, none⟩ = some (.func (.func 36) #[] cp)) (exact ⟨by assumption, by assumption⟩)
    (first
      | (refine HBG.out.mono ?_; rintro e w2 ⟨rfl, hp⟩; obtain ⟨S2, y2, yg, HCP, HFN2⟩ := HFN.out w2 hp.out; clear hp))
  go_wp2_with (first | (go_at_call 26; refine HCP.out.mono ?_; rintro e w3 ⟨rfl, N3, hc⟩; obtain ⟨x3, x4, x5, x6, HFIN⟩ := HFN2.out w3 N3 hc.out; clear hc))
  go_ret
  exact ⟨rfl, HFIN⟩
end
end Go.Proofs.Ytdmhcgneafacmaa
