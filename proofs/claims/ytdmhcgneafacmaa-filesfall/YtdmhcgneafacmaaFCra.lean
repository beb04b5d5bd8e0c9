/- The contract of Crash over this seat's translation. -/
import Derived.Test.YtdmhcgneafacmaaFCrash
namespace Go.Proofs.Ytdmhcgneafacmaa
open Go.RowKit
set_option linter.unusedVariables false
set_option linter.unusedSimpArgs false
set_option maxRecDepth 100000

section
variable {w : World} {c : Nat → Nat} {f : Nat} {size : Int} {nb sb : Nat} {uv : Value} {N S : List Ent} {acts : List AM}
theorem begun_any {v1 v2 : Value} {A : AM} (h : Mid w c f size nb sb uv N S acts) (hA : ActV w c v1 v2 A) (hk : A.kind = 1) (n : Nat) (hn : n ≤ 9223372036854775807) (hl : sum S + addLen A ≤ 140737488355328) :
    ∃ cap, v2 = .func (.func 36) #[] cap ∧ Calls Try.prog 36 (#[.map (some sb), .int .i64 n] ++ cap) w fun e w' => e = .returned (.tuple #[]) ∧ Hid (Begun w w' (fun g => c g = 5) sb S n (addLen A)) := by
  obtain ⟨x, y, hx, hy, h1, h2⟩ := hA.is
  have tx : ∀ z, c z = 7 → ¬ touch sb (fun g => c g = 5) z := fun z hz e => by
    have := h.cs
    rcases e with e | e
    · rw [e] at hz
      omega
    · have e1 : c z = 5 := e
      omega
  rcases h2 with ⟨a1, a2, a3, v, a4, a5, a6⟩ | ⟨a1, _⟩ | ⟨a1, _⟩ | ⟨a1, _⟩
  · refine ⟨_, a3, ?_⟩
    by_cases hn0 : n = 0
    · subst hn0
      exact begun_zero h.sure _
    · obtain ⟨ao, cap, rfl, hB, hc1, hc2⟩ := a5.isB
      by_cases hz : A.bytes.length = 0
      · rw [hz] at a4
        refine (begun_empty h.sure n ao cap a4 (by omega) hn).mono fun e w' hp => ⟨hp.1, ?_⟩
        unfold addLen
        rw [hz]
        exact hp.2
      · rcases a5.2 with ⟨q, q0⟩ | ⟨g, cap', cur, q, _⟩
        · omega
        · simp only [Value.slice.injEq] at q
          obtain ⟨rfl, _, rfl⟩ := q
          exact begun_some h.sure n _ g cap A.bytes A.bytes.length rfl h1 a4 hB rfl hc1 hc2 (by omega) hn (by omega) hl (tx x hx) (tx y hy)
  · omega
  · omega
  · omega
theorem Mid.begun {w1 w2 : World} {n m : Nat} (h : Mid w c f size nb sb uv N S acts) (k1 : Kept Not w w1) (hd : Begun w1 w2 (fun g => c g = 5) sb S n m) :
    ∃ c' S', Mid w2 c' f size nb sb uv N S' acts ∧ (n = 0 → look S' = look S) ∧ sum S' ≤ sum S + m ∧ S'.length ≤ S.length + 1 ∧ (∀ k, k < w.heap.size → c' k = c k) ∧ Kept (fun k => c k = 3 ∨ c k = 5) w w2 := by
  obtain ⟨S', d1, d2, d3, d4, d5⟩ := hd
  have z1 := k1.size
  have z2 := d2.size
  have hs := h.sure.lt
  have hn := h.now.lt
  have hf := h.lt
  have d2' : Kept (fun k => c k = 3 ∨ c k = 5) w1 w2 := d2.mono (fun i _ e => e.elim (fun e => .inl (by rw [e]; exact h.cs)) .inr)
  have k2 : Kept (fun k => c k = 3 ∨ c k = 5) w w2 := k1.trans d2' (fun _ _ h => h.elim) (fun _ _ h => h)
  have hcol : ∀ k, k < w.heap.size → paint c w1.heap.size w2.heap.size 5 k = c k := fun k hk => paint_old (by omega)
  refine ⟨paint c w1.heap.size w2.heap.size 5, S', ⟨(k2.block f hf (by rw [h.cf]; omega)).trans h.box, (hcol f hf).trans h.cf, ?_, (hcol nb hn).trans h.cn, d1.grown (by omega), (hcol sb hs).trans h.cs, ?_, ?_⟩, d3, d4, d5, hcol, k2⟩
  · exact (h.now.recolor hcol).kept k2 (by rw [h.cn]; omega) (fun k hk => by have := paint_mid (by decide) hk; omega)
  · exact h.uns.kept k2 (fun g hg => by omega) (fun g hg _ => hcol g hg)
  · intro g hg
    unfold paint
    rw [if_neg (by omega)]
    exact h.fresh g (by omega)
/-- colours when the files are another folder -/
def cCopy (c : Nat → Nat) (B hi : Nat) : Nat → Nat := fun g => if g = B then 2 else paint c (B + 1) hi 4 g
theorem cCopy_old {B hi g : Nat} (h : g < B) : cCopy c B hi g = c g := by
  unfold cCopy
  rw [if_neg (by omega), paint_old (by omega)]
/-- behind the copy -/
theorem Mid.copied {w3 : World} {N3 : List Ent} (h : Mid w c f size nb sb (.slice none 0 0) N S []) (hc : Copy w w3 w.heap.size S N3) :
    w3.cell? ⟨f, 1, none⟩ = some (.map (some nb)) ∧ w3.frozen? ⟨f, 1, none⟩ = false ∧ (w3.setCell ⟨f, 1, none⟩ (.map (some w.heap.size))).cell? ⟨f, 4, none⟩ = some (.int .i64 (-1)) ∧ (w3.setCell ⟨f, 1, none⟩ (.map (some w.heap.size))).frozen? ⟨f, 4, none⟩ = false ∧
    Disk ((w3.setCell ⟨f, 1, none⟩ (.map (some w.heap.size))).setCell ⟨f, 4, none⟩ (.int .i64 (-1))) (cCopy c w.heap.size w3.heap.size) f size w.heap.size sb (.slice none 0 0) N3 S [] ∧ (∀ k, k < w.heap.size → cCopy c w.heap.size w3.heap.size k = c k) ∧ Kept (fun k => c k = 1) w ((w3.setCell ⟨f, 1, none⟩ (.map (some w.heap.size))).setCell ⟨f, 4, none⟩ (.int .i64 (-1))) := by
  have k3 : Kept Not w w3 := Kept.ofBelow hc.low
  have hf := h.lt
  have hs := h.sure.lt
  have hz := hc.low.size
  have hnb := hc.dir.lt
  have b3 : w3.heap[f]? = some (.cells #[.int .i64 size, .map (some nb), .map (some sb), .slice none 0 0, .int .i64 (-1)] 59 (0, 0)) := (k3.block f hf (fun h => h)).trans h.box
  have b4 : (w3.setCell ⟨f, 1, none⟩ (.map (some w.heap.size))).heap[f]? = some (.cells #[.int .i64 size, .map (some w.heap.size), .map (some sb), .slice none 0 0, .int .i64 (-1)] 59 (0, 0)) := heap_setCell_same w3 f 1 _ 59 _ b3
  have b5 : ((w3.setCell ⟨f, 1, none⟩ (.map (some w.heap.size))).setCell ⟨f, 4, none⟩ (.int .i64 (-1))).heap[f]? = some (.cells #[.int .i64 size, .map (some w.heap.size), .map (some sb), .slice none 0 0, .int .i64 (-1)] 59 (0, 0)) := heap_setCell_same _ f 4 _ 59 _ b4
  have kS : Kept (fun k => k = f) w3 ((w3.setCell ⟨f, 1, none⟩ (.map (some w.heap.size))).setCell ⟨f, 4, none⟩ (.int .i64 (-1))) := (keptStore w3 f 1 _).trans (keptStore _ f 4 _) (fun _ _ h => h) (fun _ _ h => h)
  have k5 : Kept (fun k => c k = 1) w ((w3.setCell ⟨f, 1, none⟩ (.map (some w.heap.size))).setCell ⟨f, 4, none⟩ (.int .i64 (-1))) := k3.trans kS (fun _ _ h => h.elim) (fun i _ e => by rw [e]; exact h.cf)
  have hcol : ∀ k, k < w.heap.size → cCopy c w.heap.size w3.heap.size k = c k := fun k hk => cCopy_old hk
  refine ⟨by simp [World.cell?, b3], by simp [World.frozen?, b3], by simp [World.cell?, b4], by simp [World.frozen?, b4], ⟨b5, (hcol f hf).trans h.cf, ?_, ?_, ?_, (hcol sb hs).trans h.cs, ⟨[], rfl, ⟨rfl, .inl ⟨rfl, rfl⟩⟩, by simp [Value.ownBlock], by simp⟩, hc.look, ?_⟩, hcol, k5⟩
  · have d := hc.dir.kept kS (by omega) (fun g hg e => by have := hg.1; omega)
    refine ⟨d.map, d.rows, fun x hx g hg => ?_, d.apart, ?_⟩
    · have e := d.mine x hx g hg
      show cCopy c w.heap.size w3.heap.size g = 4
      unfold cCopy
      rw [if_neg (by have := e.1; omega), paint_new (by have := e.1; omega) e.2]
    · show ¬ cCopy c w.heap.size w3.heap.size w.heap.size = 4
      unfold cCopy
      rw [if_pos rfl]
      decide
  · unfold cCopy
    rw [if_pos rfl]
  · refine (h.sure.recolor hcol).kept k5 (by rw [h.cs]; decide) (fun g hg e => ?_)
    have hg' : cCopy c w.heap.size w3.heap.size g = 5 := hg
    unfold cCopy at hg'
    split at hg'
    · omega
    · unfold paint at hg'
      split at hg'
      · omega
      · omega
  · intro g hg
    have hg' : w3.heap.size ≤ g := by simpa using hg
    unfold cCopy paint
    rw [if_neg (by omega), if_neg (by omega)]
    exact h.fresh g (by omega)
/-- what a crash leaves -/
def Crashed (w w' : World) (c : Nat → Nat) (f : Nat) (size : Int) (sb : Nat) (S : List Ent) (acts : List AM) (k n : Nat) : Prop :=
  ∃ c' nb' N' S', Disk w' c' f size nb' sb (.slice none 0 0) N' S' [] ∧ Step w c w' c' ∧ (n = 0 ∨ k = acts.length → look N' = (acts.take k).foldl doF (look S)) ∧ sum N' ≤ sum S + tot acts ∧ N'.length ≤ S.length + acts.length
set_option maxHeartbeats 1000000 in
theorem crash_nil (k n : Int) (w : World) : Calls Try.prog 19 #[.pointer none, .int .i64 k, .int .i64 n] w fun e w' => e = .returned (.int .i64 6) ∧ w' = w := by
  have HC := hide (closed_nil w)
  go_enter Try.func19, Try.ntmps19
  go_wp2_with (go_at_call 25; refine HC.out.mono ?_; rintro e w1 ⟨rfl, rfl⟩)
  go_ret
  exact ⟨rfl, rfl⟩
set_option maxHeartbeats 2000000 in
theorem crash_bad (h : Disk w c f size nb sb uv N S acts) (k n : Int) (hb : k < 0 ∨ (acts.length : Int) < k ∨ n < 0) : Calls Try.prog 19 #[ptr f, .int .i64 k, .int .i64 n] w fun e w' => e = .returned (.int .i64 1) ∧ w' = w := by
  have HC := hide (closed_any h)
  obtain ⟨ao, cap, rfl, hl1, hl2⟩ := h.uns.shape
  have c3 := h.c3
  clear h
  unfold ptr at *
  generalize acts.length = m at *
  by_cases h1 : k < 0
  · go_enter Try.func19, Try.ntmps19
    go_wp2_with (go_at_call 25; refine HC.out.mono ?_; rintro e w1 ⟨rfl, rfl⟩)
    go_ret
    exact ⟨rfl, rfl⟩
  · by_cases h2 : (m : Int) < k
    · go_enter Try.func19, Try.ntmps19
      go_wp2_with (go_at_call 25; refine HC.out.mono ?_; rintro e w1 ⟨rfl, rfl⟩)
      go_ret
      exact ⟨rfl, rfl⟩
    · have h3 : n < 0 := by omega
      go_enter Try.func19, Try.ntmps19
      go_wp2_with (go_at_call 25; refine HC.out.mono ?_; rintro e w1 ⟨rfl, rfl⟩)
      go_ret
      exact ⟨rfl, rfl⟩
end
end Go.Proofs.Ytdmhcgneafacmaa
