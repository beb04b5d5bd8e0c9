/- The contract of Crash over this seat's translation: its parts. -/
import Derived.Test.YtdmhcgneafacmaaFLen
namespace Go.Proofs.Ytdmhcgneafacmaa
open Go.RowKit
set_option linter.unusedVariables false
set_option linter.unusedSimpArgs false
set_option maxRecDepth 100000

set_option maxHeartbeats 1000000 in
theorem sure_none {w : World} {c : Nat → Nat} {f : Nat} {size : Int} {nb sb : Nat} {N S : List Ent} (h : Mid w c f size nb sb (.slice none 0 0) N S []) :
    Calls Try.prog 37 #[ptr f, .int .i64 0] w fun e w' => e = .returned (.tuple #[]) ∧ Hid (Sured w w' c f size nb sb N S [] 0) := by
  have c3 := h.c3
  have fz := h.fz 3
  have hsl := run_cutNil
  have HH : Half2 w c w f size nb sb (.slice none 0 0) N S [] 0 := ⟨c, S, h, rfl, by simp, fun _ _ => rfl, Kept.refl _ _⟩
  have HF := hide (HH.fin h.cf h.lt)
  clear HH h
  unfold ptr
  go_enter Try.func37, Try.ntmps37
  go_wp2
  go_loopw [13] (fun i wr => i = .int .i64 0 ∧ wr = w) (fun i _ => 0)
  case atStart => exact ⟨rfl, rfl⟩
  case round =>
    obtain ⟨rfl, rfl⟩ := hrel
    go_wp2
    go_end0
    exact ⟨rfl, HF⟩
theorem sure_any {w : World} {c : Nat → Nat} {f : Nat} {size : Int} {nb sb : Nat} {uv : Value} {N S : List Ent} {acts : List AM} (h : Mid w c f size nb sb uv N S acts) (hl : sum S + tot acts ≤ 140737488355328) (n : Nat) (hn : n ≤ acts.length) :
    Calls Try.prog 37 #[ptr f, .int .i64 n] w fun e w' => e = .returned (.tuple #[]) ∧ Hid (Sured w w' c f size nb sb N S acts n) := by
  obtain ⟨fs, h1, h2, h3, h4⟩ := h.uns.row
  rcases h2.2 with ⟨rfl, h0⟩ | ⟨g, cap, cur, rfl, _, hb, h5, h6, _⟩
  · have ha : acts = [] := List.eq_nil_of_length_eq_zero h0
    subst ha
    obtain rfl : n = 0 := by simpa using hn
    exact sure_none h
  · unfold maxLen at h6
    exact sure_some h hl h5 (by omega) n hn

/-! ### an Append begun -/
theorem run_cut31 {g n m cap : Nat} (hn : n ≤ cap) (w : World) : (Instr.slice 31 (.slice (some ⟨g, 0, none⟩) m cap) none (some (.int .i64 n)) none).run Try.prog w = .ok (.slice (some ⟨g, 0, none⟩) n cap) w := by
  have hb : (Instr.sliceBounds true m cap none (some (.int .i64 n)) none).run Try.prog w = .ok (0, n, cap) w := by
    unfold Instr.sliceBounds
    simp [run_sliceBound, show (n : Int) ≤ cap by omega, Result.andThen]
  have hz : (sizeOf 5).run Try.prog w = .ok 1 w := by go_simp
  unfold Instr.slice
  simp only [Sem.run_bind, run_underlying Try.underlying31, Result.andThen, hb, Sem.run_pure, hz, Nat.sub_zero]
  split
  · rfl
  · simp [Addr.add]
/-- what is left of a folder by an Append begun -/
def Begun (w w' : World) (R : Nat → Prop) (b : Nat) (L : List Ent) (n m : Nat) : Prop := ∃ L', Dir w' (grow R w w') b L' ∧ Kept (touch b R) w w' ∧ (n = 0 → look L' = look L) ∧ sum L' ≤ sum L + m ∧ L'.length ≤ L.length + 1
theorem Begun.none {w : World} {R : Nat → Prop} {b : Nat} {L : List Ent} {n m : Nat} (h : Dir w R b L) : Begun w w R b L n m := ⟨L, ⟨h.map, h.rows, fun x hx g hg => .inl (h.mine x hx g hg), h.apart, grow_not h.other h.lt⟩, Kept.refl _ _, fun _ => rfl, by omega, by omega⟩
section
variable {w : World} {R : Nat → Prop} {b : Nat} {L : List Ent} {x y : Nat} {s : ByteArray}
set_option maxHeartbeats 1000000 in
theorem begun_zero (h : Dir w R b L) (m : Nat) : Calls Try.prog 36 #[.map (some b), .int .i64 0, ptr y, ptr x] w fun e w' => e = .returned (.tuple #[]) ∧ Hid (Begun w w' R b L 0 m) := by
  have HB := hide (Begun.none (n := 0) (m := m) h)
  clear h
  unfold ptr
  go_enter Try.func36, Try.ntmps36
  go_wp2
  go_end0
  exact ⟨rfl, HB⟩
set_option maxHeartbeats 1000000 in
theorem begun_empty (h : Dir w R b L) (n : Nat) (ao : Option Addr) (cap : Nat) (hy : w.cell? ⟨y, 0, none⟩ = some (.slice ao 0 cap)) (hn : 0 < n) (hn2 : n ≤ 9223372036854775807) : Calls Try.prog 36 #[.map (some b), .int .i64 n, ptr y, ptr x] w fun e w' => e = .returned (.tuple #[]) ∧ Hid (Begun w w' R b L n 0) := by
  have HB := hide (Begun.none (n := n) (m := 0) h)
  clear h
  unfold ptr
  go_enter Try.func36, Try.ntmps36
  go_wp2
  go_end0
  exact ⟨rfl, HB⟩
set_option maxHeartbeats 2000000 in
theorem begun_some (h : Dir w R b L) (n k : Nat) (g cap : Nat) (zs : List Int) (m : Nat) (hm : zs.length = m) (hx : w.cell? ⟨x, 0, none⟩ = some (.string s)) (hy : w.cell? ⟨y, 0, none⟩ = some (.slice (some ⟨g, 0, none⟩) m cap)) (hB : IsB w (some ⟨g, 0, none⟩) cap zs) (hk : min n m = k) (hmc : m ≤ cap) (hc2 : cap ≤ 9223372036854775807) (hn : 0 < n) (hn2 : n ≤ 9223372036854775807) (hm0 : 0 < m) (hl : sum L + m ≤ 140737488355328) (tx : ¬ touch b R x) (ty : ¬ touch b R y) :
    Calls Try.prog 36 #[.map (some b), .int .i64 n, ptr y, ptr x] w fun e w' => e = .returned (.tuple #[]) ∧ Hid (Begun w w' R b L n m) := by
  have hB' : IsB w (some ⟨g, 0, none⟩) cap (zs.take k) := by
    rcases hB with ⟨e, _⟩ | ⟨a, e, hc⟩
    · cases e
    · refine .inr ⟨a, e, fun j u hu => hc j u ?_⟩
      have e1 : U8 (zs.take k) = (U8 zs).take k := by simp [U8]
      rw [e1, List.getElem?_take] at hu
      split at hu
      · exact hu
      · cases hu
  have hk' : (zs.take k).length = k := by rw [List.length_take]; omega
  have hadd := add_any R b L s (some ⟨g, 0, none⟩) cap (zs.take k) w.drew (h.new (Kept.ofBelow (Below.refl w.heap.size w).drew)) hB' (by rw [hk']; omega)
  rw [hk'] at hadd
  have HC := hide hadd
  have hsl := run_cut31 (g := g) (n := k) (m := m) (cap := cap) (by omega)
  have HF := hide (fun (w9 : World) (hp : ∃ L', Dir w9 (grow R w.drew w9) b L' ∧ Kept (touch b R) w.drew w9 ∧ look L' = upd (look L) s (some ((look L s).getD [] ++ zs.take k)) ∧ L'.length = L.length + plus (look L s) ∧ sum L' = sum L + k) => show w9.cell? ⟨x, 0, none⟩ = some (.string s) ∧ w9.cell? ⟨y, 0, none⟩ = some (.slice (some ⟨g, 0, none⟩) m cap) ∧ Hid (Begun w w9 R b L n m) by
    obtain ⟨L', p1, p2, p3, p4, p5⟩ := hp
    exact ⟨p2.cell (a := ⟨x, 0, none⟩) hx tx, p2.cell (a := ⟨y, 0, none⟩) hy ty, hide ⟨L', p1, ⟨p2.os, p2.tape, p2.output, p2.size, p2.block⟩, fun e => by omega, by omega, by have := plus_le (look L s); omega⟩⟩)
  have y0 : w.drew.cell? ⟨x, 0, none⟩ = some (.string s) := hx
  have y1 : w.drew.cell? ⟨y, 0, none⟩ = some (.slice (some ⟨g, 0, none⟩) m cap) := hy
  have hni : (0 : Int) < (n : Int) := by omega
  have hmi : (0 : Int) < (m : Int) := by omega
  clear h hB hB' hadd hk' hm hl
  unfold ptr
  by_cases hnm : n ≤ m
  · obtain rfl : k = n := by omega
    have hmn : min (k : Int) (m : Int) = k := by omega
    clear hk
    go_enter Try.func36, Try.ntmps36
    go_wp2
    go_region_held3 (fun W => W.cell? ⟨x, 0, none⟩ = some (.string s) ∧ W.cell? ⟨y, 0, none⟩ = some (.slice (some ⟨g, 0, none⟩) m cap)) (exact ⟨by assumption, by assumption⟩)
      (first
        | (go_at_call 35; refine HC.out.mono ?_; rintro e w9 ⟨rfl, hp⟩; obtain ⟨e0, e1, HP⟩ := HF.out w9 hp; clear hp))
    go_wp2
    go_end0
    exact ⟨rfl, HP⟩
  · obtain rfl : k = m := by omega
    have hmn : min (n : Int) (k : Int) = k := by omega
    clear hk
    go_enter Try.func36, Try.ntmps36
    go_wp2
    go_region_held3 (fun W => W.cell? ⟨x, 0, none⟩ = some (.string s) ∧ W.cell? ⟨y, 0, none⟩ = some (.slice (some ⟨g, 0, none⟩) k cap)) (exact ⟨by assumption, by assumption⟩)
      (first
        | (go_at_call 35; refine HC.out.mono ?_; rintro e w9 ⟨rfl, hp⟩; obtain ⟨e0, e1, HP⟩ := HF.out w9 hp; clear hp))
    go_wp2
    go_end0
    exact ⟨rfl, HP⟩
end
end Go.Proofs.Ytdmhcgneafacmaa
