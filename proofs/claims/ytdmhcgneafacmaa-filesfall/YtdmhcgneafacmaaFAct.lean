/- Contracts of the acts' functions over this seat's translation. -/
import Derived.Test.YtdmhcgneafacmaaFDisk
import Derived.Deep.AppendLies
namespace Go.Proofs.Ytdmhcgneafacmaa
open Go.RowKit
set_option linter.unusedVariables false
set_option linter.unusedSimpArgs false
set_option maxRecDepth 100000

/-- what an act leaves of a folder -/
def Done (w w' : World) (R : Nat → Prop) (b : Nat) (L : List Ent) (A : AM) : Prop := ∃ L', Dir w' (grow R w w') b L' ∧ Kept (touch b R) w w' ∧ look L' = doF (look L) A ∧ sum L' ≤ sum L + addLen A
/-- function k is entered where it is called -/
def Enters (k : Nat) : Prop := ∀ args W, (callFunc k args).run Try.prog W = .ok (.enter k args) W

section
variable {w : World} {R : Nat → Prop} {b : Nat} {L : List Ent} {x y : Nat} {s t : ByteArray}
set_option maxHeartbeats 1000000 in
theorem again1 (h : Dir w R b L) (ao : Option Addr) (cap : Nat) (zs : List Int) (hx : w.cell? ⟨x, 0, none⟩ = some (.string s)) (hy : w.cell? ⟨y, 0, none⟩ = some (.slice ao zs.length cap)) (hB : IsB w ao cap zs) (hl : sum L + zs.length ≤ 140737488355328) :
    Calls Try.prog 34 #[.map (some b), ptr x, ptr y] w fun e w' => e = .returned (.tuple #[]) ∧ Hid (∃ L', Dir w' (grow R w w') b L' ∧ Kept (touch b R) w w' ∧ look L' = upd (look L) s (some ((look L s).getD [] ++ zs)) ∧ L'.length = L.length + plus (look L s) ∧ sum L' = sum L + zs.length) := by
  have HC := hide (add_any R b L s ao cap zs w h hB hl)
  clear h hB hl
  unfold ptr
  generalize zs.length = n at hy HC ⊢
  go_enter Try.func34, Try.ntmps34
  go_wp2_with (go_at_call 35; refine HC.out.mono ?_; rintro e w1 ⟨rfl, hp⟩)
  go_end0
  exact ⟨rfl, hp⟩
set_option maxHeartbeats 1000000 in
theorem again2 (h : Dir w R b L) (n : Nat) (hn : n ≤ 9223372036854775807) (hx : w.cell? ⟨x, 0, none⟩ = some (.string s)) (hy : w.cell? ⟨y, 0, none⟩ = some (.int .i64 n)) :
    Calls Try.prog 49 #[.map (some b), ptr x, ptr y] w fun e w' => e = .returned (.tuple #[]) ∧ Hid (∃ L', Dir w' (grow R w w') b L' ∧ Kept (touch b R) w w' ∧ look L' = upd (look L) s (some (((look L s).getD []).take n)) ∧ L'.length = L.length + plus (look L s) ∧ sum L' ≤ sum L) := by
  have HC := hide (cut_any R b L s n hn w h)
  clear h
  unfold ptr
  go_enter Try.func49, Try.ntmps49
  go_wp2_with (go_at_call 50; refine HC.out.mono ?_; rintro e w1 ⟨rfl, hp⟩)
  go_end0
  exact ⟨rfl, hp⟩
set_option maxHeartbeats 1000000 in
theorem again3 (h : Dir w R b L) (hx : w.cell? ⟨x, 0, none⟩ = some (.string s)) (hy : w.cell? ⟨y, 0, none⟩ = some (.string t)) :
    Calls Try.prog 51 #[.map (some b), ptr x, ptr y] w fun e w' => e = .returned (.tuple #[]) ∧ Hid (∃ L', Dir w' (grow R w w') b L' ∧ Kept (touch b R) w w' ∧ look L' = ren (look L) s t ∧ (L.length = 1 → (look L s).isSome → L'.length = 1) ∧ sum L' ≤ sum L) := by
  have HC := hide (ren_any R b L s t w h)
  clear h
  unfold ptr
  go_enter Try.func51, Try.ntmps51
  go_wp2_with (go_at_call 52; refine HC.out.mono ?_; rintro e w1 ⟨rfl, hp⟩)
  go_end0
  exact ⟨rfl, hp⟩
set_option maxHeartbeats 1000000 in
theorem again4 (h : Dir w R b L) (hx : w.cell? ⟨x, 0, none⟩ = some (.string s)) :
    Calls Try.prog 53 #[.map (some b), ptr x] w fun e w' => e = .returned (.tuple #[]) ∧ Hid (∃ L', Dir w' (grow R w w') b L' ∧ Kept (touch b R) w w' ∧ look L' = upd (look L) s none ∧ sum L' ≤ sum L) := by
  obtain ⟨w1, L1, hrun1, hD1, hg1, hz1, a1, a2, a3, a4⟩ := h.delete 0 s
  have F : Hid (∃ L', Dir w1 (grow R w w1) b L' ∧ Kept (touch b R) w w1 ∧ look L' = upd (look L) s none ∧ sum L' ≤ sum L) := hide ⟨L1, ⟨hD1.map, hD1.rows, fun x hx g hg => .inl (hD1.mine x hx g hg), hD1.apart, grow_not h.other h.lt⟩, (Kept.ofGrown hg1).mono (fun i _ e => .inl (by cases e; rfl)), a1, by omega⟩
  clear h hD1 hg1 hz1 a1 a2 a3 a4
  unfold ptr
  go_enter Try.func53, Try.ntmps53
  go_wp2_with (at_builtin; refine wl_delete rfl rfl rfl rfl hrun1 ?_)
  go_end0
  exact ⟨rfl, F⟩
end
theorem enters34 : Enters 34 := fun args W => by go_simp
theorem enters36 : Enters 36 := fun args W => by go_simp
theorem enters49 : Enters 49 := fun args W => by go_simp
theorem enters51 : Enters 51 := fun args W => by go_simp
theorem enters53 : Enters 53 := fun args W => by go_simp

/-- an act done again -/
theorem again_any {w : World} {c : Nat → Nat} {R : Nat → Prop} {b : Nat} {L : List Ent} {v1 v2 : Value} {A : AM} (hA : ActV w c v1 v2 A) (h : Dir w R b L) (hl : sum L + addLen A ≤ 140737488355328) :
    ∃ k cap, v1 = .func (.func k) #[] cap ∧ Enters k ∧ Calls Try.prog k (#[.map (some b)] ++ cap) w fun e w' => e = .returned (.tuple #[]) ∧ Hid (Done w w' R b L A) := by
  obtain ⟨x, y, hx, hy, h1, h2⟩ := hA.is
  unfold Done doF
  rcases h2 with ⟨a1, a2, a3, v, a4, a5, a6⟩ | ⟨a1, a2, a3, a4, a5⟩ | ⟨a1, a2, a3, a4⟩ | ⟨a1, a2, a3⟩
  · obtain ⟨ao, cap, rfl, hB, _⟩ := a5.isB
    refine ⟨34, _, a2, enters34, (again1 h ao cap A.bytes h1 a4 hB hl).mono fun e w' hp => ⟨hp.1, ?_⟩⟩
    obtain ⟨L', p1, p2, p3, p4, p5⟩ := hp.2.out
    exact hide ⟨L', p1, p2, by rw [a1]; exact p3, by unfold addLen; omega⟩
  · refine ⟨49, _, a2, enters49, (again2 h A.n a5 h1 a4).mono fun e w' hp => ⟨hp.1, ?_⟩⟩
    obtain ⟨L', p1, p2, p3, p4, p5⟩ := hp.2.out
    exact hide ⟨L', p1, p2, by rw [a1]; exact p3, by omega⟩
  · refine ⟨51, _, a2, enters51, (again3 h h1 a4).mono fun e w' hp => ⟨hp.1, ?_⟩⟩
    obtain ⟨L', p1, p2, p3, p4, p5⟩ := hp.2.out
    exact hide ⟨L', p1, p2, by rw [a1]; exact p3, by omega⟩
  · refine ⟨53, _, a2, enters53, (again4 h h1).mono fun e w' hp => ⟨hp.1, ?_⟩⟩
    obtain ⟨L', p1, p2, p3, p4⟩ := hp.2.out
    exact hide ⟨L', p1, p2, by rw [a1]; exact p3, by omega⟩
end Go.Proofs.Ytdmhcgneafacmaa
