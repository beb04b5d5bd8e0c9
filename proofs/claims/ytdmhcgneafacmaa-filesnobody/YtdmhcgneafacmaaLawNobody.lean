/- Proved: for every argument the statement FilesNobody (P10.3: a nil disk) returns true over the code at the commit, and changes none of its arguments. No condition. -/
import Derived.Test.YtdmhcgneafacmaaFNil
import Derived.Test.YtdmhcgneafacmaaRows
import Derived.ProofKit
import Derived.OpenShut
import Derived.SizedLaws
import Derived.WideShapes
namespace Go.Proofs.Ytdmhcgneafacmaa.filesNobody
open Go.ChangeShapes Go.WideShapes Go.ChangeAt Go.RowKit
set_option linter.unusedVariables false
set_option linter.unusedSimpArgs false
set_option maxRecDepth 100000

/-- the arguments' box, and all else as it was -/
def Bx (w W : World) (C : Array Value) : Prop := W.heap[w.heap.size]? = some (.cells C 33 (0, 0)) ∧ Below w.heap.size w W
theorem Bx.start (w : World) (C : Array Value) : Bx w (w.alloc (.cells C 33)) C := ⟨heap_alloc_new w _, (Below.refl _ _).alloc (Nat.le_refl _) _⟩
theorem Bx.next {w W W' : World} {C : Array Value} (h : Bx w W C) (b : Below W.heap.size W W') : Bx w W' C := ⟨(b.block _ (Array.getElem?_eq_some_iff.1 h.1).1).trans h.1, h.2.trans (b.mono h.2.size)⟩
theorem Bx.at {w W : World} {C : Array Value} (h : Bx w W C) {i : Nat} {v : Value} (hi : C[i]? = some v) : W.cell? ⟨w.heap.size, i, none⟩ = some v := by
  simp [World.cell?, h.1, hi]
set_option maxHeartbeats 4000000 in
theorem walk (k : Int) (s t : ByteArray) (ao : Option Addr) (n cap : Nat) (x y : Int) (w : World) (hs : s.size ≤ 9223372036854775807) (ht : t.size ≤ 9223372036854775807) :
    Calls Try.prog 5 #[.agg #[.int .i64 k, .string s, .string t, .slice ao n cap, .int .i64 x, .int .i64 y]] w fun e w' => e = .returned (.bool true) ∧ Below w.heap.size w w' := by
  have B0 := hide (Bx.start w #[.int .i64 k, .string s, .string t, .slice ao n cap, .int .i64 x, .int .i64 y])
  have HX := hide (fun W W' (b : Bx w W #[.int .i64 k, .string s, .string t, .slice ao n cap, .int .i64 x, .int .i64 y]) (hb : Below W.heap.size W W') => show W'.cell? ⟨w.heap.size, 1, none⟩ = some (.string s) ∧ W'.cell? ⟨w.heap.size, 2, none⟩ = some (.string t) ∧ W'.cell? ⟨w.heap.size, 3, none⟩ = some (.slice ao n cap) ∧ W'.cell? ⟨w.heap.size, 4, none⟩ = some (.int .i64 x) ∧ W'.cell? ⟨w.heap.size, 5, none⟩ = some (.int .i64 y) ∧ Hid (Bx w W' #[.int .i64 k, .string s, .string t, .slice ao n cap, .int .i64 x, .int .i64 y]) from
    ⟨(b.next hb).at rfl, (b.next hb).at rfl, (b.next hb).at rfl, (b.next hb).at rfl, (b.next hb).at rfl, hide (b.next hb)⟩)
  have H20 := hide (fun W => stop_nil x W)
  have H21 := hide (fun W => read_nil s hs W)
  have H9 := hide (fun W => lives_any W)
  have H11 := hide (fun W => append_nil s hs ao n cap W)
  have H14 := hide (fun W => trunc_nil s hs x W)
  have H15 := hide (fun W => rename_nil s t hs ht W)
  have H16 := hide (fun W => remove_nil s hs W)
  have H12 := hide (fun W => sync_nil W)
  have H19 := hide (fun W => crash_nil x y W)
  have H17 := hide (fun W => list_nil W)
  have H22 := hide (fun W => off_nil W)
  have H18 := hide (fun W => unsure_nil W)
  have H23 := hide (fun W => left_nil W)
  have H10 := hide (fun W => fork_nil W)
  clear hs ht
  go_enter Try.func5, Try.ntmps5
  go_wp2_with (first
    | (go_at_call 20; refine (H20.out _).mono ?_; rintro e w1 ⟨rfl, rfl⟩)
    | (go_at_call 21; refine (H21.out _).mono ?_; rintro e w1 ⟨rfl, hb⟩; obtain ⟨a1, a2, a3, a4, a5, B1⟩ := HX.out _ w1 B0.out hb.out; clear hb)
    | (go_at_call 9; refine (H9.out _).mono ?_; rintro e w2 ⟨rfl, hb⟩; obtain ⟨b1, b2, b3, b4, b5, B2⟩ := HX.out _ w2 B1.out hb.out; clear hb)
    | (go_at_call 11; refine (H11.out _).mono ?_; rintro e w3 ⟨rfl, hb⟩; obtain ⟨c1, c2, c3, c4, c5, B3⟩ := HX.out _ w3 B2.out hb.out.newBelow; clear hb)
    | (go_at_call 14; refine (H14.out _).mono ?_; rintro e w4 ⟨rfl, hb⟩; obtain ⟨d1, d2, d3, d4, d5, B4⟩ := HX.out _ w4 B3.out hb.out; clear hb)
    | (go_at_call 15; refine (H15.out _).mono ?_; rintro e w5 ⟨rfl, hb⟩; obtain ⟨e1, e2, e3, e4, e5, B5⟩ := HX.out _ w5 B4.out hb.out; clear hb)
    | (go_at_call 16; refine (H16.out _).mono ?_; rintro e w6 ⟨rfl, hb⟩; obtain ⟨f1, f2, f3, f4, f5, B6⟩ := HX.out _ w6 B5.out hb.out; clear hb)
    | (go_at_call 12; refine (H12.out _).mono ?_; rintro e w7 ⟨rfl, rfl⟩)
    | (go_at_call 19; refine (H19.out _).mono ?_; rintro e w7 ⟨rfl, rfl⟩)
    | (go_at_call 17; refine (H17.out _).mono ?_; rintro e w7 ⟨rfl, rfl⟩)
    | (go_at_call 22; refine (H22.out _).mono ?_; rintro e w7 ⟨rfl, rfl⟩)
    | (go_at_call 18; refine (H18.out _).mono ?_; rintro e w7 ⟨rfl, rfl⟩)
    | (go_at_call 23; refine (H23.out _).mono ?_; rintro e w7 ⟨rfl, rfl⟩)
    | (go_at_call 10; refine (H10.out _).mono ?_; rintro e w7 ⟨rfl, rfl⟩))
  go_ret
  exact ⟨rfl, B6.out.2⟩
section
variable {H : Type} {enc : TypeId × Value → H} {w : World} {fuel : Nat} {cs : List Value} {x : DataW H × List MemPlace}
theorem cells33 : Try.prog.cellsOf 33 = 6 := by kernel_rfl
theorem cells3 : Try.prog.cellsOf 3 = 1 := by kernel_rfl
theorem cells9 : Try.prog.cellsOf 9 = 1 := by kernel_rfl
theorem cells31 : Try.prog.cellsOf 31 = 1 := by kernel_rfl
/-- an argument, field by field -/
theorem open_op (h : DataW.trod enc Try.prog w 0 (fun _ => true) true fuel 33 cs = some x) :
    ∃ (k : Int) (s t : ByteArray) (ao : Option Addr) (n cap : Nat) (x y : Int), cs = [.int .i64 k, .string s, .string t, .slice ao n cap, .int .i64 x, .int .i64 y] ∧ s.size ≤ 9223372036854775807 ∧ t.size ≤ 9223372036854775807 := by
  obtain ⟨xs, m, _, rfl, hlen, hxl, hall⟩ := DataW.trod_struct Try.underlying33 h
  rw [cells33] at hlen
  have hxl' : xs.length = 6 := hxl
  have at_ : ∀ i, i < 6 → xs[i]? = some (xs.getD i (.nil, [])) := fun i hi => by rw [List.getD_eq_getElem?_getD, List.getElem?_eq_getElem (by omega)]; rfl
  match cs, hlen with
  | [c0, c1, c2, c3, c4, c5], _ =>
    obtain ⟨k, e0, _, _⟩ := DataW.trod_int Try.underlying3 ((hall 0 _ rfl).trans (at_ 0 (by omega)))
    obtain ⟨s, e1, _, hs⟩ := DataW.trod_string Try.underlying9 ((hall 1 _ rfl).trans (at_ 1 (by omega)))
    obtain ⟨t, e2, _, ht⟩ := DataW.trod_string Try.underlying9 ((hall 2 _ rfl).trans (at_ 2 (by omega)))
    have h3 := (hall 3 _ rfl).trans (at_ 3 (by omega))
    obtain ⟨a, e4, _, _⟩ := DataW.trod_int Try.underlying3 ((hall 4 _ rfl).trans (at_ 4 (by omega)))
    obtain ⟨b, e5, _, _⟩ := DataW.trod_int Try.underlying3 ((hall 5 _ rfl).trans (at_ 5 (by omega)))
    unfold maxLen at hs ht
    replace e0 := (show ([c0, c1, c2, c3, c4, c5].drop 0).take (Try.prog.cellsOf 3) = [.int .i64 k] from e0)
    replace e1 := (show ([c0, c1, c2, c3, c4, c5].drop 1).take (Try.prog.cellsOf 9) = [.string s] from e1)
    replace e2 := (show ([c0, c1, c2, c3, c4, c5].drop 2).take (Try.prog.cellsOf 9) = [.string t] from e2)
    replace e4 := (show ([c0, c1, c2, c3, c4, c5].drop 4).take (Try.prog.cellsOf 3) = [.int .i64 a] from e4)
    replace e5 := (show ([c0, c1, c2, c3, c4, c5].drop 5).take (Try.prog.cellsOf 3) = [.int .i64 b] from e5)
    rw [cells3] at e0 e4 e5
    rw [cells9] at e1 e2
    simp at e0 e1 e2 e4 e5
    have e3 : ∃ ao n cap, c3 = Value.slice ao n cap := by
      rcases open_ints Try.underlying31 Try.underlying5 (by kernel_rfl) h3 with ⟨hcs, _⟩ | ⟨p, l, c, zs, hcs, _⟩
      · replace hcs := (show ([c0, c1, c2, c3, c4, c5].drop 3).take (Try.prog.cellsOf 31) = _ from hcs)
        rw [cells31] at hcs
        simp at hcs
        exact ⟨_, _, _, hcs⟩
      · replace hcs := (show ([c0, c1, c2, c3, c4, c5].drop 3).take (Try.prog.cellsOf 31) = _ from hcs)
        rw [cells31] at hcs
        simp at hcs
        exact ⟨_, _, _, hcs⟩
    obtain ⟨ao, n, cap, e3⟩ := e3
    exact ⟨k, s, t, ao, n, cap, a, b, by rw [e0, e1, e2, e3, e4, e5], by omega, by omega⟩
end
theorem own : ownKnob Try.prog.godebug = none := by kernel_rfl
theorem laidOut : laidOutB Try.prog = true := by kernel_rfl

set_option maxRecDepth 100000 in
theorem lifted (os : Os) (started : os.Started) (H : Type) (enc : TypeId × Value → H) :
    ReturnsInHanded {} Try.checked os 5 .any (Rows.filesNobodySpec.pre6 enc Try.prog Try.f5 Rows.filesNobodyRow.domain false) (Rows.filesNobodySpec.post enc Try.prog Try.f5 false true false false) := by
  refine returnsInHanded_of_change (C := Try.checked) own started (by kernel_rfl) Try.func5
    (ChangeSpec.witness6 (enc := enc) (C := Try.checked) false ⟨#[], #[.agg #[.int .i64 0, .string ⟨#[]⟩, .string ⟨#[]⟩, .slice none 0 0, .int .i64 0, .int .i64 0]], []⟩ 8 (by kernel_rfl) (by kernel_rfl) (by kernel_rfl) (by kernel_rfl)) ?_
  intro W base args ds gs before hval0 hW hcnd _
  have hval : ∀ (j : Nat) t v, Try.f5.params[j]? = some t → args[j]? = some v → Value.okWide Try.prog W .any base t v := hval0
  have hW' := hW
  obtain ⟨p, q, hA0, hV, rfl, hfz, hnd⟩ := hW
  have hA : DataW.TrodAll enc Try.prog W 0 (fun _ => true) true Try.f5.params.toList args.toList ds p := hA0
  rw [Try.params5] at hA hval
  obtain ⟨v0, vs0, d0, ds0, p0, q0, hargs, rfl, rfl, h0, r0⟩ := trodAll_cons hA
  obtain ⟨rfl, rfl, rfl⟩ := trodAll_nil r0
  obtain rfl : args = #[v0] := by cases args; simp_all
  obtain ⟨rfl, rfl⟩ := trodVars_none hV
  have k0 := h0
  have lt0 : ∀ x ∈ p0, x.block < W.heap.size := by obtain ⟨m, hm⟩ := k0; exact DataW.trod_lt m _ _ _ hm
  obtain ⟨cs0, rfl, hcl0⟩ := okWide_struct Try.underlying33 (hval 0 33 v0 rfl rfl)
  obtain ⟨k0_, s0, t0, ao0, n0, cap0, x0, y0, e0, hs0, ht0⟩ : ∃ (k : Int) (s t : ByteArray) (ao : Option Addr) (n cap : Nat) (x y : Int), cs0 = #[.int .i64 k, .string s, .string t, .slice ao n cap, .int .i64 x, .int .i64 y] ∧ s.size ≤ 9223372036854775807 ∧ t.size ≤ 9223372036854775807 := by
    obtain ⟨fuel, hf⟩ := h0
    obtain ⟨k, s, t, ao, n, cap, x, y, h1, h2, h3⟩ := open_op hf
    exact ⟨k, s, t, ao, n, cap, x, y, by have := congrArg List.toArray h1; rw [Array.toArray_toList] at this; exact this, h2, h3⟩
  subst e0
  clear hA0 hval0
  refine (walk k0_ s0 t0 ao0 n0 cap0 x0 y0 W hs0 ht0).mono fun e W' ⟨he, bel⟩ => ?_
  subst he
  exact ⟨_, rfl, _, _, _, [], _, [], hW', trodAll_mk1 (shut_bool Try.underlying4 _), (trodAll_cons_mk (Below.trod laidOut (by kernel_rfl) (of_decide_eq_true (by kernel_rfl)) k0 bel lt0) trodAll_mk0), rfl, bel.frame _, fun h => by cases h⟩

theorem over : Rows.filesNobodyRow.holds Try.pinned (OpenSpec.ofChange Rows.filesNobodySpec) :=
  OpenClaim.holds_of_wide 5 Try.f5 rfl rfl rfl rfl rfl rfl rfl ⟨rfl, rfl, rfl, rfl, rfl⟩ rfl rfl rfl rfl rfl (by kernel_rfl) Try.func5 (by kernel_rfl)
    (of_decide_eq_true (by kernel_rfl)) (by unfold Func.isWrapper; first | (rw [if_pos (by decide +kernel)]; kernel_rfl) | (rw [if_neg (by decide +kernel)]; exact ⟨rfl, rfl⟩))
    (fun os started H enc _ => lifted os started H enc)

theorem proved : Rows.FilesNobodySaid := over
end Go.Proofs.Ytdmhcgneafacmaa.filesNobody
namespace Go.Proofs.Ytdmhcgneafacmaa
theorem filesNobody_holds : Rows.FilesNobodySaid := filesNobody.proved
end Go.Proofs.Ytdmhcgneafacmaa
