/- Proved: for every name and slice of bytes the statement FilesNames (P10.1: which names may be) returns true over the code at the commit, and changes none of its arguments. No condition. -/
import Derived.Test.YtdmhcgneafacmaaFLvn
import Derived.Test.YtdmhcgneafacmaaRows
import Derived.ProofKit
import Derived.OpenShut
import Derived.SizedLaws
import Derived.WideShapes
import Derived.ChangeMaps5
namespace Go.Proofs.Ytdmhcgneafacmaa.filesNames
open Go.ChangeShapes Go.WideShapes Go.ChangeAt Go.ChangeMaps Go.RowKit
set_option linter.unusedVariables false
set_option linter.unusedSimpArgs false
set_option maxRecDepth 100000

/-- a slice of numbers that came in: nil, or a row of cells -/
def IsRow (k : IntKind) (size : Nat) (w : World) (a : Option Addr) (len cap : Nat) (zs : List Int) : Prop :=
  (a = none ∧ len = 0 ∧ cap = 0 ∧ zs = []) ∨
  ∃ x, a = some x ∧ len ≤ cap ∧ cap ≤ maxLen ∧ zs.length = cap ∧ cap * size ≤ 140737488351232 ∧ (∀ i, i < zs.length → w.cell? (x.add i) = some (.int k (zs.getD i 0))) ∧ ∀ n ∈ zs, (Lit.int k n).wf = true
theorem row_isB {w : World} {a : Option Addr} {len cap : Nat} {zs : List Int} (h : IsRow .u8 1 w a len cap zs) :
    ∃ L : List Int, L.length = len ∧ IsB w a cap L ∧ len ≤ cap ∧ cap ≤ 140737488351232 := by
  rcases h with ⟨rfl, rfl, rfl, rfl⟩ | ⟨x, rfl, hl, hm, hz, hr, hc, hw⟩
  · exact ⟨[], rfl, .inl ⟨rfl, rfl, rfl⟩, by omega, by omega⟩
  · have hlen : (zs.take len).length = len := by rw [List.length_take]; omega
    refine ⟨zs.take len, hlen, .inr ⟨x, rfl, fun j u hu => ?_⟩, hl, by omega⟩
    have hj : j < len := by
      have := (List.getElem?_eq_some_iff.1 hu).1
      rw [U8_length, hlen] at this
      exact this
    have e1 : U8 (zs.take len) = (U8 zs).take len := by simp [U8]
    rw [e1, List.getElem?_take, if_pos hj] at hu
    have e2 : (U8 zs)[j]? = some (.int .u8 (zs.getD j 0)) := by
      simp [U8, List.getElem?_map, List.getElem?_eq_getElem (show j < zs.length by omega), List.getD_eq_getElem?_getD]
    rw [e2] at hu
    cases hu
    exact hc j (by omega)
/-- New, and lives behind it -/
theorem start (w : World) : Hid (Calls Try.prog 7 #[.int .i64 1048576] w fun e w1 => e = .returned (.tuple #[.pointer (some ⟨w.heap.size + 2, 0, none⟩), .int .i64 0]) ∧ Hid (Calls Try.prog 9 #[] w1 fun e w2 => e = .returned (.bool true) ∧ Hid (Live w w2 (w.heap.size + 2) 1048576 noF noF [] 0 0))) :=
  hide ((live_new w 1048576 (by decide) (by decide)).mono fun e w1 h1 => ⟨h1.1, hide ((lives_any w1).mono fun e w2 h2 => ⟨h2.1, hide (h1.2.out.next h2.2.out)⟩)⟩)
set_option maxHeartbeats 4000000 in
theorem walk_long (s : ByteArray) (ao : Option Addr) (n cap : Nat) (w : World) (hn : 1000 < n) (hcap : n ≤ 9223372036854775807) :
    Calls Try.prog 6 #[.string s, .slice ao n cap] w fun e w' => e = .returned (.bool true) ∧ Below w.heap.size w w' := by
  have H7 := start w
  have H9 := hide (fun W => lives_any W)
  have HX := hide (fun W W' (l : Hid (Live w W (w.heap.size + 2) 1048576 noF noF [] 0 0)) (hb : Below W.heap.size W W') => (l.out.next hb).below)
  have hi : (1000 : Int) < (n : Int) := by omega
  generalize w.heap.size + 2 = f at H7 HX
  go_enter Try.func6, Try.ntmps6
  go_wp2_with (first
    | (go_at_call 7; refine H7.out.mono ?_; rintro e w1 ⟨rfl, HA1⟩)
    | (go_at_call 9; have _t := HA1; refine HA1.out.mono ?_; rintro e w2 ⟨rfl, HL⟩; clear HA1)
    | (go_at_call 9; refine (H9.out _).mono ?_; rintro e w3 ⟨rfl, hb⟩; have HB := hide (HX.out _ _ HL hb.out); clear hb))
  go_ret
  exact ⟨rfl, HB.out⟩
set_option maxHeartbeats 4000000 in
theorem walk_bad (s : ByteArray) (ao : Option Addr) (n cap : Nat) (w : World) (hs : s.size ≤ 9223372036854775807) (ho : okN s = false) (hn : ¬ 1000 < n) :
    Calls Try.prog 6 #[.string s, .slice ao n cap] w fun e w' => e = .returned (.bool true) ∧ Below w.heap.size w w' := by
  have H7 := start w
  have H11 := hide (fun W (l : Hid (Live w W (w.heap.size + 2) 1048576 noF noF [] 0 0)) => live_append_no l.out s hs ho ao n cap)
  have H21 := hide (fun W (l : Hid (Live w W (w.heap.size + 2) 1048576 noF noF [] 0 0)) => (live_readno l.out s hs ho).mono fun e w' hp => show e = _ ∧ Hid (Live w w' (w.heap.size + 2) 1048576 noF noF [] 0 0) from ⟨hp.1, hide (l.out.next hp.2.out)⟩)
  have H24 := hide (fun W => right_any s W hs)
  rw [ho] at H24
  have H15 := hide (fun W (l : Hid (Live w W (w.heap.size + 2) 1048576 noF noF [] 0 0)) => live_rename_no l.out s ⟨#[97]⟩ hs (by decide) ho)
  have H16 := hide (fun W (l : Hid (Live w W (w.heap.size + 2) 1048576 noF noF [] 0 0)) => live_remove_no l.out s hs ho)
  have HX := hide (fun W (l : Hid (Live w W (w.heap.size + 2) 1048576 noF noF [] 0 0)) => l.out.below)
  have hi : ¬ (1000 : Int) < (n : Int) := by omega
  generalize w.heap.size + 2 = f at *
  go_enter Try.func6, Try.ntmps6
  go_wp2_with (first
    | (go_at_call 7; refine H7.out.mono ?_; rintro e w1 ⟨rfl, HA1⟩)
    | (go_at_call 9; refine HA1.out.mono ?_; rintro e w2 ⟨rfl, L2⟩)
    | (go_at_call 11; refine (H11.out _ L2).mono ?_; rintro e w3 ⟨rfl, L3⟩)
    | (go_at_call 21; refine (H21.out _ L3).mono ?_; rintro e w4 ⟨rfl, L4⟩)
    | (go_at_call 24; refine (H24.out _).mono ?_; rintro e w5 ⟨rfl, rfl⟩)
    | (go_at_call 15; refine (H15.out _ L4).mono ?_; rintro e w6 ⟨rfl, L6⟩)
    | (go_at_call 16; refine (H16.out _ L6).mono ?_; rintro e w7 ⟨rfl, L7⟩))
  go_ret
  exact ⟨rfl, HX.out _ L7⟩
/-- all calls of a right name, one behind the other -/
theorem chain (s : ByteArray) (ho : okN s = true) (zs : List Int) (n : Nat) (hz : zs.length = n) (hn : n ≤ 1000) (ao : Option Addr) (cap : Nat) (w : World) (hB : IsB w ao cap zs) (hcap : n ≤ cap) (hc2 : cap ≤ 9223372036854775807) (f : Nat) (w2 : World) (l2 : Live w w2 f 1048576 noF noF [] 0 0) :
    Calls Try.prog 11 #[.pointer (some ⟨f, 0, none⟩), .string s, .slice ao n cap] w2 fun e w3 => e = .returned (.int .i64 0) ∧
    Hid (Calls Try.prog 21 #[.pointer (some ⟨f, 0, none⟩), .string s] w3 fun e w4 => ∃ ao' cap', e = .returned (.tuple #[.slice ao' n cap', .int .i64 0]) ∧ Hid ((convert 31 9 (.slice ao' n cap')).run Try.prog w4 = .ok (.string (strOfNums zs)) w4) ∧ Hid ((convert 31 9 (.slice ao n cap)).run Try.prog w4 = .ok (.string (strOfNums zs)) w4) ∧
    Hid (Calls Try.prog 23 #[.pointer (some ⟨f, 0, none⟩)] w4 fun e w5 => e = .returned (.int .i64 (1048576 - n)) ∧
    Hid (Calls Try.prog 15 #[.pointer (some ⟨f, 0, none⟩), .string s, .string s] w5 fun e w6 => e = .returned (.int .i64 0) ∧
    Hid (Calls Try.prog 16 #[.pointer (some ⟨f, 0, none⟩), .string s] w6 fun e w7 => e = .returned (.int .i64 0) ∧
    Hid (Calls Try.prog 16 #[.pointer (some ⟨f, 0, none⟩), .string s] w7 fun e w8 => e = .returned (.int .i64 4) ∧
    Hid (Calls Try.prog 23 #[.pointer (some ⟨f, 0, none⟩)] w8 fun e w9 => e = .returned (.int .i64 1048576) ∧ Hid (Below w.heap.size w w9))))))) := by
  have hs := (okN_le ho).2
  refine (live_append1 l2 (by decide) (by decide) s ho ao cap zs n hz (hB.below l2.below) hcap hc2 (by omega) (by decide)).mono fun e w3 h3 => ⟨h3.1, hide ?_⟩
  have l3 := h3.2.out
  refine (live_read l3 s ho zs (by unfold upd; rw [beq_same]; rfl) (by omega)).mono fun e w4 h4 => ?_
  obtain ⟨v, rfl, hn4⟩ := h4
  obtain ⟨ao', cap', rfl, hB4, _⟩ := hn4.out.1.isB
  have l4 := l3.next hn4.out.2.1
  have cv := conv_any hB4
  have cb := conv_any (hB.below l4.below)
  rw [hz] at cv cb
  refine ⟨ao', cap', by rw [hz], hide cv, hide cb, hide ?_⟩
  refine (live_left l4 (by decide) (by decide) s zs rfl (by omega)).mono fun e w5 h5 => ⟨by rw [h5.1, hz], hide ?_⟩
  have l5 := l4.next h5.2.out
  refine (live_rename_yes s zs l5 ho (by omega) (by simp)).mono fun e w6 h6 => ⟨h6.1, hide ?_⟩
  refine (live_remove_yes s zs h6.2.out ho (by omega) (by simp)).mono fun e w7 h7 => ⟨h7.1, hide ?_⟩
  refine (live_remove_none h7.2.out s (by omega) ho).mono fun e w8 h8 => ⟨h8.1, hide ?_⟩
  exact (live_left0 h8.2.out (by decide) (by decide)).mono fun e w9 h9 => ⟨h9.1, hide (h8.2.out.next h9.2.out).below⟩
set_option maxHeartbeats 4000000 in
theorem walk_good (s : ByteArray) (ho : okN s = true) (zs : List Int) (n : Nat) (hz : zs.length = n) (hn : n ≤ 1000) (ao : Option Addr) (cap : Nat) (w : World) (hB : IsB w ao cap zs) (hcap : n ≤ cap) (hc2 : cap ≤ 9223372036854775807) :
    Calls Try.prog 6 #[.string s, .slice ao n cap] w fun e w' => e = .returned (.bool true) ∧ Below w.heap.size w w' := by
  have H7 := start w
  have H11 := hide (fun W (l : Hid (Live w W (w.heap.size + 2) 1048576 noF noF [] 0 0)) => chain s ho zs n hz hn ao cap w hB hcap hc2 _ W l.out)
  have hs := (okN_le ho).2
  have H24 := hide (fun W => right_any s W (by omega))
  rw [ho] at H24
  have hi : ¬ (1000 : Int) < (n : Int) := by omega
  have hw : IntKind.i64.wrap (1048576 - (n : Int)) = 1048576 - n := by rw [IntKind.wrap_i64]; omega
  have hbq := beq_same (strOfNums zs)
  clear hB hz
  generalize strOfNums zs = z at *
  generalize w.heap.size + 2 = f at *
  go_enter Try.func6, Try.ntmps6
  go_wp2_with (first
    | (go_at_call 7; refine H7.out.mono ?_; rintro e w1 ⟨rfl, HA1⟩)
    | (go_at_call 9; refine HA1.out.mono ?_; rintro e w2 ⟨rfl, L2⟩)
    | (go_at_call 11; refine (H11.out _ L2).mono ?_; rintro e w3 ⟨rfl, H21⟩)
    | (go_at_call 21; refine H21.out.mono ?_; rintro e w4 ⟨ao', cap', rfl, hcv, hcb, H23⟩; have cv := hcv.out; have cb := hcb.out)
    | (go_at_call 24; refine (H24.out _).mono ?_; rintro e w5 ⟨rfl, rfl⟩)
    | (go_at_call 23; have _t := H23; refine H23.out.mono ?_; rintro e w6 ⟨rfl, H15⟩; clear H23)
    | (go_at_call 15; refine H15.out.mono ?_; rintro e w7 ⟨rfl, H16⟩)
    | (go_at_call 16; have _t := H16; refine H16.out.mono ?_; rintro e w8 ⟨rfl, H17⟩; clear H16)
    | (go_at_call 16; refine H17.out.mono ?_; rintro e w9 ⟨rfl, H25⟩)
    | (go_at_call 23; refine H25.out.mono ?_; rintro e w10 ⟨rfl, HB⟩))
  go_ret
  exact ⟨rfl, HB.out⟩
theorem walk (s : ByteArray) (a : Option Addr) (len cap : Nat) (zs : List Int) (w : World) (hs : s.size ≤ maxLen) (h : IsRow .u8 1 w a len cap zs) :
    Calls Try.prog 6 #[.string s, .slice a len cap] w fun e w' => e = .returned (.bool true) ∧ Below w.heap.size w w' := by
  obtain ⟨L, hL, hB, h1, h2⟩ := row_isB h
  unfold maxLen at hs
  by_cases hn : 1000 < len
  · exact walk_long s a len cap w hn (by omega)
  · cases ho : okN s
    · exact walk_bad s a len cap w (by omega) ho hn
    · exact walk_good s ho L len hL (by omega) a cap w hB h1 (by omega)
theorem own : ownKnob Try.prog.godebug = none := by kernel_rfl
theorem laidOut : laidOutB Try.prog = true := by kernel_rfl
theorem bytesEbytes : Try.prog.bytesOf 5 = 1 := by kernel_rfl

set_option maxRecDepth 100000 in
theorem lifted (os : Os) (started : os.Started) (H : Type) (enc : TypeId × Value → H) :
    ReturnsInHanded {} Try.checked os 6 .any (Rows.filesNamesSpec.pre6 enc Try.prog Try.f6 Rows.filesNamesRow.domain false) (Rows.filesNamesSpec.post enc Try.prog Try.f6 false true false false) := by
  refine returnsInHanded_of_change_sized (C := Try.checked) own started (by kernel_rfl) Try.func6
    (ChangeSpec.witness6 (enc := enc) (C := Try.checked) false ⟨#[], #[.string ⟨#[]⟩, .slice none 0 0], []⟩ 8 (by kernel_rfl) (by kernel_rfl) (by kernel_rfl) (by kernel_rfl)) ?_
  intro W base args ds gs before hval0 hW hcnd hsz0 _
  have hsz : (DataW.weightsEach Try.prog (Try.f6.params.toList ++ Rows.filesNamesSpec.plain.varTypes Try.prog) (ds ++ gs)).all (· ≤ reachBytes) = true := hsz0
  have hval : ∀ (j : Nat) t v, Try.f6.params[j]? = some t → args[j]? = some v → Value.okWide Try.prog W .any base t v := hval0
  have hW' := hW
  obtain ⟨p, q, hA0, hV, rfl, hfz, hnd⟩ := hW
  have hA : DataW.TrodAll enc Try.prog W 0 (fun _ => true) true Try.f6.params.toList args.toList ds p := hA0
  rw [Try.params6] at hA hval hsz
  obtain ⟨v0, vs0, d0, ds0, p0, q0, hargs, rfl, rfl, h0, r0⟩ := trodAll_cons hA
  obtain ⟨v1, vs1, d1, ds1, p1, q1, rfl, rfl, rfl, h1, r1⟩ := trodAll_cons r0
  obtain ⟨rfl, rfl, rfl⟩ := trodAll_nil r1
  obtain rfl : args = #[v0, v1] := by cases args; simp_all
  obtain ⟨rfl, rfl⟩ := trodVars_none hV
  have k0 := h0
  have lt0 : ∀ x ∈ p0, x.block < W.heap.size := by obtain ⟨m, hm⟩ := k0; exact DataW.trod_lt m _ _ _ hm
  have k1 := h1
  have lt1 : ∀ x ∈ p1, x.block < W.heap.size := by obtain ⟨m, hm⟩ := k1; exact DataW.trod_lt m _ _ _ hm
  obtain ⟨s0, rfl, rfl, rfl, wsz0⟩ := open_string Try.underlying9 (hval 0 9 v0 rfl rfl) h0
  obtain ⟨a1, len1, cap1, rfl⟩ := okWide_slice Try.underlying31 (hval 1 31 v1 rfl rfl)
  obtain ⟨z1, w1⟩ : ∃ zs, IsRow .u8 1 W a1 len1 cap1 zs := by
    obtain ⟨fuel, hf⟩ := h1
    rcases open_ints Try.underlying31 Try.underlying5 (by kernel_rfl) hf with ⟨hcs, _⟩ | ⟨x, l, c, zs, hcs, _, hl, hm, hz, hx, hcell, hwz⟩
    · simp [Value.cells] at hcs
      obtain ⟨rfl, rfl, rfl⟩ := hcs
      exact ⟨[], .inl ⟨rfl, rfl, rfl, rfl⟩⟩
    · simp [Value.cells] at hcs
      obtain ⟨rfl, rfl, rfl⟩ := hcs
      simp only [Prod.mk.injEq] at hx
      have hxd := hx.1
      subst hxd
      have hrch := sized_slice hsz (j := 1) (t := 31) (e := 5) rfl rfl Try.underlying31
      rw [bytesEbytes] at hrch
      simp only [lits, List.length_map, List.length_take, List.length_drop, reachBytes] at hrch
      exact ⟨zs, .inr ⟨_, rfl, hl, hm, by simpa using hz, by simp at hz; omega, hcell, hwz⟩⟩
  clear hA0 hval0 hsz0 hsz
  refine (walk s0 a1 len1 cap1 z1 W wsz0 w1).mono fun e W' ⟨he, bel⟩ => ?_
  subst he
  exact ⟨_, rfl, _, _, _, [], _, [], hW', trodAll_mk1 (shut_bool Try.underlying4 _), (trodAll_cons_mk (Below.trod laidOut (by kernel_rfl) (of_decide_eq_true (by kernel_rfl)) k0 bel lt0) (trodAll_cons_mk (Below.trod laidOut (by kernel_rfl) (of_decide_eq_true (by kernel_rfl)) k1 bel lt1) trodAll_mk0)), rfl, bel.frame _, fun h => by cases h⟩

theorem over : Rows.filesNamesRow.holds Try.pinned (OpenSpec.ofChange Rows.filesNamesSpec) :=
  OpenClaim.holds_of_wide 6 Try.f6 rfl rfl rfl rfl rfl rfl rfl ⟨rfl, rfl, rfl, rfl, rfl⟩ rfl rfl rfl rfl rfl (by kernel_rfl) Try.func6 (by kernel_rfl)
    (of_decide_eq_true (by kernel_rfl)) (by unfold Func.isWrapper; first | (rw [if_pos (by decide +kernel)]; kernel_rfl) | (rw [if_neg (by decide +kernel)]; exact ⟨rfl, rfl⟩))
    (fun os started H enc _ => lifted os started H enc)

theorem proved : Rows.FilesNamesSaid := over
end Go.Proofs.Ytdmhcgneafacmaa.filesNames
namespace Go.Proofs.Ytdmhcgneafacmaa
theorem filesNames_holds : Rows.FilesNamesSaid := filesNames.proved
end Go.Proofs.Ytdmhcgneafacmaa
