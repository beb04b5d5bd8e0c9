/- Contracts of the document's Number and of bigsize.Put over this seat's translation. -/
import Derived.Test.YtcbadmkgbaffpaaBig
import Derived.Laws.AppendOwnNone
namespace Go.Proofs.Ytcbadmkgbaffpaa
open Go.RowKit
set_option linter.unusedVariables false


set_option maxHeartbeats 1000000 in
theorem rnum_2 (x : Int) (w : World) (h0 : 0 ≤ x) (h1 : x ≤ 18446744073709551615) (c1 : ¬ x < 253) (c2 : x ≤ 65535) :
    Calls Try.prog 45 #[.int .u64 x] w fun e w' => ∃ v', e = .returned v' ∧ w'.ownsRow w.heap.size 5 1 v' 3 (U8 (253 :: hiL x 2 2)) ∧ Below w.heap.size w w' := by
  obtain ⟨i0, hi, hz0, hz1, hz2⟩ := info_parts Try.info5
  go_enter Try.func45, Try.ntmps45
  go_wp2
  go_loopw [4, 5] (fun b i wr => ∃ k : Nat, k ≤ 2 ∧ i = .int .i64 ((2 : Int) - 1 - k) ∧ Hid (wr.ownsRow w.heap.size 5 1 b (1 + k) (U8 ([253] ++ hiL x 2 k))) ∧ w.heap.size ≤ wr.heap.size ∧ Hid (Below w.heap.size w wr)) (fun _ i _ => (intOf i + 1).toNat)
  case atStart => exact ⟨0, Nat.zero_le _, by simp, hide (by simpa [hiL, U8] using own_one w (.int .u8 253)), by simp, hide ((Below.refl _ _).alloc (Nat.le_refl _) _)⟩
  case round =>
    obtain ⟨k, hk, rfl, hown2, hBr, HB⟩ := hrel
    by_cases hlt : k < 2
    · have hsucc := hide (hiL_succ x 2 k)
      generalize hiL x 2 k = L at *
      go_wp2_with (at_builtin; refine wpList_append_own _ rfl (.tmp 27) (.tmp 33) 23 rfl w.heap.size 5 i0 (.int .u8 0) 1 1 Try.underlying23 hi hz0 hz1 hz2 rfl (by decide) _ _ _ rfl (hown2.out.alloc _) ⟨wr.heap.size, 0, none⟩ 1 1 [.int .u8 (hiB x 2 k)] rfl rfl (cell_one_new _ _ _) ?c2 ?c3 ?c4 ?c5 ?_)
      case c2 => exact one_u8 [hiB x 2 k]
      case c3 => unfold maxLen; omega
      case c4 => omega
      case c5 => simp; omega
      intro v' w1 hown' hgrow _
      have R := hide (own_push hown2.out hBr HB.out hown' hgrow)
      clear hown' hgrow hown2
      go_wp2
      go_roundw
      case rel => exact ⟨k + 1, by omega, by go_num, by rw [hsucc.out, ← List.append_assoc]; exact R.out.1, R.out.2.1, R.out.2.2⟩
      case measure => simp [intOf]; omega
    · have ek : k = 2 := by omega
      subst ek
      go_wp2
      go_ret
      exact ⟨_, rfl, hown2.out, HB.out⟩

set_option maxHeartbeats 1000000 in
theorem rnum_4 (x : Int) (w : World) (h0 : 0 ≤ x) (h1 : x ≤ 18446744073709551615) (c1 : ¬ x < 253) (c2 : ¬ x ≤ 65535) (c3 : x ≤ 4294967295) :
    Calls Try.prog 45 #[.int .u64 x] w fun e w' => ∃ v', e = .returned v' ∧ w'.ownsRow w.heap.size 5 1 v' 5 (U8 (254 :: hiL x 4 4)) ∧ Below w.heap.size w w' := by
  obtain ⟨i0, hi, hz0, hz1, hz2⟩ := info_parts Try.info5
  go_enter Try.func45, Try.ntmps45
  go_wp2
  go_loopw [4, 5] (fun b i wr => ∃ k : Nat, k ≤ 4 ∧ i = .int .i64 ((4 : Int) - 1 - k) ∧ Hid (wr.ownsRow w.heap.size 5 1 b (1 + k) (U8 ([254] ++ hiL x 4 k))) ∧ w.heap.size ≤ wr.heap.size ∧ Hid (Below w.heap.size w wr)) (fun _ i _ => (intOf i + 1).toNat)
  case atStart => exact ⟨0, Nat.zero_le _, by simp, hide (by simpa [hiL, U8] using own_one w (.int .u8 254)), by simp, hide ((Below.refl _ _).alloc (Nat.le_refl _) _)⟩
  case round =>
    obtain ⟨k, hk, rfl, hown2, hBr, HB⟩ := hrel
    by_cases hlt : k < 4
    · have hsucc := hide (hiL_succ x 4 k)
      generalize hiL x 4 k = L at *
      go_wp2_with (at_builtin; refine wpList_append_own _ rfl (.tmp 27) (.tmp 33) 23 rfl w.heap.size 5 i0 (.int .u8 0) 1 1 Try.underlying23 hi hz0 hz1 hz2 rfl (by decide) _ _ _ rfl (hown2.out.alloc _) ⟨wr.heap.size, 0, none⟩ 1 1 [.int .u8 (hiB x 4 k)] rfl rfl (cell_one_new _ _ _) ?c2 ?c3 ?c4 ?c5 ?_)
      case c2 => exact one_u8 [hiB x 4 k]
      case c3 => unfold maxLen; omega
      case c4 => omega
      case c5 => simp; omega
      intro v' w1 hown' hgrow _
      have R := hide (own_push hown2.out hBr HB.out hown' hgrow)
      clear hown' hgrow hown2
      go_wp2
      go_roundw
      case rel => exact ⟨k + 1, by omega, by go_num, by rw [hsucc.out, ← List.append_assoc]; exact R.out.1, R.out.2.1, R.out.2.2⟩
      case measure => simp [intOf]; omega
    · have ek : k = 4 := by omega
      subst ek
      go_wp2
      go_ret
      exact ⟨_, rfl, hown2.out, HB.out⟩

set_option maxHeartbeats 1000000 in
theorem rnum_8 (x : Int) (w : World) (h0 : 0 ≤ x) (h1 : x ≤ 18446744073709551615) (c1 : ¬ x < 253) (c2 : ¬ x ≤ 65535) (c3 : ¬ x ≤ 4294967295) :
    Calls Try.prog 45 #[.int .u64 x] w fun e w' => ∃ v', e = .returned v' ∧ w'.ownsRow w.heap.size 5 1 v' 9 (U8 (255 :: hiL x 8 8)) ∧ Below w.heap.size w w' := by
  obtain ⟨i0, hi, hz0, hz1, hz2⟩ := info_parts Try.info5
  go_enter Try.func45, Try.ntmps45
  go_wp2
  go_loopw [4, 5] (fun b i wr => ∃ k : Nat, k ≤ 8 ∧ i = .int .i64 ((8 : Int) - 1 - k) ∧ Hid (wr.ownsRow w.heap.size 5 1 b (1 + k) (U8 ([255] ++ hiL x 8 k))) ∧ w.heap.size ≤ wr.heap.size ∧ Hid (Below w.heap.size w wr)) (fun _ i _ => (intOf i + 1).toNat)
  case atStart => exact ⟨0, Nat.zero_le _, by simp, hide (by simpa [hiL, U8] using own_one w (.int .u8 255)), by simp, hide ((Below.refl _ _).alloc (Nat.le_refl _) _)⟩
  case round =>
    obtain ⟨k, hk, rfl, hown2, hBr, HB⟩ := hrel
    by_cases hlt : k < 8
    · have hsucc := hide (hiL_succ x 8 k)
      generalize hiL x 8 k = L at *
      go_wp2_with (at_builtin; refine wpList_append_own _ rfl (.tmp 27) (.tmp 33) 23 rfl w.heap.size 5 i0 (.int .u8 0) 1 1 Try.underlying23 hi hz0 hz1 hz2 rfl (by decide) _ _ _ rfl (hown2.out.alloc _) ⟨wr.heap.size, 0, none⟩ 1 1 [.int .u8 (hiB x 8 k)] rfl rfl (cell_one_new _ _ _) ?c2 ?c3 ?c4 ?c5 ?_)
      case c2 => exact one_u8 [hiB x 8 k]
      case c3 => unfold maxLen; omega
      case c4 => omega
      case c5 => simp; omega
      intro v' w1 hown' hgrow _
      have R := hide (own_push hown2.out hBr HB.out hown' hgrow)
      clear hown' hgrow hown2
      go_wp2
      go_roundw
      case rel => exact ⟨k + 1, by omega, by go_num, by rw [hsucc.out, ← List.append_assoc]; exact R.out.1, R.out.2.1, R.out.2.2⟩
      case measure => simp [intOf]; omega
    · have ek : k = 8 := by omega
      subst ek
      go_wp2
      go_ret
      exact ⟨_, rfl, hown2.out, HB.out⟩

set_option maxHeartbeats 1000000 in
theorem rnum_1 (x : Int) (w : World) (h0 : 0 ≤ x) (h1 : x < 253) :
    Calls Try.prog 45 #[.int .u64 x] w fun e w' => ∃ v', e = .returned v' ∧ w'.ownsRow w.heap.size 5 1 v' 1 (U8 [x]) ∧ Below w.heap.size w w' := by
  go_enter Try.func45, Try.ntmps45
  go_wp2
  go_ret
  exact ⟨_, rfl, own_one w (.int .u8 x), (Below.refl _ _).alloc (Nat.le_refl _) _⟩

theorem rnum_any (x : Int) (w : World) (h0 : 0 ≤ x) (h1 : x ≤ 18446744073709551615) :
    Calls Try.prog 45 #[.int .u64 x] w fun e w' => ∃ v', e = .returned v' ∧ w'.ownsRow w.heap.size 5 1 v' (numB x).length (U8 (numB x)) ∧ Below w.heap.size w w' := by
  by_cases c1 : x < 253
  · rw [show numB x = [x] from if_pos c1]
    exact rnum_1 x w h0 c1
  · by_cases c2 : x ≤ 65535
    · have e : numB x = 253 :: hiL x 2 2 := by unfold numB; rw [if_neg c1, if_pos c2]
      rw [e]
      exact rnum_2 x w h0 h1 c1 c2
    · by_cases c3 : x ≤ 4294967295
      · have e : numB x = 254 :: hiL x 4 4 := by unfold numB; rw [if_neg c1, if_neg c2, if_pos c3]
        rw [e]
        exact rnum_4 x w h0 h1 c1 c2 c3
      · have e : numB x = 255 :: hiL x 8 8 := by unfold numB; rw [if_neg c1, if_neg c2, if_neg c3]
        rw [e]
        exact rnum_8 x w h0 h1 c1 c2 c3

theorem numB_le (x : Int) : (numB x).length ≤ 9 := by
  unfold numB
  repeat' split
  all_goals simp [hiL_length]
theorem numB_pos (x : Int) : 1 ≤ (numB x).length := by
  unfold numB
  repeat' split
  all_goals simp

/-- a slice of bytes that lies in memory: nil, or its cells -/
def IsB (w : World) (ao : Option Addr) (cap : Nat) (zs : List Int) : Prop :=
  (ao = none ∧ cap = 0 ∧ zs = []) ∨ ∃ x, ao = some x ∧ ∀ j u, (U8 zs)[j]? = some u → w.cell? (x.add j) = some u

theorem addr_add (b o k : Nat) : (⟨b, o, none⟩ : Addr).add k = ⟨b, o + k, none⟩ := by unfold Addr.add; split <;> simp_all
theorem addr_block (x : Addr) (k : Nat) : (x.add k).block = x.block := by unfold Addr.add; split <;> simp_all

theorem U8_length (zs : List Int) : (U8 zs).length = zs.length := by simp [U8]
theorem U8_at (zs : List Int) (k : Nat) (h : k < zs.length) : (U8 zs)[k]? = some (.int .u8 (zs.getD k 0)) := by
  simp [U8, List.getElem?_map, List.getElem?_eq_getElem h, List.getD_eq_getElem?_getD]

/-- where there is a byte, the slice lies at a place -/
theorem IsB.at {w : World} {ao : Option Addr} {cap : Nat} {zs : List Int} (h : IsB w ao cap zs) (h0 : 0 < zs.length) :
    ∃ b off, ao = some ⟨b, off, none⟩ ∧ b < w.heap.size ∧ ∀ k, k < zs.length → w.cell? ⟨b, off + k, none⟩ = some (.int .u8 (zs.getD k 0)) := by
  rcases h with ⟨_, _, rfl⟩ | ⟨⟨b, off, spot⟩, rfl, hc⟩
  · simp at h0
  · have hs : spot = none := by simpa [Addr.add] using World.cell?_spot (hc 0 _ (U8_at zs 0 h0))
    subst hs
    have hc' : ∀ k, k < zs.length → w.cell? ⟨b, off + k, none⟩ = some (.int .u8 (zs.getD k 0)) := fun k hk => by
      have h := hc k _ (U8_at zs k hk)
      rw [addr_add] at h
      exact h
    exact ⟨b, off, rfl, block_lt_of_cell (hc' 0 h0), hc'⟩

theorem IsB.below {w w' : World} {ao : Option Addr} {cap : Nat} {zs : List Int} (h : IsB w ao cap zs) (hb : Below w.heap.size w w') : IsB w' ao cap zs := by
  rcases h with h | ⟨x, rfl, hc⟩
  · exact .inl h
  · refine .inr ⟨x, rfl, fun j u hu => ?_⟩
    have h := hc j u hu
    have hlt := block_lt_of_cell h
    exact (hb.cell hlt).trans h

/-- a row of the call's own is such a slice -/
theorem own_isB {w : World} {B : Nat} {v : Value} {zs : List Int} (h : w.ownsRow B 5 1 v zs.length (U8 zs)) : ∃ ao cap, v = .slice ao zs.length cap ∧ IsB w ao cap zs ∧ zs.length ≤ cap ∧ cap ≤ 9223372036854775807 := by
  have hcells := fun (g : Nat) hg => h.cells (g := g) hg
  rcases h.2 with ⟨rfl, h0⟩ | ⟨g, cap, cur, rfl, _, _, hn, hm, _⟩
  · exact ⟨none, 0, by rw [h0], .inl ⟨rfl, rfl, List.eq_nil_of_length_eq_zero h0⟩, by omega, by omega⟩
  · unfold maxLen at hm
    exact ⟨_, cap, rfl, .inr ⟨_, rfl, hcells g rfl⟩, hn, by omega⟩

/-- an append of any slice of bytes to a row of the call's own -/
theorem wpList_append_ownx {w : World} {ops : Array Oper} {rest : List Oper} {o : Oper} {a : Act} {Q : Exit → Act → World → Prop} (hgd : o.guard = none) (s x : Operand)
    (ho : o.op = .call { callee := .builtin .append, args := #[s, x], argTypes := #[23, 23] }) (base : Nat)
    (v : Value) (n : Nat) (xs : List Int) (hs : a.eval s = v) (hown : w.ownsRow base 5 1 v n (U8 xs))
    (ao : Option Addr) (m c : Nat) (news : List Int) (hx : a.eval x = .slice ao m c) (hm : news.length = m) (hB : IsB w ao c news)
    (hbytes : n + m ≤ 140737488355328) (hbase : base ≤ w.heap.size)
    (h : ∀ v' w', w'.ownsRow base 5 1 v' (n + m) (U8 (xs ++ news)) → w.grownBy w' v.ownBlock → wpList Try.prog ops Q rest (a.put o.dst v') w') : wpList Try.prog ops Q (o :: rest) a w := by
  obtain ⟨i0, hi, hz0, hz1, hz2⟩ := info_parts Try.info5
  rw [U8_append] at h
  rcases hB with ⟨rfl, rfl, rfl⟩ | ⟨ad, rfl, hc⟩
  · simp at hm
    subst hm
    refine wpList_append_own_none hgd s x 23 ho base 5 i0 1 Try.underlying23 hi v n (U8 xs) hs hown hx ?_
    exact h v w (by simpa [U8] using hown) (World.grownBy.refl _ _)
  · exact wpList_append_own w hgd s x 23 ho base 5 i0 (.int .u8 0) 1 1 Try.underlying23 hi hz0 hz1 hz2 rfl (by decide) v n (U8 xs) hs hown ad m c (U8 news) hx (by simp [U8, hm]) hc (one_u8 news) (by unfold maxLen; omega) (by omega) hbase
      fun v' w' h1 h2 _ => h v' w' h1 h2

theorem conv_any {w : World} {ao : Option Addr} {cap : Nat} {zs : List Int} (h : IsB w ao cap zs) :
    (convert 23 9 (.slice ao zs.length cap)).run Try.prog w = .ok (.string (strOfNums zs)) w := by
  rcases h with ⟨rfl, rfl, rfl⟩ | ⟨x, rfl, hc⟩
  · exact run_convert_bytes_nil w 23 5 Try.underlying23 Try.underlying5 0 0 9 Try.underlying9
  · have hl : (loadCells x zs.length).run Try.prog w = .ok (zs.map (Value.int .u8)).toArray w := by
      have := run_loadCells_list (P := Try.prog) w x (zs.map (Value.int .u8)) hc
      simpa using this
    rw [run_convert_bytes_string w 23 9 5 _ zs.length cap Try.underlying23 Try.underlying5 Try.underlying9, run_bytesToString w _ zs.length cap zs hl, foldl_push_bytes]
    simp [strOfNums, ByteArray.empty, ByteArray.emptyWithCapacity]
    rfl

end Go.Proofs.Ytcbadmkgbaffpaa
