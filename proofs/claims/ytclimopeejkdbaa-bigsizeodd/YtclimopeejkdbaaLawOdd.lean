/- Proved: for all records, every odd type and every value the statement BigsizeOdd (P1.2: records of odd types that nobody knows change nothing for those that are known) returns true over the code at the commit, and changes none of its arguments. No condition. -/
import Derived.Test.YtclimopeejkdbaaRows
import Derived.Test.YtclimopeejkdbaaOddLoop
import Derived.WalkKit
import Derived.ProofKit
import Derived.OpenShut
import Derived.SizedLaws
namespace Go.Proofs.Ytclimopeejkdbaa.bigsizeOdd
open Go.ChangeShapes Go.WideShapes Go.ChangeAt Go.RowKit
set_option linter.unusedVariables false

set_option maxRecDepth 100000 in
set_option maxHeartbeats 4000000 in
theorem walk_any (ao : Option Addr) (len cap : Nat) (odd : Int) (va : Option Addr) (vc : Nat) (val : List Int) (ty : Nat → Int) (ro : Nat → Option Addr) (cp : Nat → Nat) (L : Nat → List Int) (w : World)
    (hrow : len = 0 ∨ ∃ b off, ao = some ⟨b, off, none⟩ ∧ Recs w b off len ty ro cp L) (hlen : len ≤ 4398046510976) (hq : ∀ k, k < len → 0 ≤ ty k ∧ ty k ≤ 18446744073709551615 ∧ (L k).length ≤ 140737488351232 ∧ Bytes (L k))
    (h0 : 0 ≤ odd) (h1 : odd ≤ 18446744073709551615) (hV : IsB w va vc val) (hvl : val.length ≤ 140737488351232) (hvb : Bytes val) :
    Calls Try.prog 8 #[.slice ao len cap, .int .u64 odd, .slice va val.length vc] w fun e w' => e = .returned (.bool true) ∧ Below w.heap.size w w' := by
  obtain ⟨i0, hi, hz0, hz1, hz2⟩ := info_parts Try.infoRec
  obtain ⟨j0, hj, hy0, hy1, hy2⟩ := info_parts Try.info22
  obtain ⟨t0, t1, t2⟩ := or_one odd h0 h1
  have HR := hide hrow
  have HQ := hide hq
  have HV := hide hV
  have HVB := hide hvb
  obtain ⟨vl, hvll⟩ : ∃ vl, val.length = vl := ⟨_, rfl⟩
  have HVL := hide hvll
  rw [hvll] at hvl ⊢
  clear hrow hq hV hvb hvll
  go_enter Try.func8, Try.ntmps8
  go_wp2_with fail
  refine (lives_any _).mono ?_
  rintro e w1 ⟨rfl, hb⟩
  have HB1 := hide hb
  clear hb
  generalize bits .or .u64 odd 1 = T at *
  go_wp2
  go_loopw [8, 9, 10, 11] (fun all kn inn i wr => ∃ (k : Nat) (q : List Rq) (bb : Bool), k ≤ len ∧ inn = .bool bb ∧ i = .int .i64 k ∧ Hid (wr.ownsRow w.heap.size 38 2 all q.length (rqCells q)) ∧ Hid (wr.ownsRow w.heap.size 22 1 kn k (U64L ty k)) ∧ Hid (Inv w T ty val q bb k) ∧ Hid (Below w.heap.size w wr)) (fun _ _ _ i _ => len - (intOf i).toNat)
  case atStart => exact ⟨0, [], false, Nat.zero_le _, rfl, rfl, World.ownsRow_nil _ _ _ _, World.ownsRow_nil _ _ _ _, ⟨trivial, rfl, fun _ => by show (-1 : Int) < T; omega, (fun h => by cases h), (fun r hr => by cases hr), (fun r hr => by cases hr), (fun r hr => by cases hr), Nat.zero_le _⟩, HB1⟩
  case round =>
    clear HB1
    obtain ⟨k, q, bb, hk, rfl, rfl, HA, HK, HN, HB⟩ := hrel
    obtain ⟨aa, ac, rfl⟩ := row_shape HA.out
    obtain ⟨ka, kc, rfl⟩ := row_shape HK.out
    have zb := HB.out.size
    have hql : q.length ≤ k + 1 := by have := HN.out.len; split at this <;> omega
    by_cases hlt : k < len
    · rcases HR.out with h | ⟨b, off, rfl, R0⟩
      · omega
      have R := R0.below HB.out
      have HI := hide (R0.bytes k hlt)
      have HCC := hide (fun W (h : Below w.heap.size w W) => And.intro ((R0.below h).type k hlt) ((R0.below h).value k hlt))
      have q0 := R.type k hlt
      have q1 := R.value k hlt
      have qp : 0 < k → wr.cell? ⟨b, off + (k - 1) * 2, none⟩ = some (.int .u64 (ty (k - 1))) := fun h => R.type (k - 1) (by omega)
      obtain ⟨m0, m1, m2, m3⟩ := HQ.out k hlt
      have HM := hide m3
      have hck : (k : Int) < (len : Int) := by omega
      clear R R0 m3
      by_cases hx : ty k = T
      · have g : (ty k == T) = true := by rw [hx]; exact beq_self_eq_true _
        clear qp
        generalize ty k = x at *
        go_wp2
        go_quiet (fail)
        go_wp2
        go_ret
        exact ⟨rfl, below_drewN HB.out _⟩
      have hx' : (ty k == T) = false := beq_eq_false_iff_ne.2 hx
      obtain ⟨x, hX⟩ : ∃ x, ty k = x := ⟨_, rfl⟩
      have HX := hide hX
      clear hX
      by_cases hk0 : k = 0
      · subst hk0
        clear qp
        rw [Nat.zero_mul, Nat.add_zero] at q0 q1 HCC
        have HC := hide (show ∀ W, Below w.heap.size w W → W.cell? ⟨b, off, none⟩ = some (.int .u64 (ty 0)) ∧ W.cell? ⟨b, off + 1, none⟩ = some (.slice (ro 0) (L 0).length (cp 0)) from fun W h => HCC.out W h)
        cases bb with
        | false =>
          by_cases hgt : T < ty 0
          · have HI1 := Inv.one HN.out HV.out (by rw [HVL.out]; exact hvl) HVB.out t0 t1 t2
            generalize hq2 : q ++ [(T, va, vc, val)] = q2 at HI1
            obtain ⟨i1, i2, i3, i4, i5, i6, i7⟩ := HI1
            have HInv := hide (Inv.next (T := T) (val := val) (b' := true) i1 (by rw [i2]; exact hgt) (fun _ => i3) (fun h => by cases h) i4 i5 i6 i7 HI.out m0 m1 m2 HM.out)
            have Hq2 := hide hq2
            have hl2 : q2.length ≤ q.length + 1 := by rw [← hq2]; simp
            have hl3 : q.length ≤ 0 := by have := HN.out.len; simpa using this
            clear i1 i2 i3 i4 i5 i6 i7 hq2
            rw [HX.out] at HInv HC q0 hgt hx'
            clear m0 m1
            generalize hq3 : q2 ++ [(x, ro 0, cp 0, L 0)] = q3 at HInv
            have Hq3 := hide hq3
            clear hq3
            go_wp2
            go_quiet (fail)
            generalize hwd : wr.drewN nq = wd
            have hbd : Below wr.heap.size wr wd := by rw [← hwd]; exact below_drewN (Below.refl _ _) nq
            have HA2 := hide (owns_below HA.out hbd)
            have HK2 := hide (owns_below HK.out hbd)
            have HB2 := hide (HB.out.trans (hbd.mono zb))
            have z2 := HB2.out.size
            obtain ⟨p0, p1⟩ := HC.out wd HB2.out
            clear hbd hwd q0 q1 HA HK HB zb
            go_wp2_with (at_builtin; refine wpList_append_own _ rfl (.tmp 63) (.tmp 67) 33 rfl w.heap.size 38 i0 (.agg #[.int .u64 0, .slice none 0 0]) 2 32 Try.underlying33 hi hz0 hz1 hz2 rfl (by decide) _ q.length (rqCells q) rfl (HA2.out.alloc _) ⟨wd.heap.size, 0, none⟩ 1 1 [.int .u64 T, .slice va vl vc] rfl rfl (cell_two_new _ _ _ _) (one_rec _ _ rfl rfl) ?d3 ?d4 ?d5 ?_)
            case d3 => unfold maxLen; omega
            case d4 => omega
            case d5 => first | omega | (simp; omega)
            intro v2 w2 ho hg _
            have HA3 := hide (show w2.ownsRow w.heap.size 38 2 v2 q2.length (rqCells q2) by rw [← Hq2.out, rqCells_append, List.length_append]; have h := ho; rw [← HVL.out] at h; exact h)
            have HK3 := hide (other_row HA2.out HK2.out (by decide) hg)
            have HB3 := hide (below_grown HB2.out z2 HA2.out hg)
            have z3 := HB3.out.size
            obtain ⟨a2, c2, rfl⟩ := row_shape HA3.out
            clear ho hg p0 p1 HA2 HK2 HB2 z2
            obtain ⟨p0, p1⟩ := HC.out w2 HB3.out
            go_wp2_with (at_builtin; refine wpList_append_own _ rfl (.tmp 69) (.tmp 74) 33 rfl w.heap.size 38 i0 (.agg #[.int .u64 0, .slice none 0 0]) 2 32 Try.underlying33 hi hz0 hz1 hz2 rfl (by decide) _ q2.length (rqCells q2) rfl (HA3.out.alloc _) ⟨w2.heap.size, 0, none⟩ 1 1 [.int .u64 x, .slice (ro 0) (L 0).length (cp 0)] rfl rfl (cell_two_new _ _ _ _) (one_rec _ _ rfl rfl) ?d3 ?d4 ?d5 ?_)
            case d3 => unfold maxLen; omega
            case d4 => omega
            case d5 => first | omega | (simp; omega)
            intro v3 w3 ho hg _
            have HA4 := hide (show w3.ownsRow w.heap.size 38 2 v3 q3.length (rqCells q3) by rw [← Hq3.out, rqCells_append, List.length_append]; exact ho)
            have HK4 := hide (other_row HA3.out HK3.out (by decide) hg)
            have HB4 := hide (below_grown HB3.out z3 HA3.out hg)
            have z4 := HB4.out.size
            obtain ⟨a3, c3, rfl⟩ := row_shape HA4.out
            clear ho hg p0 p1 HA3 HK3 HB3 z3
            obtain ⟨p0, p1⟩ := HC.out w3 HB4.out
            go_wp2_with (at_builtin; refine wpList_append_own _ rfl (.tmp 76) (.tmp 82) 36 rfl w.heap.size 22 j0 (.int .u64 0) 1 8 Try.underlying36 hj hy0 hy1 hy2 rfl (by decide) _ 0 (U64L ty 0) rfl (HK4.out.alloc _) ⟨w3.heap.size, 0, none⟩ 1 1 [.int .u64 x] rfl rfl (cell_one_new _ _ _) one_u64 ?d3 ?d4 ?d5 ?_)
            case d3 => unfold maxLen; omega
            case d4 => omega
            case d5 => first | omega | (simp; omega)
            intro v4 w4 ho hg _
            have HK5 := hide (show w4.ownsRow w.heap.size 22 1 v4 (0 + 1) (U64L ty (0 + 1)) by rw [U64L_succ, HX.out]; exact ho)
            have HA5 := hide (other_row HK4.out HA4.out (by decide) hg)
            have HB5 := hide (below_grown HB4.out z4 HK4.out hg)
            clear ho hg p0 p1 HA4 HK4 HB4 z4
            go_wp2
            go_roundw
            case rel => exact ⟨0 + 1, _, true, by omega, rfl, by go_num, HA5, HK5, HInv, HB5⟩
            case measure => simp [intOf]; omega

          · have HInv := hide (Inv.next (T := T) (val := val) (b' := false) HN.out.ris (by rw [HN.out.last]; show (-1 : Int) < ty 0; omega) (fun h => by cases h) (fun _ => by omega) HN.out.isB HN.out.low HN.out.known HN.out.len HI.out m0 m1 m2 HM.out)
            rw [HX.out] at HInv HC q0 hgt hx'
            clear m0 m1
            generalize hq3 : q ++ [(x, ro 0, cp 0, L 0)] = q3 at HInv
            have Hq3 := hide hq3
            clear hq3
            go_wp2
            go_quiet (fail)
            generalize hwd : wr.drewN nq = wd
            have hbd : Below wr.heap.size wr wd := by rw [← hwd]; exact below_drewN (Below.refl _ _) nq
            have HA2 := hide (owns_below HA.out hbd)
            have HK2 := hide (owns_below HK.out hbd)
            have HB2 := hide (HB.out.trans (hbd.mono zb))
            have z2 := HB2.out.size
            obtain ⟨p0, p1⟩ := HC.out wd HB2.out
            clear hbd hwd q0 q1 HA HK HB zb
            go_wp2_with (at_builtin; refine wpList_append_own _ rfl (.tmp 69) (.tmp 74) 33 rfl w.heap.size 38 i0 (.agg #[.int .u64 0, .slice none 0 0]) 2 32 Try.underlying33 hi hz0 hz1 hz2 rfl (by decide) _ q.length (rqCells q) rfl (HA2.out.alloc _) ⟨wd.heap.size, 0, none⟩ 1 1 [.int .u64 x, .slice (ro 0) (L 0).length (cp 0)] rfl rfl (cell_two_new _ _ _ _) (one_rec _ _ rfl rfl) ?d3 ?d4 ?d5 ?_)
            case d3 => unfold maxLen; omega
            case d4 => omega
            case d5 => first | omega | (simp; omega)
            intro v3 w3 ho hg _
            have HA4 := hide (show w3.ownsRow w.heap.size 38 2 v3 q3.length (rqCells q3) by rw [← Hq3.out, rqCells_append, List.length_append]; exact ho)
            have HK4 := hide (other_row HA2.out HK2.out (by decide) hg)
            have HB4 := hide (below_grown HB2.out z2 HA2.out hg)
            have z4 := HB4.out.size
            obtain ⟨a3, c3, rfl⟩ := row_shape HA4.out
            clear ho hg p0 p1 HA2 HK2 HB2 z2
            obtain ⟨p0, p1⟩ := HC.out w3 HB4.out
            go_wp2_with (at_builtin; refine wpList_append_own _ rfl (.tmp 76) (.tmp 82) 36 rfl w.heap.size 22 j0 (.int .u64 0) 1 8 Try.underlying36 hj hy0 hy1 hy2 rfl (by decide) _ 0 (U64L ty 0) rfl (HK4.out.alloc _) ⟨w3.heap.size, 0, none⟩ 1 1 [.int .u64 x] rfl rfl (cell_one_new _ _ _) one_u64 ?d3 ?d4 ?d5 ?_)
            case d3 => unfold maxLen; omega
            case d4 => omega
            case d5 => first | omega | (simp; omega)
            intro v4 w4 ho hg _
            have HK5 := hide (show w4.ownsRow w.heap.size 22 1 v4 (0 + 1) (U64L ty (0 + 1)) by rw [U64L_succ, HX.out]; exact ho)
            have HA5 := hide (other_row HK4.out HA4.out (by decide) hg)
            have HB5 := hide (below_grown HB4.out z4 HK4.out hg)
            clear ho hg p0 p1 HA4 HK4 HB4 z4
            go_wp2
            go_roundw
            case rel => exact ⟨0 + 1, _, false, by omega, rfl, by go_num, HA5, HK5, HInv, HB5⟩
            case measure => simp [intOf]; omega

        | true =>
          by_cases hgt : T < ty 0
          · have HInv := hide (Inv.next (T := T) (val := val) (b' := true) HN.out.ris (by rw [HN.out.last]; show (-1 : Int) < ty 0; omega) (fun _ => HN.out.yes rfl) (fun h => by cases h) HN.out.isB HN.out.low HN.out.known HN.out.len HI.out m0 m1 m2 HM.out)
            rw [HX.out] at HInv HC q0 hgt hx'
            clear m0 m1
            generalize hq3 : q ++ [(x, ro 0, cp 0, L 0)] = q3 at HInv
            have Hq3 := hide hq3
            clear hq3
            go_wp2
            go_quiet (fail)
            generalize hwd : wr.drewN nq = wd
            have hbd : Below wr.heap.size wr wd := by rw [← hwd]; exact below_drewN (Below.refl _ _) nq
            have HA2 := hide (owns_below HA.out hbd)
            have HK2 := hide (owns_below HK.out hbd)
            have HB2 := hide (HB.out.trans (hbd.mono zb))
            have z2 := HB2.out.size
            obtain ⟨p0, p1⟩ := HC.out wd HB2.out
            clear hbd hwd q0 q1 HA HK HB zb
            go_wp2_with (at_builtin; refine wpList_append_own _ rfl (.tmp 69) (.tmp 74) 33 rfl w.heap.size 38 i0 (.agg #[.int .u64 0, .slice none 0 0]) 2 32 Try.underlying33 hi hz0 hz1 hz2 rfl (by decide) _ q.length (rqCells q) rfl (HA2.out.alloc _) ⟨wd.heap.size, 0, none⟩ 1 1 [.int .u64 x, .slice (ro 0) (L 0).length (cp 0)] rfl rfl (cell_two_new _ _ _ _) (one_rec _ _ rfl rfl) ?d3 ?d4 ?d5 ?_)
            case d3 => unfold maxLen; omega
            case d4 => omega
            case d5 => first | omega | (simp; omega)
            intro v3 w3 ho hg _
            have HA4 := hide (show w3.ownsRow w.heap.size 38 2 v3 q3.length (rqCells q3) by rw [← Hq3.out, rqCells_append, List.length_append]; exact ho)
            have HK4 := hide (other_row HA2.out HK2.out (by decide) hg)
            have HB4 := hide (below_grown HB2.out z2 HA2.out hg)
            have z4 := HB4.out.size
            obtain ⟨a3, c3, rfl⟩ := row_shape HA4.out
            clear ho hg p0 p1 HA2 HK2 HB2 z2
            obtain ⟨p0, p1⟩ := HC.out w3 HB4.out
            go_wp2_with (at_builtin; refine wpList_append_own _ rfl (.tmp 76) (.tmp 82) 36 rfl w.heap.size 22 j0 (.int .u64 0) 1 8 Try.underlying36 hj hy0 hy1 hy2 rfl (by decide) _ 0 (U64L ty 0) rfl (HK4.out.alloc _) ⟨w3.heap.size, 0, none⟩ 1 1 [.int .u64 x] rfl rfl (cell_one_new _ _ _) one_u64 ?d3 ?d4 ?d5 ?_)
            case d3 => unfold maxLen; omega
            case d4 => omega
            case d5 => first | omega | (simp; omega)
            intro v4 w4 ho hg _
            have HK5 := hide (show w4.ownsRow w.heap.size 22 1 v4 (0 + 1) (U64L ty (0 + 1)) by rw [U64L_succ, HX.out]; exact ho)
            have HA5 := hide (other_row HK4.out HA4.out (by decide) hg)
            have HB5 := hide (below_grown HB4.out z4 HK4.out hg)
            clear ho hg p0 p1 HA4 HK4 HB4 z4
            go_wp2
            go_roundw
            case rel => exact ⟨0 + 1, _, true, by omega, rfl, by go_num, HA5, HK5, HInv, HB5⟩
            case measure => simp [intOf]; omega

          · have HInv := hide (Inv.next (T := T) (val := val) (b' := true) HN.out.ris (by rw [HN.out.last]; show (-1 : Int) < ty 0; omega) (fun _ => HN.out.yes rfl) (fun h => by cases h) HN.out.isB HN.out.low HN.out.known HN.out.len HI.out m0 m1 m2 HM.out)
            rw [HX.out] at HInv HC q0 hgt hx'
            clear m0 m1
            generalize hq3 : q ++ [(x, ro 0, cp 0, L 0)] = q3 at HInv
            have Hq3 := hide hq3
            clear hq3
            go_wp2
            go_quiet (fail)
            generalize hwd : wr.drewN nq = wd
            have hbd : Below wr.heap.size wr wd := by rw [← hwd]; exact below_drewN (Below.refl _ _) nq
            have HA2 := hide (owns_below HA.out hbd)
            have HK2 := hide (owns_below HK.out hbd)
            have HB2 := hide (HB.out.trans (hbd.mono zb))
            have z2 := HB2.out.size
            obtain ⟨p0, p1⟩ := HC.out wd HB2.out
            clear hbd hwd q0 q1 HA HK HB zb
            go_wp2_with (at_builtin; refine wpList_append_own _ rfl (.tmp 69) (.tmp 74) 33 rfl w.heap.size 38 i0 (.agg #[.int .u64 0, .slice none 0 0]) 2 32 Try.underlying33 hi hz0 hz1 hz2 rfl (by decide) _ q.length (rqCells q) rfl (HA2.out.alloc _) ⟨wd.heap.size, 0, none⟩ 1 1 [.int .u64 x, .slice (ro 0) (L 0).length (cp 0)] rfl rfl (cell_two_new _ _ _ _) (one_rec _ _ rfl rfl) ?d3 ?d4 ?d5 ?_)
            case d3 => unfold maxLen; omega
            case d4 => omega
            case d5 => first | omega | (simp; omega)
            intro v3 w3 ho hg _
            have HA4 := hide (show w3.ownsRow w.heap.size 38 2 v3 q3.length (rqCells q3) by rw [← Hq3.out, rqCells_append, List.length_append]; exact ho)
            have HK4 := hide (other_row HA2.out HK2.out (by decide) hg)
            have HB4 := hide (below_grown HB2.out z2 HA2.out hg)
            have z4 := HB4.out.size
            obtain ⟨a3, c3, rfl⟩ := row_shape HA4.out
            clear ho hg p0 p1 HA2 HK2 HB2 z2
            obtain ⟨p0, p1⟩ := HC.out w3 HB4.out
            go_wp2_with (at_builtin; refine wpList_append_own _ rfl (.tmp 76) (.tmp 82) 36 rfl w.heap.size 22 j0 (.int .u64 0) 1 8 Try.underlying36 hj hy0 hy1 hy2 rfl (by decide) _ 0 (U64L ty 0) rfl (HK4.out.alloc _) ⟨w3.heap.size, 0, none⟩ 1 1 [.int .u64 x] rfl rfl (cell_one_new _ _ _) one_u64 ?d3 ?d4 ?d5 ?_)
            case d3 => unfold maxLen; omega
            case d4 => omega
            case d5 => first | omega | (simp; omega)
            intro v4 w4 ho hg _
            have HK5 := hide (show w4.ownsRow w.heap.size 22 1 v4 (0 + 1) (U64L ty (0 + 1)) by rw [U64L_succ, HX.out]; exact ho)
            have HA5 := hide (other_row HK4.out HA4.out (by decide) hg)
            have HB5 := hide (below_grown HB4.out z4 HK4.out hg)
            clear ho hg p0 p1 HA4 HK4 HB4 z4
            go_wp2
            go_roundw
            case rel => exact ⟨0 + 1, _, true, by omega, rfl, by go_num, HA5, HK5, HInv, HB5⟩
            case measure => simp [intOf]; omega

      obtain ⟨p, rfl⟩ : ∃ p, k = p + 1 := ⟨k - 1, by omega⟩
      have qq := qp (by omega)
      rw [Nat.add_sub_cancel] at qq
      clear qp
      have h65 : ((p + 1 : Nat) : Int) - 1 = p := by omega
      by_cases hle : ty (p + 1) ≤ ty p
      · generalize ty (p + 1) = x1 at *
        generalize ty p = x2 at *
        go_wp2
        go_quiet (fail)
        go_wp2
        go_ret
        exact ⟨rfl, below_drewN HB.out _⟩
      have hpl : lastT (plain q) < ty (p + 1) := by rw [HN.out.last]; show ty p < _; omega
      have HPL := hide hpl
      clear hpl
      obtain ⟨y, hY⟩ : ∃ y, ty p = y := ⟨_, rfl⟩
      rw [hY] at qq hle
      rw [HX.out] at hle
      clear hY
      have HC := hide (show ∀ W, Below w.heap.size w W → W.cell? ⟨b, off + (p + 1) * 2, none⟩ = some (.int .u64 (ty (p + 1))) ∧ W.cell? ⟨b, off + (p + 1) * 2 + 1, none⟩ = some (.slice (ro (p + 1)) (L (p + 1)).length (cp (p + 1))) from fun W h => HCC.out W h)
      cases bb with
      | false =>
        by_cases hgt : T < ty (p + 1)
        · have HI1 := Inv.one HN.out HV.out (by rw [HVL.out]; exact hvl) HVB.out t0 t1 t2
          generalize hq2 : q ++ [(T, va, vc, val)] = q2 at HI1
          obtain ⟨i1, i2, i3, i4, i5, i6, i7⟩ := HI1
          have HInv := hide (Inv.next (T := T) (val := val) (b' := true) i1 (by rw [i2]; exact hgt) (fun _ => i3) (fun h => by cases h) i4 i5 i6 i7 HI.out m0 m1 m2 HM.out)
          have Hq2 := hide hq2
          have hl2 : q2.length ≤ q.length + 1 := by rw [← hq2]; simp
          have hl3 : q.length ≤ (p + 1) := by have := HN.out.len; simpa using this
          clear i1 i2 i3 i4 i5 i6 i7 hq2
          rw [HX.out] at HInv HC q0 hgt hx'
          clear m0 m1
          generalize hq3 : q2 ++ [(x, ro (p + 1), cp (p + 1), L (p + 1))] = q3 at HInv
          have Hq3 := hide hq3
          clear hq3
          go_wp2
          go_quiet (fail)
          generalize hwd : wr.drewN nq = wd
          have hbd : Below wr.heap.size wr wd := by rw [← hwd]; exact below_drewN (Below.refl _ _) nq
          have HA2 := hide (owns_below HA.out hbd)
          have HK2 := hide (owns_below HK.out hbd)
          have HB2 := hide (HB.out.trans (hbd.mono zb))
          have z2 := HB2.out.size
          obtain ⟨p0, p1⟩ := HC.out wd HB2.out
          clear hbd hwd q0 q1 HA HK HB zb
          go_wp2_with (at_builtin; refine wpList_append_own _ rfl (.tmp 63) (.tmp 67) 33 rfl w.heap.size 38 i0 (.agg #[.int .u64 0, .slice none 0 0]) 2 32 Try.underlying33 hi hz0 hz1 hz2 rfl (by decide) _ q.length (rqCells q) rfl (HA2.out.alloc _) ⟨wd.heap.size, 0, none⟩ 1 1 [.int .u64 T, .slice va vl vc] rfl rfl (cell_two_new _ _ _ _) (one_rec _ _ rfl rfl) ?d3 ?d4 ?d5 ?_)
          case d3 => unfold maxLen; omega
          case d4 => omega
          case d5 => first | omega | (simp; omega)
          intro v2 w2 ho hg _
          have HA3 := hide (show w2.ownsRow w.heap.size 38 2 v2 q2.length (rqCells q2) by rw [← Hq2.out, rqCells_append, List.length_append]; have h := ho; rw [← HVL.out] at h; exact h)
          have HK3 := hide (other_row HA2.out HK2.out (by decide) hg)
          have HB3 := hide (below_grown HB2.out z2 HA2.out hg)
          have z3 := HB3.out.size
          obtain ⟨a2, c2, rfl⟩ := row_shape HA3.out
          clear ho hg p0 p1 HA2 HK2 HB2 z2
          obtain ⟨p0, p1⟩ := HC.out w2 HB3.out
          go_wp2_with (at_builtin; refine wpList_append_own _ rfl (.tmp 69) (.tmp 74) 33 rfl w.heap.size 38 i0 (.agg #[.int .u64 0, .slice none 0 0]) 2 32 Try.underlying33 hi hz0 hz1 hz2 rfl (by decide) _ q2.length (rqCells q2) rfl (HA3.out.alloc _) ⟨w2.heap.size, 0, none⟩ 1 1 [.int .u64 x, .slice (ro (p + 1)) (L (p + 1)).length (cp (p + 1))] rfl rfl (cell_two_new _ _ _ _) (one_rec _ _ rfl rfl) ?d3 ?d4 ?d5 ?_)
          case d3 => unfold maxLen; omega
          case d4 => omega
          case d5 => first | omega | (simp; omega)
          intro v3 w3 ho hg _
          have HA4 := hide (show w3.ownsRow w.heap.size 38 2 v3 q3.length (rqCells q3) by rw [← Hq3.out, rqCells_append, List.length_append]; exact ho)
          have HK4 := hide (other_row HA3.out HK3.out (by decide) hg)
          have HB4 := hide (below_grown HB3.out z3 HA3.out hg)
          have z4 := HB4.out.size
          obtain ⟨a3, c3, rfl⟩ := row_shape HA4.out
          clear ho hg p0 p1 HA3 HK3 HB3 z3
          obtain ⟨p0, p1⟩ := HC.out w3 HB4.out
          go_wp2_with (at_builtin; refine wpList_append_own _ rfl (.tmp 76) (.tmp 82) 36 rfl w.heap.size 22 j0 (.int .u64 0) 1 8 Try.underlying36 hj hy0 hy1 hy2 rfl (by decide) _ (p + 1) (U64L ty (p + 1)) rfl (HK4.out.alloc _) ⟨w3.heap.size, 0, none⟩ 1 1 [.int .u64 x] rfl rfl (cell_one_new _ _ _) one_u64 ?d3 ?d4 ?d5 ?_)
          case d3 => unfold maxLen; omega
          case d4 => omega
          case d5 => first | omega | (simp; omega)
          intro v4 w4 ho hg _
          have HK5 := hide (show w4.ownsRow w.heap.size 22 1 v4 ((p + 1) + 1) (U64L ty ((p + 1) + 1)) by rw [U64L_succ, HX.out]; exact ho)
          have HA5 := hide (other_row HK4.out HA4.out (by decide) hg)
          have HB5 := hide (below_grown HB4.out z4 HK4.out hg)
          clear ho hg p0 p1 HA4 HK4 HB4 z4
          go_wp2
          go_roundw
          case rel => exact ⟨(p + 1) + 1, _, true, by omega, rfl, by go_num, HA5, HK5, HInv, HB5⟩
          case measure => simp [intOf]; omega

        · have HInv := hide (Inv.next (T := T) (val := val) (b' := false) HN.out.ris (HPL.out) (fun h => by cases h) (fun _ => by omega) HN.out.isB HN.out.low HN.out.known HN.out.len HI.out m0 m1 m2 HM.out)
          rw [HX.out] at HInv HC q0 hgt hx'
          clear m0 m1
          generalize hq3 : q ++ [(x, ro (p + 1), cp (p + 1), L (p + 1))] = q3 at HInv
          have Hq3 := hide hq3
          clear hq3
          go_wp2
          go_quiet (fail)
          generalize hwd : wr.drewN nq = wd
          have hbd : Below wr.heap.size wr wd := by rw [← hwd]; exact below_drewN (Below.refl _ _) nq
          have HA2 := hide (owns_below HA.out hbd)
          have HK2 := hide (owns_below HK.out hbd)
          have HB2 := hide (HB.out.trans (hbd.mono zb))
          have z2 := HB2.out.size
          obtain ⟨p0, p1⟩ := HC.out wd HB2.out
          clear hbd hwd q0 q1 HA HK HB zb
          go_wp2_with (at_builtin; refine wpList_append_own _ rfl (.tmp 69) (.tmp 74) 33 rfl w.heap.size 38 i0 (.agg #[.int .u64 0, .slice none 0 0]) 2 32 Try.underlying33 hi hz0 hz1 hz2 rfl (by decide) _ q.length (rqCells q) rfl (HA2.out.alloc _) ⟨wd.heap.size, 0, none⟩ 1 1 [.int .u64 x, .slice (ro (p + 1)) (L (p + 1)).length (cp (p + 1))] rfl rfl (cell_two_new _ _ _ _) (one_rec _ _ rfl rfl) ?d3 ?d4 ?d5 ?_)
          case d3 => unfold maxLen; omega
          case d4 => omega
          case d5 => first | omega | (simp; omega)
          intro v3 w3 ho hg _
          have HA4 := hide (show w3.ownsRow w.heap.size 38 2 v3 q3.length (rqCells q3) by rw [← Hq3.out, rqCells_append, List.length_append]; exact ho)
          have HK4 := hide (other_row HA2.out HK2.out (by decide) hg)
          have HB4 := hide (below_grown HB2.out z2 HA2.out hg)
          have z4 := HB4.out.size
          obtain ⟨a3, c3, rfl⟩ := row_shape HA4.out
          clear ho hg p0 p1 HA2 HK2 HB2 z2
          obtain ⟨p0, p1⟩ := HC.out w3 HB4.out
          go_wp2_with (at_builtin; refine wpList_append_own _ rfl (.tmp 76) (.tmp 82) 36 rfl w.heap.size 22 j0 (.int .u64 0) 1 8 Try.underlying36 hj hy0 hy1 hy2 rfl (by decide) _ (p + 1) (U64L ty (p + 1)) rfl (HK4.out.alloc _) ⟨w3.heap.size, 0, none⟩ 1 1 [.int .u64 x] rfl rfl (cell_one_new _ _ _) one_u64 ?d3 ?d4 ?d5 ?_)
          case d3 => unfold maxLen; omega
          case d4 => omega
          case d5 => first | omega | (simp; omega)
          intro v4 w4 ho hg _
          have HK5 := hide (show w4.ownsRow w.heap.size 22 1 v4 ((p + 1) + 1) (U64L ty ((p + 1) + 1)) by rw [U64L_succ, HX.out]; exact ho)
          have HA5 := hide (other_row HK4.out HA4.out (by decide) hg)
          have HB5 := hide (below_grown HB4.out z4 HK4.out hg)
          clear ho hg p0 p1 HA4 HK4 HB4 z4
          go_wp2
          go_roundw
          case rel => exact ⟨(p + 1) + 1, _, false, by omega, rfl, by go_num, HA5, HK5, HInv, HB5⟩
          case measure => simp [intOf]; omega

      | true =>
        by_cases hgt : T < ty (p + 1)
        · have HInv := hide (Inv.next (T := T) (val := val) (b' := true) HN.out.ris (HPL.out) (fun _ => HN.out.yes rfl) (fun h => by cases h) HN.out.isB HN.out.low HN.out.known HN.out.len HI.out m0 m1 m2 HM.out)
          rw [HX.out] at HInv HC q0 hgt hx'
          clear m0 m1
          generalize hq3 : q ++ [(x, ro (p + 1), cp (p + 1), L (p + 1))] = q3 at HInv
          have Hq3 := hide hq3
          clear hq3
          go_wp2
          go_quiet (fail)
          generalize hwd : wr.drewN nq = wd
          have hbd : Below wr.heap.size wr wd := by rw [← hwd]; exact below_drewN (Below.refl _ _) nq
          have HA2 := hide (owns_below HA.out hbd)
          have HK2 := hide (owns_below HK.out hbd)
          have HB2 := hide (HB.out.trans (hbd.mono zb))
          have z2 := HB2.out.size
          obtain ⟨p0, p1⟩ := HC.out wd HB2.out
          clear hbd hwd q0 q1 HA HK HB zb
          go_wp2_with (at_builtin; refine wpList_append_own _ rfl (.tmp 69) (.tmp 74) 33 rfl w.heap.size 38 i0 (.agg #[.int .u64 0, .slice none 0 0]) 2 32 Try.underlying33 hi hz0 hz1 hz2 rfl (by decide) _ q.length (rqCells q) rfl (HA2.out.alloc _) ⟨wd.heap.size, 0, none⟩ 1 1 [.int .u64 x, .slice (ro (p + 1)) (L (p + 1)).length (cp (p + 1))] rfl rfl (cell_two_new _ _ _ _) (one_rec _ _ rfl rfl) ?d3 ?d4 ?d5 ?_)
          case d3 => unfold maxLen; omega
          case d4 => omega
          case d5 => first | omega | (simp; omega)
          intro v3 w3 ho hg _
          have HA4 := hide (show w3.ownsRow w.heap.size 38 2 v3 q3.length (rqCells q3) by rw [← Hq3.out, rqCells_append, List.length_append]; exact ho)
          have HK4 := hide (other_row HA2.out HK2.out (by decide) hg)
          have HB4 := hide (below_grown HB2.out z2 HA2.out hg)
          have z4 := HB4.out.size
          obtain ⟨a3, c3, rfl⟩ := row_shape HA4.out
          clear ho hg p0 p1 HA2 HK2 HB2 z2
          obtain ⟨p0, p1⟩ := HC.out w3 HB4.out
          go_wp2_with (at_builtin; refine wpList_append_own _ rfl (.tmp 76) (.tmp 82) 36 rfl w.heap.size 22 j0 (.int .u64 0) 1 8 Try.underlying36 hj hy0 hy1 hy2 rfl (by decide) _ (p + 1) (U64L ty (p + 1)) rfl (HK4.out.alloc _) ⟨w3.heap.size, 0, none⟩ 1 1 [.int .u64 x] rfl rfl (cell_one_new _ _ _) one_u64 ?d3 ?d4 ?d5 ?_)
          case d3 => unfold maxLen; omega
          case d4 => omega
          case d5 => first | omega | (simp; omega)
          intro v4 w4 ho hg _
          have HK5 := hide (show w4.ownsRow w.heap.size 22 1 v4 ((p + 1) + 1) (U64L ty ((p + 1) + 1)) by rw [U64L_succ, HX.out]; exact ho)
          have HA5 := hide (other_row HK4.out HA4.out (by decide) hg)
          have HB5 := hide (below_grown HB4.out z4 HK4.out hg)
          clear ho hg p0 p1 HA4 HK4 HB4 z4
          go_wp2
          go_roundw
          case rel => exact ⟨(p + 1) + 1, _, true, by omega, rfl, by go_num, HA5, HK5, HInv, HB5⟩
          case measure => simp [intOf]; omega

        · have HInv := hide (Inv.next (T := T) (val := val) (b' := true) HN.out.ris (HPL.out) (fun _ => HN.out.yes rfl) (fun h => by cases h) HN.out.isB HN.out.low HN.out.known HN.out.len HI.out m0 m1 m2 HM.out)
          rw [HX.out] at HInv HC q0 hgt hx'
          clear m0 m1
          generalize hq3 : q ++ [(x, ro (p + 1), cp (p + 1), L (p + 1))] = q3 at HInv
          have Hq3 := hide hq3
          clear hq3
          go_wp2
          go_quiet (fail)
          generalize hwd : wr.drewN nq = wd
          have hbd : Below wr.heap.size wr wd := by rw [← hwd]; exact below_drewN (Below.refl _ _) nq
          have HA2 := hide (owns_below HA.out hbd)
          have HK2 := hide (owns_below HK.out hbd)
          have HB2 := hide (HB.out.trans (hbd.mono zb))
          have z2 := HB2.out.size
          obtain ⟨p0, p1⟩ := HC.out wd HB2.out
          clear hbd hwd q0 q1 HA HK HB zb
          go_wp2_with (at_builtin; refine wpList_append_own _ rfl (.tmp 69) (.tmp 74) 33 rfl w.heap.size 38 i0 (.agg #[.int .u64 0, .slice none 0 0]) 2 32 Try.underlying33 hi hz0 hz1 hz2 rfl (by decide) _ q.length (rqCells q) rfl (HA2.out.alloc _) ⟨wd.heap.size, 0, none⟩ 1 1 [.int .u64 x, .slice (ro (p + 1)) (L (p + 1)).length (cp (p + 1))] rfl rfl (cell_two_new _ _ _ _) (one_rec _ _ rfl rfl) ?d3 ?d4 ?d5 ?_)
          case d3 => unfold maxLen; omega
          case d4 => omega
          case d5 => first | omega | (simp; omega)
          intro v3 w3 ho hg _
          have HA4 := hide (show w3.ownsRow w.heap.size 38 2 v3 q3.length (rqCells q3) by rw [← Hq3.out, rqCells_append, List.length_append]; exact ho)
          have HK4 := hide (other_row HA2.out HK2.out (by decide) hg)
          have HB4 := hide (below_grown HB2.out z2 HA2.out hg)
          have z4 := HB4.out.size
          obtain ⟨a3, c3, rfl⟩ := row_shape HA4.out
          clear ho hg p0 p1 HA2 HK2 HB2 z2
          obtain ⟨p0, p1⟩ := HC.out w3 HB4.out
          go_wp2_with (at_builtin; refine wpList_append_own _ rfl (.tmp 76) (.tmp 82) 36 rfl w.heap.size 22 j0 (.int .u64 0) 1 8 Try.underlying36 hj hy0 hy1 hy2 rfl (by decide) _ (p + 1) (U64L ty (p + 1)) rfl (HK4.out.alloc _) ⟨w3.heap.size, 0, none⟩ 1 1 [.int .u64 x] rfl rfl (cell_one_new _ _ _) one_u64 ?d3 ?d4 ?d5 ?_)
          case d3 => unfold maxLen; omega
          case d4 => omega
          case d5 => first | omega | (simp; omega)
          intro v4 w4 ho hg _
          have HK5 := hide (show w4.ownsRow w.heap.size 22 1 v4 ((p + 1) + 1) (U64L ty ((p + 1) + 1)) by rw [U64L_succ, HX.out]; exact ho)
          have HA5 := hide (other_row HK4.out HA4.out (by decide) hg)
          have HB5 := hide (below_grown HB4.out z4 HK4.out hg)
          clear ho hg p0 p1 HA4 HK4 HB4 z4
          go_wp2
          go_roundw
          case rel => exact ⟨(p + 1) + 1, _, true, by omega, rfl, by go_num, HA5, HK5, HInv, HB5⟩
          case measure => simp [intOf]; omega

    · have ek : k = len := by omega
      subst ek
      cases bb with
      | false =>
        have HI1 := Inv.one HN.out HV.out (by rw [HVL.out]; exact hvl) HVB.out t0 t1 t2
        generalize hq2 : q ++ [(T, va, vc, val)] = q2 at HI1
        obtain ⟨i1, i2, i3, i4, i5, i6, i7⟩ := HI1
        have I1 := hide i1
        have I3 := hide i3
        have I4 := hide i4
        have I5 := hide i5
        have I6 := hide i6
        have Hq2 := hide hq2
        clear i1 i2 i3 i4 i5 i6 hq2 HN
        go_wp2_with (at_builtin; refine wpList_append_own _ rfl (.tmp 86) (.tmp 90) 33 rfl w.heap.size 38 i0 (.agg #[.int .u64 0, .slice none 0 0]) 2 32 Try.underlying33 hi hz0 hz1 hz2 rfl (by decide) _ q.length (rqCells q) rfl (HA.out.alloc _) ⟨wr.heap.size, 0, none⟩ 1 1 [.int .u64 T, .slice va vl vc] rfl rfl (cell_two_new _ _ _ _) (one_rec _ _ rfl rfl) ?d3 ?d4 ?d5 ?_)
        case d3 => unfold maxLen; omega
        case d4 => omega
        case d5 => first | omega | (simp; omega)
        intro v2 w2 ho hg _
        have HA3 := hide (show w2.ownsRow w.heap.size 38 2 v2 q2.length (rqCells q2) by rw [← Hq2.out, rqCells_append, List.length_append]; have h := ho; rw [← HVL.out] at h; exact h)
        have HK3 := hide (other_row HA.out HK.out (by decide) hg)
        have HB3 := hide (below_grown HB.out zb HA.out hg)
        have z3 := HB3.out.size
        obtain ⟨a2, c2, rfl⟩ := row_shape HA3.out
        clear ho hg HA HK HB zb
        have hq0 : 0 < q2.length := by
          obtain ⟨r, hr, _⟩ := I3.out
          exact List.length_pos_of_mem hr
        have HE := hide (enc_row HA3.out (fun r hr => (I4.out r hr).below HB3.out) hq0 (by omega) I1.out I5.out)
        go_wp2_with fail
        refine HE.out.mono ?_
        rintro e w5 ⟨hcase, hb⟩
        have HB5 := hide (HB3.out.trans (hb.out.mono z3))
        have HA5 := hide (owns_below HA3.out hb.out)
        have HK5 := hide (owns_below HK3.out hb.out)
        have z5 := HB5.out.size
        clear hb HE HA3 HK3 HB3 z3
        rcases hcase with ⟨ba, bc, rfl, HBB, n1, n2, n3, n4⟩ | rfl
        · obtain ⟨ka2, kc2, hkv, hkU⟩ := own_isU HK5.out
          cases hkv
          have hP5 : ∀ r ∈ plain q2, 0 ≤ r.1 ∧ r.1 ≤ 18446744073709551615 ∧ r.2.length ≤ 140737488351232 ∧ Bytes r.2 := plain_mem (p := fun r => 0 ≤ r.1 ∧ r.1 ≤ 18446744073709551615 ∧ r.2.2.2.length ≤ 140737488351232 ∧ Bytes r.2.2.2) (fun r h => h) I5.out
          have hP6 : ∀ r ∈ plain q2, r.1 % 2 = 0 → knows ty k r.1 = true := plain_mem (p := fun r => r.1 % 2 = 0 → ∃ j, j < k ∧ ty j = r.1) (P := fun r => r.1 % 2 = 0 → knows ty k r.1 = true) (fun r h he => decide_eq_true (h he)) I6.out
          have hD := decT_of (knows ty k) (plain q2) I1.out (by rw [plain_length]; exact n3) hP5 hP6 n4
          have HD := hide (decode_any ba bc (recsB (plain q2)) w5 HBB.out n1 n2 (recsB_bytes _ (fun r hr => ⟨(hP5 r hr).1, (hP5 r hr).2.2.2⟩)) ka k kc ty hkU (by omega))
          rw [hD] at HD
          generalize (recsB (plain q2)).length = bl at *
          clear hD hP5 hP6 hkU HBB
          go_wp2_with fail
          refine HD.out.mono ?_
          rintro e w6 ⟨v, qx, rfl, HX, hqx, hb6⟩
          obtain ⟨xa, xc, rfl⟩ := HX.out.shape
          have HB6 := hide (HB5.out.trans (hb6.out.mono z5))
          have HA6 := hide (owns_below HA5.out hb6.out)
          have z6 := HB6.out.size
          have HPX := hide hqx
          have HF := hide (find_own HX.out hqx I1.out I3.out (by rw [HVL.out]; omega) n3)
          rw [HVL.out] at HF
          clear hqx hb6 HB5 HA5 HK5 HD z5
          go_wp2_with fail
          refine HF.out.mono ?_
          rintro e w7 ⟨fa, fc, rfl, HFI, hb7⟩
          have HB7 := hide (HB6.out.trans (hb7.out.mono z6))
          have HA7 := hide (owns_below HA6.out hb7.out)
          have HX7 := hide (HX.out.below hb7.out)
          have z7 := HB7.out.size
          have HLX := hide (show qx.length = q2.length by rw [← plain_length qx, ← plain_length q2, HPX.out])
          have HS := hide (same_mixed HX7.out HA7.out (fun r hr => (I4.out r hr).below HB7.out) HPX.out (by rw [HLX.out]; exact n3) (by rw [HLX.out]; exact hq0))
          clear hb7 HB6 HA6 HX HF z6
          go_wp2_with fail
          refine HS.out.mono ?_
          rintro e w8 ⟨rfl, hb8⟩
          have HB8 := hide (HB7.out.trans (hb8.out.mono z7))
          have cv1 := conv_any (HFI.out.below hb8.out)
          have cv2 := conv_any (HV.out.below HB8.out)
          rw [HVL.out] at cv1 cv2
          clear hb8 HB7 HA7 HX7 HS
          go_wp2
          go_ret
          exact ⟨by simp, HB8.out⟩
        · go_wp2
          go_ret
          exact ⟨rfl, HB5.out⟩

      | true =>
        have I1 := hide HN.out.ris
        have I3 := hide (HN.out.yes rfl)
        have I4 := hide HN.out.isB
        have I5 := hide HN.out.low
        have I6 := hide HN.out.known
        clear HN
        have hq0 : 0 < q.length := by
          obtain ⟨r, hr, _⟩ := I3.out
          exact List.length_pos_of_mem hr
        have HE := hide (enc_row HA.out (fun r hr => (I4.out r hr).below HB.out) hq0 (by omega) I1.out I5.out)
        go_wp2_with fail
        refine HE.out.mono ?_
        rintro e w5 ⟨hcase, hb⟩
        have HB5 := hide (HB.out.trans (hb.out.mono zb))
        have HA5 := hide (owns_below HA.out hb.out)
        have HK5 := hide (owns_below HK.out hb.out)
        have z5 := HB5.out.size
        clear hb HE HA HK HB zb
        rcases hcase with ⟨ba, bc, rfl, HBB, n1, n2, n3, n4⟩ | rfl
        · obtain ⟨ka2, kc2, hkv, hkU⟩ := own_isU HK5.out
          cases hkv
          have hP5 : ∀ r ∈ plain q, 0 ≤ r.1 ∧ r.1 ≤ 18446744073709551615 ∧ r.2.length ≤ 140737488351232 ∧ Bytes r.2 := plain_mem (p := fun r => 0 ≤ r.1 ∧ r.1 ≤ 18446744073709551615 ∧ r.2.2.2.length ≤ 140737488351232 ∧ Bytes r.2.2.2) (fun r h => h) I5.out
          have hP6 : ∀ r ∈ plain q, r.1 % 2 = 0 → knows ty k r.1 = true := plain_mem (p := fun r => r.1 % 2 = 0 → ∃ j, j < k ∧ ty j = r.1) (P := fun r => r.1 % 2 = 0 → knows ty k r.1 = true) (fun r h he => decide_eq_true (h he)) I6.out
          have hD := decT_of (knows ty k) (plain q) I1.out (by rw [plain_length]; exact n3) hP5 hP6 n4
          have HD := hide (decode_any ba bc (recsB (plain q)) w5 HBB.out n1 n2 (recsB_bytes _ (fun r hr => ⟨(hP5 r hr).1, (hP5 r hr).2.2.2⟩)) ka k kc ty hkU (by omega))
          rw [hD] at HD
          generalize (recsB (plain q)).length = bl at *
          clear hD hP5 hP6 hkU HBB
          go_wp2_with fail
          refine HD.out.mono ?_
          rintro e w6 ⟨v, qx, rfl, HX, hqx, hb6⟩
          obtain ⟨xa, xc, rfl⟩ := HX.out.shape
          have HB6 := hide (HB5.out.trans (hb6.out.mono z5))
          have HA6 := hide (owns_below HA5.out hb6.out)
          have z6 := HB6.out.size
          have HPX := hide hqx
          have HF := hide (find_own HX.out hqx I1.out I3.out (by rw [HVL.out]; omega) n3)
          rw [HVL.out] at HF
          clear hqx hb6 HB5 HA5 HK5 HD z5
          go_wp2_with fail
          refine HF.out.mono ?_
          rintro e w7 ⟨fa, fc, rfl, HFI, hb7⟩
          have HB7 := hide (HB6.out.trans (hb7.out.mono z6))
          have HA7 := hide (owns_below HA6.out hb7.out)
          have HX7 := hide (HX.out.below hb7.out)
          have z7 := HB7.out.size
          have HLX := hide (show qx.length = q.length by rw [← plain_length qx, ← plain_length q, HPX.out])
          have HS := hide (same_mixed HX7.out HA7.out (fun r hr => (I4.out r hr).below HB7.out) HPX.out (by rw [HLX.out]; exact n3) (by rw [HLX.out]; exact hq0))
          clear hb7 HB6 HA6 HX HF z6
          go_wp2_with fail
          refine HS.out.mono ?_
          rintro e w8 ⟨rfl, hb8⟩
          have HB8 := hide (HB7.out.trans (hb8.out.mono z7))
          have cv1 := conv_any (HFI.out.below hb8.out)
          have cv2 := conv_any (HV.out.below HB8.out)
          rw [HVL.out] at cv1 cv2
          clear hb8 HB7 HA7 HX7 HS
          go_wp2
          go_ret
          exact ⟨by simp, HB8.out⟩
        · go_wp2
          go_ret
          exact ⟨rfl, HB5.out⟩


theorem walk (ao : Option Addr) (len cap : Nat) (odd : Int) (va : Option Addr) (vlen vcap : Nat) (zs : List Int) (w : World) (w0 : IsRecs w ao len cap) (w1 : (Lit.int .u64 odd).wf = true) (w2 : IsRow .u8 1 w va vlen vcap zs) :
    Calls Try.prog 8 #[.slice ao len cap, .int .u64 odd, .slice va vlen vcap] w fun e w' => e = .returned (.bool true) ∧ Below w.heap.size w w' := by
  obtain ⟨o0, o1⟩ := bounds_u64 w1
  obtain ⟨V, rfl, hB, v1, v2, v3⟩ := row_isB w2
  rcases w0 with ⟨rfl, _⟩ | ⟨b, off, q, rfl, h0, hlc, hcap, hR, hq, hz⟩
  · exact walk_any ao 0 cap odd va vcap V (fun _ => 0) (fun _ => none) (fun _ => 0) (fun _ => []) w (.inl rfl) (by omega) (fun k hk => absurd hk (Nat.not_lt_zero _)) o0 o1 hB (by omega) (all_getD v3)
  · exact walk_any _ len cap odd va vcap V _ _ _ _ w (.inr ⟨b, off, rfl, hR⟩) (by omega) (fun k hk => by
      obtain ⟨a1, a2, a3, a4⟩ := hq k hk
      exact ⟨a3, a4, by omega, all_getD (hz k hk)⟩) o0 o1 hB (by omega) (all_getD v3)

theorem own : ownKnob Try.prog.godebug = none := by kernel_rfl
theorem laidOut : laidOutB Try.prog = true := by kernel_rfl
theorem bytesEbytes : Try.prog.bytesOf 5 = 1 := by kernel_rfl

set_option maxRecDepth 100000 in
theorem lifted (os : Os) (started : os.Started) (H : Type) (enc : TypeId × Value → H) :
    ReturnsInHanded {} Try.checked os 8 .any (Rows.bigsizeOddSpec.pre6 enc Try.prog Try.f8 Rows.bigsizeOddRow.domain false) (Rows.bigsizeOddSpec.post enc Try.prog Try.f8 false true false false) := by
  refine returnsInHanded_of_change_sized (C := Try.checked) own started (by kernel_rfl) Try.func8
    (ChangeSpec.witness6 (enc := enc) (C := Try.checked) false ⟨#[], #[.slice none 0 0, .int .u64 0, .slice none 0 0], []⟩ 8 (by kernel_rfl) (by kernel_rfl) (by kernel_rfl) (by kernel_rfl)) ?_
  intro W base args ds gs before hval0 hW hcnd hsz0 _
  have hsz : (DataW.weightsEach Try.prog (Try.f8.params.toList ++ Rows.bigsizeOddSpec.plain.varTypes Try.prog) (ds ++ gs)).all (· ≤ reachBytes) = true := hsz0
  have hval : ∀ (j : Nat) t v, Try.f8.params[j]? = some t → args[j]? = some v → Value.okWide Try.prog W .any base t v := hval0
  have hW' := hW
  obtain ⟨p, q, hA0, hV, rfl, hfz, hnd⟩ := hW
  have hA : DataW.TrodAll enc Try.prog W 0 (fun _ => true) true Try.f8.params.toList args.toList ds p := hA0
  rw [Try.params8] at hA hval hsz
  obtain ⟨v0, vs0, d0, ds0, p0, q0, hargs, rfl, rfl, h0, r0⟩ := trodAll_cons hA
  obtain ⟨v1, vs1, d1, ds1, p1, q1, rfl, rfl, rfl, h1, r1⟩ := trodAll_cons r0
  obtain ⟨v2, vs2, d2, ds2, p2, q2, rfl, rfl, rfl, h2, r2⟩ := trodAll_cons r1
  obtain ⟨rfl, rfl, rfl⟩ := trodAll_nil r2
  obtain rfl : args = #[v0, v1, v2] := by cases args; simp_all
  obtain ⟨rfl, rfl⟩ := trodVars_none hV
  have k0 := h0
  have lt0 : ∀ x ∈ p0, x.block < W.heap.size := by obtain ⟨m, hm⟩ := k0; exact DataW.trod_lt m _ _ _ hm
  have k1 := h1
  have lt1 : ∀ x ∈ p1, x.block < W.heap.size := by obtain ⟨m, hm⟩ := k1; exact DataW.trod_lt m _ _ _ hm
  have k2 := h2
  have lt2 : ∀ x ∈ p2, x.block < W.heap.size := by obtain ⟨m, hm⟩ := k2; exact DataW.trod_lt m _ _ _ hm
  obtain ⟨a0, len0, cap0, rfl⟩ := okWide_slice Try.underlying33 (hval 0 33 v0 rfl rfl)
  have w0 : IsRecs W a0 len0 cap0 := by
    obtain ⟨fuel, hf⟩ := h0
    exact open_recs (by simpa [Value.cells] using hf) (fun m hm => by
      have := List.all_eq_true.1 hsz _ (DataW.weights_mem_each (j := 0) (t := 33) rfl rfl m hm)
      simpa using this)
  obtain ⟨a1, rfl, rfl, rfl, w1⟩ := open_int Try.underlying22 (hval 1 22 v1 rfl rfl) h1
  obtain ⟨a2, len2, cap2, rfl⟩ := okWide_slice Try.underlying23 (hval 2 23 v2 rfl rfl)
  obtain ⟨z2, w2⟩ : ∃ zs, IsRow .u8 1 W a2 len2 cap2 zs := by
    obtain ⟨fuel, hf⟩ := h2
    rcases open_ints Try.underlying23 Try.underlying5 (by kernel_rfl) hf with ⟨hcs, _⟩ | ⟨x, l, c, zs, hcs, _, hl, hm, hz, hx, hcell, hwz⟩
    · simp [Value.cells] at hcs
      obtain ⟨rfl, rfl, rfl⟩ := hcs
      exact ⟨[], .inl ⟨rfl, rfl, rfl, rfl⟩⟩
    · simp [Value.cells] at hcs
      obtain ⟨rfl, rfl, rfl⟩ := hcs
      simp only [Prod.mk.injEq] at hx
      have hxd := hx.1
      subst hxd
      have hrch := sized_slice hsz (j := 2) (t := 23) (e := 5) rfl rfl Try.underlying23
      rw [bytesEbytes] at hrch
      simp only [lits, List.length_map, List.length_take, List.length_drop, reachBytes] at hrch
      exact ⟨zs, .inr ⟨_, rfl, hl, hm, by simpa using hz, by simp at hz; omega, hcell, hwz⟩⟩
  clear hA0 hval0 hsz0 hsz
  refine (walk a0 len0 cap0 a1 a2 len2 cap2 z2 W w0 w1 w2).mono fun e W' ⟨he, bel⟩ => ?_
  subst he
  exact ⟨_, rfl, _, _, _, [], _, [], hW', trodAll_mk1 (shut_bool Try.underlying4 _), (trodAll_cons_mk (Below.trod laidOut (by kernel_rfl) (of_decide_eq_true (by kernel_rfl)) k0 bel lt0) (trodAll_cons_mk (Below.trod laidOut (by kernel_rfl) (of_decide_eq_true (by kernel_rfl)) k1 bel lt1) (trodAll_cons_mk (Below.trod laidOut (by kernel_rfl) (of_decide_eq_true (by kernel_rfl)) k2 bel lt2) trodAll_mk0))), rfl, bel.frame _, fun h => by cases h⟩

theorem over : Rows.bigsizeOddRow.holds Try.pinned (OpenSpec.ofChange Rows.bigsizeOddSpec) :=
  OpenClaim.holds_of_wide 8 Try.f8 rfl rfl rfl rfl rfl rfl rfl ⟨rfl, rfl, rfl, rfl, rfl⟩ rfl rfl rfl rfl rfl (by kernel_rfl) Try.func8 (by kernel_rfl)
    (of_decide_eq_true (by kernel_rfl)) (by unfold Func.isWrapper; first | (rw [if_pos (by decide +kernel)]; kernel_rfl) | (rw [if_neg (by decide +kernel)]; exact ⟨rfl, rfl⟩))
    (fun os started H enc _ => lifted os started H enc)

theorem proved : Rows.BigsizeOddSaid := over
end Go.Proofs.Ytclimopeejkdbaa.bigsizeOdd
namespace Go.Proofs.Ytclimopeejkdbaa
theorem bigsizeOdd_holds : Rows.BigsizeOddSaid := bigsizeOdd.proved
end Go.Proofs.Ytclimopeejkdbaa
