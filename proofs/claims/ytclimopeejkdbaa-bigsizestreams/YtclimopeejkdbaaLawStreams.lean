/- Proved: for all records the statement BigsizeStreams (P1.2, P1.4: the stream of any records, which is decoded again by whoever knows its types) returns true over the code at the commit, and changes none of its arguments. No condition. -/
import Derived.Test.YtclimopeejkdbaaRows
import Derived.Test.YtclimopeejkdbaaOddLoop
import Derived.Test.YtclimopeejkdbaaREnc2
import Derived.WalkKit
import Derived.ProofKit
import Derived.OpenShut
import Derived.SizedLaws
namespace Go.Proofs.Ytclimopeejkdbaa.bigsizeStreams
open Go.ChangeShapes Go.WideShapes Go.ChangeAt Go.RowKit
set_option linter.unusedVariables false

/-- the first n records -/
def listOf (ty : Nat → Int) (L : Nat → List Int) (n : Nat) : List (Int × List Int) := (List.range n).map fun k => (ty k, L k)
theorem listOf_succ (ty : Nat → Int) (L : Nat → List Int) (n : Nat) : listOf ty L (n + 1) = listOf ty L n ++ [(ty n, L n)] := by simp [listOf, List.range_succ]
theorem listOf_length (ty : Nat → Int) (L : Nat → List Int) (n : Nat) : (listOf ty L n).length = n := by simp [listOf]
theorem listOf_at (ty : Nat → Int) (L : Nat → List Int) (n k : Nat) (h : k < n) : (listOf ty L n)[k]? = some (ty k, L k) := by simp [listOf, h]
theorem listOf_mem {ty : Nat → Int} {L : Nat → List Int} {n : Nat} {r : Int × List Int} (h : r ∈ listOf ty L n) : ∃ k, k < n ∧ r = (ty k, L k) := by
  unfold listOf at h
  obtain ⟨k, hk, rfl⟩ := List.mem_map.1 h
  exact ⟨k, List.mem_range.1 hk, rfl⟩
theorem listOf_enc (ty : Nat → Int) (L : Nat → List Int) (n : Nat) : recsB (listOf ty L n) = encL ty L n := by
  induction n with
  | zero => rfl
  | succ n ih =>
    rw [listOf_succ, recsB_append, ih]
    show _ = encL ty L n ++ recB (ty n) (L n)
    congr 1
    show numB (ty n) ++ (numB (L n).length ++ (L n ++ [])) = _
    unfold recB
    simp
theorem listOf_ris (ty : Nat → Int) (L : Nat → List Int) (n : Nat) (h0 : ∀ k, k < n → 0 ≤ ty k) (h : ∀ k, k < n - 1 → ty k < ty (k + 1)) : Ris (-1) (listOf ty L n) := by
  induction n with
  | zero => trivial
  | succ n ih =>
    rw [listOf_succ]
    have hn := h0 n (by omega)
    refine ris_snoc _ _ _ (ih (fun k hk => h0 k (by omega)) (fun k hk => h k (by omega))) (by show (-1 : Int) < ty n; omega) ?_
    cases n with
    | zero => show (-1 : Int) < ty 0; omega
    | succ p =>
      rw [listOf_succ, lastT_snoc]
      exact h p (by omega)

set_option maxHeartbeats 1000000 in
theorem walk_err (ao : Option Addr) (len cap : Nat) (E : Int) (hE : E ≠ 0) (w : World) (h1 : Calls Try.prog 15 #[.slice ao len cap] w fun e w' => e = .returned (.tuple #[.slice none 0 0, .int .i64 E]) ∧ Below w.heap.size w w')
    (h2 : ∀ W, Below w.heap.size w W → Calls Try.prog 16 #[.slice ao len cap] W fun e w' => e = .returned (.tuple #[.slice none 0 0, .int .i64 E]) ∧ Below W.heap.size W w') :
    Calls Try.prog 5 #[.slice ao len cap] w fun e w' => e = .returned (.bool true) ∧ Below w.heap.size w w' := by
  have H1 := hide h1
  have H2 := hide h2
  clear h1 h2
  have g : (E == 0) = false := beq_eq_false_iff_ne.2 hE
  have g2 : (E != 0) = true := by simp [hE]
  have cv := fun (W : World) => conv_any (w := W) (ao := none) (cap := 0) (zs := []) (.inl ⟨rfl, rfl, rfl⟩)
  rw [List.length_nil] at cv
  have CV := hide cv
  clear cv
  go_enter Try.func5, Try.ntmps5
  go_wp2_with fail
  refine H1.out.mono ?_
  rintro e w1 ⟨rfl, hb⟩
  have HB1 := hide hb
  have z1 := hb.size
  clear hb
  go_wp2_with fail
  refine (H2.out _ HB1.out).mono ?_
  rintro e w2 ⟨rfl, hb⟩
  have HB2 := hide (HB1.out.trans (hb.mono z1))
  have z2 := HB2.out.size
  clear hb
  go_wp2_with fail
  refine (lives_any _).mono ?_
  rintro e w3 ⟨rfl, hb⟩
  have HB3 := hide (HB2.out.trans (hb.mono z2))
  have cv3 := CV.out w3
  clear hb
  go_wp2
  go_ret
  exact ⟨rfl, HB3.out⟩

set_option maxRecDepth 100000 in
set_option maxHeartbeats 2000000 in
theorem walk_ok (ao : Option Addr) (len cap : Nat) (ty : Nat → Int) (ro : Nat → Option Addr) (cp : Nat → Nat) (L : Nat → List Int) (w : World) (Z : List Int)
    (hrow : len = 0 ∨ ∃ b off, ao = some ⟨b, off, none⟩ ∧ Recs w b off len ty ro cp L) (hl : len ≤ 64) (hq : ∀ k, k < len → 0 ≤ ty k ∧ ty k ≤ 18446744073709551615 ∧ (L k).length ≤ 140737488351232 ∧ Bytes (L k)) (hris : ∀ k, k < len - 1 → ty k < ty (k + 1))
    (hZ : encL ty L len = Z) (hZl : Z.length ≤ 65536)
    (h1 : Calls Try.prog 15 #[.slice ao len cap] w fun e w' => ∃ a c, e = .returned (.tuple #[.slice a Z.length c, .int .i64 0]) ∧ Hid (IsB w' a c Z) ∧ Z.length ≤ c ∧ c ≤ 9223372036854775807 ∧ Below w.heap.size w w')
    (h2 : ∀ W, Below w.heap.size w W → Calls Try.prog 16 #[.slice ao len cap] W fun e w' => ∃ a c, e = .returned (.tuple #[.slice a Z.length c, .int .i64 0]) ∧ Hid (IsB w' a c Z) ∧ Below W.heap.size W w') :
    Calls Try.prog 5 #[.slice ao len cap] w fun e w' => e = .returned (.bool true) ∧ Below w.heap.size w w' := by
  obtain ⟨j0, hj, hy0, hy1, hy2⟩ := info_parts Try.info22
  have H1 := hide h1
  have H2 := hide h2
  have HR := hide hrow
  have HQ := hide hq
  have HS := hide hris
  have hA := listOf_enc ty L len
  rw [hZ] at hA
  have hD := decT_of (knows ty len) (listOf ty L len) (listOf_ris ty L len (fun k hk => (hq k hk).1) hris) (by rw [listOf_length]; exact hl) (fun r hr => by obtain ⟨k, hk, rfl⟩ := listOf_mem hr; exact hq k hk) (fun r hr _ => by obtain ⟨k, hk, rfl⟩ := listOf_mem hr; exact decide_eq_true ⟨k, hk, rfl⟩) (by rw [hA]; exact hZl)
  have hBy := recsB_bytes (listOf ty L len) (fun r hr => by obtain ⟨k, hk, rfl⟩ := listOf_mem hr; exact ⟨(hq k hk).1, (hq k hk).2.2.2⟩)
  rw [hA] at hD hBy
  have HD := hide hD
  have HBy := hide hBy
  clear h1 h2 hrow hq hris hA hD hBy hZ
  obtain ⟨zl, hzl⟩ : ∃ zl, Z.length = zl := ⟨_, rfl⟩
  have HZL := hide hzl
  rw [hzl] at H1 H2 hZl
  clear hzl
  go_enter Try.func5, Try.ntmps5
  go_wp2_with fail
  refine H1.out.mono ?_
  rintro e w1 ⟨a1, c1, rfl, I1, k1, k2, hb⟩
  have HB1 := hide hb
  have z1 := hb.size
  clear hb
  go_wp2_with fail
  refine (H2.out _ HB1.out).mono ?_
  rintro e w2 ⟨a2, c2, rfl, I2, hb⟩
  have HB2 := hide (HB1.out.trans (hb.mono z1))
  have I1b := hide (I1.out.below hb)
  have z2 := HB2.out.size
  clear hb I1
  go_wp2_with fail
  refine (lives_any _).mono ?_
  rintro e w3 ⟨rfl, hb⟩
  have HB3 := hide (HB2.out.trans (hb.mono z2))
  have I1c := hide (I1b.out.below hb)
  have cv1 := conv_any I1c.out
  have cv2 := conv_any (I2.out.below hb)
  rw [HZL.out] at cv1 cv2
  have z3 := HB3.out.size
  clear hb I1b I2 HB1 HB2 H1 H2
  go_wp2
  clear cv1 cv2
  go_loopw [7, 8] (fun kn i wr => ∃ k : Nat, k ≤ len ∧ i = .int .i64 k ∧ Hid (wr.ownsRow w3.heap.size 22 1 kn k (U64L ty k)) ∧ Hid (Below w3.heap.size w3 wr)) (fun _ i _ => len - (intOf i).toNat)
  case atStart => exact ⟨0, Nat.zero_le _, rfl, World.ownsRow_nil _ _ _ _, Below.refl _ _⟩
  case round =>
    obtain ⟨k, hk, rfl, HK, HB⟩ := hrel
    obtain ⟨ka, kc, rfl⟩ := row_shape HK.out
    have zb := HB.out.size
    have HBW := hide (HB3.out.trans (HB.out.mono z3))
    by_cases hlt : k < len
    · rcases HR.out with h | ⟨b, off, rfl, R0⟩
      · omega
      have q0 := (R0.below HBW.out).type k hlt
      have hck : (k : Int) < (len : Int) := by omega
      obtain ⟨x, hX⟩ : ∃ x, ty k = x := ⟨_, rfl⟩
      have HX := hide hX
      rw [hX] at q0
      clear hX R0
      go_wp2_with (at_builtin; refine wpList_append_own _ rfl (.tmp 42) (.tmp 48) 36 rfl w3.heap.size 22 j0 (.int .u64 0) 1 8 Try.underlying36 hj hy0 hy1 hy2 rfl (by decide) _ k (U64L ty k) rfl (HK.out.alloc _) ⟨wr.heap.size, 0, none⟩ 1 1 [.int .u64 x] rfl rfl (cell_one_new _ _ _) one_u64 ?d3 ?d4 ?d5 ?_)
      case d3 => unfold maxLen; omega
      case d4 => omega
      case d5 => first | omega | (simp; omega)
      intro v4 w4 ho hg _
      have HK5 := hide (show w4.ownsRow w3.heap.size 22 1 v4 (k + 1) (U64L ty (k + 1)) by rw [U64L_succ, HX.out]; exact ho)
      have HB5 := hide (below_grown HB.out zb HK.out hg)
      clear ho hg q0
      go_wp2
      go_roundw
      case rel => exact ⟨k + 1, by omega, by go_num, HK5, HB5⟩
      case measure => simp [intOf]; omega
    · have ek : k = len := by omega
      subst ek
      obtain ⟨ka2, kc2, hkv, hkU⟩ := own_isU HK.out
      cases hkv
      have HDD := hide (decode_any a1 c1 Z wr (I1c.out.below HB.out) (by rw [HZL.out]; exact k1) k2 HBy.out ka k kc ty hkU (by omega))
      rw [HD.out, HZL.out] at HDD
      clear hkU HK
      go_wp2_with fail
      refine HDD.out.mono ?_
      rintro e w6 ⟨v, qx, rfl, HXX, hqx, hb6⟩
      obtain ⟨xa, xc, rfl⟩ := HXX.out.shape
      have HB6 := hide (HBW.out.trans (hb6.out.mono HBW.out.size))
      have z6 := HB6.out.size
      have hlx : qx.length = k := by rw [← plain_length qx, hqx, listOf_length]
      have HS6 : Hid (Calls Try.prog 18 #[.slice xa qx.length xc, .slice ao k cap] w6 fun e w' => e = .returned (.bool true) ∧ Below w6.heap.size w6 w') := by
        rcases HR.out with h | ⟨b, off, rfl, R0⟩
        · rw [hlx, h]
          exact (same_none _ _ _ _ w6).mono fun e w' hh => ⟨hh.1, by rw [hh.2]; exact Below.refl _ _⟩
        · by_cases h0 : k = 0
          · rw [hlx, h0]
            exact (same_none _ _ _ _ w6).mono fun e w' hh => ⟨hh.1, by rw [hh.2]; exact Below.refl _ _⟩
          · obtain ⟨g, c, hv, R⟩ := HXX.out.open (by omega)
            cases hv
            rw [hlx] at R ⊢
            have hat : ∀ j, j < k → (ty j, L j) = ((rqAt qx j).1, (rqAt qx j).2.2.2) := fun j hj => by
              have e1 := plain_at qx j (by omega)
              have hqx' : plain qx = listOf ty L k := hqx
              rw [hqx', listOf_at ty L k j hj] at e1
              exact Option.some.inj e1
            exact same_row g 0 b off k xc cap _ _ _ _ _ _ _ _ w6 R (R0.below HB6.out) (by omega) (fun j hj => congrArg Prod.fst (hat j hj)) (fun j hj => congrArg Prod.snd (hat j hj))
      clear hqx hlx HXX hb6 HDD
      go_wp2_with fail
      refine HS6.out.mono ?_
      rintro e w7 ⟨rfl, hb⟩
      have HB7 := hide (HB6.out.trans (hb.mono z6))
      clear hb
      go_wp2
      go_ret
      exact ⟨rfl, HB7.out⟩

theorem walk (ao : Option Addr) (len cap : Nat) (w : World) (w0 : IsRecs w ao len cap) :
    Calls Try.prog 5 #[.slice ao len cap] w fun e w' => e = .returned (.bool true) ∧ Below w.heap.size w w' := by
  rcases w0 with ⟨rfl, _⟩ | ⟨b, off, q, rfl, h0, hlc, hcap, hR, hq, hz⟩
  · refine walk_ok ao 0 cap (fun _ => 0) (fun _ => none) (fun _ => 0) (fun _ => []) w [] (.inl rfl) (by omega) (fun k hk => absurd hk (Nat.not_lt_zero _)) (fun k hk => absurd hk (Nat.not_lt_zero _)) rfl (by simp) ?_ ?_
    · refine (enc_none ao cap w).mono fun e w' hh => ?_
      obtain ⟨g, rfl, ho, hb⟩ := hh
      exact ⟨_, _, rfl, isB_none _ _, Nat.le_refl _, by omega, hb⟩
    · intro W hW
      refine (renc_none ao cap W).mono fun e w' hh => ?_
      obtain ⟨rfl, rfl⟩ := hh
      exact ⟨none, 0, rfl, .inl ⟨rfl, rfl, rfl⟩, Below.refl _ _⟩
  · cases hris : risB (fun k => (q k).1) len with
    | false => exact walk_err _ len cap 11 (by decide) w (enc_order b off len cap _ _ _ _ w hR (by omega) hris) (fun W hW => renc_order b off len cap _ _ _ _ W (hR.below hW) (by omega) hris)
    | true =>
      by_cases h64 : 64 < len
      · exact walk_err _ len cap 3 (by decide) w (enc_many b off len cap _ _ _ _ w hR (by omega) hris h64) (fun W hW => renc_many b off len cap _ _ _ _ W (hR.below hW) (by omega) hris h64)
      · have hL : ∀ k, k < len → (q k).2.2.2.length ≤ 140737488351232 := fun k hk => by have := hq k hk; omega
        have hT : ∀ k, k < len → 0 ≤ (q k).1 ∧ (q k).1 ≤ 18446744073709551615 := fun k hk => (hq k hk).2.2
        have hrr := fun W (hW : Below w.heap.size w W) => renc_rises b off len cap _ _ _ _ W (hR.below hW) h0 (by omega) hL hT hris
        by_cases hs : 65536 < (encL (fun k => (q k).1) (fun k => (q k).2.2.2) len).length
        · refine walk_err _ len cap 3 (by decide) w (enc_big b off len cap _ _ _ _ w hR (by omega) hL (fun k hk => (hT k hk).1) hris hs) (fun W hW => (hrr W hW).mono fun e w' hh => ?_)
          obtain ⟨⟨hno, _⟩ | ⟨_, he⟩, hb⟩ := hh
          · exact absurd hs (by omega)
          · exact ⟨he, hb⟩
        · refine walk_ok _ len cap _ _ _ _ w _ (.inr ⟨b, off, rfl, hR⟩) (by omega) (fun k hk => ⟨(hT k hk).1, (hT k hk).2, hL k hk, all_getD (hz k hk)⟩) (of_decide_eq_true hris) rfl (by omega) ?_ ?_
          · refine (enc_ok b off len cap _ _ _ _ w hR (by omega) hL hT hris (by omega)).mono fun e w' hh => ?_
            obtain ⟨g, rfl, ho, hb⟩ := hh
            obtain ⟨a, c, he, hI, h1, h2⟩ := own_isB ho.out
            cases he
            exact ⟨_, _, rfl, hI, h1, h2, hb⟩
          · intro W hW
            refine (hrr W hW).mono fun e w' hh => ?_
            obtain ⟨⟨_, v, rfl, ho⟩ | ⟨hno, _⟩, hb⟩ := hh
            · obtain ⟨a, c, rfl, hI, _⟩ := own_isB ho.out
              exact ⟨a, c, rfl, hI, hb⟩
            · exact absurd hno (by omega)

theorem own : ownKnob Try.prog.godebug = none := by kernel_rfl
theorem laidOut : laidOutB Try.prog = true := by kernel_rfl

set_option maxRecDepth 100000 in
theorem lifted (os : Os) (started : os.Started) (H : Type) (enc : TypeId × Value → H) :
    ReturnsInHanded {} Try.checked os 5 .any (Rows.bigsizeStreamsSpec.pre6 enc Try.prog Try.f5 Rows.bigsizeStreamsRow.domain false) (Rows.bigsizeStreamsSpec.post enc Try.prog Try.f5 false true false false) := by
  refine returnsInHanded_of_change_sized (C := Try.checked) own started (by kernel_rfl) Try.func5
    (ChangeSpec.witness6 (enc := enc) (C := Try.checked) false ⟨#[], #[.slice none 0 0], []⟩ 8 (by kernel_rfl) (by kernel_rfl) (by kernel_rfl) (by kernel_rfl)) ?_
  intro W base args ds gs before hval0 hW hcnd hsz0 _
  have hsz : (DataW.weightsEach Try.prog (Try.f5.params.toList ++ Rows.bigsizeStreamsSpec.plain.varTypes Try.prog) (ds ++ gs)).all (· ≤ reachBytes) = true := hsz0
  have hval : ∀ (j : Nat) t v, Try.f5.params[j]? = some t → args[j]? = some v → Value.okWide Try.prog W .any base t v := hval0
  have hW' := hW
  obtain ⟨p, q, hA0, hV, rfl, hfz, hnd⟩ := hW
  have hA : DataW.TrodAll enc Try.prog W 0 (fun _ => true) true Try.f5.params.toList args.toList ds p := hA0
  rw [Try.params5] at hA hval hsz
  obtain ⟨v0, vs0, d0, ds0, p0, q0, hargs, rfl, rfl, h0, r0⟩ := trodAll_cons hA
  obtain ⟨rfl, rfl, rfl⟩ := trodAll_nil r0
  obtain rfl : args = #[v0] := by cases args; simp_all
  obtain ⟨rfl, rfl⟩ := trodVars_none hV
  have k0 := h0
  have lt0 : ∀ x ∈ p0, x.block < W.heap.size := by obtain ⟨m, hm⟩ := k0; exact DataW.trod_lt m _ _ _ hm
  obtain ⟨a0, len0, cap0, rfl⟩ := okWide_slice Try.underlying33 (hval 0 33 v0 rfl rfl)
  have w0 : IsRecs W a0 len0 cap0 := by
    obtain ⟨fuel, hf⟩ := h0
    exact open_recs (by simpa [Value.cells] using hf) (fun m hm => by
      have := List.all_eq_true.1 hsz _ (DataW.weights_mem_each (j := 0) (t := 33) rfl rfl m hm)
      simpa using this)
  clear hA0 hval0 hsz0 hsz
  refine (walk a0 len0 cap0 W w0).mono fun e W' ⟨he, bel⟩ => ?_
  subst he
  exact ⟨_, rfl, _, _, _, [], _, [], hW', trodAll_mk1 (shut_bool Try.underlying4 _), (trodAll_cons_mk (Below.trod laidOut (by kernel_rfl) (of_decide_eq_true (by kernel_rfl)) k0 bel lt0) trodAll_mk0), rfl, bel.frame _, fun h => by cases h⟩

theorem over : Rows.bigsizeStreamsRow.holds Try.pinned (OpenSpec.ofChange Rows.bigsizeStreamsSpec) :=
  OpenClaim.holds_of_wide 5 Try.f5 rfl rfl rfl rfl rfl rfl rfl ⟨rfl, rfl, rfl, rfl, rfl⟩ rfl rfl rfl rfl rfl (by kernel_rfl) Try.func5 (by kernel_rfl)
    (of_decide_eq_true (by kernel_rfl)) (by unfold Func.isWrapper; first | (rw [if_pos (by decide +kernel)]; kernel_rfl) | (rw [if_neg (by decide +kernel)]; exact ⟨rfl, rfl⟩))
    (fun os started H enc _ => lifted os started H enc)

theorem proved : Rows.BigsizeStreamsSaid := over
end Go.Proofs.Ytclimopeejkdbaa.bigsizeStreams
namespace Go.Proofs.Ytclimopeejkdbaa
theorem bigsizeStreams_holds : Rows.BigsizeStreamsSaid := bigsizeStreams.proved
end Go.Proofs.Ytclimopeejkdbaa
