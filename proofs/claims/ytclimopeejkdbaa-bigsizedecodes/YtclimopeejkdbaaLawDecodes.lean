/- Proved: for all bytes and all known types the statement BigsizeDecodes (P1.2, P1.4: what any bytes are as a stream, and these records are just these bytes) returns true over the code at the commit, and changes none of its arguments. No condition. -/
import Derived.Test.YtclimopeejkdbaaRows
import Derived.Test.YtclimopeejkdbaaDecEnd
import Derived.Test.YtclimopeejkdbaaRefDec
import Derived.Test.YtclimopeejkdbaaSame
import Derived.WalkKit
import Derived.ProofKit
import Derived.OpenShut
import Derived.SizedLaws
namespace Go.Proofs.Ytclimopeejkdbaa.bigsizeDecodes
open Go.ChangeShapes Go.WideShapes Go.ChangeAt Go.RowKit
set_option linter.unusedVariables false

/-- SameRecords of what both tell -/
theorem same_own {w : World} {B B' : Nat} {v v' : Value} {q q' : List Rq} (h : OwnRecs w B v q) (h' : OwnRecs w B' v' q') (hp : plain q = plain q') (hl : q.length ≤ 64) :
    Calls Try.prog 18 #[v, v'] w fun e w' => e = .returned (.bool true) ∧ Below w.heap.size w w' := by
  obtain ⟨e, hs⟩ := plain_same hp
  by_cases h0 : q.length = 0
  · obtain ⟨a, c, rfl⟩ := h.shape
    obtain ⟨a', c', rfl⟩ := h'.shape
    rw [← e, h0]
    exact (same_none a a' c c' w).mono fun e w' hh => ⟨hh.1, by rw [hh.2]; exact Below.refl _ _⟩
  · obtain ⟨g, c, rfl, R⟩ := h.open (by omega)
    obtain ⟨g', c', rfl, R'⟩ := h'.open (by omega)
    rw [← e] at R' ⊢
    exact same_row g 0 g' 0 q.length c c' _ _ _ _ _ _ _ _ w R R' (by omega) (fun k hk => (hs k hk).1) (fun k hk => (hs k hk).2)

/-- Encode of what is told -/
theorem enc_own {w : World} {B : Nat} {v : Value} {q : List Rq} (h : OwnRecs w B v q) (hl : q.length ≤ 64) (hr : Ris (-1) (plain q)) (ha : ∀ r ∈ plain q, 0 ≤ r.1 ∧ r.1 ≤ 18446744073709551615 ∧ r.2.length ≤ 140737488351232 ∧ Bytes r.2) (hsz : (recsB (plain q)).length ≤ 65536) :
    Calls Try.prog 15 #[v] w fun e w' => ∃ ao cp, e = .returned (.tuple #[.slice ao (recsB (plain q)).length cp, .int .i64 0]) ∧ Hid (IsB w' ao cp (recsB (plain q))) ∧ Below w.heap.size w w' := by
  by_cases h0 : q.length = 0
  · obtain ⟨a, c, rfl⟩ := h.shape
    have hq : q = [] := List.eq_nil_of_length_eq_zero h0
    subst hq
    refine (enc_none a c w).mono fun e w' hh => ?_
    obtain ⟨g, rfl, ho, hb⟩ := hh
    exact ⟨_, _, rfl, isB_none _ _, hb⟩
  · obtain ⟨g, c, rfl, R⟩ := h.open (by omega)
    have hm : ∀ k, k < q.length → ((rqAt q k).1, (rqAt q k).2.2.2) ∈ plain q := fun k hk => List.mem_of_getElem? (plain_at q k hk)
    have key := enc_ok g 0 q.length c _ _ _ _ w R hl (fun k hk => (ha _ (hm k hk)).2.2.1) (fun k hk => ⟨(ha _ (hm k hk)).1, (ha _ (hm k hk)).2.1⟩) (ris_plain q _ hr) (by rw [encL_all]; exact hsz)
    rw [encL_all] at key
    refine key.mono fun e w' hh => ?_
    obtain ⟨g', rfl, ho, hb⟩ := hh
    obtain ⟨ao, cap, he, hI, _⟩ := own_isB ho.out
    cases he
    exact ⟨_, _, rfl, hI, hb⟩

set_option maxHeartbeats 2000000 in
theorem walk_any (ao : Option Addr) (cap : Nat) (L : List Int) (w : World) (hB : IsB w ao cap L) (hlc : L.length ≤ cap) (hcap : cap ≤ 140737488351232) (hz : Bytes L) (kao : Option Addr) (klen kcap : Nat) (z : Nat → Int) (hU : IsU w kao klen z) (hkl : klen ≤ 9223372036854775807) :
    Calls Try.prog 6 #[.slice ao L.length cap, .slice kao klen kcap] w fun e w' => e = .returned (.bool true) ∧ Below w.heap.size w w' := by
  have HI := hide hB
  have HU := hide hU
  have HD1 := hide (fun ao cap w (h1 : IsB w ao cap L) (h2 : L.length ≤ cap) (h3 : cap ≤ 9223372036854775807) (h4 : IsU w kao klen z) => decode_any ao cap L w h1 h2 h3 hz kao klen kcap z h4 hkl)
  have HD2 := hide (fun ao cap w (h1 : IsB w ao cap L) (h2 : L.length ≤ cap) (h3 : cap ≤ 9223372036854775807) (h4 : IsU w kao klen z) => rdecode_any ao cap L w h1 h2 h3 hz kao klen kcap z h4 hkl)
  have HE1 := hide (decT_err (knows z klen) L)
  have HE2 := hide (decT_ok (knows z klen) L hz)
  generalize decT (knows z klen) L = D at *
  obtain ⟨E, A⟩ := D
  obtain ⟨len, hlen⟩ : ∃ len, L.length = len := ⟨_, rfl⟩
  have HL := hide hlen
  rw [hlen] at HD1 HD2 hlc ⊢
  clear hB hU hz hlen
  go_enter Try.func6, Try.ntmps6
  go_wp2_with (at_builtin; refine wpList_append_ownx rfl (.tmp 11) (.tmp 12) rfl w.heap.size _ 0 [] rfl (own_empty w) ao len cap L rfl HL.out ?c1 (by omega) (by simp) ?_)
  case c1 => exact HI.out.below ((Below.refl _ _).alloc (Nat.le_refl _) _)
  intro v1 w1 ho hg
  have HB1 := hide (((Below.refl w.heap.size w).alloc (Nat.le_refl _) (.cells #[] 5)).grown hg (by simp) (fun k hk => by cases hk; exact Nat.le_refl _))
  have hc2 : ∃ ao1 cp1, v1 = .slice ao1 len cp1 ∧ IsB w1 ao1 cp1 L ∧ len ≤ cp1 ∧ cp1 ≤ 9223372036854775807 := by
    rw [← HL.out] at ho ⊢
    exact own_isB ho
  obtain ⟨ao1, cp1, rfl, hO1, hc1, hc2⟩ := hc2
  have HO1 := hide hO1
  have hI1 := hide (HI.out.below HB1.out)
  have z1 := HB1.out.size
  clear ho hg hO1
  go_wp2_with fail
  refine (HD1.out _ _ _ HO1.out hc1 hc2 (HU.out.below HB1.out)).mono ?_
  rintro e w2 ⟨v, q, rfl, HX, hq, HB2⟩
  obtain ⟨xa, xc, rfl⟩ := HX.out.shape
  have HB2' := hide (HB1.out.trans (HB2.out.mono z1))
  have z2 := HB2'.out.size
  go_wp2_with fail
  refine (HD2.out _ _ _ (HI.out.below HB2'.out) hlc (by omega) (HU.out.below HB2'.out)).mono ?_
  rintro e w3 ⟨v', q', rfl, HY, hq', HB3⟩
  obtain ⟨ya, yc, rfl⟩ := HY.out.shape
  have HX3 := hide (HX.out.below HB3.out)
  have HB3' := hide (HB2'.out.trans (HB3.out.mono z2))
  have hO3 := hide ((HO1.out.below HB2.out).below HB3.out)
  have hI3 := hide (HI.out.below HB3'.out)
  have z3 := HB3'.out.size
  have HPQ := hide (hq.trans hq'.symm)
  have HQ := hide hq
  clear hq hq' HB2 HB3 HX HB2' HB1 HO1 hI1 HD1 HD2
  go_wp2_with fail
  refine (lives_any _).mono ?_
  rintro e w4 ⟨rfl, hb⟩
  have HB4 := hide (HB3'.out.trans (hb.mono z3))
  have HX4 := hide (HX3.out.below hb)
  have HY4 := hide (HY.out.below hb)
  have hO4 := hide (hO3.out.below hb)
  have hI4 := hide (hI3.out.below hb)
  have z4 := HB4.out.size
  clear hb HX3 HY hO3 hI3 HB3'
  have hq64 : q.length ≤ 64 := by
    rw [← plain_length q, HQ.out]
    by_cases hE : E = 0
    · exact (HE2.out hE).2.2.1
    · have h := HE1.out hE
      rw [h]
      exact Nat.zero_le _
  have HS := hide (same_own HX4.out HY4.out HPQ.out hq64)
  go_wp2_with fail
  refine HS.out.mono ?_
  rintro e w5 ⟨rfl, hb⟩
  have HB5 := hide (HB4.out.trans (hb.mono z4))
  have HX5 := hide (HX4.out.below hb)
  have cv1 := conv_any (hO4.out.below hb)
  have HI5 := hide (hI4.out.below hb)
  have cv2 := conv_any HI5.out
  have z5 := HB5.out.size
  rw [HL.out] at cv1 cv2
  clear hb HS HX4 HY4 hO4 hI4 HB4
  by_cases hE : E = 0
  · subst hE
    obtain ⟨k1, k2, k3, k4, k5⟩ := HE2.out rfl
    have HQ' : A = plain q := HQ.out.symm
    subst HQ'
    have HEN := hide (enc_own HX5.out hq64 k4 k5 (by rw [k2]; exact k1))
    rw [k2, HL.out] at HEN
    clear k2 k3 k4 k5 HE1 HE2 HQ
    go_wp2_with fail
    refine HEN.out.mono ?_
    rintro e w6 ⟨ca, cc, rfl, HC, hb⟩
    have HB6 := hide (HB5.out.trans (hb.mono z5))
    have cv3 := conv_any HC.out
    have cv4 := conv_any (HI5.out.below hb)
    rw [HL.out] at cv3 cv4
    clear hb
    go_wp2
    go_ret
    exact ⟨by simp, HB6.out⟩
  · have g : (E == 0) = false := beq_eq_false_iff_ne.2 hE
    have g2 : (E != 0) = true := by simp [hE]
    go_wp2
    go_ret
    exact ⟨rfl, HB5.out⟩

theorem walk (ao : Option Addr) (len cap : Nat) (zs : List Int) (kao : Option Addr) (klen kcap : Nat) (ks : List Int) (w : World) (w0 : IsRow .u8 1 w ao len cap zs) (w1 : IsRow .u64 8 w kao klen kcap ks) :
    Calls Try.prog 6 #[.slice ao len cap, .slice kao klen kcap] w fun e w' => e = .returned (.bool true) ∧ Below w.heap.size w w' := by
  obtain ⟨L, rfl, hB, h1, h2, h3⟩ := row_isB w0
  have hU : IsU w kao klen (fun k => ks.getD k 0) ∧ klen ≤ 9223372036854775807 := by
    rcases w1 with ⟨rfl, rfl, rfl, rfl⟩ | ⟨x, rfl, hl, hm, hz, hr, hc, hw⟩
    · exact ⟨.inl rfl, by omega⟩
    · refine ⟨?_, by unfold maxLen at hm; omega⟩
      by_cases h0 : klen = 0
      · exact .inl h0
      · obtain ⟨b, off, spot⟩ := x
        have hs : spot = none := by simpa [Addr.add] using World.cell?_spot (hc 0 (by omega))
        subst hs
        have hc' : ∀ k, k < klen → w.cell? ⟨b, off + k, none⟩ = some (.int .u64 (ks.getD k 0)) := fun k hk => by
          have h := hc k (by omega)
          rw [addr_add] at h
          exact h
        exact .inr ⟨b, off, rfl, block_lt_of_cell (hc' 0 (by omega)), hc'⟩
  exact walk_any ao cap L w hB h1 h2 (all_getD h3) kao klen kcap _ hU.1 hU.2

theorem own : ownKnob Try.prog.godebug = none := by kernel_rfl
theorem laidOut : laidOutB Try.prog = true := by kernel_rfl
theorem bytesEbytes : Try.prog.bytesOf 5 = 1 := by kernel_rfl
theorem bytesEu64s : Try.prog.bytesOf 22 = 8 := by kernel_rfl

set_option maxRecDepth 100000 in
theorem lifted (os : Os) (started : os.Started) (H : Type) (enc : TypeId × Value → H) :
    ReturnsInHanded {} Try.checked os 6 .any (Rows.bigsizeDecodesSpec.pre6 enc Try.prog Try.f6 Rows.bigsizeDecodesRow.domain false) (Rows.bigsizeDecodesSpec.post enc Try.prog Try.f6 false true false false) := by
  refine returnsInHanded_of_change_sized (C := Try.checked) own started (by kernel_rfl) Try.func6
    (ChangeSpec.witness6 (enc := enc) (C := Try.checked) false ⟨#[], #[.slice none 0 0, .slice none 0 0], []⟩ 8 (by kernel_rfl) (by kernel_rfl) (by kernel_rfl) (by kernel_rfl)) ?_
  intro W base args ds gs before hval0 hW hcnd hsz0 _
  have hsz : (DataW.weightsEach Try.prog (Try.f6.params.toList ++ Rows.bigsizeDecodesSpec.plain.varTypes Try.prog) (ds ++ gs)).all (· ≤ reachBytes) = true := hsz0
  have hval : ∀ (j : Nat) t v, Try.f6.params[j]? = some t → args[j]? = some v → Value.okWide Try.prog W .any base t v := hval0
  have hW' := hW
  obtain ⟨p, q, hA0, hV, rfl, hfz, hnd⟩ := hW
  have hA : DataW.TrodAll enc Try.prog W 0 (fun _ => true) true Try.f6.params.toList args.toList ds p := hA0
  rw [Try.params6] at hA hval hsz
  obtain ⟨v0, vs0, d0, ds0, p0, q0, hargs, rfl, rfl, h0, r0⟩ := trodAll_cons hA
  obtain ⟨v1, vs1, d1, ds1, p1, q1, rfl, rfl, rfl, h1, r1⟩ := trodAll_cons r0
  obtain ⟨rfl, rfl, rfl⟩ := trodAll_nil r1
  obtain rfl : args = #[v0, v1] := by cases args; simp_all
  obtain ⟨rfl, rfl⟩ := trodVars_none hV
  have k0 := h0
  have lt0 : ∀ x ∈ p0, x.block < W.heap.size := by obtain ⟨m, hm⟩ := k0; exact DataW.trod_lt m _ _ _ hm
  have k1 := h1
  have lt1 : ∀ x ∈ p1, x.block < W.heap.size := by obtain ⟨m, hm⟩ := k1; exact DataW.trod_lt m _ _ _ hm
  obtain ⟨a0, len0, cap0, rfl⟩ := okWide_slice Try.underlying23 (hval 0 23 v0 rfl rfl)
  obtain ⟨z0, w0⟩ : ∃ zs, IsRow .u8 1 W a0 len0 cap0 zs := by
    obtain ⟨fuel, hf⟩ := h0
    rcases open_ints Try.underlying23 Try.underlying5 (by kernel_rfl) hf with ⟨hcs, _⟩ | ⟨x, l, c, zs, hcs, _, hl, hm, hz, hx, hcell, hwz⟩
    · simp [Value.cells] at hcs
      obtain ⟨rfl, rfl, rfl⟩ := hcs
      exact ⟨[], .inl ⟨rfl, rfl, rfl, rfl⟩⟩
    · simp [Value.cells] at hcs
      obtain ⟨rfl, rfl, rfl⟩ := hcs
      simp only [Prod.mk.injEq] at hx
      have hxd := hx.1
      subst hxd
      have hrch := sized_slice hsz (j := 0) (t := 23) (e := 5) rfl rfl Try.underlying23
      rw [bytesEbytes] at hrch
      simp only [lits, List.length_map, List.length_take, List.length_drop, reachBytes] at hrch
      exact ⟨zs, .inr ⟨_, rfl, hl, hm, by simpa using hz, by simp at hz; omega, hcell, hwz⟩⟩
  obtain ⟨a1, len1, cap1, rfl⟩ := okWide_slice Try.underlying36 (hval 1 36 v1 rfl rfl)
  obtain ⟨z1, w1⟩ : ∃ zs, IsRow .u64 8 W a1 len1 cap1 zs := by
    obtain ⟨fuel, hf⟩ := h1
    rcases open_ints Try.underlying36 Try.underlying22 (by kernel_rfl) hf with ⟨hcs, _⟩ | ⟨x, l, c, zs, hcs, _, hl, hm, hz, hx, hcell, hwz⟩
    · simp [Value.cells] at hcs
      obtain ⟨rfl, rfl, rfl⟩ := hcs
      exact ⟨[], .inl ⟨rfl, rfl, rfl, rfl⟩⟩
    · simp [Value.cells] at hcs
      obtain ⟨rfl, rfl, rfl⟩ := hcs
      simp only [Prod.mk.injEq] at hx
      have hxd := hx.1
      subst hxd
      have hrch := sized_slice hsz (j := 1) (t := 36) (e := 22) rfl rfl Try.underlying36
      rw [bytesEu64s] at hrch
      simp only [lits, List.length_map, List.length_take, List.length_drop, reachBytes] at hrch
      exact ⟨zs, .inr ⟨_, rfl, hl, hm, by simpa using hz, by simp at hz; omega, hcell, hwz⟩⟩
  clear hA0 hval0 hsz0 hsz
  refine (walk a0 len0 cap0 z0 a1 len1 cap1 z1 W w0 w1).mono fun e W' ⟨he, bel⟩ => ?_
  subst he
  exact ⟨_, rfl, _, _, _, [], _, [], hW', trodAll_mk1 (shut_bool Try.underlying4 _), (trodAll_cons_mk (Below.trod laidOut (by kernel_rfl) (of_decide_eq_true (by kernel_rfl)) k0 bel lt0) (trodAll_cons_mk (Below.trod laidOut (by kernel_rfl) (of_decide_eq_true (by kernel_rfl)) k1 bel lt1) trodAll_mk0)), rfl, bel.frame _, fun h => by cases h⟩

theorem over : Rows.bigsizeDecodesRow.holds Try.pinned (OpenSpec.ofChange Rows.bigsizeDecodesSpec) :=
  OpenClaim.holds_of_wide 6 Try.f6 rfl rfl rfl rfl rfl rfl rfl ⟨rfl, rfl, rfl, rfl, rfl⟩ rfl rfl rfl rfl rfl (by kernel_rfl) Try.func6 (by kernel_rfl)
    (of_decide_eq_true (by kernel_rfl)) (by unfold Func.isWrapper; first | (rw [if_pos (by decide +kernel)]; kernel_rfl) | (rw [if_neg (by decide +kernel)]; exact ⟨rfl, rfl⟩))
    (fun os started H enc _ => lifted os started H enc)

theorem proved : Rows.BigsizeDecodesSaid := over
end Go.Proofs.Ytclimopeejkdbaa.bigsizeDecodes
namespace Go.Proofs.Ytclimopeejkdbaa
theorem bigsizeDecodes_holds : Rows.BigsizeDecodesSaid := bigsizeDecodes.proved
end Go.Proofs.Ytclimopeejkdbaa
