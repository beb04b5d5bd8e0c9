/- Proved: for every slice of fees and every int the statement AmountWay (P2.3: what stands ahead of each hop of a way) returns true over the code at the commit, and changes none of its arguments. No condition. -/
import Derived.Test.YtclimopeejkdbabRows
import Derived.Test.YtclimopeejkdbabAmtLives
import Derived.Test.YtclimopeejkdbabWayRest
import Derived.WalkKit
import Derived.ProofKit
import Derived.OpenShut
import Derived.Lib.SmallJoins
namespace Go.Proofs.Ytclimopeejkdbab.amountWay
open Go.ChangeShapes Go.WideShapes Go.ChangeAt Go.RowKit Go.Joins
set_option linter.unusedVariables false

/-- a way is told -/
def Told (n : Nat) (L : List Int) (w : World) (e : Ending) (w' : World) : Prop :=
  ∃ g cp, e = .returned (.tuple #[.slice (some ⟨g, 0, none⟩) n cp, .int .i64 0]) ∧ Hid (w'.ownsRow w.heap.size 3 1 (.slice (some ⟨g, 0, none⟩) n cp) n (I64 L)) ∧ Below w.heap.size w w'
/-- there is none -/
def NoWay (E : Int) (w : World) (e : Ending) (w' : World) : Prop := e = .returned (.tuple #[.slice none 0 0, .int .i64 E]) ∧ Below w.heap.size w w'

set_option maxHeartbeats 2000000 in
theorem ok (ao : Option Addr) (len cap : Nat) (fb fr : Nat → Int) (x : Int) (L : List Int) (w : World) (hL : L.length = len + 1) (hS : ao = none → len = 0 ∧ cap = 0) (hrow : 0 < len → ∃ b off, ao = some ⟨b, off, none⟩ ∧ Fees w b off len fb fr) (hcap : len * 16 ≤ 140737488351232)
    (hA : ∀ (w1 : World) (g cp : Nat), Fees w1 g 0 len fb fr → len ≤ cp → Calls Try.prog 24 #[.slice (some ⟨g, 0, none⟩) len cp, .int .i64 x] w1 (Told (len + 1) L w1))
    (hB : ∀ w1 : World, Below w.heap.size w w1 → Calls Try.prog 25 #[.slice ao len cap, .int .i64 x] w1 (Told (len + 1) L w1)) :
    Calls Try.prog 8 #[.slice ao len cap, .int .i64 x] w fun e w' => e = .returned (.bool true) ∧ Below w.heap.size w w' := by
  have HL := hide hL
  have HA := hide hA
  have HC := hide hB
  have HW := hide hrow
  clear hL hA hB hrow
  go_enter Try.func8, Try.ntmps8
  go_wp2_with (at_builtin; refine wpList_append_fees rfl (.tmp 11) (.tmp 12) rfl w.heap.size w.heap.size rfl (own_nofees w) ao len cap fb fr rfl hS ?c1 hcap (by simp) ?_)
  case c1 => exact fun h => (HW.out h).imp fun b h => h.imp fun off h => ⟨h.1, h.2.below ((Below.refl _ _).alloc (Nat.le_refl _) _)⟩
  intro g cp w1 hbg hcp hf hg
  have HB1 := hide (((Below.refl w.heap.size w).alloc (Nat.le_refl _) (.cells #[] 39)).grown hg (by simp) (fun k hk => by cases hk; exact Nat.le_refl _))
  have HF1 := hide hf
  have z1 := HB1.out.size
  clear hf hg
  go_wp2_with fail
  refine (HA.out _ _ _ HF1.out hcp).mono ?_
  rintro e w2 ⟨ga, ca, rfl, HO2, hb⟩
  have HF2 := hide (HF1.out.below hb)
  have HB2 := hide (HB1.out.trans (hb.mono z1))
  have z2 := HB2.out.size
  clear hb HF1 HB1
  go_wp2_with fail
  refine (HC.out _ HB2.out).mono ?_
  rintro e w3 ⟨gb, cb, rfl, HO3b, hb⟩
  have HF3 := hide (HF2.out.below hb)
  have HO3 := hide (own_below HO2.out hb)
  have HB3 := hide (HB2.out.trans (hb.mono z2))
  have z3 := HB3.out.size
  clear hb HF2 HB2 HO2
  go_wp2_with fail
  refine (lives_any _).mono ?_
  rintro e w4 ⟨rfl, hb⟩
  have HF4 := hide (HF3.out.below hb)
  have HO4 := hide (own_below HO3.out hb)
  have HO4b := hide (own_below HO3b.out hb)
  have HB4 := hide (HB3.out.trans (hb.mono z3))
  have z4 := HB4.out.size
  clear hb HF3 HB3 HO3 HO3b
  go_wp2_with fail
  refine (same_rows ga gb (len + 1) ca cb (fun k => L.getD k 0) _ (by omega) (HO4.out.lt ga rfl).2 (HO4b.out.lt gb rfl).2 (fun k hk => ?_) (fun k hk => ?_)).mono ?_
  · rw [HO4.out.cellAt k (by omega), I64_at _ _ (by rw [HL.out]; omega)]
  · rw [HO4b.out.cellAt k (by omega), I64_at _ _ (by rw [HL.out]; omega)]
  rintro e w5 ⟨rfl, hb⟩
  have HF5 := hide (HF4.out.below hb)
  have HB5 := hide (HB4.out.trans (hb.mono z4))
  clear hb HF4 HB4 HO4 HO4b
  have z5 := HB5.out.size
  clear HA HC HL
  go_wp2
  go_loopw [10] (fun i wr => ∃ k : Nat, k ≤ len ∧ i = .int .i64 k ∧ Hid (Below w5.heap.size w5 wr)) (fun i _ => len - (intOf i).toNat)
  case atStart => exact ⟨0, Nat.zero_le _, rfl, Below.refl _ _⟩
  case round =>
    obtain ⟨k, hk, rfl, HB⟩ := hrel
    by_cases hlt : k < len
    · obtain ⟨b, off, rfl, R0⟩ := HW.out (by omega)
      have R := (R0.below HB5.out).below HB.out
      have q1 := R.base k hlt
      have q2 := R.rate k hlt
      have S := HF5.out.below HB.out
      have q3 : wr.cell? ⟨g, k * 2, none⟩ = some (.int .i64 (fb k)) := by simpa using S.base k hlt
      have q4 : wr.cell? ⟨g, k * 2 + 1, none⟩ = some (.int .i64 (fr k)) := by simpa using S.rate k hlt
      have p1 : (k : Int) < (len : Int) := by omega
      clear R R0 S
      generalize fb k = B0 at *
      generalize fr k = C0 at *
      go_wp2
      go_quiet (fail)
      go_wp2
      go_roundw
      case rel => exact ⟨k + 1, by omega, by go_num, drewN_below HB.out _⟩
      case measure => simp [intOf]; omega
    · have ek : k = len := by omega
      subst ek
      go_wp2
      go_ret
      exact ⟨rfl, HB5.out.trans (HB.out.mono z5)⟩

set_option maxHeartbeats 2000000 in
theorem no (ao : Option Addr) (len cap : Nat) (fb fr : Nat → Int) (x E : Int) (w : World) (hS : ao = none → len = 0 ∧ cap = 0) (hrow : 0 < len → ∃ b off, ao = some ⟨b, off, none⟩ ∧ Fees w b off len fb fr) (hcap : len * 16 ≤ 140737488351232)
    (hA : ∀ (w1 : World) (g cp : Nat), Fees w1 g 0 len fb fr → len ≤ cp → Calls Try.prog 24 #[.slice (some ⟨g, 0, none⟩) len cp, .int .i64 x] w1 (NoWay E w1))
    (hB : ∀ w1 : World, Below w.heap.size w w1 → Calls Try.prog 25 #[.slice ao len cap, .int .i64 x] w1 (NoWay E w1)) :
    Calls Try.prog 8 #[.slice ao len cap, .int .i64 x] w fun e w' => e = .returned (.bool true) ∧ Below w.heap.size w w' := by
  have HA := hide hA
  have HC := hide hB
  have HW := hide hrow
  clear hA hB hrow
  go_enter Try.func8, Try.ntmps8
  go_wp2_with (at_builtin; refine wpList_append_fees rfl (.tmp 11) (.tmp 12) rfl w.heap.size w.heap.size rfl (own_nofees w) ao len cap fb fr rfl hS ?c1 hcap (by simp) ?_)
  case c1 => exact fun h => (HW.out h).imp fun b h => h.imp fun off h => ⟨h.1, h.2.below ((Below.refl _ _).alloc (Nat.le_refl _) _)⟩
  intro g cp w1 hbg hcp hf hg
  have HB1 := hide (((Below.refl w.heap.size w).alloc (Nat.le_refl _) (.cells #[] 39)).grown hg (by simp) (fun k hk => by cases hk; exact Nat.le_refl _))
  have HF1 := hide hf
  have z1 := HB1.out.size
  clear hf hg
  go_wp2_with fail
  refine (HA.out _ _ _ HF1.out hcp).mono ?_
  rintro e w2 ⟨rfl, hb⟩
  have HF2 := hide (HF1.out.below hb)
  have HB2 := hide (HB1.out.trans (hb.mono z1))
  have z2 := HB2.out.size
  clear hb HF1 HB1
  go_wp2_with fail
  refine (HC.out _ HB2.out).mono ?_
  rintro e w3 ⟨rfl, hb⟩
  have HF3 := hide (HF2.out.below hb)
  have HB3 := hide (HB2.out.trans (hb.mono z2))
  have z3 := HB3.out.size
  clear hb HF2 HB2
  go_wp2_with fail
  refine (lives_any _).mono ?_
  rintro e w4 ⟨rfl, hb⟩
  have HF4 := hide (HF3.out.below hb)
  have HB4 := hide (HB3.out.trans (hb.mono z3))
  have z4 := HB4.out.size
  clear hb HF3 HB3
  go_wp2_with fail
  refine (same_nil _).mono ?_
  rintro e w5 ⟨rfl, rfl⟩
  have HF5 := HF4
  have HB5 := HB4
  have z5 := HB5.out.size
  clear HA HC
  go_wp2
  go_loopw [10] (fun i wr => ∃ k : Nat, k ≤ len ∧ i = .int .i64 k ∧ Hid (Below w5.heap.size w5 wr)) (fun i _ => len - (intOf i).toNat)
  case atStart => exact ⟨0, Nat.zero_le _, rfl, Below.refl _ _⟩
  case round =>
    obtain ⟨k, hk, rfl, HB⟩ := hrel
    by_cases hlt : k < len
    · obtain ⟨b, off, rfl, R0⟩ := HW.out (by omega)
      have R := (R0.below HB5.out).below HB.out
      have q1 := R.base k hlt
      have q2 := R.rate k hlt
      have S := HF5.out.below HB.out
      have q3 : wr.cell? ⟨g, k * 2, none⟩ = some (.int .i64 (fb k)) := by simpa using S.base k hlt
      have q4 : wr.cell? ⟨g, k * 2 + 1, none⟩ = some (.int .i64 (fr k)) := by simpa using S.rate k hlt
      have p1 : (k : Int) < (len : Int) := by omega
      clear R R0 S
      generalize fb k = B0 at *
      generalize fr k = C0 at *
      go_wp2
      go_quiet (fail)
      go_wp2
      go_roundw
      case rel => exact ⟨k + 1, by omega, by go_num, drewN_below HB.out _⟩
      case measure => simp [intOf]; omega
    · have ek : k = len := by omega
      subst ek
      go_wp2
      go_ret
      exact ⟨rfl, HB5.out.trans (HB.out.mono z5)⟩

theorem first {p : Nat → Prop} : ∀ {len : Nat}, (∀ k, k < len → p k) ∨ ∃ k0, k0 < len ∧ ¬ p k0 ∧ ∀ k, k < k0 → p k
  | 0 => .inl fun k hk => absurd hk (Nat.not_lt_zero _)
  | n + 1 => by
    rcases first (p := p) (len := n) with h | ⟨k0, h1, h2, h3⟩
    · by_cases e : p n
      · refine .inl fun k hk => ?_
        by_cases ek : k = n
        · rw [ek]; exact e
        · exact h k (by omega)
      · exact .inr ⟨n, by omega, e, h⟩
    · exact .inr ⟨k0, by omega, h2, h3⟩

theorem walk (ao : Option Addr) (len cap : Nat) (x : Int) (w : World) (w0 : IsFeess w ao len cap) (w1 : (Lit.int .i64 x).wf = true) :
    Calls Try.prog 8 #[.slice ao len cap, .int .i64 x] w fun e w' => e = .returned (.bool true) ∧ Below w.heap.size w w' := by
  obtain ⟨x1, x2⟩ := bounds_i64 w1
  rcases w0 with ⟨rfl, hn⟩ | ⟨b, off, fb, fr, rfl, h0, hlc, hcap, hF, hbd⟩
  · by_cases hx : x < 0
    · refine no ao 0 cap (fun _ => 0) (fun _ => 0) x 1 w (fun h => ⟨rfl, hn h⟩) (fun h => absurd h (Nat.lt_irrefl _)) (by omega) (fun w1 g cp hf hc => ?_) (fun w1 hb => ?_)
      · exact way_bad g 0 0 cp _ _ x w1 hf (by omega) (fun k hk => absurd hk (Nat.not_lt_zero _)) (.inr hx)
      · exact (rway_neg ao 0 cap x w1 hx).mono fun e w' h => ⟨h.1, h.2 ▸ Below.refl _ _⟩
    · refine ok ao 0 cap (fun _ => 0) (fun _ => 0) x [x] w rfl (fun h => ⟨rfl, hn h⟩) (fun h => absurd h (Nat.lt_irrefl _)) (by omega) (fun w1 g cp hf hc => ?_) (fun w1 hb => ?_)
      · exact (way_ok g 0 0 cp _ _ x w1 hf hc (by omega) (fun k hk => absurd hk (Nat.not_lt_zero _)) (decide_eq_true fun k hk => absurd hk (Nat.not_lt_zero _)) (by omega) x2 (fun k hk => absurd hk (Nat.not_lt_zero _))).mono fun e w' ⟨g, h1, h2, h3⟩ => ⟨g, _, h1, h2, h3⟩
      · exact rway_zero ao cap x w1 (by omega)
  · have hb2 : ∀ k, k < len → fb k ≤ 9223372036854775807 := fun k hk => (hbd k hk).2.1
    have hcl : len * 16 ≤ 140737488351232 := by omega
    have hrow : 0 < len → ∃ b' off', some (⟨b, off, none⟩ : Addr) = some ⟨b', off', none⟩ ∧ Fees w b' off' len fb fr := fun _ => ⟨b, off, rfl, hF⟩
    have hs : some (⟨b, off, none⟩ : Addr) = none → len = 0 ∧ cap = 0 := fun h => by cases h
    by_cases hx : x < 0
    · refine no _ len cap fb fr x 1 w hs hrow hcl (fun w1 g cp hf hc => ?_) (fun w1 hb => ?_)
      · exact way_bad g 0 len cp _ _ x w1 hf hcl hb2 (.inr hx)
      · exact (rway_neg _ len cap x w1 hx).mono fun e w' h => ⟨h.1, h.2 ▸ Below.refl _ _⟩
    rcases first (p := fun k => rightB (fb k) (fr k) = true) (len := len) with hR | ⟨k0, hk0, hk1, hk2⟩
    · have hRs : rightsB fb fr len = true := decide_eq_true hR
      rcases first (p := fun k => we fb fr len x k = 0) (len := len) with hw | ⟨m0, hm0, hm1, hm2⟩
      · refine ok _ len cap fb fr x (wl fb fr len x len) w (wl_length ..) hs hrow hcl (fun w1 g cp hf hc => ?_) (fun w1 hb => ?_)
        · exact (way_ok g 0 len cp fb fr x w1 hf hc hcl hb2 hRs (by omega) x2 hw).mono fun e w' ⟨g, h1, h2, h3⟩ => ⟨g, _, h1, h2, h3⟩
        · exact rway_ok b off len cap fb fr x w1 (hF.below hb) hlc hcl hb2 hR (by omega) x2 hw
      · have hE : (we fb fr len x m0 != 0) = true := by simpa using hm1
        refine no _ len cap fb fr x (we fb fr len x m0) w hs hrow hcl (fun w1 g cp hf hc => ?_) (fun w1 hb => ?_)
        · exact way_err g 0 len cp fb fr x w1 hf hc hcl hb2 hRs (by omega) x2 m0 _ hm0 hm2 rfl hE
        · exact rway_err b off len cap fb fr x w1 (hF.below hb) hlc hcl hb2 hR (by omega) x2 m0 _ hm0 hm2 rfl hE
    · have hno : rightB (fb k0) (fr k0) = false := by simpa using hk1
      refine no _ len cap fb fr x 1 w hs hrow hcl (fun w1 g cp hf hc => ?_) (fun w1 hb => ?_)
      · exact way_bad g 0 len cp _ _ x w1 hf hcl hb2 (.inl (decide_eq_false fun h => hk1 (h k0 hk0)))
      · exact rway_no b off len cap k0 fb fr x w1 (hF.below hb) hlc hcl (by omega) hk0 hk2 hno

theorem own : ownKnob Try.prog.godebug = none := by kernel_rfl
theorem laidOut : laidOutB Try.prog = true := by kernel_rfl

set_option maxRecDepth 100000 in
theorem lifted (os : Os) (started : os.Started) (H : Type) (enc : TypeId × Value → H) :
    ReturnsInHanded {} Try.checked os 8 .any (Rows.amountWaySpec.pre6 enc Try.prog Try.f8 Rows.amountWayRow.domain false) (Rows.amountWaySpec.post enc Try.prog Try.f8 false true false false) := by
  refine returnsInHanded_of_change_sized (C := Try.checked) own started (by kernel_rfl) Try.func8
    (ChangeSpec.witness6 (enc := enc) (C := Try.checked) false ⟨#[], #[.slice none 0 0, .int .i64 0], []⟩ 8 (by kernel_rfl) (by kernel_rfl) (by kernel_rfl) (by kernel_rfl)) ?_
  intro W base args ds gs before hval0 hW hcnd hsz0 _
  have hsz : (DataW.weightsEach Try.prog (Try.f8.params.toList ++ Rows.amountWaySpec.plain.varTypes Try.prog) (ds ++ gs)).all (· ≤ reachBytes) = true := hsz0
  have hval : ∀ (j : Nat) t v, Try.f8.params[j]? = some t → args[j]? = some v → Value.okWide Try.prog W .any base t v := hval0
  have hW' := hW
  obtain ⟨p, q, hA0, hV, rfl, hfz, hnd⟩ := hW
  have hA : DataW.TrodAll enc Try.prog W 0 (fun _ => true) true Try.f8.params.toList args.toList ds p := hA0
  rw [Try.params8] at hA hval hsz
  obtain ⟨v0, vs0, d0, ds0, p0, q0, hargs, rfl, rfl, h0, r0⟩ := trodAll_cons hA
  obtain ⟨v1, vs1, d1, ds1, p1, q1, rfl, rfl, rfl, h1, r1⟩ := trodAll_cons r0
  obtain ⟨rfl, rfl, rfl⟩ := trodAll_nil r1
  obtain rfl : args = #[v0, v1] := by cases args; simp_all
  obtain ⟨rfl, rfl⟩ := trodVars_none hV
  have k0 := h0
  have lt0 : ∀ x ∈ p0, x.block < W.heap.size := by obtain ⟨m, hm⟩ := k0; exact DataW.trod_lt m _ _ _ hm
  have k1 := h1
  have lt1 : ∀ x ∈ p1, x.block < W.heap.size := by obtain ⟨m, hm⟩ := k1; exact DataW.trod_lt m _ _ _ hm
  obtain ⟨a0, len0, cap0, rfl⟩ := okWide_slice Try.underlying42 (hval 0 42 v0 rfl rfl)
  have w0 : IsFeess W a0 len0 cap0 := by
    obtain ⟨fuel, hf⟩ := h0
    exact open_feess (by simpa [Value.cells] using hf) (fun m hm => by
      have := List.all_eq_true.1 hsz _ (DataW.weights_mem_each (j := 0) (t := 42) rfl rfl m hm)
      simpa using this)
  obtain ⟨a1, rfl, rfl, rfl, w1⟩ := open_int Try.underlying3 (hval 1 3 v1 rfl rfl) h1
  clear hA0 hval0 hsz0 hsz
  refine (walk a0 len0 cap0 a1 W w0 w1).mono fun e W' ⟨he, bel⟩ => ?_
  subst he
  exact ⟨_, rfl, _, _, _, [], _, [], hW', trodAll_mk1 (shut_bool Try.underlying4 _), (trodAll_cons_mk (Below.trod laidOut (by kernel_rfl) (of_decide_eq_true (by kernel_rfl)) k0 bel lt0) (trodAll_cons_mk (Below.trod laidOut (by kernel_rfl) (of_decide_eq_true (by kernel_rfl)) k1 bel lt1) trodAll_mk0)), rfl, bel.frame _, fun h => by cases h⟩

theorem over : Rows.amountWayRow.holds Try.pinned (OpenSpec.ofChange Rows.amountWaySpec) :=
  OpenClaim.holds_of_wide 8 Try.f8 rfl rfl rfl rfl rfl rfl rfl ⟨rfl, rfl, rfl, rfl, rfl⟩ rfl rfl rfl rfl rfl (by kernel_rfl) Try.func8 (by kernel_rfl)
    (of_decide_eq_true (by kernel_rfl)) (by unfold Func.isWrapper; first | (rw [if_pos (by decide +kernel)]; kernel_rfl) | (rw [if_neg (by decide +kernel)]; exact ⟨rfl, rfl⟩))
    (fun os started H enc _ => lifted os started H enc)

theorem proved : Rows.AmountWaySaid := over
end Go.Proofs.Ytclimopeejkdbab.amountWay
namespace Go.Proofs.Ytclimopeejkdbab
theorem amountWay_holds : Rows.AmountWaySaid := amountWay.proved
end Go.Proofs.Ytclimopeejkdbab
