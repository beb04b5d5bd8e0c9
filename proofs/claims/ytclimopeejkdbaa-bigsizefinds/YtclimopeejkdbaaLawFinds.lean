/- Proved: for all records and every type the statement BigsizeFinds (P1.3: the first record of a type) returns true over the code at the commit, and changes none of its arguments. No condition. -/
import Derived.Test.YtclimopeejkdbaaRows
import Derived.Test.YtclimopeejkdbaaBigRecs
import Derived.Deep.RegionHeld3
import Derived.WalkKit
import Derived.ProofKit
import Derived.OpenShut
import Derived.SizedLaws
namespace Go.Proofs.Ytclimopeejkdbaa.bigsizeFinds
open Go.ChangeShapes Go.WideShapes Go.ChangeAt Go.RowKit
set_option linter.unusedVariables false

set_option maxHeartbeats 1000000 in
theorem walk_none (ao : Option Addr) (cap : Nat) (t : Int) (w : World) :
    Calls Try.prog 7 #[.slice ao 0 cap, .int .u64 t] w fun e w' => e = .returned (.bool true) ∧ Below w.heap.size w w' := by
  go_enter Try.func7, Try.ntmps7
  go_wp2_with fail
  refine (find_none _ _ _ _).mono ?_
  rintro e w1 ⟨rfl, rfl⟩
  go_wp2
  refine wp_loop_rounds 1 ?_
  rw [rounds_succ]
  go_wp2_with fail
  refine (lives_any _).mono ?_
  rintro e w2 ⟨rfl, hb⟩
  have HB := hide hb
  clear hb
  go_wp2
  go_ret
  exact ⟨rfl, HB.out⟩

set_option maxHeartbeats 1000000 in
theorem walk_no (b off len cap : Nat) (ty : Nat → Int) (ao : Nat → Option Addr) (cp : Nat → Nat) (L : Nat → List Int) (t : Int) (w : World) (hR : Recs w b off len ty ao cp L) (hl : len ≤ 9223372036854775807) (hno : ∀ k, k < len → ty k ≠ t) :
    Calls Try.prog 7 #[.slice (some ⟨b, off, none⟩) len cap, .int .u64 t] w fun e w' => e = .returned (.bool true) ∧ Below w.heap.size w w' := by
  have HR := hide hR
  have HN := hide hno
  have HF := hide (find_no b off len cap ty ao cp L t w hR hl hno)
  clear hR hno
  go_enter Try.func7, Try.ntmps7
  go_wp2_with fail
  refine HF.out.mono ?_
  rintro e w1 ⟨rfl, hb⟩
  have HB1 := hide hb
  have HR1 := hide (HR.out.below hb)
  have z1 := hb.size
  clear hb HR HF
  go_wp2
  go_loop [7] (fun i => ∃ k : Nat, k ≤ len ∧ i = .int .i64 k) (fun i => len - (intOf i).toNat)
  case atStart => exact ⟨0, Nat.zero_le _, rfl⟩
  case round =>
    obtain ⟨k, hk, rfl⟩ := hrel
    by_cases hlt : k < len
    · have q0 := HR1.out.type k hlt
      have g : (ty k == t) = false := beq_eq_false_iff_ne.2 (HN.out k hlt)
      generalize ty k = x at *
      go_wp2
      go_round
      case rel => exact ⟨k + 1, by omega, by go_num⟩
      case measure => simp [intOf]; omega
    · go_wp2_with fail
      refine (lives_any _).mono ?_
      rintro e w2 ⟨rfl, hb⟩
      have HB2 := hide (HB1.out.trans (hb.mono z1))
      clear hb
      go_wp2
      go_ret
      exact ⟨rfl, HB2.out⟩

/-- what is known behind lives, called in an order that is left open -/
theorem later {w w1 w2 : World} {b o c1 c2 : Nat} {v : Value} {a1 a2 : Option Addr} {L : List Int} (hb : Below w1.drew.heap.size w1.drew w2) (hlt : b < w1.heap.size) (q : w1.cell? ⟨b, o, none⟩ = some v) (i1 : IsB w1 a1 c1 L) (i2 : IsB w1 a2 c2 L)
    (hB : Below w.heap.size w w1) (hz : w.heap.size ≤ w1.heap.size) :
    w2.cell? ⟨b, o, none⟩ = some v ∧ (convert 23 9 (.slice a1 L.length c1)).run Try.prog w2 = .ok (.string (strOfNums L)) w2 ∧ (convert 23 9 (.slice a2 L.length c2)).run Try.prog w2 = .ok (.string (strOfNums L)) w2 ∧ Hid (Below w.heap.size w w2) := by
  have h : Below w1.heap.size w1 w2 := ⟨hb.os, hb.tape, hb.output, hb.size, hb.block⟩
  exact ⟨(h.cell (by exact hlt)).trans q, conv_any (i1.below h), conv_any (i2.below h), hB.trans (h.mono hz)⟩

set_option maxHeartbeats 500000 in
theorem walk_yes (b off len cap k0 : Nat) (ty : Nat → Int) (ao : Nat → Option Addr) (cp : Nat → Nat) (L : Nat → List Int) (t : Int) (w : World) (hR : Recs w b off len ty ao cp L) (hl : len ≤ 9223372036854775807) (hk0 : k0 < len) (hyes : ty k0 = t) (hno : ∀ k, k < k0 → ty k ≠ t) (hlen : (L k0).length ≤ 140737488355328) :
    Calls Try.prog 7 #[.slice (some ⟨b, off, none⟩) len cap, .int .u64 t] w fun e w' => e = .returned (.bool true) ∧ Below w.heap.size w w' := by
  have HR := hide hR
  have HN := hide hno
  have HY := hide hyes
  have HF := hide (find_yes b off len cap k0 ty ao cp L t w hR hl hk0 hyes hno hlen)
  clear hR hno hyes
  go_enter Try.func7, Try.ntmps7
  go_wp2_with fail
  refine HF.out.mono ?_
  rintro e w1 ⟨a1, c1, rfl, i1, hb⟩
  have HB1 := hide hb
  have HR1 := hide (HR.out.below hb)
  have z1 := hb.size
  clear hb HR HF
  go_wp2
  go_loop [7] (fun i => ∃ k : Nat, k ≤ k0 ∧ i = .int .i64 k) (fun i => len - (intOf i).toNat)
  case atStart => exact ⟨0, Nat.zero_le _, rfl⟩
  case round =>
    obtain ⟨k, hk, rfl⟩ := hrel
    have hltl : k < len := by omega
    have q0 := HR1.out.type k hltl
    by_cases hlt : k < k0
    · have g : (ty k == t) = false := beq_eq_false_iff_ne.2 (HN.out k hlt)
      generalize ty k = x at *
      go_wp2
      go_round
      case rel => exact ⟨k + 1, by omega, by go_num⟩
      case measure => simp [intOf]; omega
    · have ek : k = k0 := by omega
      subst ek
      have g : (ty k == t) = true := by rw [HY.out]; exact beq_self_eq_true _
      have q1 := HR1.out.value k hltl
      have HV := hide (HR1.out.bytes k hltl)
      have hbl := HR1.out.lt
      have hck : (k : Int) < (len : Int) := by omega
      generalize ty k = x at *
      go_wp2
      have S1 := HV.out
      have cvd1 : (convert 23 9 (.slice a1 (L k).length c1)).run Try.prog w1.drew = .ok (.string (strOfNums (L k))) w1.drew := conv_any (i1.out.below ((Below.refl _ _).drew))
      have cvd2 : (convert 23 9 (.slice (ao k) (L k).length (cp k))).run Try.prog w1.drew = .ok (.string (strOfNums (L k))) w1.drew := conv_any (HV.out.below ((Below.refl _ _).drew))
      have q1d : w1.drew.cell? ⟨b, off + k * 2 + 1, none⟩ = some (.slice (ao k) (L k).length (cp k)) := q1
      clear S1
      go_region_held3 (fun w' => w'.cell? ⟨b, off + k * 2 + 1, none⟩ = some (.slice (ao k) (L k).length (cp k)) ∧ (convert 23 9 (.slice a1 (L k).length c1)).run Try.prog w' = .ok (.string (strOfNums (L k))) w' ∧ (convert 23 9 (.slice (ao k) (L k).length (cp k))).run Try.prog w' = .ok (.string (strOfNums (L k))) w') (exact ⟨by assumption, by assumption, by assumption⟩)
        (first
          | (go_at_call 11; refine (lives_any _).mono ?_; rintro e w2 ⟨rfl, hb⟩; obtain ⟨q2, cv1, cv2, HB2⟩ := later hb hbl q1 i1.out HV.out HB1.out z1))
      all_goals
        go_wp2
        go_ret
        exact ⟨by simp, HB2.out⟩

theorem first {ty : Nat → Int} {t : Int} : ∀ {len : Nat}, (∀ k, k < len → ty k ≠ t) ∨ ∃ k0, k0 < len ∧ ty k0 = t ∧ ∀ k, k < k0 → ty k ≠ t
  | 0 => .inl fun k hk => absurd hk (Nat.not_lt_zero _)
  | n + 1 => by
    rcases first (ty := ty) (t := t) (len := n) with h | ⟨k0, h1, h2, h3⟩
    · by_cases e : ty n = t
      · exact .inr ⟨n, by omega, e, h⟩
      · refine .inl fun k hk => ?_
        by_cases ek : k = n
        · rw [ek]; exact e
        · exact h k (by omega)
    · exact .inr ⟨k0, by omega, h2, h3⟩

theorem walk (ao : Option Addr) (len cap : Nat) (t : Int) (w : World) (w0 : IsRecs w ao len cap) (w1 : (Lit.int .u64 t).wf = true) :
    Calls Try.prog 7 #[.slice ao len cap, .int .u64 t] w fun e w' => e = .returned (.bool true) ∧ Below w.heap.size w w' := by
  rcases w0 with ⟨rfl, _⟩ | ⟨b, off, q, rfl, h0, hlc, hcap, hR, hq, _⟩
  · exact walk_none ao cap t w
  · rcases first (ty := fun k => (q k).1) (t := t) (len := len) with h | ⟨k0, h1, h2, h3⟩
    · exact walk_no b off len cap _ _ _ _ t w hR (by omega) h
    · exact walk_yes b off len cap k0 _ _ _ _ t w hR (by omega) h1 h2 h3 (by have := hq k0 h1; omega)

theorem own : ownKnob Try.prog.godebug = none := by kernel_rfl
theorem laidOut : laidOutB Try.prog = true := by kernel_rfl

set_option maxRecDepth 100000 in
theorem lifted (os : Os) (started : os.Started) (H : Type) (enc : TypeId × Value → H) :
    ReturnsInHanded {} Try.checked os 7 .any (Rows.bigsizeFindsSpec.pre6 enc Try.prog Try.f7 Rows.bigsizeFindsRow.domain false) (Rows.bigsizeFindsSpec.post enc Try.prog Try.f7 false true false false) := by
  refine returnsInHanded_of_change_sized (C := Try.checked) own started (by kernel_rfl) Try.func7
    (ChangeSpec.witness6 (enc := enc) (C := Try.checked) false ⟨#[], #[.slice none 0 0, .int .u64 0], []⟩ 8 (by kernel_rfl) (by kernel_rfl) (by kernel_rfl) (by kernel_rfl)) ?_
  intro W base args ds gs before hval0 hW hcnd hsz0 _
  have hsz : (DataW.weightsEach Try.prog (Try.f7.params.toList ++ Rows.bigsizeFindsSpec.plain.varTypes Try.prog) (ds ++ gs)).all (· ≤ reachBytes) = true := hsz0
  have hval : ∀ (j : Nat) t v, Try.f7.params[j]? = some t → args[j]? = some v → Value.okWide Try.prog W .any base t v := hval0
  have hW' := hW
  obtain ⟨p, q, hA0, hV, rfl, hfz, hnd⟩ := hW
  have hA : DataW.TrodAll enc Try.prog W 0 (fun _ => true) true Try.f7.params.toList args.toList ds p := hA0
  rw [Try.params7] at hA hval hsz
  obtain ⟨v0, vs0, d0, ds0, p0, q0, hargs, rfl, rfl, h0, r0⟩ := trodAll_cons hA
  obtain ⟨v1, vs1, d1, ds1, p1, q1, rfl, rfl, rfl, h1, r1⟩ := trodAll_cons r0
  obtain ⟨rfl, rfl, rfl⟩ := trodAll_nil r1
  obtain rfl : args = #[v0, v1] := by cases args; simp_all
  obtain ⟨rfl, rfl⟩ := trodVars_none hV
  have k0 := h0
  have lt0 : ∀ x ∈ p0, x.block < W.heap.size := by obtain ⟨m, hm⟩ := k0; exact DataW.trod_lt m _ _ _ hm
  have k1 := h1
  have lt1 : ∀ x ∈ p1, x.block < W.heap.size := by obtain ⟨m, hm⟩ := k1; exact DataW.trod_lt m _ _ _ hm
  obtain ⟨a0, len0, cap0, rfl⟩ := okWide_slice Try.underlying33 (hval 0 33 v0 rfl rfl)
  have w0 : IsRecs W a0 len0 cap0 := by
    obtain ⟨fuel, hf⟩ := h0
    exact open_recs (by simpa [Value.cells] using hf) (fun m hm => by
      have := List.all_eq_true.1 hsz _ (DataW.weights_mem_each (j := 0) (t := 33) rfl rfl m hm)
      simpa using this)
  obtain ⟨a1, rfl, rfl, rfl, w1⟩ := open_int Try.underlying22 (hval 1 22 v1 rfl rfl) h1
  clear hA0 hval0 hsz0 hsz
  refine (walk a0 len0 cap0 a1 W w0 w1).mono fun e W' ⟨he, bel⟩ => ?_
  subst he
  exact ⟨_, rfl, _, _, _, [], _, [], hW', trodAll_mk1 (shut_bool Try.underlying4 _), (trodAll_cons_mk (Below.trod laidOut (by kernel_rfl) (of_decide_eq_true (by kernel_rfl)) k0 bel lt0) (trodAll_cons_mk (Below.trod laidOut (by kernel_rfl) (of_decide_eq_true (by kernel_rfl)) k1 bel lt1) trodAll_mk0)), rfl, bel.frame _, fun h => by cases h⟩

theorem over : Rows.bigsizeFindsRow.holds Try.pinned (OpenSpec.ofChange Rows.bigsizeFindsSpec) :=
  OpenClaim.holds_of_wide 7 Try.f7 rfl rfl rfl rfl rfl rfl rfl ⟨rfl, rfl, rfl, rfl, rfl⟩ rfl rfl rfl rfl rfl (by kernel_rfl) Try.func7 (by kernel_rfl)
    (of_decide_eq_true (by kernel_rfl)) (by unfold Func.isWrapper; first | (rw [if_pos (by decide +kernel)]; kernel_rfl) | (rw [if_neg (by decide +kernel)]; exact ⟨rfl, rfl⟩))
    (fun os started H enc _ => lifted os started H enc)

theorem proved : Rows.BigsizeFindsSaid := over
end Go.Proofs.Ytclimopeejkdbaa.bigsizeFinds
namespace Go.Proofs.Ytclimopeejkdbaa
theorem bigsizeFinds_holds : Rows.BigsizeFindsSaid := bigsizeFinds.proved
end Go.Proofs.Ytclimopeejkdbaa
