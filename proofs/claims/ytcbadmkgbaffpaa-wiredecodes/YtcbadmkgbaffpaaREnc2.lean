/- The contract of the document's Encode, where the types rise, over this seat's translation. -/
import Derived.Test.YtcbadmkgbaffpaaREnc
namespace Go.Proofs.Ytcbadmkgbaffpaa
open Go.RowKit
set_option linter.unusedVariables false

theorem REnc_shape {w : World} {B n : Nat} {e : TypeId} {s : Nat} {v : Value} {xs : List Value} (h : w.ownsRow B e s v n xs) : ∃ a c, v = .slice a n c := by
  rcases h.2 with ⟨h1, h2⟩ | ⟨g, c, cur, h1, _⟩
  · exact ⟨none, 0, by rw [h1, h2]⟩
  · exact ⟨_, c, h1⟩
/-- what lies behind a draw lies there -/
theorem below_same {A W w' : World} (h : Below W.heap.size W w') (e1 : W.os = A.os) (e2 : W.tape = A.tape) (e3 : W.output = A.output) (e4 : W.heap = A.heap) : Below A.heap.size A w' :=
  ⟨h.os.trans e1, h.tape.trans e2, h.output.trans e3, by rw [← e4]; exact h.size, fun k hk => by rw [← e4] at hk ⊢; exact h.block k hk⟩

theorem wrap_n (n : Nat) (h : n ≤ 140737488351232) : IntKind.u64.wrap (n : Int) = n := by
  show (n : Int) % 18446744073709551616 = n
  omega
/-- the state of a round: the bytes so far, of the record its type and value -/
structure St (w : World) (b o : Nat) (x : Int) (va : Option Addr) (n vc : Nat) (W : World) (v : Value) (m : Nat) (Z : List Int) : Prop where
  row : W.ownsRow w.heap.size 5 1 v m (U8 Z)
  type : W.cell? ⟨b, o, none⟩ = some (.int .u64 x)
  value : W.cell? ⟨b, o + 1, none⟩ = some (.slice va n vc)
  below : Below w.heap.size w W
theorem St.base {w W : World} {b o n vc m : Nat} {x : Int} {va : Option Addr} {v : Value} {Z : List Int} (h : St w b o x va n vc W v m Z) : w.heap.size ≤ W.heap.size := h.below.size
/-- a number's bytes at block g, which is not that of v -/
def NumAt (W : World) (v : Value) (g : Nat) (N : List Int) : Prop := (∀ j u, (U8 N)[j]? = some u → W.cell? ((⟨g, 0, none⟩ : Addr).add j) = some u) ∧ v.ownBlock ≠ some g
theorem num_first {w W w1 : World} {b o n vc m : Nat} {x : Int} {va : Option Addr} {v v1 : Value} {Z N : List Int} (h : St w b o x va n vc W v m Z) (ho : w1.ownsRow W.heap.size 5 1 v1 N.length (U8 N)) (hb : Below W.heap.size W w1) (hN : 1 ≤ N.length) :
    ∃ g c, v1 = .slice (some ⟨g, 0, none⟩) N.length c ∧ w1.cell? ⟨b, o, none⟩ = some (.int .u64 x) ∧ w1.cell? ⟨b, o + 1, none⟩ = some (.slice va n vc) ∧ Hid (St w b o x va n vc w1 v m Z) ∧ Hid (NumAt w1 v g N) := by
  obtain ⟨g, c, rfl, hg, hlt⟩ := ho.form (by omega)
  have k1 := cell_later hb h.type
  have k2 := cell_later hb h.value
  have hrow := h.row.lt
  refine ⟨g, c, rfl, k1, k2, ⟨?_, k1, k2, h.below.trans (hb.mono h.base)⟩, fun j u hu => ho.cells rfl j u hu, fun e => ?_⟩
  · refine h.row.kept ⟨hb.os, hb.tape, hb.output, hb.size, fun k hk _ => hb.block k hk⟩ (row := none) ?_
    cases v.ownBlock with
    | none => exact .inl rfl
    | some k => exact .inr (by simp)
  · have := (hrow g e).2
    omega
theorem num_second {w W w1 : World} {b o n vc m g0 : Nat} {x : Int} {va : Option Addr} {v v1 : Value} {Z N N0 : List Int} (h : St w b o x va n vc W v m Z) (h0 : NumAt W v g0 N0) (ho : w1.ownsRow W.heap.size 5 1 v1 N.length (U8 N)) (hb : Below W.heap.size W w1) (hN : 1 ≤ N.length) :
    ∃ g c, v1 = .slice (some ⟨g, 0, none⟩) N.length c ∧ w1.cell? ⟨b, o, none⟩ = some (.int .u64 x) ∧ w1.cell? ⟨b, o + 1, none⟩ = some (.slice va n vc) ∧ Hid (St w b o x va n vc w1 v m Z) ∧ Hid (NumAt w1 v g N) ∧ Hid (NumAt w1 v g0 N0) := by
  obtain ⟨g, c, h1, h2, h3, h4, h5⟩ := num_first h ho hb hN
  exact ⟨g, c, h1, h2, h3, h4, h5, fun j u hu => cell_later hb (h0.1 j u hu), h0.2⟩
theorem far {w W : World} {b o : Nat} {u v : Value} {n : Nat} {xs : List Value} (hb : Below w.heap.size w W) (hrow : W.ownsRow w.heap.size 5 1 v n xs) (hlt : b < w.heap.size) : some b ≠ v.ownBlock := fun e => by
  have := (hrow.lt b e.symm).1
  omega
theorem app_first {w W w1 : World} {b o n vc m m2 : Nat} {x : Int} {va : Option Addr} {v v1 : Value} {Z N : List Int} (h : St w b o x va n vc W v m Z) (hlt : b < w.heap.size) (ho : w1.ownsRow w.heap.size 5 1 v1 m2 (U8 Z ++ U8 N)) (hg : W.grownBy w1 v.ownBlock) :
    w1.cell? ⟨b, o, none⟩ = some (.int .u64 x) ∧ w1.cell? ⟨b, o + 1, none⟩ = some (.slice va n vc) ∧ Hid (St w b o x va n vc w1 v1 m2 (Z ++ N)) := by
  have hne : some b ≠ v.ownBlock := far (o := o) (u := v) h.below h.row hlt
  have k1 := hg.cell h.type hne
  have k2 := hg.cell h.value hne
  exact ⟨k1, k2, ⟨by rw [U8_append]; exact ho, k1, k2, h.below.grown hg h.base fun i hi => (h.row.lt i hi).1⟩⟩
theorem app_other {w W w1 : World} {b o n vc m m2 g2 : Nat} {x : Int} {va : Option Addr} {v v1 : Value} {Z N N2 : List Int} (h : St w b o x va n vc W v m Z) (hlt : b < w.heap.size) (ho : w1.ownsRow w.heap.size 5 1 v1 m2 (U8 Z ++ U8 N)) (hg : W.grownBy w1 v.ownBlock) (h2 : NumAt W v g2 N2) :
    w1.cell? ⟨b, o, none⟩ = some (.int .u64 x) ∧ w1.cell? ⟨b, o + 1, none⟩ = some (.slice va n vc) ∧ Hid (St w b o x va n vc w1 v1 m2 (Z ++ N)) ∧ Hid (∀ j u, (U8 N2)[j]? = some u → w1.cell? ((⟨g2, 0, none⟩ : Addr).add j) = some u) := by
  obtain ⟨k1, k2, k3⟩ := app_first h hlt ho hg
  refine ⟨k1, k2, k3, fun j u hu => hg.cell (h2.1 j u hu) ?_⟩
  rw [addr_block]
  exact fun e => h2.2 e.symm

set_option maxRecDepth 100000 in
set_option maxHeartbeats 2000000 in
theorem renc_rises (b off len cap : Nat) (ty : Nat → Int) (ao : Nat → Option Addr) (cp : Nat → Nat) (L : Nat → List Int) (w : World) (hR : Recs w b off len ty ao cp L) (h0 : 0 < len) (hl : len ≤ 64) (hL : ∀ k, k < len → (L k).length ≤ 140737488351232) (ht : ∀ k, k < len → 0 ≤ ty k ∧ ty k ≤ 18446744073709551615)
    (hris : risB ty len = true) :
    Calls Try.prog 25 #[.slice (some ⟨b, off, none⟩) len cap] w fun e w' => (((encL ty L len).length ≤ 65536 ∧ ∃ v, e = .returned (.tuple #[v, .int .i64 0]) ∧ Hid (w'.ownsRow w.heap.size 5 1 v (encL ty L len).length (U8 (encL ty L len)))) ∨ (65536 < (encL ty L len).length ∧ e = .returned (.tuple #[.slice none 0 0, .int .i64 3]))) ∧ Below w.heap.size w w' := by
  obtain ⟨i0, hi, hz0, hz1, hz2⟩ := info_parts Try.info5
  have HR := hide hR
  have HL := hide hL
  have HT := hide ht
  have HZ := hide (of_decide_eq_true hris)
  have hmono := hide (encL_mono ty L len)
  clear hR hL ht hris
  go_enter Try.func25, Try.ntmps25
  go_wp2
  go_loopw [4] (fun i wr => ∃ k : Nat, k + 1 ≤ len ∧ i = .int .i64 ((k : Int) + 1) ∧ Hid (Below w.heap.size w wr)) (fun i _ => len - (intOf i).toNat)
  case atStart => exact ⟨0, by omega, rfl, Below.refl _ _⟩
  case round =>
    obtain ⟨k, hk, rfl, HB⟩ := hrel
    have t1 : ((k : Int) + 1).toNat = k + 1 := by omega
    by_cases hlt : k + 1 < len
    · have R := HR.out.below HB.out
      have q0 : wr.cell? ⟨b, off + k * 2, none⟩ = some (.int .u64 (ty k)) := R.type k (by omega)
      have q1 : wr.cell? ⟨b, off + (k + 1) * 2, none⟩ = some (.int .u64 (ty (k + 1))) := R.type (k + 1) hlt
      have hc := HZ.out k (by omega)
      clear R
      have p1 : (k : Int) + 1 < (len : Int) := by omega
      have p0 : (k : Int) < (len : Int) := by omega
      generalize ty k = x at q0 hc
      generalize ty (k + 1) = y at q1 hc
      go_wp2
      go_quiet (fail)
      go_wp2
      go_roundw
      case rel => exact ⟨k + 1, by omega, by go_num, below_drewN HB.out _⟩
      case measure => simp [intOf]; omega
    · clear t1
      go_wp2
      go_loopw [5, 6] (fun v i wr => ∃ k : Nat, k ≤ len ∧ i = .int .i64 k ∧ Hid (wr.ownsRow w.heap.size 5 1 v (encL ty L k).length (U8 (encL ty L k))) ∧ (encL ty L k).length ≤ 65536 ∧ Hid (Below w.heap.size w wr)) (fun _ i _ => len - (intOf i).toNat)
      case atStart => exact ⟨0, Nat.zero_le _, rfl, World.ownsRow_nil _ _ _ _, by simp [encL], HB⟩
      case round =>
        clear hlt hk HB
        obtain ⟨k, hk, rfl, HO, he, HB⟩ := hrel
        by_cases hlt : k < len
        · have R := HR.out.below HB.out
          have q0 := R.type k hlt
          have q1 := R.value k hlt
          clear R
          obtain ⟨t0, t1⟩ := HT.out k hlt
          have l1 := HL.out k hlt
          have HE := hide (encL_succ ty L k)
          have HM := hide (hmono.out (k + 1) (by omega))
          have HIw := hide (HR.out.bytes k hlt)
          have hck : (k : Int) < (len : Int) := by omega
          have zr := HB.out.size
          obtain ⟨oa, oc, hv⟩ := REnc_shape HO.out
          subst hv
          have np1 := numB_pos (ty k)
          have nl1 := numB_le (ty k)
          have np2 := numB_pos ((L k).length : Int)
          have nl2 := numB_le ((L k).length : Int)
          obtain ⟨n, hn⟩ : ∃ n, (L k).length = n := ⟨_, rfl⟩
          have HN := hide hn
          rw [hn] at q1 l1 HE np2 nl2
          clear hn
          generalize ty k = x at *
          generalize encL ty L k = Z at *
          have HN1 := hide (fun W => rnum_any x W t0 t1)
          have HN2 := hide (fun W => rnum_any (n : Int) W (by omega) (by omega))
          generalize numB x = N1 at *
          generalize numB (n : Int) = N2 at *
          have HW := hide (wrap_n n (by omega))
          rw [← HW.out] at HN2
          have q0d : wr.drew.cell? ⟨b, off + k * 2, none⟩ = some (.int .u64 x) := q0
          have q1d : wr.drew.cell? ⟨b, off + k * 2 + 1, none⟩ = some (.slice (ao k) n (cp k)) := q1
          go_wp2
          have hbl := HR.out.lt
          have HS := hide (show St w b (off + k * 2) x (ao k) n (cp k) wr (.slice oa Z.length oc) Z.length Z from ⟨HO.out, q0, q1, HB.out⟩)
          have HSD := hide (show St w b (off + k * 2) x (ao k) n (cp k) wr.drew (.slice oa Z.length oc) Z.length Z from ⟨HO.out, q0, q1, HB.out.drew⟩)
          have b1 : Z.length + N1.length ≤ maxLen := by unfold maxLen; omega
          have b2 : (Z.length + N1.length) * 1 ≤ 140737488355328 := by omega
          have b3 : Z.length + N1.length + N2.length ≤ maxLen := by unfold maxLen; omega
          have b4 : (Z.length + N1.length + N2.length) * 1 ≤ 140737488355328 := by omega
          have u1 : (U8 N1).length = N1.length * 1 := by rw [U8_length, Nat.mul_one]
          have u2' : (U8 N2).length = N2.length * 1 := by rw [U8_length, Nat.mul_one]
          have B1 := hide b1
          have B2 := hide b2
          have B3 := hide b3
          have B4 := hide b4
          have U1 := hide u1
          have U2 := hide u2'
          clear b1 b2 b3 b4 u1 u2'
          go_region_held3 (fun w' => w'.cell? ⟨b, off + k * 2, none⟩ = some (.int .u64 x) ∧ w'.cell? ⟨b, off + k * 2 + 1, none⟩ = some (.slice (ao k) n (cp k))) (exact ⟨by assumption, by assumption⟩)
            (first
              | (refine step_append_lies _ rfl (.tmp 34) (.tmp 40) 23 rfl w.heap.size 5 i0 (.int .u8 0) 1 1 Try.underlying23 hi hz0 hz1 hz2 rfl (by decide) _ Z.length (U8 Z) rfl S3.out.row ⟨g1, 0, none⟩ N1.length c1 (U8 N1) rfl U1.out A1B.out.1 (one_u8 _) np1 B1.out B2.out S3.out.base _ rfl ?_; intro ga ca wa hoa hga hat hlt2; obtain ⟨K5, K6, Sa, A2B⟩ := app_other S3.out hbl hoa hga A2.out)
              | (refine step_append_lies _ rfl (.tmp 34) (.tmp 40) 23 rfl w.heap.size 5 i0 (.int .u8 0) 1 1 Try.underlying23 hi hz0 hz1 hz2 rfl (by decide) _ Z.length (U8 Z) rfl S1.out.row ⟨g1, 0, none⟩ N1.length c1 (U8 N1) rfl U1.out A1.out.1 (one_u8 _) np1 B1.out B2.out S1.out.base _ rfl ?_; intro ga ca wa hoa hga hat hlt2; obtain ⟨K5, K6, Sa⟩ := app_first S1.out hbl hoa hga)
              | (refine step_append_lies _ rfl (.tmp 41) (.tmp 49) 23 rfl w.heap.size 5 i0 (.int .u8 0) 1 1 Try.underlying23 hi hz0 hz1 hz2 rfl (by decide) _ (Z.length + N1.length) (U8 (Z ++ N1)) rfl Sa.out.row ⟨g2, 0, none⟩ N2.length c2 (U8 N2) rfl U2.out A2B.out (one_u8 _) np2 B3.out B4.out Sa.out.base _ rfl ?_; intro gb cb wb hob hgb hat3 hlt3; obtain ⟨K7, K8, Sb⟩ := app_first Sa.out hbl hob hgb)
              | (refine step_append_lies _ rfl (.tmp 41) (.tmp 49) 23 rfl w.heap.size 5 i0 (.int .u8 0) 1 1 Try.underlying23 hi hz0 hz1 hz2 rfl (by decide) _ (Z.length + N1.length) (U8 (Z ++ N1)) rfl S3.out.row ⟨g2, 0, none⟩ N2.length c2 (U8 N2) rfl U2.out A2.out.1 (one_u8 _) np2 B3.out B4.out S3.out.base _ rfl ?_; intro gb cb wb hob hgb hat3 hlt3; obtain ⟨K7, K8, Sb⟩ := app_first S3.out hbl hob hgb)
              | (go_at_call_of 45 (Value.int IntKind.u64 x); refine (HN1.out _).mono ?_; rintro e w1 ⟨v1, rfl, ho1, hb1⟩; obtain ⟨g1, c1, rfl, K1, K2, S1, A1⟩ := num_first HSD.out ho1 hb1 np1)
              | (go_at_call_of 45 (Value.int IntKind.u64 (IntKind.u64.wrap (n : Int))); refine (HN2.out _).mono ?_; rintro e w2 ⟨v2, rfl, ho2, hb2⟩; obtain ⟨g2, c2, rfl, K3, K4, S3, A2⟩ := num_first Sa.out ho2 hb2 np2)
              | (go_at_call_of 45 (Value.int IntKind.u64 (IntKind.u64.wrap (n : Int))); refine (HN2.out _).mono ?_; rintro e w2 ⟨v2, rfl, ho2, hb2⟩; obtain ⟨g2, c2, rfl, K3, K4, S3, A2, A1B⟩ := num_second S1.out A1.out ho2 hb2 np2))
          have z6 := Sb.out.base
          have HIb := hide (HIw.out.below Sb.out.below)
          have HEl := hide (show (encL ty L (k + 1)).length = Z.length + N1.length + N2.length + n by rw [HE.out, List.length_append, List.length_append, List.length_append, HN.out])
          have HML := HM.out
          rw [HEl.out] at HML
          clear K1 K2 K3 K4 K5 K6 q0 q1 q0d q1d S1 S3 Sa A1 A2 HO HB hoa hga hat hob hgb hat3 ho1 hb1 ho2 hb2
          go_wp2_with (at_builtin; refine wpList_append_ownw rfl (.tmp 51) (.tmp 56) rfl w.heap.size _ (Z.length + N1.length + N2.length) (Z ++ N1 ++ N2) rfl Sb.out.row (ao k) n (cp k) (L k) rfl HN.out HIb.out ?d1 ?d2 ?_)
          case d1 => omega
          case d2 => exact z6
          intro v6 w6 ho6 hg6
          have HB6 := hide (Sb.out.below.grown hg6 z6 fun i hi => (Sb.out.row.lt i hi).1)
          have HO6 := hide ho6
          obtain ⟨a6, c6, rfl⟩ := REnc_shape ho6
          clear ho6 hg6
          by_cases hbig : 65536 < Z.length + N1.length + N2.length + n
          · have hbigi : (65536 : Int) < (Z.length : Int) + N1.length + N2.length + n := by omega
            go_wp2
            go_ret2
            exact ⟨.inr ⟨by omega, rfl⟩, HB6.out⟩
          · have hbigi : ¬ (65536 : Int) < (Z.length : Int) + N1.length + N2.length + n := by omega
            go_wp2
            go_roundw
            case rel => exact ⟨k + 1, by omega, by go_num, by rw [HEl.out, HE.out]; simpa only [List.append_assoc] using HO6, by rw [HEl.out]; omega, HB6⟩
            case measure => simp [intOf]; omega
        · have ek : k = len := by omega
          subst ek
          obtain ⟨oa, oc, hv⟩ := REnc_shape HO.out
          subst hv
          go_wp2
          go_ret2
          exact ⟨.inl ⟨he, _, rfl, HO⟩, HB.out⟩

set_option maxRecDepth 100000 in
set_option maxHeartbeats 1000000 in
theorem renc_many (b off len cap : Nat) (ty : Nat → Int) (ao : Nat → Option Addr) (cp : Nat → Nat) (L : Nat → List Int) (w : World) (hR : Recs w b off len ty ao cp L) (hl : len ≤ 4398046511104) (hris : risB ty len = true) (h64 : 64 < len) :
    Calls Try.prog 25 #[.slice (some ⟨b, off, none⟩) len cap] w fun e w' => e = .returned (.tuple #[.slice none 0 0, .int .i64 3]) ∧ Below w.heap.size w w' := by
  have HR := hide hR
  have HZ := hide (of_decide_eq_true hris)
  clear hR hris
  go_enter Try.func25, Try.ntmps25
  go_wp2
  go_loopw [4] (fun i wr => ∃ k : Nat, k + 1 ≤ len ∧ i = .int .i64 ((k : Int) + 1) ∧ Hid (Below w.heap.size w wr)) (fun i _ => len - (intOf i).toNat)
  case atStart => exact ⟨0, by omega, rfl, Below.refl _ _⟩
  case round =>
    obtain ⟨k, hk, rfl, HB⟩ := hrel
    have t1 : ((k : Int) + 1).toNat = k + 1 := by omega
    by_cases hlt : k + 1 < len
    · have R := HR.out.below HB.out
      have q0 : wr.cell? ⟨b, off + k * 2, none⟩ = some (.int .u64 (ty k)) := R.type k (by omega)
      have q1 : wr.cell? ⟨b, off + (k + 1) * 2, none⟩ = some (.int .u64 (ty (k + 1))) := R.type (k + 1) hlt
      have hc := HZ.out k (by omega)
      clear R
      have p1 : (k : Int) + 1 < (len : Int) := by omega
      have p0 : (k : Int) < (len : Int) := by omega
      generalize ty k = x at q0 hc
      generalize ty (k + 1) = y at q1 hc
      go_wp2
      go_quiet (fail)
      go_wp2
      go_roundw
      case rel => exact ⟨k + 1, by omega, by go_num, below_drewN HB.out _⟩
      case measure => simp [intOf]; omega
    · clear t1
      go_wp2
      go_ret2
      exact ⟨rfl, HB.out⟩

set_option maxHeartbeats 1000000 in
theorem renc_none (ao : Option Addr) (cap : Nat) (w : World) :
    Calls Try.prog 25 #[.slice ao 0 cap] w fun e w' => e = .returned (.tuple #[.slice none 0 0, .int .i64 0]) ∧ w' = w := by
  go_enter Try.func25, Try.ntmps25
  go_wp2
  refine wp_loop_rounds 1 ?_
  rw [rounds_succ]
  go_wp2
  refine wp_loop_rounds 1 ?_
  rw [rounds_succ]
  go_wp2
  go_ret2
  exact ⟨rfl, rfl⟩
end Go.Proofs.Ytcbadmkgbaffpaa
