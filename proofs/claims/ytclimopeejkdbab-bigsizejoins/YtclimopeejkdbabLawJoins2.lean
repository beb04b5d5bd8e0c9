/- Proved: for all records and every int the statement BigsizeJoins (P1.2, P1.4: a stream and a further one whose types are above are a stream together) returns true over the code at the commit, and changes none of its arguments. No condition. -/
import Derived.Test.YtclimopeejkdbabRows
import Derived.Test.YtclimopeejkdbabBigEncodeB
import Derived.WalkKit
import Derived.ProofKit
import Derived.OpenShut
import Derived.SizedLaws
namespace Go.Proofs.Ytclimopeejkdbab.bigsizeJoins
open Go.ChangeShapes Go.WideShapes Go.ChangeAt Go.RowKit
set_option linter.unusedVariables false

theorem Recs.pre {w : World} {b off len : Nat} {ty : Nat → Int} {ao : Nat → Option Addr} {cp : Nat → Nat} {L : Nat → List Int} (h : Recs w b off len ty ao cp L) {k : Nat} (hk : k ≤ len) : Recs w b off k ty ao cp L :=
  ⟨h.lt, fun j hj => h.type j (by omega), fun j hj => h.value j (by omega), fun j hj => h.bytes j (by omega)⟩
theorem Recs.suf {w : World} {b off len : Nat} {ty : Nat → Int} {ao : Nat → Option Addr} {cp : Nat → Nat} {L : Nat → List Int} (h : Recs w b off len ty ao cp L) {k : Nat} (hk : k ≤ len) :
    Recs w b (off + k * 2) (len - k) (fun j => ty (k + j)) (fun j => ao (k + j)) (fun j => cp (k + j)) (fun j => L (k + j)) :=
  ⟨h.lt, fun j hj => by have := h.type (k + j) (by omega); rw [show off + (k + j) * 2 = off + k * 2 + j * 2 by omega] at this; exact this,
    fun j hj => by have := h.value (k + j) (by omega); rw [show off + (k + j) * 2 + 1 = off + k * 2 + j * 2 + 1 by omega] at this; exact this, fun j hj => h.bytes (k + j) (by omega)⟩
theorem enc_split (ty : Nat → Int) (L : Nat → List Int) (k : Nat) : ∀ m, encL ty L (k + m) = encL ty L k ++ encL (fun j => ty (k + j)) (fun j => L (k + j)) m
  | 0 => by simp [encL]
  | m + 1 => by
    show encL ty L (k + m) ++ recB (ty (k + m)) (L (k + m)) = encL ty L k ++ (encL (fun j => ty (k + j)) (fun j => L (k + j)) m ++ recB (ty (k + m)) (L (k + m)))
    rw [enc_split ty L k m, List.append_assoc]
theorem ris_pre {ty : Nat → Int} {len k : Nat} (h : risB ty len = true) (hk : k ≤ len) : risB ty k = true :=
  decide_eq_true fun j hj => of_decide_eq_true h j (by omega)
theorem ris_suf {ty : Nat → Int} {len k : Nat} (h : risB ty len = true) (hk : k ≤ len) : risB (fun j => ty (k + j)) (len - k) = true :=
  decide_eq_true fun j hj => of_decide_eq_true h (k + j) (by omega)

theorem roomB {w : World} {B g : Nat} {zs : List Int} {c : Nat} (h : w.ownsRow B 5 1 (Room g zs.length c) zs.length (U8 zs)) : IsB w (some ⟨g, 0, none⟩) c zs :=
  .inr ⟨_, rfl, h.cells (g := g) rfl⟩

set_option maxHeartbeats 1000000 in
/-- where Encode refuses -/
theorem walk_no (b off len cap : Nat) (at' E : Int) (w : World) (H : Hid (Calls Try.prog 12 #[.slice (some ⟨b, off, none⟩) len cap] w fun e w' => e = .returned (.tuple #[.slice none 0 0, .int .i64 E]) ∧ Below w.heap.size w w')) (hE : (E != 0) = true) :
    Calls Try.prog 4 #[.slice (some ⟨b, off, none⟩) len cap, .int .i64 at'] w fun e w' => e = .returned (.bool true) ∧ Below w.heap.size w w' := by
  go_enter Try.func4, Try.ntmps4
  go_wp2_with fail
  refine H.out.mono ?_
  rintro e w1 ⟨rfl, hb⟩
  have HB1 := hide hb
  have z1 := hb.size
  clear hb
  go_wp2_with fail
  refine (lives_any _).mono ?_
  rintro e w2 ⟨rfl, hb⟩
  have HB2 := hide (HB1.out.trans (hb.mono z1))
  clear hb
  go_wp2
  go_ret
  exact ⟨rfl, HB2.out⟩

set_option maxHeartbeats 1000000 in
/-- no records -/
theorem walk_none (ao : Option Addr) (cap : Nat) (at' : Int) (w : World) :
    Calls Try.prog 4 #[.slice ao 0 cap, .int .i64 at'] w fun e w' => e = .returned (.bool true) ∧ Below w.heap.size w w' := by
  go_enter Try.func4, Try.ntmps4
  go_wp2_with fail
  refine (enc_none _ _ _).mono ?_
  rintro e w1 ⟨g1, rfl, ho, hb⟩
  have HB1 := hide hb
  have i1 := hide (roomB (zs := []) ho.out)
  have z1 := hb.size
  clear hb ho
  go_wp2_with fail
  refine (lives_any _).mono ?_
  rintro e w2 ⟨rfl, hb⟩
  have HB2 := hide (HB1.out.trans (hb.mono z1))
  have i2 := hide (i1.out.below hb)
  have z2 := HB2.out.size
  clear hb i1
  go_wp2_with fail
  refine (enc_none _ _ _).mono ?_
  rintro e w3 ⟨g3, rfl, ho, hb⟩
  have HB3 := hide (HB2.out.trans (hb.mono z2))
  have i3 := hide (i2.out.below hb)
  have j3 := hide (roomB (zs := []) ho.out)
  have z3 := HB3.out.size
  clear hb ho i2
  go_wp2_with fail
  refine (enc_none _ _ _).mono ?_
  rintro e w4 ⟨g4, rfl, ho, hb⟩
  have HB4 := hide (HB3.out.trans (hb.mono z3))
  have c1 : (convert 23 9 (.slice (some ⟨g1, 0, none⟩) 0 0)).run Try.prog w4 = .ok (.string (strOfNums [])) w4 := conv_any (i3.out.below hb)
  have c2 : (convert 23 9 (.slice (some ⟨g3, 0, none⟩) 0 0)).run Try.prog w4 = .ok (.string (strOfNums [])) w4 := conv_any (j3.out.below hb)
  have c3 : (convert 23 9 (.slice (some ⟨g4, 0, none⟩) 0 0)).run Try.prog w4 = .ok (.string (strOfNums [])) w4 := conv_any (roomB (zs := []) ho.out)
  have es := str_append [] []
  have s1 : (strOfNums []).size = 0 := rfl
  clear hb ho i3 j3
  go_wp2
  go_ret
  exact ⟨by simp, HB4.out⟩

set_option maxHeartbeats 1000000 in
theorem in_p (b off len cap K : Nat) (ty : Nat → Int) (ao : Nat → Option Addr) (cp : Nat → Nat) (L : Nat → List Int) (at' : Int) (w : World) (hR : Recs w b off len ty ao cp L) (h0 : 0 < len) (hl : len ≤ 64) (hlc : len ≤ cap) (hcap : cap ≤ 140737488351232)
    (hL : ∀ k, k < len → (L k).length ≤ 140737488351232) (ht : ∀ k, k < len → 0 ≤ ty k ∧ ty k ≤ 18446744073709551615) (hris : risB ty len = true) (hsz : (encL ty L len).length ≤ 65536) (hp : 0 ≤ at') (hat : at' % ((len : Int) + 1) = (K : Int)) (hK : K < len) (a1 : -9223372036854775808 ≤ at') (a2 : at' ≤ 9223372036854775807) :
    Calls Try.prog 4 #[.slice (some ⟨b, off, none⟩) len cap, .int .i64 at'] w fun e w' => e = .returned (.bool true) ∧ Below w.heap.size w w' := by
  have HR := hide hR
  have H1 := hide (fun w (h : Recs w b off len ty ao cp L) => enc_ok b off len cap ty ao cp L w h hl hL ht hris hsz)
  have hsp := enc_split ty L K (len - K)
  rw [show K + (len - K) = len by omega] at hsp
  have hpl : (encL ty L K).length ≤ 65536 := Nat.le_trans (encL_mono ty L len K (by omega)) hsz
  have hql : (encL (fun j => ty (K + j)) (fun j => L (K + j)) (len - K)).length ≤ 65536 := by rw [hsp, List.length_append] at hsz; omega
  have H2 := hide (fun w (h : Recs w b off len ty ao cp L) => enc_ok b off K cap ty ao cp L w (Recs.pre h (by omega)) (by omega) (fun k hk => hL k (by omega)) (fun k hk => ht k (by omega)) (ris_pre hris (by omega)) hpl)
  have H3 := hide (fun w (h : Recs w b off len ty ao cp L) => enc_ok b (off + K * 2) (len - K) (cap - K) (fun j => ty (K + j)) (fun j => ao (K + j)) (fun j => cp (K + j)) (fun j => L (K + j)) w (Recs.suf h (by omega)) (by omega) (fun k hk => hL (K + k) (by omega)) (fun k hk => ht (K + k) (by omega)) (ris_suf hris (by omega)) hql)
  rw [hsp] at H1 hsz
  clear hR hL ht hris hsp
  generalize encL ty L K = X at *
  generalize encL (fun j => ty (K + j)) (fun j => L (K + j)) (len - K) = Y at *
  have HES := hide (str_append X Y)
  obtain ⟨xl, hxl⟩ : ∃ xl, X.length = xl := ⟨_, rfl⟩
  obtain ⟨yl, hyl⟩ : ∃ yl, Y.length = yl := ⟨_, rfl⟩
  have HXL := hide hxl
  have HYL := hide hyl
  rw [List.length_append, hxl, hyl] at H1 hsz
  rw [hxl] at H2
  rw [hyl] at H3
  have sx : (strOfNums X).size = xl := (strOfNums_size X).trans hxl
  have sy : (strOfNums Y).size = yl := (strOfNums_size Y).trans hyl
  clear hxl hyl hpl hql
  generalize hsa : strOfNums X = sa at *
  generalize hsb : strOfNums Y = sb at *
  generalize hsc : strOfNums (X ++ Y) = sc at *
  have HSA := hide hsa
  have HSB := hide hsb
  have HSC := hide hsc
  clear hsa hsb hsc
  have p0 : (0 : Int) < (len : Int) := by omega
  go_enter Try.func4, Try.ntmps4
  go_wp2_with fail
  refine (H1.out _ HR.out).mono ?_
  rintro e w1 ⟨g1, rfl, ho, hb⟩
  have HB1 := hide hb
  have i1 : Hid (IsB w1 (some ⟨g1, 0, none⟩) (xl + yl) (X ++ Y)) := by have h := ho.out; rw [show xl + yl = (X ++ Y).length by rw [List.length_append, HXL.out, HYL.out]] at h; have h2 := roomB h; rw [List.length_append, HXL.out, HYL.out] at h2; exact h2
  have HR1 := hide (HR.out.below hb)
  have z1 := hb.size
  clear hb ho HR
  go_wp2_with fail
  refine (lives_any _).mono ?_
  rintro e w2 ⟨rfl, hb⟩
  have HB2 := hide (HB1.out.trans (hb.mono z1))
  have i2 := hide (i1.out.below hb)
  have HR2 := hide (HR1.out.below hb)
  have z2 := HB2.out.size
  clear hb i1 HR1
  go_wp2_with fail
  refine (H2.out _ HR2.out).mono ?_
  rintro e w3 ⟨g3, rfl, ho, hb⟩
  have HB3 := hide (HB2.out.trans (hb.mono z2))
  have i3 := hide (i2.out.below hb)
  have j3 : Hid (IsB w3 (some ⟨g3, 0, none⟩) xl X) := by have h := ho.out; rw [← HXL.out] at h; have h2 := roomB h; rw [HXL.out] at h2; exact h2
  have HR3 := hide (HR2.out.below hb)
  have z3 := HB3.out.size
  clear hb ho i2 HR2
  go_wp2_with fail
  refine (H3.out _ HR3.out).mono ?_
  rintro e w4 ⟨g4, rfl, ho, hb⟩
  have HB4 := hide (HB3.out.trans (hb.mono z3))
  have c1 : (convert 23 9 (.slice (some ⟨g1, 0, none⟩) (xl + yl) (xl + yl))).run Try.prog w4 = .ok (.string sc) w4 := by
    have h := conv_any (i3.out.below hb)
    rw [List.length_append, HXL.out, HYL.out, HSC.out] at h; exact h
  have c2 : (convert 23 9 (.slice (some ⟨g3, 0, none⟩) xl xl)).run Try.prog w4 = .ok (.string sa) w4 := by
    have h := conv_any (j3.out.below hb)
    rw [HXL.out, HSA.out] at h
    exact h
  have c3 : (convert 23 9 (.slice (some ⟨g4, 0, none⟩) yl yl)).run Try.prog w4 = .ok (.string sb) w4 := by
    have h0 := ho.out
    rw [← HYL.out] at h0
    have h := conv_any (roomB h0)
    rw [HYL.out, HSB.out] at h
    exact h
  have es' := HES.out
  clear hb ho i3 j3 HES
  go_wp2
  go_ret
  exact ⟨by simp, HB4.out⟩

set_option maxHeartbeats 1000000 in
theorem endd_p (b off len cap K : Nat) (ty : Nat → Int) (ao : Nat → Option Addr) (cp : Nat → Nat) (L : Nat → List Int) (at' : Int) (w : World) (hR : Recs w b off len ty ao cp L) (h0 : 0 < len) (hl : len ≤ 64) (hlc : len ≤ cap) (hcap : cap ≤ 140737488351232)
    (hL : ∀ k, k < len → (L k).length ≤ 140737488351232) (ht : ∀ k, k < len → 0 ≤ ty k ∧ ty k ≤ 18446744073709551615) (hris : risB ty len = true) (hsz : (encL ty L len).length ≤ 65536) (hp : 0 ≤ at') (hat : at' % ((len : Int) + 1) = (K : Int)) (hK : K = len ∧ ¬ cap = K) (a1 : -9223372036854775808 ≤ at') (a2 : at' ≤ 9223372036854775807) :
    Calls Try.prog 4 #[.slice (some ⟨b, off, none⟩) len cap, .int .i64 at'] w fun e w' => e = .returned (.bool true) ∧ Below w.heap.size w w' := by
  have HR := hide hR
  have H1 := hide (fun w (h : Recs w b off len ty ao cp L) => enc_ok b off len cap ty ao cp L w h hl hL ht hris hsz)
  have H3 := hide (fun ao cap w => enc_none ao cap w)
  obtain ⟨hK, hck⟩ := hK
  subst hK
  clear hR hL ht hris
  generalize encL ty L K = X at *
  have HES := hide (show strOfNums X ++ strOfNums [] = strOfNums X by rw [str_append, List.append_nil])
  obtain ⟨xl, hxl⟩ : ∃ xl, X.length = xl := ⟨_, rfl⟩
  have HXL := hide hxl
  rw [hxl] at H1 hsz
  have sx : (strOfNums X).size = xl := (strOfNums_size X).trans hxl
  have sy : (strOfNums []).size = 0 := rfl
  clear hxl
  generalize hsa : strOfNums X = sa at *
  generalize hsb : strOfNums [] = sb at *
  have HSA := hide hsa
  have HSB := hide hsb
  clear hsa hsb
  have p0 : (0 : Int) < (K : Int) := by omega
  go_enter Try.func4, Try.ntmps4
  go_wp2_with fail
  refine (H1.out _ HR.out).mono ?_
  rintro e w1 ⟨g1, rfl, ho, hb⟩
  have HB1 := hide hb
  have i1 : Hid (IsB w1 (some ⟨g1, 0, none⟩) (xl) (X)) := by have h := ho.out; rw [← HXL.out] at h; have h2 := roomB h; rw [HXL.out] at h2; exact h2
  have HR1 := hide (HR.out.below hb)
  have z1 := hb.size
  clear hb ho HR
  go_wp2_with fail
  refine (lives_any _).mono ?_
  rintro e w2 ⟨rfl, hb⟩
  have HB2 := hide (HB1.out.trans (hb.mono z1))
  have i2 := hide (i1.out.below hb)
  have HR2 := hide (HR1.out.below hb)
  have z2 := HB2.out.size
  clear hb i1 HR1
  go_wp2_with fail
  refine (H1.out _ HR2.out).mono ?_
  rintro e w3 ⟨g3, rfl, ho, hb⟩
  have HB3 := hide (HB2.out.trans (hb.mono z2))
  have i3 := hide (i2.out.below hb)
  have j3 : Hid (IsB w3 (some ⟨g3, 0, none⟩) xl X) := by have h := ho.out; rw [← HXL.out] at h; have h2 := roomB h; rw [HXL.out] at h2; exact h2
  have HR3 := hide (HR2.out.below hb)
  have z3 := HB3.out.size
  clear hb ho i2 HR2
  go_wp2_with fail
  refine (H3.out _ _ _).mono ?_
  rintro e w4 ⟨g4, rfl, ho, hb⟩
  have HB4 := hide (HB3.out.trans (hb.mono z3))
  have c1 : (convert 23 9 (.slice (some ⟨g1, 0, none⟩) (xl) (xl))).run Try.prog w4 = .ok (.string sa) w4 := by
    have h := conv_any (i3.out.below hb)
    rw [HXL.out, HSA.out] at h; exact h
  have c2 : (convert 23 9 (.slice (some ⟨g3, 0, none⟩) xl xl)).run Try.prog w4 = .ok (.string sa) w4 := by
    have h := conv_any (j3.out.below hb)
    rw [HXL.out, HSA.out] at h
    exact h
  have c3 : (convert 23 9 (.slice (some ⟨g4, 0, none⟩) 0 0)).run Try.prog w4 = .ok (.string sb) w4 := by
    have h := conv_any (roomB (zs := []) ho.out)
    rw [HSB.out] at h
    exact h
  have es' := HES.out
  clear hb ho i3 j3 HES
  go_wp2
  go_ret
  exact ⟨by simp, HB4.out⟩

set_option maxHeartbeats 1000000 in
theorem ende_p (b off len cap K : Nat) (ty : Nat → Int) (ao : Nat → Option Addr) (cp : Nat → Nat) (L : Nat → List Int) (at' : Int) (w : World) (hR : Recs w b off len ty ao cp L) (h0 : 0 < len) (hl : len ≤ 64) (hlc : len ≤ cap) (hcap : cap ≤ 140737488351232)
    (hL : ∀ k, k < len → (L k).length ≤ 140737488351232) (ht : ∀ k, k < len → 0 ≤ ty k ∧ ty k ≤ 18446744073709551615) (hris : risB ty len = true) (hsz : (encL ty L len).length ≤ 65536) (hp : 0 ≤ at') (hat : at' % ((len : Int) + 1) = (K : Int)) (hK : K = len ∧ cap = K) (a1 : -9223372036854775808 ≤ at') (a2 : at' ≤ 9223372036854775807) :
    Calls Try.prog 4 #[.slice (some ⟨b, off, none⟩) len cap, .int .i64 at'] w fun e w' => e = .returned (.bool true) ∧ Below w.heap.size w w' := by
  obtain ⟨hK, hck⟩ := hK
  subst hck
  subst hK
  have HR := hide hR
  have H1 := hide (fun w (h : Recs w b off cap ty ao cp L) => enc_ok b off cap cap ty ao cp L w h hl hL ht hris hsz)
  have H3 := hide (fun ao cap w => enc_none ao cap w)
  clear hR hL ht hris
  generalize encL ty L cap = X at *
  have HES := hide (show strOfNums X ++ strOfNums [] = strOfNums X by rw [str_append, List.append_nil])
  obtain ⟨xl, hxl⟩ : ∃ xl, X.length = xl := ⟨_, rfl⟩
  have HXL := hide hxl
  rw [hxl] at H1 hsz
  have sx : (strOfNums X).size = xl := (strOfNums_size X).trans hxl
  have sy : (strOfNums []).size = 0 := rfl
  clear hxl
  generalize hsa : strOfNums X = sa at *
  generalize hsb : strOfNums [] = sb at *
  have HSA := hide hsa
  have HSB := hide hsb
  clear hsa hsb
  have p0 : (0 : Int) < (cap : Int) := by omega
  go_enter Try.func4, Try.ntmps4
  go_wp2_with fail
  refine (H1.out _ HR.out).mono ?_
  rintro e w1 ⟨g1, rfl, ho, hb⟩
  have HB1 := hide hb
  have i1 : Hid (IsB w1 (some ⟨g1, 0, none⟩) (xl) (X)) := by have h := ho.out; rw [← HXL.out] at h; have h2 := roomB h; rw [HXL.out] at h2; exact h2
  have HR1 := hide (HR.out.below hb)
  have z1 := hb.size
  clear hb ho HR
  go_wp2_with fail
  refine (lives_any _).mono ?_
  rintro e w2 ⟨rfl, hb⟩
  have HB2 := hide (HB1.out.trans (hb.mono z1))
  have i2 := hide (i1.out.below hb)
  have HR2 := hide (HR1.out.below hb)
  have z2 := HB2.out.size
  clear hb i1 HR1
  go_wp2_with fail
  refine (H1.out _ HR2.out).mono ?_
  rintro e w3 ⟨g3, rfl, ho, hb⟩
  have HB3 := hide (HB2.out.trans (hb.mono z2))
  have i3 := hide (i2.out.below hb)
  have j3 : Hid (IsB w3 (some ⟨g3, 0, none⟩) xl X) := by have h := ho.out; rw [← HXL.out] at h; have h2 := roomB h; rw [HXL.out] at h2; exact h2
  have HR3 := hide (HR2.out.below hb)
  have z3 := HB3.out.size
  clear hb ho i2 HR2
  go_wp2_with fail
  refine (H3.out _ _ _).mono ?_
  rintro e w4 ⟨g4, rfl, ho, hb⟩
  have HB4 := hide (HB3.out.trans (hb.mono z3))
  have c1 : (convert 23 9 (.slice (some ⟨g1, 0, none⟩) (xl) (xl))).run Try.prog w4 = .ok (.string sa) w4 := by
    have h := conv_any (i3.out.below hb)
    rw [HXL.out, HSA.out] at h; exact h
  have c2 : (convert 23 9 (.slice (some ⟨g3, 0, none⟩) xl xl)).run Try.prog w4 = .ok (.string sa) w4 := by
    have h := conv_any (j3.out.below hb)
    rw [HXL.out, HSA.out] at h
    exact h
  have c3 : (convert 23 9 (.slice (some ⟨g4, 0, none⟩) 0 0)).run Try.prog w4 = .ok (.string sb) w4 := by
    have h := conv_any (roomB (zs := []) ho.out)
    rw [HSB.out] at h
    exact h
  have es' := HES.out
  clear hb ho i3 j3 HES
  go_wp2
  go_ret
  exact ⟨by simp, HB4.out⟩

set_option maxHeartbeats 1000000 in
theorem in_n (b off len cap K : Nat) (ty : Nat → Int) (ao : Nat → Option Addr) (cp : Nat → Nat) (L : Nat → List Int) (at' : Int) (w : World) (hR : Recs w b off len ty ao cp L) (h0 : 0 < len) (hl : len ≤ 64) (hlc : len ≤ cap) (hcap : cap ≤ 140737488351232)
    (hL : ∀ k, k < len → (L k).length ≤ 140737488351232) (ht : ∀ k, k < len → 0 ≤ ty k ∧ ty k ≤ 18446744073709551615) (hris : risB ty len = true) (hsz : (encL ty L len).length ≤ 65536) (hp : at' < 0) (hK1 : 0 < K) (hat : at'.tmod ((len : Int) + 1) = -(K : Int)) (hK : K < len) (a1 : -9223372036854775808 ≤ at') (a2 : at' ≤ 9223372036854775807) :
    Calls Try.prog 4 #[.slice (some ⟨b, off, none⟩) len cap, .int .i64 at'] w fun e w' => e = .returned (.bool true) ∧ Below w.heap.size w w' := by
  have HR := hide hR
  have H1 := hide (fun w (h : Recs w b off len ty ao cp L) => enc_ok b off len cap ty ao cp L w h hl hL ht hris hsz)
  have hsp := enc_split ty L K (len - K)
  rw [show K + (len - K) = len by omega] at hsp
  have hpl : (encL ty L K).length ≤ 65536 := Nat.le_trans (encL_mono ty L len K (by omega)) hsz
  have hql : (encL (fun j => ty (K + j)) (fun j => L (K + j)) (len - K)).length ≤ 65536 := by rw [hsp, List.length_append] at hsz; omega
  have H2 := hide (fun w (h : Recs w b off len ty ao cp L) => enc_ok b off K cap ty ao cp L w (Recs.pre h (by omega)) (by omega) (fun k hk => hL k (by omega)) (fun k hk => ht k (by omega)) (ris_pre hris (by omega)) hpl)
  have H3 := hide (fun w (h : Recs w b off len ty ao cp L) => enc_ok b (off + K * 2) (len - K) (cap - K) (fun j => ty (K + j)) (fun j => ao (K + j)) (fun j => cp (K + j)) (fun j => L (K + j)) w (Recs.suf h (by omega)) (by omega) (fun k hk => hL (K + k) (by omega)) (fun k hk => ht (K + k) (by omega)) (ris_suf hris (by omega)) hql)
  rw [hsp] at H1 hsz
  clear hR hL ht hris hsp
  generalize encL ty L K = X at *
  generalize encL (fun j => ty (K + j)) (fun j => L (K + j)) (len - K) = Y at *
  have HES := hide (str_append X Y)
  obtain ⟨xl, hxl⟩ : ∃ xl, X.length = xl := ⟨_, rfl⟩
  obtain ⟨yl, hyl⟩ : ∃ yl, Y.length = yl := ⟨_, rfl⟩
  have HXL := hide hxl
  have HYL := hide hyl
  rw [List.length_append, hxl, hyl] at H1 hsz
  rw [hxl] at H2
  rw [hyl] at H3
  have sx : (strOfNums X).size = xl := (strOfNums_size X).trans hxl
  have sy : (strOfNums Y).size = yl := (strOfNums_size Y).trans hyl
  clear hxl hyl hpl hql
  generalize hsa : strOfNums X = sa at *
  generalize hsb : strOfNums Y = sb at *
  generalize hsc : strOfNums (X ++ Y) = sc at *
  have HSA := hide hsa
  have HSB := hide hsb
  have HSC := hide hsc
  clear hsa hsb hsc
  have p0 : (0 : Int) < (len : Int) := by omega
  go_enter Try.func4, Try.ntmps4
  go_wp2_with fail
  refine (H1.out _ HR.out).mono ?_
  rintro e w1 ⟨g1, rfl, ho, hb⟩
  have HB1 := hide hb
  have i1 : Hid (IsB w1 (some ⟨g1, 0, none⟩) (xl + yl) (X ++ Y)) := by have h := ho.out; rw [show xl + yl = (X ++ Y).length by rw [List.length_append, HXL.out, HYL.out]] at h; have h2 := roomB h; rw [List.length_append, HXL.out, HYL.out] at h2; exact h2
  have HR1 := hide (HR.out.below hb)
  have z1 := hb.size
  clear hb ho HR
  go_wp2_with fail
  refine (lives_any _).mono ?_
  rintro e w2 ⟨rfl, hb⟩
  have HB2 := hide (HB1.out.trans (hb.mono z1))
  have i2 := hide (i1.out.below hb)
  have HR2 := hide (HR1.out.below hb)
  have z2 := HB2.out.size
  clear hb i1 HR1
  go_wp2_with fail
  refine (H2.out _ HR2.out).mono ?_
  rintro e w3 ⟨g3, rfl, ho, hb⟩
  have HB3 := hide (HB2.out.trans (hb.mono z2))
  have i3 := hide (i2.out.below hb)
  have j3 : Hid (IsB w3 (some ⟨g3, 0, none⟩) xl X) := by have h := ho.out; rw [← HXL.out] at h; have h2 := roomB h; rw [HXL.out] at h2; exact h2
  have HR3 := hide (HR2.out.below hb)
  have z3 := HB3.out.size
  clear hb ho i2 HR2
  go_wp2_with fail
  refine (H3.out _ HR3.out).mono ?_
  rintro e w4 ⟨g4, rfl, ho, hb⟩
  have HB4 := hide (HB3.out.trans (hb.mono z3))
  have c1 : (convert 23 9 (.slice (some ⟨g1, 0, none⟩) (xl + yl) (xl + yl))).run Try.prog w4 = .ok (.string sc) w4 := by
    have h := conv_any (i3.out.below hb)
    rw [List.length_append, HXL.out, HYL.out, HSC.out] at h; exact h
  have c2 : (convert 23 9 (.slice (some ⟨g3, 0, none⟩) xl xl)).run Try.prog w4 = .ok (.string sa) w4 := by
    have h := conv_any (j3.out.below hb)
    rw [HXL.out, HSA.out] at h
    exact h
  have c3 : (convert 23 9 (.slice (some ⟨g4, 0, none⟩) yl yl)).run Try.prog w4 = .ok (.string sb) w4 := by
    have h0 := ho.out
    rw [← HYL.out] at h0
    have h := conv_any (roomB h0)
    rw [HYL.out, HSB.out] at h
    exact h
  have es' := HES.out
  clear hb ho i3 j3 HES
  go_wp2
  go_ret
  exact ⟨by simp, HB4.out⟩

set_option maxHeartbeats 1000000 in
theorem endd_n (b off len cap K : Nat) (ty : Nat → Int) (ao : Nat → Option Addr) (cp : Nat → Nat) (L : Nat → List Int) (at' : Int) (w : World) (hR : Recs w b off len ty ao cp L) (h0 : 0 < len) (hl : len ≤ 64) (hlc : len ≤ cap) (hcap : cap ≤ 140737488351232)
    (hL : ∀ k, k < len → (L k).length ≤ 140737488351232) (ht : ∀ k, k < len → 0 ≤ ty k ∧ ty k ≤ 18446744073709551615) (hris : risB ty len = true) (hsz : (encL ty L len).length ≤ 65536) (hp : at' < 0) (hK1 : 0 < K) (hat : at'.tmod ((len : Int) + 1) = -(K : Int)) (hK : K = len ∧ ¬ cap = K) (a1 : -9223372036854775808 ≤ at') (a2 : at' ≤ 9223372036854775807) :
    Calls Try.prog 4 #[.slice (some ⟨b, off, none⟩) len cap, .int .i64 at'] w fun e w' => e = .returned (.bool true) ∧ Below w.heap.size w w' := by
  have HR := hide hR
  have H1 := hide (fun w (h : Recs w b off len ty ao cp L) => enc_ok b off len cap ty ao cp L w h hl hL ht hris hsz)
  have H3 := hide (fun ao cap w => enc_none ao cap w)
  obtain ⟨hK, hck⟩ := hK
  subst hK
  clear hR hL ht hris
  generalize encL ty L K = X at *
  have HES := hide (show strOfNums X ++ strOfNums [] = strOfNums X by rw [str_append, List.append_nil])
  obtain ⟨xl, hxl⟩ : ∃ xl, X.length = xl := ⟨_, rfl⟩
  have HXL := hide hxl
  rw [hxl] at H1 hsz
  have sx : (strOfNums X).size = xl := (strOfNums_size X).trans hxl
  have sy : (strOfNums []).size = 0 := rfl
  clear hxl
  generalize hsa : strOfNums X = sa at *
  generalize hsb : strOfNums [] = sb at *
  have HSA := hide hsa
  have HSB := hide hsb
  clear hsa hsb
  have p0 : (0 : Int) < (K : Int) := by omega
  go_enter Try.func4, Try.ntmps4
  go_wp2_with fail
  refine (H1.out _ HR.out).mono ?_
  rintro e w1 ⟨g1, rfl, ho, hb⟩
  have HB1 := hide hb
  have i1 : Hid (IsB w1 (some ⟨g1, 0, none⟩) (xl) (X)) := by have h := ho.out; rw [← HXL.out] at h; have h2 := roomB h; rw [HXL.out] at h2; exact h2
  have HR1 := hide (HR.out.below hb)
  have z1 := hb.size
  clear hb ho HR
  go_wp2_with fail
  refine (lives_any _).mono ?_
  rintro e w2 ⟨rfl, hb⟩
  have HB2 := hide (HB1.out.trans (hb.mono z1))
  have i2 := hide (i1.out.below hb)
  have HR2 := hide (HR1.out.below hb)
  have z2 := HB2.out.size
  clear hb i1 HR1
  go_wp2_with fail
  refine (H1.out _ HR2.out).mono ?_
  rintro e w3 ⟨g3, rfl, ho, hb⟩
  have HB3 := hide (HB2.out.trans (hb.mono z2))
  have i3 := hide (i2.out.below hb)
  have j3 : Hid (IsB w3 (some ⟨g3, 0, none⟩) xl X) := by have h := ho.out; rw [← HXL.out] at h; have h2 := roomB h; rw [HXL.out] at h2; exact h2
  have HR3 := hide (HR2.out.below hb)
  have z3 := HB3.out.size
  clear hb ho i2 HR2
  go_wp2_with fail
  refine (H3.out _ _ _).mono ?_
  rintro e w4 ⟨g4, rfl, ho, hb⟩
  have HB4 := hide (HB3.out.trans (hb.mono z3))
  have c1 : (convert 23 9 (.slice (some ⟨g1, 0, none⟩) (xl) (xl))).run Try.prog w4 = .ok (.string sa) w4 := by
    have h := conv_any (i3.out.below hb)
    rw [HXL.out, HSA.out] at h; exact h
  have c2 : (convert 23 9 (.slice (some ⟨g3, 0, none⟩) xl xl)).run Try.prog w4 = .ok (.string sa) w4 := by
    have h := conv_any (j3.out.below hb)
    rw [HXL.out, HSA.out] at h
    exact h
  have c3 : (convert 23 9 (.slice (some ⟨g4, 0, none⟩) 0 0)).run Try.prog w4 = .ok (.string sb) w4 := by
    have h := conv_any (roomB (zs := []) ho.out)
    rw [HSB.out] at h
    exact h
  have es' := HES.out
  clear hb ho i3 j3 HES
  go_wp2
  go_ret
  exact ⟨by simp, HB4.out⟩

set_option maxHeartbeats 1000000 in
theorem ende_n (b off len cap K : Nat) (ty : Nat → Int) (ao : Nat → Option Addr) (cp : Nat → Nat) (L : Nat → List Int) (at' : Int) (w : World) (hR : Recs w b off len ty ao cp L) (h0 : 0 < len) (hl : len ≤ 64) (hlc : len ≤ cap) (hcap : cap ≤ 140737488351232)
    (hL : ∀ k, k < len → (L k).length ≤ 140737488351232) (ht : ∀ k, k < len → 0 ≤ ty k ∧ ty k ≤ 18446744073709551615) (hris : risB ty len = true) (hsz : (encL ty L len).length ≤ 65536) (hp : at' < 0) (hK1 : 0 < K) (hat : at'.tmod ((len : Int) + 1) = -(K : Int)) (hK : K = len ∧ cap = K) (a1 : -9223372036854775808 ≤ at') (a2 : at' ≤ 9223372036854775807) :
    Calls Try.prog 4 #[.slice (some ⟨b, off, none⟩) len cap, .int .i64 at'] w fun e w' => e = .returned (.bool true) ∧ Below w.heap.size w w' := by
  obtain ⟨hK, hck⟩ := hK
  subst hck
  subst hK
  have HR := hide hR
  have H1 := hide (fun w (h : Recs w b off cap ty ao cp L) => enc_ok b off cap cap ty ao cp L w h hl hL ht hris hsz)
  have H3 := hide (fun ao cap w => enc_none ao cap w)
  clear hR hL ht hris
  generalize encL ty L cap = X at *
  have HES := hide (show strOfNums X ++ strOfNums [] = strOfNums X by rw [str_append, List.append_nil])
  obtain ⟨xl, hxl⟩ : ∃ xl, X.length = xl := ⟨_, rfl⟩
  have HXL := hide hxl
  rw [hxl] at H1 hsz
  have sx : (strOfNums X).size = xl := (strOfNums_size X).trans hxl
  have sy : (strOfNums []).size = 0 := rfl
  clear hxl
  generalize hsa : strOfNums X = sa at *
  generalize hsb : strOfNums [] = sb at *
  have HSA := hide hsa
  have HSB := hide hsb
  clear hsa hsb
  have p0 : (0 : Int) < (cap : Int) := by omega
  go_enter Try.func4, Try.ntmps4
  go_wp2_with fail
  refine (H1.out _ HR.out).mono ?_
  rintro e w1 ⟨g1, rfl, ho, hb⟩
  have HB1 := hide hb
  have i1 : Hid (IsB w1 (some ⟨g1, 0, none⟩) (xl) (X)) := by have h := ho.out; rw [← HXL.out] at h; have h2 := roomB h; rw [HXL.out] at h2; exact h2
  have HR1 := hide (HR.out.below hb)
  have z1 := hb.size
  clear hb ho HR
  go_wp2_with fail
  refine (lives_any _).mono ?_
  rintro e w2 ⟨rfl, hb⟩
  have HB2 := hide (HB1.out.trans (hb.mono z1))
  have i2 := hide (i1.out.below hb)
  have HR2 := hide (HR1.out.below hb)
  have z2 := HB2.out.size
  clear hb i1 HR1
  go_wp2_with fail
  refine (H1.out _ HR2.out).mono ?_
  rintro e w3 ⟨g3, rfl, ho, hb⟩
  have HB3 := hide (HB2.out.trans (hb.mono z2))
  have i3 := hide (i2.out.below hb)
  have j3 : Hid (IsB w3 (some ⟨g3, 0, none⟩) xl X) := by have h := ho.out; rw [← HXL.out] at h; have h2 := roomB h; rw [HXL.out] at h2; exact h2
  have HR3 := hide (HR2.out.below hb)
  have z3 := HB3.out.size
  clear hb ho i2 HR2
  go_wp2_with fail
  refine (H3.out _ _ _).mono ?_
  rintro e w4 ⟨g4, rfl, ho, hb⟩
  have HB4 := hide (HB3.out.trans (hb.mono z3))
  have c1 : (convert 23 9 (.slice (some ⟨g1, 0, none⟩) (xl) (xl))).run Try.prog w4 = .ok (.string sa) w4 := by
    have h := conv_any (i3.out.below hb)
    rw [HXL.out, HSA.out] at h; exact h
  have c2 : (convert 23 9 (.slice (some ⟨g3, 0, none⟩) xl xl)).run Try.prog w4 = .ok (.string sa) w4 := by
    have h := conv_any (j3.out.below hb)
    rw [HXL.out, HSA.out] at h
    exact h
  have c3 : (convert 23 9 (.slice (some ⟨g4, 0, none⟩) 0 0)).run Try.prog w4 = .ok (.string sb) w4 := by
    have h := conv_any (roomB (zs := []) ho.out)
    rw [HSB.out] at h
    exact h
  have es' := HES.out
  clear hb ho i3 j3 HES
  go_wp2
  go_ret
  exact ⟨by simp, HB4.out⟩

set_option maxHeartbeats 1000000 in
theorem in_z (b off len cap K : Nat) (ty : Nat → Int) (ao : Nat → Option Addr) (cp : Nat → Nat) (L : Nat → List Int) (at' : Int) (w : World) (hR : Recs w b off len ty ao cp L) (h0 : 0 < len) (hl : len ≤ 64) (hlc : len ≤ cap) (hcap : cap ≤ 140737488351232)
    (hL : ∀ k, k < len → (L k).length ≤ 140737488351232) (ht : ∀ k, k < len → 0 ≤ ty k ∧ ty k ≤ 18446744073709551615) (hris : risB ty len = true) (hsz : (encL ty L len).length ≤ 65536) (hp : at' < 0) (hat : at'.tmod ((len : Int) + 1) = (K : Int)) (hK : K < len) (a1 : -9223372036854775808 ≤ at') (a2 : at' ≤ 9223372036854775807) :
    Calls Try.prog 4 #[.slice (some ⟨b, off, none⟩) len cap, .int .i64 at'] w fun e w' => e = .returned (.bool true) ∧ Below w.heap.size w w' := by
  have HR := hide hR
  have H1 := hide (fun w (h : Recs w b off len ty ao cp L) => enc_ok b off len cap ty ao cp L w h hl hL ht hris hsz)
  have hsp := enc_split ty L K (len - K)
  rw [show K + (len - K) = len by omega] at hsp
  have hpl : (encL ty L K).length ≤ 65536 := Nat.le_trans (encL_mono ty L len K (by omega)) hsz
  have hql : (encL (fun j => ty (K + j)) (fun j => L (K + j)) (len - K)).length ≤ 65536 := by rw [hsp, List.length_append] at hsz; omega
  have H2 := hide (fun w (h : Recs w b off len ty ao cp L) => enc_ok b off K cap ty ao cp L w (Recs.pre h (by omega)) (by omega) (fun k hk => hL k (by omega)) (fun k hk => ht k (by omega)) (ris_pre hris (by omega)) hpl)
  have H3 := hide (fun w (h : Recs w b off len ty ao cp L) => enc_ok b (off + K * 2) (len - K) (cap - K) (fun j => ty (K + j)) (fun j => ao (K + j)) (fun j => cp (K + j)) (fun j => L (K + j)) w (Recs.suf h (by omega)) (by omega) (fun k hk => hL (K + k) (by omega)) (fun k hk => ht (K + k) (by omega)) (ris_suf hris (by omega)) hql)
  rw [hsp] at H1 hsz
  clear hR hL ht hris hsp
  generalize encL ty L K = X at *
  generalize encL (fun j => ty (K + j)) (fun j => L (K + j)) (len - K) = Y at *
  have HES := hide (str_append X Y)
  obtain ⟨xl, hxl⟩ : ∃ xl, X.length = xl := ⟨_, rfl⟩
  obtain ⟨yl, hyl⟩ : ∃ yl, Y.length = yl := ⟨_, rfl⟩
  have HXL := hide hxl
  have HYL := hide hyl
  rw [List.length_append, hxl, hyl] at H1 hsz
  rw [hxl] at H2
  rw [hyl] at H3
  have sx : (strOfNums X).size = xl := (strOfNums_size X).trans hxl
  have sy : (strOfNums Y).size = yl := (strOfNums_size Y).trans hyl
  clear hxl hyl hpl hql
  generalize hsa : strOfNums X = sa at *
  generalize hsb : strOfNums Y = sb at *
  generalize hsc : strOfNums (X ++ Y) = sc at *
  have HSA := hide hsa
  have HSB := hide hsb
  have HSC := hide hsc
  clear hsa hsb hsc
  have p0 : (0 : Int) < (len : Int) := by omega
  go_enter Try.func4, Try.ntmps4
  go_wp2_with fail
  refine (H1.out _ HR.out).mono ?_
  rintro e w1 ⟨g1, rfl, ho, hb⟩
  have HB1 := hide hb
  have i1 : Hid (IsB w1 (some ⟨g1, 0, none⟩) (xl + yl) (X ++ Y)) := by have h := ho.out; rw [show xl + yl = (X ++ Y).length by rw [List.length_append, HXL.out, HYL.out]] at h; have h2 := roomB h; rw [List.length_append, HXL.out, HYL.out] at h2; exact h2
  have HR1 := hide (HR.out.below hb)
  have z1 := hb.size
  clear hb ho HR
  go_wp2_with fail
  refine (lives_any _).mono ?_
  rintro e w2 ⟨rfl, hb⟩
  have HB2 := hide (HB1.out.trans (hb.mono z1))
  have i2 := hide (i1.out.below hb)
  have HR2 := hide (HR1.out.below hb)
  have z2 := HB2.out.size
  clear hb i1 HR1
  go_wp2_with fail
  refine (H2.out _ HR2.out).mono ?_
  rintro e w3 ⟨g3, rfl, ho, hb⟩
  have HB3 := hide (HB2.out.trans (hb.mono z2))
  have i3 := hide (i2.out.below hb)
  have j3 : Hid (IsB w3 (some ⟨g3, 0, none⟩) xl X) := by have h := ho.out; rw [← HXL.out] at h; have h2 := roomB h; rw [HXL.out] at h2; exact h2
  have HR3 := hide (HR2.out.below hb)
  have z3 := HB3.out.size
  clear hb ho i2 HR2
  go_wp2_with fail
  refine (H3.out _ HR3.out).mono ?_
  rintro e w4 ⟨g4, rfl, ho, hb⟩
  have HB4 := hide (HB3.out.trans (hb.mono z3))
  have c1 : (convert 23 9 (.slice (some ⟨g1, 0, none⟩) (xl + yl) (xl + yl))).run Try.prog w4 = .ok (.string sc) w4 := by
    have h := conv_any (i3.out.below hb)
    rw [List.length_append, HXL.out, HYL.out, HSC.out] at h; exact h
  have c2 : (convert 23 9 (.slice (some ⟨g3, 0, none⟩) xl xl)).run Try.prog w4 = .ok (.string sa) w4 := by
    have h := conv_any (j3.out.below hb)
    rw [HXL.out, HSA.out] at h
    exact h
  have c3 : (convert 23 9 (.slice (some ⟨g4, 0, none⟩) yl yl)).run Try.prog w4 = .ok (.string sb) w4 := by
    have h0 := ho.out
    rw [← HYL.out] at h0
    have h := conv_any (roomB h0)
    rw [HYL.out, HSB.out] at h
    exact h
  have es' := HES.out
  clear hb ho i3 j3 HES
  go_wp2
  go_ret
  exact ⟨by simp, HB4.out⟩

theorem all_ok (b off len cap : Nat) (ty : Nat → Int) (ao : Nat → Option Addr) (cp : Nat → Nat) (L : Nat → List Int) (at' : Int) (w : World) (hR : Recs w b off len ty ao cp L) (h0 : 0 < len) (hl : len ≤ 64) (hlc : len ≤ cap) (hcap : cap ≤ 140737488351232)
    (hL : ∀ k, k < len → (L k).length ≤ 140737488351232) (ht : ∀ k, k < len → 0 ≤ ty k ∧ ty k ≤ 18446744073709551615) (hris : risB ty len = true) (hsz : (encL ty L len).length ≤ 65536) (a1 : -9223372036854775808 ≤ at') (a2 : at' ≤ 9223372036854775807) :
    Calls Try.prog 4 #[.slice (some ⟨b, off, none⟩) len cap, .int .i64 at'] w fun e w' => e = .returned (.bool true) ∧ Below w.heap.size w w' := by
  by_cases hp : 0 ≤ at'
  · obtain ⟨K, hK⟩ : ∃ K : Nat, at' % ((len : Int) + 1) = (K : Int) := ⟨(at' % ((len : Int) + 1)).toNat, by have := Int.emod_nonneg at' (show (len : Int) + 1 ≠ 0 by omega); omega⟩
    have hlt := Int.emod_lt_of_pos at' (show 0 < (len : Int) + 1 by omega)
    rw [hK] at hlt
    by_cases e : K = len
    · by_cases c : cap = K
      · exact ende_p b off len cap K ty ao cp L at' w hR h0 hl hlc hcap hL ht hris hsz hp hK ⟨e, c⟩ a1 a2
      · exact endd_p b off len cap K ty ao cp L at' w hR h0 hl hlc hcap hL ht hris hsz hp hK ⟨e, c⟩ a1 a2
    · exact in_p b off len cap K ty ao cp L at' w hR h0 hl hlc hcap hL ht hris hsz hp hK (by omega) a1 a2
  · have hneg : at'.tmod ((len : Int) + 1) = -((-at') % ((len : Int) + 1)) := by
      have h1 := Int.neg_tmod (-at') ((len : Int) + 1)
      rw [Int.neg_neg] at h1
      rw [h1, Int.tmod_eq_emod_of_nonneg (show 0 ≤ -at' by omega)]
    obtain ⟨K, hK⟩ : ∃ K : Nat, (-at') % ((len : Int) + 1) = (K : Int) := ⟨((-at') % ((len : Int) + 1)).toNat, by have := Int.emod_nonneg (-at') (show (len : Int) + 1 ≠ 0 by omega); omega⟩
    have hlt := Int.emod_lt_of_pos (-at') (show 0 < (len : Int) + 1 by omega)
    rw [hK] at hlt hneg
    by_cases z : K = 0
    · exact in_z b off len cap K ty ao cp L at' w hR h0 hl hlc hcap hL ht hris hsz (by omega) (by rw [hneg, z]; rfl) (by omega) a1 a2
    · by_cases e : K = len
      · by_cases c : cap = K
        · exact ende_n b off len cap K ty ao cp L at' w hR h0 hl hlc hcap hL ht hris hsz (by omega) (by omega) hneg ⟨e, c⟩ a1 a2
        · exact endd_n b off len cap K ty ao cp L at' w hR h0 hl hlc hcap hL ht hris hsz (by omega) (by omega) hneg ⟨e, c⟩ a1 a2
      · exact in_n b off len cap K ty ao cp L at' w hR h0 hl hlc hcap hL ht hris hsz (by omega) (by omega) hneg (by omega) a1 a2

theorem walk (ao : Option Addr) (len cap : Nat) (at' : Int) (w : World) (w0 : IsRecs w ao len cap) (w1 : (Lit.int .i64 at').wf = true) :
    Calls Try.prog 4 #[.slice ao len cap, .int .i64 at'] w fun e w' => e = .returned (.bool true) ∧ Below w.heap.size w w' := by
  obtain ⟨a1, a2⟩ := bounds_i64 w1
  rcases w0 with ⟨rfl, _⟩ | ⟨b, off, q, rfl, h0, hlc, hcap, hR, hq, _⟩
  · exact walk_none ao cap at' w
  · cases hris : risB (fun k => (q k).1) len
    · exact walk_no b off len cap at' 11 w (enc_order b off len cap _ _ _ _ w hR (by omega) hris) (by decide)
    · by_cases h64 : len ≤ 64
      · by_cases hsz : (encL (fun k => (q k).1) (fun k => (q k).2.2.2) len).length ≤ 65536
        · exact all_ok b off len cap _ _ _ _ at' w hR h0 h64 hlc (by omega) (fun k hk => by have := hq k hk; omega) (fun k hk => by have := hq k hk; omega) hris hsz a1 a2
        · exact walk_no b off len cap at' 3 w (enc_big b off len cap _ _ _ _ w hR h64 (fun k hk => by have := hq k hk; omega) (fun k hk => by have := hq k hk; omega) hris (by omega)) (by decide)
      · exact walk_no b off len cap at' 3 w (enc_many b off len cap _ _ _ _ w hR (by omega) hris (by omega)) (by decide)

theorem own : ownKnob Try.prog.godebug = none := by kernel_rfl
theorem laidOut : laidOutB Try.prog = true := by kernel_rfl

set_option maxRecDepth 100000 in
theorem lifted (os : Os) (started : os.Started) (H : Type) (enc : TypeId × Value → H) :
    ReturnsInHanded {} Try.checked os 4 .any (Rows.bigsizeJoinsSpec.pre6 enc Try.prog Try.f4 Rows.bigsizeJoinsRow.domain false) (Rows.bigsizeJoinsSpec.post enc Try.prog Try.f4 false true false false) := by
  refine returnsInHanded_of_change_sized (C := Try.checked) own started (by kernel_rfl) Try.func4
    (ChangeSpec.witness6 (enc := enc) (C := Try.checked) false ⟨#[], #[.slice none 0 0, .int .i64 0], []⟩ 8 (by kernel_rfl) (by kernel_rfl) (by kernel_rfl) (by kernel_rfl)) ?_
  intro W base args ds gs before hval0 hW hcnd hsz0 _
  have hsz : (DataW.weightsEach Try.prog (Try.f4.params.toList ++ Rows.bigsizeJoinsSpec.plain.varTypes Try.prog) (ds ++ gs)).all (· ≤ reachBytes) = true := hsz0
  have hval : ∀ (j : Nat) t v, Try.f4.params[j]? = some t → args[j]? = some v → Value.okWide Try.prog W .any base t v := hval0
  have hW' := hW
  obtain ⟨p, q, hA0, hV, rfl, hfz, hnd⟩ := hW
  have hA : DataW.TrodAll enc Try.prog W 0 (fun _ => true) true Try.f4.params.toList args.toList ds p := hA0
  rw [Try.params4] at hA hval hsz
  obtain ⟨v0, vs0, d0, ds0, p0, q0, hargs, rfl, rfl, h0, r0⟩ := trodAll_cons hA
  obtain ⟨v1, vs1, d1, ds1, p1, q1, rfl, rfl, rfl, h1, r1⟩ := trodAll_cons r0
  obtain ⟨rfl, rfl, rfl⟩ := trodAll_nil r1
  obtain rfl : args = #[v0, v1] := by cases args; simp_all
  obtain ⟨rfl, rfl⟩ := trodVars_none hV
  have k0 := h0
  have lt0 : ∀ x ∈ p0, x.block < W.heap.size := by obtain ⟨m, hm⟩ := k0; exact DataW.trod_lt m _ _ _ hm
  have k1 := h1
  have lt1 : ∀ x ∈ p1, x.block < W.heap.size := by obtain ⟨m, hm⟩ := k1; exact DataW.trod_lt m _ _ _ hm
  obtain ⟨a0, len0, cap0, rfl⟩ := okWide_slice Try.underlying28 (hval 0 28 v0 rfl rfl)
  have w0 : IsRecs W a0 len0 cap0 := by
    obtain ⟨fuel, hf⟩ := h0
    exact open_recs (by simpa [Value.cells] using hf) (fun m hm => by
      have := List.all_eq_true.1 hsz _ (DataW.weights_mem_each (j := 0) (t := 28) rfl rfl m hm)
      simpa using this)
  obtain ⟨a1, rfl, rfl, rfl, w1⟩ := open_int Try.underlying3 (hval 1 3 v1 rfl rfl) h1
  clear hA0 hval0 hsz0 hsz
  refine (walk a0 len0 cap0 a1 W w0 w1).mono fun e W' ⟨he, bel⟩ => ?_
  subst he
  exact ⟨_, rfl, _, _, _, [], _, [], hW', trodAll_mk1 (shut_bool Try.underlying4 _), (trodAll_cons_mk (Below.trod laidOut (by kernel_rfl) (of_decide_eq_true (by kernel_rfl)) k0 bel lt0) (trodAll_cons_mk (Below.trod laidOut (by kernel_rfl) (of_decide_eq_true (by kernel_rfl)) k1 bel lt1) trodAll_mk0)), rfl, bel.frame _, fun h => by cases h⟩

theorem over : Rows.bigsizeJoinsRow.holds Try.pinned (OpenSpec.ofChange Rows.bigsizeJoinsSpec) :=
  OpenClaim.holds_of_wide 4 Try.f4 rfl rfl rfl rfl rfl rfl rfl ⟨rfl, rfl, rfl, rfl, rfl⟩ rfl rfl rfl rfl rfl (by kernel_rfl) Try.func4 (by kernel_rfl)
    (of_decide_eq_true (by kernel_rfl)) (by unfold Func.isWrapper; first | (rw [if_pos (by decide +kernel)]; kernel_rfl) | (rw [if_neg (by decide +kernel)]; exact ⟨rfl, rfl⟩))
    (fun os started H enc _ => lifted os started H enc)

theorem proved : Rows.BigsizeJoinsSaid := over
end Go.Proofs.Ytclimopeejkdbab.bigsizeJoins
namespace Go.Proofs.Ytclimopeejkdbab
theorem bigsizeJoins_holds : Rows.BigsizeJoinsSaid := bigsizeJoins.proved
end Go.Proofs.Ytclimopeejkdbab
