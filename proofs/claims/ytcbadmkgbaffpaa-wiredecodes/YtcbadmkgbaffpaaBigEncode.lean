/- The contract of bigsize.Encode over this seat's translation. -/
import Derived.Test.YtcbadmkgbaffpaaBigEnc
import Derived.Test.YtcbadmkgbaffpaaBigFit
namespace Go.Proofs.Ytcbadmkgbaffpaa
open Go.RowKit
set_option linter.unusedVariables false

theorem encL_mono (ty : Nat → Int) (L : Nat → List Int) (len : Nat) : ∀ k, k ≤ len → (encL ty L k).length ≤ (encL ty L len).length := by
  induction len with
  | zero => intro k hk; rw [show k = 0 by omega]; exact Nat.le_refl _
  | succ n ih =>
    intro k hk
    by_cases e : k = n + 1
    · rw [e]; exact Nat.le_refl _
    · have := ih k (by omega)
      show _ ≤ (encL ty L n ++ recB (ty n) (L n)).length
      rw [List.length_append]; omega
theorem encL_succ (ty : Nat → Int) (L : Nat → List Int) (k : Nat) : encL ty L (k + 1) = encL ty L k ++ numB (ty k) ++ numB (L k).length ++ L k := by
  show encL ty L k ++ recB (ty k) (L k) = _
  unfold recB
  simp only [List.append_assoc]

/-- the box of a record, behind an append to another row -/
theorem box_kept {wr w4 : World} {o : Obj} {g : Nat} {v : Value} (hg : (wr.alloc o).grownBy w4 (some g)) (hlt : g < wr.heap.size) {j : Nat} (h : (wr.alloc o).cell? ⟨wr.heap.size, j, none⟩ = some v) : w4.cell? ⟨wr.heap.size, j, none⟩ = some v :=
  hg.cell h (fun e => by have h2 : wr.heap.size = g := Option.some.inj e; omega)

set_option maxHeartbeats 2000000 in
/-- Encode, where all may be -/
theorem enc_ok (b off len cap : Nat) (ty : Nat → Int) (ao : Nat → Option Addr) (cp : Nat → Nat) (L : Nat → List Int) (w : World) (hR : Recs w b off len ty ao cp L) (hl : len ≤ 64) (hL : ∀ k, k < len → (L k).length ≤ 140737488351232) (ht : ∀ k, k < len → 0 ≤ ty k ∧ ty k ≤ 18446744073709551615)
    (hris : risB ty len = true) (hsz : (encL ty L len).length ≤ 65536) :
    Calls Try.prog 19 #[.slice (some ⟨b, off, none⟩) len cap] w fun e w' => ∃ g, e = .returned (.tuple #[Room g (encL ty L len).length (encL ty L len).length, .int .i64 0]) ∧ Hid (w'.ownsRow w.heap.size 5 1 (Room g (encL ty L len).length (encL ty L len).length) (encL ty L len).length (U8 (encL ty L len))) ∧ Below w.heap.size w w' := by
  obtain ⟨i0, hi, hz0, hz1, hz2⟩ := info_parts Try.info5
  have HR := hide hR
  have HL := hide hL
  have HT := hide ht
  have H1 := hide (fun w (h : Recs w b off len ty ao cp L) => rising_row b off len cap ty ao cp L w h (by omega))
  have H2 := hide (fun w (h : Recs w b off len ty ao cp L) => ssize_row b off len cap ty ao cp L w h hl hL (fun k hk => (ht k hk).1))
  rw [hris] at H1
  have hmono := hide (encL_mono ty L len)
  clear hR hL ht hris
  obtain ⟨C, hC⟩ : ∃ C, (encL ty L len).length = C := ⟨_, rfl⟩
  have HCC := hide hC
  rw [hC] at H2 hsz hmono
  rw [hC]
  clear hC
  go_enter Try.func19, Try.ntmps19
  go_wp2_with fail
  refine (H1.out _ HR.out).mono ?_
  rintro e w1 ⟨rfl, hb⟩
  have HB1 := hide hb
  have HR1 := hide (HR.out.below hb)
  have z1 := hb.size
  clear hb
  go_wp2_with fail
  refine (H2.out _ HR1.out).mono ?_
  rintro e w2 ⟨rfl, hb⟩
  have HB2 := hide (HB1.out.trans (hb.mono z1))
  have z2 := HB2.out.size
  clear hb HR1 H1 H2
  go_wp2_with (at_make; refine wpList_make_own _ rfl _ _ 23 rfl w.heap.size 5 i0 (.int .u8 0) 1 Try.underlying23 hi hz0 hz1 .i64 .i64 _ C rfl rfl rfl (by rw [hz2]; omega) (by unfold maxLen; omega) z2 ?_)
  intro w3 hown3 hg3
  have HB3 := hide (HB2.out.grown hg3 z2 (fun k hk => by cases hk))
  have HO3 := hide hown3
  clear hown3 hg3
  generalize w2.heap.size = g at *
  go_wp2
  go_loopw [5, 22] (fun v i wr => ∃ k : Nat, k ≤ len ∧ i = .int .i64 k ∧ v = Room g (encL ty L k).length C ∧ Hid (wr.ownsRow w.heap.size 5 1 (Room g (encL ty L k).length C) (encL ty L k).length (U8 (encL ty L k))) ∧ Hid (Below w.heap.size w wr)) (fun _ i _ => len - (intOf i).toNat)
  case atStart => exact ⟨0, Nat.zero_le _, rfl, rfl, HO3, HB3⟩
  case round =>
    obtain ⟨k, hk, rfl, rfl, HO, HB⟩ := hrel
    by_cases hlt : k < len
    · have R := HR.out.below HB.out
      have q0 := R.type k hlt
      have q1 := R.value k hlt
      clear R
      obtain ⟨t0, t1⟩ := HT.out k hlt
      have l1 := HL.out k hlt
      have l2 := hmono.out (k + 1) (by omega)
      have hE := hide (encL_succ ty L k)
      rw [hE.out] at l2
      simp only [List.length_append] at l2
      have zr := HB.out.size
      have hgl : g < wr.heap.size := (HO.out.lt g rfl).2
      have HIw := hide (HR.out.bytes k hlt)
      generalize encL ty L k = Z at *
      generalize ty k = x at *
      obtain ⟨n, hn⟩ : ∃ n, (L k).length = n := ⟨_, rfl⟩
      have HNN := hide hn
      rw [hn] at q1 l1 l2 hE
      generalize L k = V at *
      clear hn
      have HA := hide (fun w h => afit_any w.heap.size g Z.length C Z x w h (by omega) t0 t1)
      clear HA
      go_wp2_with fail
      refine (afit_any w.heap.size g Z.length C Z x _ (HO.out.alloc _) (by omega) t0 t1).mono ?_
      rintro e w4 ⟨rfl, ho, hg⟩
      have HB4 := hide ((HB.out.alloc zr (.cells #[.int .u64 x, .slice (ao k) n (cp k)] 39)).grown hg.out (by simp; omega) (fun i hi => by cases hi; exact (HO.out.lt g rfl).1))
      have p4 : w4.cell? ⟨wr.heap.size, 1, none⟩ = some (.slice (ao k) n (cp k)) := box_kept hg.out hgl (by simp)
      have HG4 := hide hg.out
      have zb : wr.heap.size < w4.heap.size := by have := hg.out.size; simp at this; omega
      clear hg q0 q1
      go_wp2_with fail
      refine (afit_any w.heap.size g _ C (Z ++ numB x) (n : Int) _ ho.out (by omega) (by omega) (by omega)).mono ?_
      rintro e w5 ⟨rfl, ho5, hg5⟩
      have HB5 := hide (HB4.out.grown hg5.out (by omega) (fun i hi => by cases hi; exact (HO.out.lt g rfl).1))
      have p5 : w5.cell? ⟨wr.heap.size, 1, none⟩ = some (.slice (ao k) n (cp k)) := hg5.out.cell p4 (fun e => by have h2 : wr.heap.size = g := Option.some.inj e; omega)
      have HI5 := hide (HIw.out.below HB5.out)
      clear hg5 p4 ho
      go_wp2_with (at_builtin; refine wpList_append_fits_any _ rfl (.tmp 36) (.tmp 38) 23 rfl w.heap.size 5 i0 1 Try.underlying23 hi hz1 g _ C _ rfl ho5.out (ao k) n (cp k) (U8 V) rfl (by rw [U8_length, HNN.out, Nat.mul_one]) ?d1 ?d2 (one_u8 V) (by omega) ?_)
      case d1 =>
        intro hn
        rcases HI5.out with ⟨_, h2, h3⟩ | ⟨a, h2, _⟩
        · exact ⟨by rw [← HNN.out, h3]; rfl, h2⟩
        · rw [hn] at h2; cases h2
      case d2 =>
        intro ad had
        rcases HI5.out with ⟨h2, _, _⟩ | ⟨a, h2, h3⟩
        · rw [had] at h2; cases h2
        · rw [had] at h2; cases h2; exact h3
      intro w6 ho6 hg6
      have HB6 := hide (HB5.out.grown hg6 HB5.out.size (fun i hi => by cases hi; exact (HO.out.lt g rfl).1))
      have HO6 := hide (show w6.ownsRow w.heap.size 5 1 (Room g (Z ++ numB x ++ numB (n : Int) ++ V).length C) (Z ++ numB x ++ numB (n : Int) ++ V).length (U8 (Z ++ numB x ++ numB (n : Int) ++ V)) by
        have hl : (Z ++ numB x ++ numB (n : Int) ++ V).length = Z.length + (numB x).length + (numB (n : Int)).length + n := by rw [List.length_append, List.length_append, List.length_append, HNN.out]
        rw [hl]
        simpa only [U8_append, List.append_assoc] using ho6)
      have hlen6 : (Z ++ numB x ++ numB (n : Int) ++ V).length = Z.length + (numB x).length + (numB (n : Int)).length + n := by rw [List.length_append, List.length_append, List.length_append, HNN.out]
      have HL6 := hide hlen6
      clear ho6 hg6 hlen6 ho5
      go_wp2
      go_roundw
      case rel => exact ⟨k + 1, by omega, by go_num, by rw [hE.out, HL6.out], by rw [hE.out]; exact HO6, HB6⟩
      case measure => simp [intOf]; omega
    · have ek : k = len := by omega
      subst ek
      go_wp2
      go_ret2
      exact ⟨g, by rw [HCC.out]; rfl, by have h := HO.out; rw [HCC.out] at h; exact h, HB.out⟩

set_option maxHeartbeats 1000000 in
theorem enc_order (b off len cap : Nat) (ty : Nat → Int) (ao : Nat → Option Addr) (cp : Nat → Nat) (L : Nat → List Int) (w : World) (hR : Recs w b off len ty ao cp L) (hl : len ≤ 4398046511104) (hris : risB ty len = false) :
    Calls Try.prog 19 #[.slice (some ⟨b, off, none⟩) len cap] w fun e w' => e = .returned (.tuple #[.slice none 0 0, .int .i64 11]) ∧ Below w.heap.size w w' := by
  have H1 := hide (rising_row b off len cap ty ao cp L w hR hl)
  rw [hris] at H1
  clear hR hris
  go_enter Try.func19, Try.ntmps19
  go_wp2_with fail
  refine H1.out.mono ?_
  rintro e w1 ⟨rfl, hb⟩
  have HB1 := hide hb
  clear hb
  go_wp2
  go_ret2
  exact ⟨rfl, HB1.out⟩

set_option maxHeartbeats 1000000 in
theorem enc_many (b off len cap : Nat) (ty : Nat → Int) (ao : Nat → Option Addr) (cp : Nat → Nat) (L : Nat → List Int) (w : World) (hR : Recs w b off len ty ao cp L) (hl : len ≤ 4398046511104) (hris : risB ty len = true) (h64 : 64 < len) :
    Calls Try.prog 19 #[.slice (some ⟨b, off, none⟩) len cap] w fun e w' => e = .returned (.tuple #[.slice none 0 0, .int .i64 3]) ∧ Below w.heap.size w w' := by
  have H1 := hide (rising_row b off len cap ty ao cp L w hR hl)
  rw [hris] at H1
  clear hR hris
  go_enter Try.func19, Try.ntmps19
  go_wp2_with fail
  refine H1.out.mono ?_
  rintro e w1 ⟨rfl, hb⟩
  have HB1 := hide hb
  clear hb
  go_wp2
  go_ret2
  exact ⟨rfl, HB1.out⟩

set_option maxHeartbeats 1000000 in
theorem enc_big (b off len cap : Nat) (ty : Nat → Int) (ao : Nat → Option Addr) (cp : Nat → Nat) (L : Nat → List Int) (w : World) (hR : Recs w b off len ty ao cp L) (hl : len ≤ 64) (hL : ∀ k, k < len → (L k).length ≤ 140737488351232) (ht : ∀ k, k < len → 0 ≤ ty k)
    (hris : risB ty len = true) (hsz : 65536 < (encL ty L len).length) :
    Calls Try.prog 19 #[.slice (some ⟨b, off, none⟩) len cap] w fun e w' => e = .returned (.tuple #[.slice none 0 0, .int .i64 3]) ∧ Below w.heap.size w w' := by
  have HR := hide hR
  have H1 := hide (rising_row b off len cap ty ao cp L w hR (by omega))
  have H2 := hide (fun w (h : Recs w b off len ty ao cp L) => ssize_row b off len cap ty ao cp L w h hl hL ht)
  rw [hris] at H1
  generalize (encL ty L len).length = C at *
  clear hR hris hL ht
  go_enter Try.func19, Try.ntmps19
  go_wp2_with fail
  refine H1.out.mono ?_
  rintro e w1 ⟨rfl, hb⟩
  have HB1 := hide hb
  have HR1 := hide (HR.out.below hb)
  have z1 := hb.size
  clear hb
  go_wp2_with fail
  refine (H2.out _ HR1.out).mono ?_
  rintro e w2 ⟨rfl, hb⟩
  have HB2 := hide (HB1.out.trans (hb.mono z1))
  clear hb
  go_wp2
  go_ret2
  exact ⟨rfl, HB2.out⟩

set_option maxHeartbeats 400000 in
theorem rising_none (ao : Option Addr) (cap : Nat) (w : World) : Calls Try.prog 37 #[.slice ao 0 cap] w fun e w' => e = .returned (.bool true) ∧ w' = w := by
  go_enter Try.func37, Try.ntmps37
  go_wp2
  refine wp_loop_rounds 1 ?_
  rw [rounds_succ]
  go_wp2
  go_ret
  exact ⟨rfl, rfl⟩
set_option maxHeartbeats 400000 in
theorem ssize_none (ao : Option Addr) (cap : Nat) (w : World) : Calls Try.prog 38 #[.slice ao 0 cap] w fun e w' => e = .returned (.int .i64 0) ∧ w' = w := by
  go_enter Try.func38, Try.ntmps38
  go_wp2
  refine wp_loop_rounds 1 ?_
  rw [rounds_succ]
  go_wp2
  go_ret
  exact ⟨rfl, rfl⟩
set_option maxHeartbeats 1000000 in
/-- Encode of no records -/
theorem enc_none (ao : Option Addr) (cap : Nat) (w : World) :
    Calls Try.prog 19 #[.slice ao 0 cap] w fun e w' => ∃ g, e = .returned (.tuple #[Room g 0 0, .int .i64 0]) ∧ Hid (w'.ownsRow w.heap.size 5 1 (Room g 0 0) 0 (U8 [])) ∧ Below w.heap.size w w' := by
  obtain ⟨i0, hi, hz0, hz1, hz2⟩ := info_parts Try.info5
  go_enter Try.func19, Try.ntmps19
  go_wp2_with fail
  refine (rising_none _ _ _).mono ?_
  rintro e w1 ⟨rfl, rfl⟩
  go_wp2_with fail
  refine (ssize_none _ _ _).mono ?_
  rintro e w2 ⟨rfl, rfl⟩
  go_wp2_with (at_make; refine wpList_make_own _ rfl _ _ 23 rfl w2.heap.size 5 i0 (.int .u8 0) 1 Try.underlying23 hi hz0 hz1 .i64 .i64 _ 0 rfl rfl rfl (by omega) (by unfold maxLen; omega) (Nat.le_refl _) ?_)
  intro w3 hown3 hg3
  have HB3 := hide ((Below.refl w2.heap.size w2).grown hg3 (Nat.le_refl _) (fun k hk => by cases hk))
  have HO3 := hide hown3
  clear hown3 hg3
  go_wp2
  refine wp_loop_rounds 1 ?_
  rw [rounds_succ]
  go_wp2
  go_ret2
  exact ⟨w2.heap.size, rfl, HO3, HB3.out⟩
end Go.Proofs.Ytcbadmkgbaffpaa
