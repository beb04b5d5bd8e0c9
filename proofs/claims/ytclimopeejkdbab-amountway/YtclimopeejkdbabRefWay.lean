/- The contract of the document's Way over this seat's translation. -/
import Derived.Test.YtclimopeejkdbabAmtWay
import Derived.Test.YtclimopeejkdbabRefAmt
namespace Go.Proofs.Ytclimopeejkdbab
open Go.RowKit
set_option linter.unusedVariables false

theorem own_int (w : World) (B : Nat) (hB : B ≤ w.heap.size) (n : Int) : (w.alloc (.cells #[.int .i64 n] 3)).ownsRow B 3 1 (.slice (some ⟨w.heap.size, 0, none⟩) 1 1) 1 (I64 [n]) :=
  ⟨rfl, .inr ⟨w.heap.size, 1, #[.int .i64 n], rfl, hB, heap_alloc_new w _, Nat.le_refl _, by unfold maxLen; omega, rfl, rfl⟩⟩
/-- a row that holds something lies at a block -/
theorem own_at {w : World} {B n : Nat} {v : Value} {zs : List Value} (h : w.ownsRow B 3 1 v n zs) (hn : 0 < n) : ∃ g cp, v = .slice (some ⟨g, 0, none⟩) n cp ∧ B ≤ g ∧ g < w.heap.size ∧ n ≤ cp ∧ cp ≤ 9223372036854775807 := by
  have hlt := h.lt
  rcases h.2 with ⟨_, h0⟩ | ⟨g, cap, cur, rfl, hb, _, hnc, hm, _⟩
  · omega
  · unfold maxLen at hm
    exact ⟨g, cap, rfl, hb, (hlt g rfl).2, hnc, by omega⟩

theorem row_cells {w : World} {B g n cp : Nat} {zs : List Value} (h : w.ownsRow B 3 1 (.slice (some ⟨g, 0, none⟩) n cp) n zs) : ∀ j u, zs[j]? = some u → w.cell? ((⟨g, 0, none⟩ : Addr).add j) = some u := by
  intro j u hj
  have hl : zs.length = n := by have := h.1; omega
  have hlt : j < n := by rw [← hl]; exact (List.getElem?_eq_some_iff.mp hj).1
  rw [addr_add, Nat.zero_add, h.cellAt j (by omega)]
  exact hj

/-- what is known behind In, called in an order that is left open -/
theorem behind_rin {w wr w4 : World} {b g c1 c2 n cap : Nat} {v1 v2 v3 : Value} {zs : List Value} (hb : Below wr.drew.heap.size wr.drew w4) (hlt : b < wr.heap.size) (hg : g < wr.heap.size) (q1 : wr.cell? ⟨b, c1, none⟩ = some v1) (q2 : wr.cell? ⟨b, c2, none⟩ = some v2) (q3 : wr.cell? ⟨g, 0, none⟩ = some v3)
    (ho : wr.ownsRow w.heap.size 3 1 (.slice (some ⟨g, 0, none⟩) n cap) n zs) (hB : Below w.heap.size w wr) :
    w4.cell? ⟨b, c1, none⟩ = some v1 ∧ w4.cell? ⟨b, c2, none⟩ = some v2 ∧ w4.cell? ⟨g, 0, none⟩ = some v3 ∧ Hid (w4.ownsRow w.heap.size 3 1 (.slice (some ⟨g, 0, none⟩) n cap) n zs) ∧ Hid (Below w.heap.size w w4) := by
  have h := below_drew hb
  exact ⟨(h.cell (by exact hlt)).trans q1, (h.cell (by exact hlt)).trans q2, (h.cell (by exact hg)).trans q3, own_below ho h, hB.trans (h.mono hB.size)⟩

set_option maxHeartbeats 400000 in
theorem rway_neg (ao : Option Addr) (len cap : Nat) (x : Int) (w : World) (h : x < 0) :
    Calls Try.prog 25 #[.slice ao len cap, .int .i64 x] w fun e w' => e = .returned (.tuple #[.slice none 0 0, .int .i64 1]) ∧ w' = w := by
  go_enter Try.func25, Try.ntmps25
  go_wp2
  go_ret2
  exact ⟨rfl, rfl⟩

set_option maxHeartbeats 1000000 in
theorem rway_no (b off len cap k0 : Nat) (fb fr : Nat → Int) (x : Int) (w : World) (hF : Fees w b off len fb fr) (hlc : len ≤ cap) (hcap : len * 16 ≤ 140737488351232) (x0 : 0 ≤ x) (hk0 : k0 < len) (hok : ∀ j, j < k0 → rightB (fb j) (fr j) = true) (hno : rightB (fb k0) (fr k0) = false) :
    Calls Try.prog 25 #[.slice (some ⟨b, off, none⟩) len cap, .int .i64 x] w fun e w' => e = .returned (.tuple #[.slice none 0 0, .int .i64 1]) ∧ Below w.heap.size w w' := by
  have HF := hide hF
  have HOK := hide hok
  have HNO := hide hno
  clear hF hok hno
  go_enter Try.func25, Try.ntmps25
  go_wp2
  go_loopw [6] (fun i wr => ∃ k : Nat, k ≤ k0 ∧ i = .int .i64 k ∧ Hid (Below w.heap.size w wr)) (fun i _ => len - (intOf i).toNat)
  case atStart => exact ⟨0, Nat.zero_le _, rfl, Below.refl _ _⟩
  case round =>
    obtain ⟨k, hk, rfl, HB⟩ := hrel
    have hkl : k < len := by omega
    have R := HF.out.below HB.out
    have q1 := R.base k hkl
    have q2 := R.rate k hkl
    have p1 : (k : Int) < (len : Int) := by omega
    have zr := HB.out.size
    clear R
    have HG := hide (fun w => right_any (fb k) (fr k) w)
    by_cases hlt : k < k0
    · rw [HOK.out k hlt] at HG
      generalize fb k = B0 at *
      generalize fr k = R0 at *
      go_wp2_with fail
      refine (HG.out _).mono ?_
      rintro e w1 ⟨rfl, hb⟩
      have HB1 := hide (HB.out.trans (hb.mono zr))
      clear hb
      go_wp2
      go_roundw
      case rel => exact ⟨k + 1, by omega, by go_num, HB1⟩
      case measure => simp [intOf]; omega
    · have ek : k = k0 := by omega
      subst ek
      rw [HNO.out] at HG
      generalize fb k = B0 at *
      generalize fr k = R0 at *
      go_wp2_with fail
      refine (HG.out _).mono ?_
      rintro e w1 ⟨rfl, hb⟩
      have HB1 := hide (HB.out.trans (hb.mono zr))
      clear hb
      go_wp2
      go_ret2
      exact ⟨rfl, HB1.out⟩

set_option maxHeartbeats 2000000 in
theorem rway_ok (b off len cap : Nat) (fb fr : Nat → Int) (x : Int) (w : World) (hF : Fees w b off len fb fr) (hlc : len ≤ cap) (hcap : len * 16 ≤ 140737488351232) (hbd : ∀ k, k < len → fb k ≤ 9223372036854775807) (hR : ∀ j, j < len → rightB (fb j) (fr j) = true) (x0 : 0 ≤ x) (x2 : x ≤ 9223372036854775807) (hok : ∀ j, j < len → we fb fr len x j = 0) :
    Calls Try.prog 25 #[.slice (some ⟨b, off, none⟩) len cap, .int .i64 x] w fun e w' => ∃ g cp, e = .returned (.tuple #[.slice (some ⟨g, 0, none⟩) (len + 1) cp, .int .i64 0]) ∧ Hid (w'.ownsRow w.heap.size 3 1 (.slice (some ⟨g, 0, none⟩) (len + 1) cp) (len + 1) (I64 (wl fb fr len x len))) ∧ Below w.heap.size w w' := by
  obtain ⟨i0, hi, hz0, hz1, hz2⟩ := info_parts Try.info3
  have HF := hide hF
  have HRR := hide hR
  have HBD := hide hbd
  have HOK := hide hok
  clear hF hbd hR hok
  go_enter Try.func25, Try.ntmps25
  go_wp2
  go_loopw [6] (fun i wr => ∃ k : Nat, k ≤ len ∧ i = .int .i64 k ∧ Hid (Below w.heap.size w wr)) (fun i _ => len - (intOf i).toNat)
  case atStart => exact ⟨0, Nat.zero_le _, rfl, Below.refl _ _⟩
  case round =>
    obtain ⟨k, hk, rfl, HB⟩ := hrel
    by_cases hkl : k < len
    · have R := HF.out.below HB.out
      have q1 := R.base k hkl
      have q2 := R.rate k hkl
      have p1 : (k : Int) < (len : Int) := by omega
      have zr := HB.out.size
      clear R
      have HG := hide (fun w => right_any (fb k) (fr k) w)
      rw [HRR.out k hkl] at HG
      generalize fb k = B0 at *
      generalize fr k = R0 at *
      go_wp2_with fail
      refine (HG.out _).mono ?_
      rintro e w1 ⟨rfl, hb⟩
      have HB1 := hide (HB.out.trans (hb.mono zr))
      clear hb
      go_wp2
      go_roundw
      case rel => exact ⟨k + 1, by omega, by go_num, HB1⟩
      case measure => simp [intOf]; omega
    · have zr0 := HB.out.size
      have ho0 := hide (own_int wr w.heap.size zr0 x)
      have HB0 := hide (HB.out.alloc zr0 (.cells #[.int .i64 x] 3))
      go_wp2
      go_loopw [7, 8] (fun v i wr => ∃ q m g cp : Nat, q + m = len ∧ m ≤ len ∧ i = .int .i64 ((q : Int) - 1) ∧ v = .slice (some ⟨g, 0, none⟩) (m + 1) cp ∧ Hid (wr.ownsRow w.heap.size 3 1 (.slice (some ⟨g, 0, none⟩) (m + 1) cp) (m + 1) (I64 (wl fb fr len x m))) ∧ Hid (Below w.heap.size w wr)) (fun _ i _ => (intOf i + 1).toNat)
      case atStart => exact ⟨len, 0, _, 1, rfl, Nat.zero_le _, rfl, rfl, ho0, HB0⟩
      case round =>
        clear ho0 HB0 zr0 HB
        obtain ⟨q, m, g, cp, hqm, hmm, rfl, rfl, HO, HB⟩ := hrel
        by_cases hq : q = 0
        · subst hq
          have em : m = len := by omega
          subst em
          go_wp2
          go_ret2
          exact ⟨g, cp, rfl, HO, HB.out⟩
        · obtain ⟨p, rfl⟩ : ∃ p, q = p + 1 := ⟨q - 1, by omega⟩
          rw [show ((p + 1 : Nat) : Int) - 1 = (p : Int) by omega]
          have hpl : p < len := by omega
          have R := HF.out.below HB.out
          have q1 := R.base p hpl
          have q2 := R.rate p hpl
          have hbl := R.lt
          have hgl : g < wr.heap.size := (HO.out.lt g rfl).2
          have hgw : w.heap.size ≤ g := (HO.out.lt g rfl).1
          have hlw := wl_length fb fr len x m
          have q3 : wr.cell? ⟨g, 0, none⟩ = some (.int .i64 (wv fb fr len x m)) := by rw [HO.out.cellAt 0 (by omega), I64_at _ _ (by omega), wl_head]
          have hv := wv_bd fb fr len x m (by omega) HBD.out x0 x2
          have hb2 := HBD.out p hpl
          have HIN := hide (fun w => rin_any (fb p) (fr p) (wv fb fr len x m) w hb2 (by omega) hv.2)
          have eN : inN (fb p) (fr p) (wv fb fr len x m) = wv fb fr len x (m + 1) := by show _ = inN (fb (len - 1 - m)) (fr (len - 1 - m)) _; rw [show len - 1 - m = p by omega]
          have eE : inE (fb p) (fr p) (wv fb fr len x m) = we fb fr len x m := by unfold we; rw [show len - 1 - m = p by omega]
          rw [eN, eE] at HIN
          have HW := hide (show wl fb fr len x (m + 1) = wv fb fr len x (m + 1) :: wl fb fr len x m from rfl)
          have HLW := hide hlw
          clear R eN eE hlw
          rw [HOK.out m (by omega)] at HIN
          generalize wv fb fr len x m = y at *
          generalize wv fb fr len x (m + 1) = y2 at *
          generalize fb p = B0 at *
          generalize fr p = R0 at *
          have d1 : wr.drew.cell? ⟨b, off + p * 2, none⟩ = some (.int .i64 B0) := q1
          have d2 : wr.drew.cell? ⟨b, off + p * 2 + 1, none⟩ = some (.int .i64 R0) := q2
          have d3 : wr.drew.cell? ⟨g, 0, none⟩ = some (.int .i64 y) := q3
          have p1 : (p : Int) < (len : Int) := by omega
          have p2 : (0 : Int) < ((m : Int) + 1) := by omega
          have p4 : (0 : Int) < ((m + 1 : Nat) : Int) := by omega
          have p6 : (p : Int) ≤ 9223372036854775806 := by omega
          go_wp2
          go_region_held3 (fun w' => w'.cell? ⟨b, off + p * 2, none⟩ = some (.int .i64 B0) ∧ w'.cell? ⟨b, off + p * 2 + 1, none⟩ = some (.int .i64 R0) ∧ w'.cell? ⟨g, 0, none⟩ = some (.int .i64 y)) (exact ⟨by assumption, by assumption, by assumption⟩)
            (first
              | (go_at_call 21; refine (HIN.out _).mono ?_; rintro e w4 ⟨rfl, hb⟩; obtain ⟨e1, e2, e3, HO4, HB4⟩ := behind_rin hb hbl hgl q1 q2 q3 HO.out HB.out))
          have hz4 := HB4.out.size
          have HOa := hide (HO4.out.alloc (.cells #[.int .i64 y2] 3))
          have HBa := hide (HB4.out.alloc hz4 (.cells #[.int .i64 y2] 3))
          go_wp2_with (at_builtin; refine wpList_append_own _ rfl (.tmp 49) (.tmp 50) 33 rfl w.heap.size 3 i0 (.int .i64 0) 1 8 Try.underlying33 hi hz0 hz1 hz2 rfl (by decide) _ _ _ rfl (own_int w4 w.heap.size hz4 y2) ⟨g, 0, none⟩ (m + 1) cp (I64 (wl fb fr len x m)) rfl ?c1 ?c2 (one_i64 _) ?c3 ?c4 ?c5 ?_)
          case c1 => rw [I64_length, HLW.out]; omega
          case c2 => exact row_cells HOa.out
          case c3 => unfold maxLen; omega
          case c4 => omega
          case c5 => exact HBa.out.size
          intro v' w5 hown' hgrow _
          obtain ⟨g', cp', rfl, _, _, _, _⟩ := own_at hown' (by omega)
          have HO5 := hide (show w5.ownsRow w.heap.size 3 1 (.slice (some ⟨g', 0, none⟩) (m + 1 + 1) cp') (m + 1 + 1) (I64 (wl fb fr len x (m + 1))) by rw [HW.out, Nat.add_comm (m + 1) 1]; exact hown')
          have HB5 := hide (HBa.out.grown hgrow HBa.out.size (fun k hk => by cases hk; exact hz4))
          clear hown' hgrow HOa HBa HO4 HB4
          go_wp2
          go_roundw
          case rel => exact ⟨p, m + 1, g', cp', by omega, by omega, by go_num, by rw [Nat.add_comm 1 (m + 1)], HO5, HB5⟩
          case measure => simp [intOf]

set_option maxHeartbeats 2000000 in
theorem rway_err (b off len cap : Nat) (fb fr : Nat → Int) (x : Int) (w : World) (hF : Fees w b off len fb fr) (hlc : len ≤ cap) (hcap : len * 16 ≤ 140737488351232) (hbd : ∀ k, k < len → fb k ≤ 9223372036854775807) (hR : ∀ j, j < len → rightB (fb j) (fr j) = true) (x0 : 0 ≤ x) (x2 : x ≤ 9223372036854775807) (m0 : Nat) (E : Int) (hm0 : m0 < len) (hok : ∀ j, j < m0 → we fb fr len x j = 0) (hE : we fb fr len x m0 = E) (hEn : (E != 0) = true) :
    Calls Try.prog 25 #[.slice (some ⟨b, off, none⟩) len cap, .int .i64 x] w fun e w' => e = .returned (.tuple #[.slice none 0 0, .int .i64 E]) ∧ Below w.heap.size w w' := by
  obtain ⟨i0, hi, hz0, hz1, hz2⟩ := info_parts Try.info3
  have HF := hide hF
  have HRR := hide hR
  have HBD := hide hbd
  have HOK := hide hok
  have HE := hide hE
  clear hF hbd hR hok hE
  go_enter Try.func25, Try.ntmps25
  go_wp2
  go_loopw [6] (fun i wr => ∃ k : Nat, k ≤ len ∧ i = .int .i64 k ∧ Hid (Below w.heap.size w wr)) (fun i _ => len - (intOf i).toNat)
  case atStart => exact ⟨0, Nat.zero_le _, rfl, Below.refl _ _⟩
  case round =>
    obtain ⟨k, hk, rfl, HB⟩ := hrel
    by_cases hkl : k < len
    · have R := HF.out.below HB.out
      have q1 := R.base k hkl
      have q2 := R.rate k hkl
      have p1 : (k : Int) < (len : Int) := by omega
      have zr := HB.out.size
      clear R
      have HG := hide (fun w => right_any (fb k) (fr k) w)
      rw [HRR.out k hkl] at HG
      generalize fb k = B0 at *
      generalize fr k = R0 at *
      go_wp2_with fail
      refine (HG.out _).mono ?_
      rintro e w1 ⟨rfl, hb⟩
      have HB1 := hide (HB.out.trans (hb.mono zr))
      clear hb
      go_wp2
      go_roundw
      case rel => exact ⟨k + 1, by omega, by go_num, HB1⟩
      case measure => simp [intOf]; omega
    · have zr0 := HB.out.size
      have ho0 := hide (own_int wr w.heap.size zr0 x)
      have HB0 := hide (HB.out.alloc zr0 (.cells #[.int .i64 x] 3))
      go_wp2
      go_loopw [7, 8] (fun v i wr => ∃ q m g cp : Nat, q + m = len ∧ m ≤ m0 ∧ i = .int .i64 ((q : Int) - 1) ∧ v = .slice (some ⟨g, 0, none⟩) (m + 1) cp ∧ Hid (wr.ownsRow w.heap.size 3 1 (.slice (some ⟨g, 0, none⟩) (m + 1) cp) (m + 1) (I64 (wl fb fr len x m))) ∧ Hid (Below w.heap.size w wr)) (fun _ i _ => (intOf i + 1).toNat)
      case atStart => exact ⟨len, 0, _, 1, rfl, Nat.zero_le _, rfl, rfl, ho0, HB0⟩
      case round =>
        clear ho0 HB0 zr0 HB
        obtain ⟨q, m, g, cp, hqm, hmm, rfl, rfl, HO, HB⟩ := hrel
        by_cases hq : q = 0
        · exfalso; omega
        · obtain ⟨p, rfl⟩ : ∃ p, q = p + 1 := ⟨q - 1, by omega⟩
          rw [show ((p + 1 : Nat) : Int) - 1 = (p : Int) by omega]
          have hpl : p < len := by omega
          have R := HF.out.below HB.out
          have q1 := R.base p hpl
          have q2 := R.rate p hpl
          have hbl := R.lt
          have hgl : g < wr.heap.size := (HO.out.lt g rfl).2
          have hgw : w.heap.size ≤ g := (HO.out.lt g rfl).1
          have hlw := wl_length fb fr len x m
          have q3 : wr.cell? ⟨g, 0, none⟩ = some (.int .i64 (wv fb fr len x m)) := by rw [HO.out.cellAt 0 (by omega), I64_at _ _ (by omega), wl_head]
          have hv := wv_bd fb fr len x m (by omega) HBD.out x0 x2
          have hb2 := HBD.out p hpl
          have HIN := hide (fun w => rin_any (fb p) (fr p) (wv fb fr len x m) w hb2 (by omega) hv.2)
          have eN : inN (fb p) (fr p) (wv fb fr len x m) = wv fb fr len x (m + 1) := by show _ = inN (fb (len - 1 - m)) (fr (len - 1 - m)) _; rw [show len - 1 - m = p by omega]
          have eE : inE (fb p) (fr p) (wv fb fr len x m) = we fb fr len x m := by unfold we; rw [show len - 1 - m = p by omega]
          rw [eN, eE] at HIN
          have HW := hide (show wl fb fr len x (m + 1) = wv fb fr len x (m + 1) :: wl fb fr len x m from rfl)
          have HLW := hide hlw
          clear R eN eE hlw
          by_cases hmlt : m < m0
          · rw [HOK.out m hmlt] at HIN
            generalize wv fb fr len x m = y at *
            generalize wv fb fr len x (m + 1) = y2 at *
            generalize fb p = B0 at *
            generalize fr p = R0 at *
            have d1 : wr.drew.cell? ⟨b, off + p * 2, none⟩ = some (.int .i64 B0) := q1
            have d2 : wr.drew.cell? ⟨b, off + p * 2 + 1, none⟩ = some (.int .i64 R0) := q2
            have d3 : wr.drew.cell? ⟨g, 0, none⟩ = some (.int .i64 y) := q3
            have p1 : (p : Int) < (len : Int) := by omega
            have p2 : (0 : Int) < ((m : Int) + 1) := by omega
            have p4 : (0 : Int) < ((m + 1 : Nat) : Int) := by omega
            have p6 : (p : Int) ≤ 9223372036854775806 := by omega
            go_wp2
            go_region_held3 (fun w' => w'.cell? ⟨b, off + p * 2, none⟩ = some (.int .i64 B0) ∧ w'.cell? ⟨b, off + p * 2 + 1, none⟩ = some (.int .i64 R0) ∧ w'.cell? ⟨g, 0, none⟩ = some (.int .i64 y)) (exact ⟨by assumption, by assumption, by assumption⟩)
              (first
                | (go_at_call 21; refine (HIN.out _).mono ?_; rintro e w4 ⟨rfl, hb⟩; obtain ⟨e1, e2, e3, HO4, HB4⟩ := behind_rin hb hbl hgl q1 q2 q3 HO.out HB.out))
            have hz4 := HB4.out.size
            have HOa := hide (HO4.out.alloc (.cells #[.int .i64 y2] 3))
            have HBa := hide (HB4.out.alloc hz4 (.cells #[.int .i64 y2] 3))
            go_wp2_with (at_builtin; refine wpList_append_own _ rfl (.tmp 49) (.tmp 50) 33 rfl w.heap.size 3 i0 (.int .i64 0) 1 8 Try.underlying33 hi hz0 hz1 hz2 rfl (by decide) _ _ _ rfl (own_int w4 w.heap.size hz4 y2) ⟨g, 0, none⟩ (m + 1) cp (I64 (wl fb fr len x m)) rfl ?c1 ?c2 (one_i64 _) ?c3 ?c4 ?c5 ?_)
            case c1 => rw [I64_length, HLW.out]; omega
            case c2 => exact row_cells HOa.out
            case c3 => unfold maxLen; omega
            case c4 => omega
            case c5 => exact HBa.out.size
            intro v' w5 hown' hgrow _
            obtain ⟨g', cp', rfl, _, _, _, _⟩ := own_at hown' (by omega)
            have HO5 := hide (show w5.ownsRow w.heap.size 3 1 (.slice (some ⟨g', 0, none⟩) (m + 1 + 1) cp') (m + 1 + 1) (I64 (wl fb fr len x (m + 1))) by rw [HW.out, Nat.add_comm (m + 1) 1]; exact hown')
            have HB5 := hide (HBa.out.grown hgrow HBa.out.size (fun k hk => by cases hk; exact hz4))
            clear hown' hgrow HOa HBa HO4 HB4
            go_wp2
            go_roundw
            case rel => exact ⟨p, m + 1, g', cp', by omega, by omega, by go_num, by rw [Nat.add_comm 1 (m + 1)], HO5, HB5⟩
            case measure => simp [intOf]
          · have em : m = m0 := by omega
            subst em
            rw [HE.out] at HIN
            generalize wv fb fr len x m = y at *
            generalize wv fb fr len x (m + 1) = y2 at *
            generalize fb p = B0 at *
            generalize fr p = R0 at *
            have d1 : wr.drew.cell? ⟨b, off + p * 2, none⟩ = some (.int .i64 B0) := q1
            have d2 : wr.drew.cell? ⟨b, off + p * 2 + 1, none⟩ = some (.int .i64 R0) := q2
            have d3 : wr.drew.cell? ⟨g, 0, none⟩ = some (.int .i64 y) := q3
            have p1 : (p : Int) < (len : Int) := by omega
            have p2 : (0 : Int) < ((m : Int) + 1) := by omega
            have p4 : (0 : Int) < ((m + 1 : Nat) : Int) := by omega
            have p6 : (p : Int) ≤ 9223372036854775806 := by omega
            go_wp2
            go_region_held3 (fun w' => w'.cell? ⟨b, off + p * 2, none⟩ = some (.int .i64 B0) ∧ w'.cell? ⟨b, off + p * 2 + 1, none⟩ = some (.int .i64 R0) ∧ w'.cell? ⟨g, 0, none⟩ = some (.int .i64 y)) (exact ⟨by assumption, by assumption, by assumption⟩)
              (first
                | (go_at_call 21; refine (HIN.out _).mono ?_; rintro e w4 ⟨rfl, hb⟩; obtain ⟨e1, e2, e3, HO4, HB4⟩ := behind_rin hb hbl hgl q1 q2 q3 HO.out HB.out))
            go_wp2
            go_ret2
            exact ⟨rfl, HB4.out⟩
end Go.Proofs.Ytclimopeejkdbab
