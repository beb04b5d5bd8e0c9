/- The contract of amount.Way over this seat's translation. -/
import Derived.Test.YtfbaidmnnkcaeaaFeeRow
import Derived.Deep.RegionHeld3
namespace Go.Proofs.Ytfbaidmnnkcaeaa
open Go.RowKit
set_option linter.unusedVariables false

theorem Try.info3 : (Try.prog.info? 3).map (fun i => (i.zero, i.size, i.bytes)) = some (some (.int .i64 0), 1, 8) := by kernel_rfl
theorem own_below {w w' : World} {B : Nat} {e : TypeId} {size : Nat} {v : Value} {n : Nat} {xs : List Value} (h : w.ownsRow B e size v n xs) (hb : Below w.heap.size w w') : w'.ownsRow B e size v n xs :=
  h.kept (row := none) ⟨hb.os, hb.tape, hb.output, hb.size, fun k hk _ => hb.block k hk⟩ (by cases v.ownBlock <;> simp)
theorem below_drew {w w' : World} (hb : Below w.drew.heap.size w.drew w') : Below w.heap.size w w' := ⟨hb.os, hb.tape, hb.output, hb.size, hb.block⟩

theorem set_last (n : Nat) (x : Int) : (I64 (List.replicate (n + 1) 0)).set n (.int .i64 x) = I64 (List.replicate n 0 ++ [x]) := by
  unfold I64
  apply List.ext_getElem?
  intro j
  rw [List.getElem?_set]
  by_cases e : n = j
  · subst e
    simp
  · rw [if_neg e, List.getElem?_map, List.getElem?_map]
    by_cases h : j < n
    · rw [List.getElem?_append_left (by simpa using h)]
      simp [h, show j < n + 1 by omega]
    · rw [List.getElem?_append_right (by simp; omega), List.getElem?_eq_none (show (List.replicate (n + 1) (0 : Int)).length ≤ j by simp; omega), List.getElem?_eq_none (show [x].length ≤ j - (List.replicate n (0 : Int)).length by simp; omega)]
theorem set_mid (p : Nat) (L : List Int) (y : Int) : (I64 (List.replicate (p + 1) 0 ++ L)).set p (.int .i64 y) = I64 (List.replicate p 0 ++ y :: L) := by
  have h := set_last p y
  rw [I64_append, List.set_append_left _ _ (by rw [I64_length]; simp), h, ← I64_append, List.append_assoc]
  rfl
theorem at_mid (p : Nat) (L : List Int) (h : 0 < L.length) : (I64 (List.replicate (p + 1) 0 ++ L))[p + 1]? = some (.int .i64 (L.getD 0 0)) := by
  rw [I64_append, List.getElem?_append_right (by rw [I64_length]; simp)]
  rw [I64_length, List.length_replicate, Nat.sub_self]
  exact I64_at L 0 h
theorem at_low (p : Nat) (L : List Int) : (I64 (List.replicate (p + 1) 0 ++ L))[p]? = some (.int .i64 0) := by
  rw [I64_append, List.getElem?_append_left (by rw [I64_length]; simp), I64_at _ _ (by simp)]
  simp [List.getD_eq_getElem?_getD]

/-- what is known behind In, called in an order that is left open -/
theorem behind_in {w wr w4 : World} {b g c1 c2 p n cap : Nat} {v1 v2 v3 : Value} {zs : List Value} (hb : Below wr.drew.heap.size wr.drew w4) (hlt : b < wr.heap.size) (hg : g < wr.heap.size) (q1 : wr.cell? ⟨b, c1, none⟩ = some v1) (q2 : wr.cell? ⟨b, c2, none⟩ = some v2) (q3 : wr.cell? ⟨g, p + 1, none⟩ = some v3)
    (q4 : wr.cell? ⟨g, p, none⟩ = some (.int .i64 0)) (ho : wr.ownsRow w.heap.size 3 1 (.slice (some ⟨g, 0, none⟩) n cap) n zs) (hB : Below w.heap.size w wr) :
    w4.cell? ⟨b, c1, none⟩ = some v1 ∧ w4.cell? ⟨b, c2, none⟩ = some v2 ∧ w4.cell? ⟨g, p + 1, none⟩ = some v3 ∧ w4.cell? ⟨g, p, none⟩ = some (.int .i64 0) ∧ w4.frozen? ⟨g, p, none⟩ = false ∧ Hid (w4.ownsRow w.heap.size 3 1 (.slice (some ⟨g, 0, none⟩) n cap) n zs) ∧ Hid (Below w.heap.size w w4) := by
  have h := below_drew hb
  have ho4 := own_below ho h
  exact ⟨(h.cell (by exact hlt)).trans q1, (h.cell (by exact hlt)).trans q2, (h.cell (by exact hg)).trans q3, (h.cell (by exact hg)).trans q4, ho4.frozenAt p, ho4, hB.trans (h.mono hB.size)⟩

set_option maxHeartbeats 2000000 in
theorem way_ok (b off len cap : Nat) (fb fr : Nat → Int) (x : Int) (w : World) (hF : Fees w b off len fb fr) (hlc : len ≤ cap) (hcap : len * 16 ≤ 140737488351232) (hbd : ∀ k, k < len → fb k ≤ 9223372036854775807) (hR : rightsB fb fr len = true) (x0 : 0 ≤ x) (x2 : x ≤ 9223372036854775807) (hok : ∀ j, j < len → we fb fr len x j = 0) :
    Calls Try.prog 21 #[.slice (some ⟨b, off, none⟩) len cap, .int .i64 x] w fun e w' => ∃ g, e = .returned (.tuple #[.slice (some ⟨g, 0, none⟩) (len + 1) (len + 1), .int .i64 0]) ∧ Hid (w'.ownsRow w.heap.size 3 1 (.slice (some ⟨g, 0, none⟩) (len + 1) (len + 1)) (len + 1) (I64 (wl fb fr len x len))) ∧ Below w.heap.size w w' := by
  obtain ⟨i0, hi, hz0, hz1, hz2⟩ := info_parts Try.info3
  have HF := hide hF
  have H1 := hide (fees_row b off len cap fb fr w (by omega) hF.lt (fun k hk => ⟨hF.base k hk, hF.rate k hk⟩) hbd)
  rw [hR] at H1
  have HBD := hide hbd
  have HOK := hide hok
  clear hF hbd hR hok
  go_enter Try.func21, Try.ntmps21
  go_wp2_with fail
  refine H1.out.mono ?_
  rintro e w1 ⟨rfl, hb⟩
  have HB1 := hide hb
  have z1 := hb.size
  clear hb H1
  go_wp2_with fail
  refine (may1_yes _ x _ (by simp) x0 x2).mono ?_
  rintro e w2 ⟨rfl, rfl⟩
  have HB2 := hide (HB1.out.alloc z1 (.cells #[.int .i64 x] 3))
  go_wp2_with (at_make; refine wpList_make_full _ rfl _ _ 36 rfl w.heap.size 3 i0 (.int .i64 0) 1 Try.underlying36 hi hz0 hz1 .i64 .i64 _ _ (len + 1) rfl rfl (by omega) (by omega) (by rw [hz2]; omega) (by unfold maxLen; omega) (by simp; omega) ?_)
  intro w3 hown3 hg3
  have HB3 := hide (HB2.out.grown hg3 (by simp; omega) (fun k hk => by cases hk))
  rw [toList_madeCells_one] at hown3
  have HO3 := hide (show w3.ownsRow w.heap.size 3 1 (.slice (some ⟨w1.heap.size + 1, 0, none⟩) (len + 1) (len + 1)) (len + 1) (I64 (List.replicate (len + 1) 0)) by unfold I64; rw [List.map_replicate]; exact hown3)
  have hgw : w.heap.size ≤ w1.heap.size + 1 := by omega
  clear hown3 hg3 HB1 HB2
  generalize w1.heap.size + 1 = g at *
  have c3 : w3.cell? ⟨g, len, none⟩ = some (.int .i64 0) := by rw [HO3.out.cellAt len (by omega), I64_at _ _ (by simp)]; simp [List.getD_eq_getElem?_getD]
  have f3 : w3.frozen? ⟨g, len, none⟩ = false := HO3.out.frozenAt len
  have st := hide (HO3.out.stored len (.int .i64 x))
  have z3 := HB3.out.size
  go_wp2
  go_loopw [7] (fun i wr => ∃ q m : Nat, q + m = len ∧ m ≤ len ∧ i = .int .i64 ((q : Int) - 1) ∧ Hid (wr.ownsRow w.heap.size 3 1 (.slice (some ⟨g, 0, none⟩) (len + 1) (len + 1)) (len + 1) (I64 (List.replicate q 0 ++ wl fb fr len x m))) ∧ Hid (Below w.heap.size w wr)) (fun i _ => (intOf i + 1).toNat)
  case atStart => exact ⟨len, 0, rfl, Nat.zero_le _, rfl, hide (by have h := st.out.1; rw [set_last] at h; exact h), hide (HB3.out.grown st.out.2 z3 (fun k hk => by cases hk; exact hgw))⟩
  case round =>
    obtain ⟨q, m, hqm, hmm, rfl, HO, HB⟩ := hrel
    clear c3 f3 st HO3 HB3 z3
    by_cases hq : q = 0
    · subst hq
      have em : m = len := by omega
      subst em
      go_wp2
      go_ret2
      exact ⟨g, rfl, hide (by have h := HO.out; simpa using h), HB.out⟩
    · obtain ⟨p, rfl⟩ : ∃ p, q = p + 1 := ⟨q - 1, by omega⟩
      rw [show ((p + 1 : Nat) : Int) - 1 = (p : Int) by omega]
      have hpl : p < len := by omega
      have R := HF.out.below HB.out
      have q1 := R.base p hpl
      have q2 := R.rate p hpl
      have hbl := R.lt
      have hgl : g < wr.heap.size := (HO.out.lt g rfl).2
      have hlw := wl_length fb fr len x m
      have q3 : wr.cell? ⟨g, p + 1, none⟩ = some (.int .i64 (wv fb fr len x m)) := by rw [HO.out.cellAt (p + 1) (by omega), at_mid _ _ (by omega), wl_head]
      have q4 : wr.cell? ⟨g, p, none⟩ = some (.int .i64 0) := by rw [HO.out.cellAt p (by omega), at_low]
      have hv := wv_bd fb fr len x m (by omega) HBD.out x0 x2
      have hb2 := HBD.out p hpl
      have HIN := hide (fun w => in_any (fb p) (fr p) (wv fb fr len x m) w hb2 (by omega) hv.2)
      have eN : inN (fb p) (fr p) (wv fb fr len x m) = wv fb fr len x (m + 1) := by show _ = inN (fb (len - 1 - m)) (fr (len - 1 - m)) _; rw [show len - 1 - m = p by omega]
      have eE : inE (fb p) (fr p) (wv fb fr len x m) = we fb fr len x m := by unfold we; rw [show len - 1 - m = p by omega]
      rw [eN, eE] at HIN
      have HW := hide (show wl fb fr len x (m + 1) = wv fb fr len x (m + 1) :: wl fb fr len x m from rfl)
      clear R eN eE hlw
      rw [HOK.out m (by omega)] at HIN
      generalize wv fb fr len x m = y at *
      generalize wv fb fr len x (m + 1) = y2 at *
      generalize fb p = B0 at *
      generalize fr p = R0 at *
      have d1 : wr.drew.cell? ⟨b, off + p * 2, none⟩ = some (.int .i64 B0) := q1
      have d2 : wr.drew.cell? ⟨b, off + p * 2 + 1, none⟩ = some (.int .i64 R0) := q2
      have d3 : wr.drew.cell? ⟨g, p + 1, none⟩ = some (.int .i64 y) := q3
      have t1 : ((p : Int) + 1).toNat = p + 1 := by omega
      have p1 : (p : Int) < (len : Int) := by omega
      have p2 : (p : Int) + 1 < ((len : Int) + 1) := by omega
      have p3 : (0 : Int) ≤ (p : Int) + 1 := by omega
      have p4 : (p : Int) + 1 < ((len + 1 : Nat) : Int) := by omega
      have wq : IntKind.i64.wrap ((p : Int) + 1) = (p : Int) + 1 := by rw [IntKind.wrap_i64]; omega
      have p6 : (p : Int) ≤ 9223372036854775806 := by omega
      go_wp2
      go_region_held3 (fun w' => w'.cell? ⟨b, off + p * 2, none⟩ = some (.int .i64 B0) ∧ w'.cell? ⟨b, off + p * 2 + 1, none⟩ = some (.int .i64 R0) ∧ w'.cell? ⟨g, p + 1, none⟩ = some (.int .i64 y)) (exact ⟨by assumption, by assumption, by assumption⟩)
        (first
          | (go_at_call 45; refine (HIN.out _).mono ?_; rintro e w4 ⟨rfl, hb⟩; obtain ⟨e1, e2, e3, e4, f4, HO4, HB4⟩ := behind_in hb hbl hgl q1 q2 q3 q4 HO.out HB.out))
      have st := hide (HO4.out.stored p (.int .i64 y2))
      have hz4 := HB4.out.size
      go_wp2
      go_roundw
      case rel => exact ⟨p, m + 1, by omega, by omega, by go_num, hide (by have h := st.out.1; rw [set_mid] at h; rw [HW.out]; exact h), hide (HB4.out.grown st.out.2 hz4 (fun k hk => by cases hk; exact hgw))⟩
      case measure => simp [intOf]

set_option maxHeartbeats 2000000 in
theorem way_err (b off len cap : Nat) (fb fr : Nat → Int) (x : Int) (w : World) (hF : Fees w b off len fb fr) (hlc : len ≤ cap) (hcap : len * 16 ≤ 140737488351232) (hbd : ∀ k, k < len → fb k ≤ 9223372036854775807) (hR : rightsB fb fr len = true) (x0 : 0 ≤ x) (x2 : x ≤ 9223372036854775807) (m0 : Nat) (E : Int) (hm0 : m0 < len) (hok : ∀ j, j < m0 → we fb fr len x j = 0) (hE : we fb fr len x m0 = E) (hEn : (E != 0) = true) :
    Calls Try.prog 21 #[.slice (some ⟨b, off, none⟩) len cap, .int .i64 x] w fun e w' => e = .returned (.tuple #[.slice none 0 0, .int .i64 E]) ∧ Below w.heap.size w w' := by
  obtain ⟨i0, hi, hz0, hz1, hz2⟩ := info_parts Try.info3
  have HF := hide hF
  have H1 := hide (fees_row b off len cap fb fr w (by omega) hF.lt (fun k hk => ⟨hF.base k hk, hF.rate k hk⟩) hbd)
  rw [hR] at H1
  have HBD := hide hbd
  have HOK := hide hok
  have HE := hide hE
  clear hF hbd hR hok hE
  go_enter Try.func21, Try.ntmps21
  go_wp2_with fail
  refine H1.out.mono ?_
  rintro e w1 ⟨rfl, hb⟩
  have HB1 := hide hb
  have z1 := hb.size
  clear hb H1
  go_wp2_with fail
  refine (may1_yes _ x _ (by simp) x0 x2).mono ?_
  rintro e w2 ⟨rfl, rfl⟩
  have HB2 := hide (HB1.out.alloc z1 (.cells #[.int .i64 x] 3))
  go_wp2_with (at_make; refine wpList_make_full _ rfl _ _ 36 rfl w.heap.size 3 i0 (.int .i64 0) 1 Try.underlying36 hi hz0 hz1 .i64 .i64 _ _ (len + 1) rfl rfl (by omega) (by omega) (by rw [hz2]; omega) (by unfold maxLen; omega) (by simp; omega) ?_)
  intro w3 hown3 hg3
  have HB3 := hide (HB2.out.grown hg3 (by simp; omega) (fun k hk => by cases hk))
  rw [toList_madeCells_one] at hown3
  have HO3 := hide (show w3.ownsRow w.heap.size 3 1 (.slice (some ⟨w1.heap.size + 1, 0, none⟩) (len + 1) (len + 1)) (len + 1) (I64 (List.replicate (len + 1) 0)) by unfold I64; rw [List.map_replicate]; exact hown3)
  have hgw : w.heap.size ≤ w1.heap.size + 1 := by omega
  clear hown3 hg3 HB1 HB2
  generalize w1.heap.size + 1 = g at *
  have c3 : w3.cell? ⟨g, len, none⟩ = some (.int .i64 0) := by rw [HO3.out.cellAt len (by omega), I64_at _ _ (by simp)]; simp [List.getD_eq_getElem?_getD]
  have f3 : w3.frozen? ⟨g, len, none⟩ = false := HO3.out.frozenAt len
  have st := hide (HO3.out.stored len (.int .i64 x))
  have z3 := HB3.out.size
  go_wp2
  go_loopw [7] (fun i wr => ∃ q m : Nat, q + m = len ∧ m ≤ m0 ∧ i = .int .i64 ((q : Int) - 1) ∧ Hid (wr.ownsRow w.heap.size 3 1 (.slice (some ⟨g, 0, none⟩) (len + 1) (len + 1)) (len + 1) (I64 (List.replicate q 0 ++ wl fb fr len x m))) ∧ Hid (Below w.heap.size w wr)) (fun i _ => (intOf i + 1).toNat)
  case atStart => exact ⟨len, 0, rfl, Nat.zero_le _, rfl, hide (by have h := st.out.1; rw [set_last] at h; exact h), hide (HB3.out.grown st.out.2 z3 (fun k hk => by cases hk; exact hgw))⟩
  case round =>
    obtain ⟨q, m, hqm, hmm, rfl, HO, HB⟩ := hrel
    clear c3 f3 st HO3 HB3 z3
    by_cases hq : q = 0
    · exfalso; omega
    · obtain ⟨p, rfl⟩ : ∃ p, q = p + 1 := ⟨q - 1, by omega⟩
      rw [show ((p + 1 : Nat) : Int) - 1 = (p : Int) by omega]
      have hpl : p < len := by omega
      have R := HF.out.below HB.out
      have q1 := R.base p hpl
      have q2 := R.rate p hpl
      have hbl := R.lt
      have hgl : g < wr.heap.size := (HO.out.lt g rfl).2
      have hlw := wl_length fb fr len x m
      have q3 : wr.cell? ⟨g, p + 1, none⟩ = some (.int .i64 (wv fb fr len x m)) := by rw [HO.out.cellAt (p + 1) (by omega), at_mid _ _ (by omega), wl_head]
      have q4 : wr.cell? ⟨g, p, none⟩ = some (.int .i64 0) := by rw [HO.out.cellAt p (by omega), at_low]
      have hv := wv_bd fb fr len x m (by omega) HBD.out x0 x2
      have hb2 := HBD.out p hpl
      have HIN := hide (fun w => in_any (fb p) (fr p) (wv fb fr len x m) w hb2 (by omega) hv.2)
      have eN : inN (fb p) (fr p) (wv fb fr len x m) = wv fb fr len x (m + 1) := by show _ = inN (fb (len - 1 - m)) (fr (len - 1 - m)) _; rw [show len - 1 - m = p by omega]
      have eE : inE (fb p) (fr p) (wv fb fr len x m) = we fb fr len x m := by unfold we; rw [show len - 1 - m = p by omega]
      rw [eN, eE] at HIN
      have HW := hide (show wl fb fr len x (m + 1) = wv fb fr len x (m + 1) :: wl fb fr len x m from rfl)
      clear R eN eE hlw
      by_cases hmlt : m < m0
      · rw [HOK.out m hmlt] at HIN
        generalize wv fb fr len x m = y at *
        generalize wv fb fr len x (m + 1) = y2 at *
        generalize fb p = B0 at *
        generalize fr p = R0 at *
        have d1 : wr.drew.cell? ⟨b, off + p * 2, none⟩ = some (.int .i64 B0) := q1
        have d2 : wr.drew.cell? ⟨b, off + p * 2 + 1, none⟩ = some (.int .i64 R0) := q2
        have d3 : wr.drew.cell? ⟨g, p + 1, none⟩ = some (.int .i64 y) := q3
        have t1 : ((p : Int) + 1).toNat = p + 1 := by omega
        have p1 : (p : Int) < (len : Int) := by omega
        have p2 : (p : Int) + 1 < ((len : Int) + 1) := by omega
        have p3 : (0 : Int) ≤ (p : Int) + 1 := by omega
        have p4 : (p : Int) + 1 < ((len + 1 : Nat) : Int) := by omega
        have wq : IntKind.i64.wrap ((p : Int) + 1) = (p : Int) + 1 := by rw [IntKind.wrap_i64]; omega
        have p6 : (p : Int) ≤ 9223372036854775806 := by omega
        go_wp2
        go_region_held3 (fun w' => w'.cell? ⟨b, off + p * 2, none⟩ = some (.int .i64 B0) ∧ w'.cell? ⟨b, off + p * 2 + 1, none⟩ = some (.int .i64 R0) ∧ w'.cell? ⟨g, p + 1, none⟩ = some (.int .i64 y)) (exact ⟨by assumption, by assumption, by assumption⟩)
          (first
            | (go_at_call 45; refine (HIN.out _).mono ?_; rintro e w4 ⟨rfl, hb⟩; obtain ⟨e1, e2, e3, e4, f4, HO4, HB4⟩ := behind_in hb hbl hgl q1 q2 q3 q4 HO.out HB.out))
        have st := hide (HO4.out.stored p (.int .i64 y2))
        have hz4 := HB4.out.size
        go_wp2
        go_roundw
        case rel => exact ⟨p, m + 1, by omega, by omega, by go_num, hide (by have h := st.out.1; rw [set_mid] at h; rw [HW.out]; exact h), hide (HB4.out.grown st.out.2 hz4 (fun k hk => by cases hk; exact hgw))⟩
        case measure => simp [intOf]
      · have em : m = m0 := by omega
        subst em
        rw [HE.out] at HIN
        generalize wv fb fr len x m = y at *
        generalize wv fb fr len x (m + 1) = y2 at *
        generalize fb p = B0 at *
        generalize fr p = R0 at *
        have d1 : wr.drew.cell? ⟨b, off + p * 2, none⟩ = some (.int .i64 B0) := q1
        have d2 : wr.drew.cell? ⟨b, off + p * 2 + 1, none⟩ = some (.int .i64 R0) := q2
        have d3 : wr.drew.cell? ⟨g, p + 1, none⟩ = some (.int .i64 y) := q3
        have t1 : ((p : Int) + 1).toNat = p + 1 := by omega
        have p1 : (p : Int) < (len : Int) := by omega
        have p2 : (p : Int) + 1 < ((len : Int) + 1) := by omega
        have p3 : (0 : Int) ≤ (p : Int) + 1 := by omega
        have p4 : (p : Int) + 1 < ((len + 1 : Nat) : Int) := by omega
        have wq : IntKind.i64.wrap ((p : Int) + 1) = (p : Int) + 1 := by rw [IntKind.wrap_i64]; omega
        have p6 : (p : Int) ≤ 9223372036854775806 := by omega
        go_wp2
        go_region_held3 (fun w' => w'.cell? ⟨b, off + p * 2, none⟩ = some (.int .i64 B0) ∧ w'.cell? ⟨b, off + p * 2 + 1, none⟩ = some (.int .i64 R0) ∧ w'.cell? ⟨g, p + 1, none⟩ = some (.int .i64 y)) (exact ⟨by assumption, by assumption, by assumption⟩)
          (first
            | (go_at_call 45; refine (HIN.out _).mono ?_; rintro e w4 ⟨rfl, hb⟩; obtain ⟨e1, e2, e3, e4, f4, HO4, HB4⟩ := behind_in hb hbl hgl q1 q2 q3 q4 HO.out HB.out))
        go_wp2
        go_ret2
        exact ⟨rfl, HB4.out⟩
end Go.Proofs.Ytfbaidmnnkcaeaa
