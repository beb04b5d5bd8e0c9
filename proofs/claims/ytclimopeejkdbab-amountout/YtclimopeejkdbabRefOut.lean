/- The contract of the document's Out (by halving) over this seat's translation. -/
import Derived.Test.YtclimopeejkdbabRefAmt
namespace Go.Proofs.Ytclimopeejkdbab
open Go.RowKit
set_option linter.unusedVariables false

/-- an amount may go out just where it is at most outN -/
theorem in_le_iff (b r x m : Int) (hR : rightB b r = true) (hx : 0 ≤ x) (hb : b ≤ x) (hm : 0 ≤ m) (hmx : m ≤ x) (x2 : x ≤ 9223372036854775807) :
    (inE b r m = 0 ∧ inN b r m ≤ x) ↔ m ≤ ((x - b + 1) * 1000000 - 1) / (1000000 + r) := by
  have hr : 0 ≤ b ∧ 0 ≤ r ∧ r ≤ 1000000 := of_decide_eq_true hR
  have hp := part_le m r hm hr.2.1 hr.2.2
  rw [← out_iff m (x - b) r hr.2.1]
  by_cases ho : m + (b + m * r / 1000000) ≤ 9223372036854775807
  · have hi := in_ok b r m hR hm ho hp.1
    rw [hi.2.2.1, hi.2.2.2]
    generalize m * r / 1000000 = X at *
    omega
  · have hi := in_no b r m hR hm (by omega) hp.1
    rw [hi.1, hi.2]
    generalize m * r / 1000000 = X at *
    omega

theorem outU_bd (b r x : Int) (hR : rightB b r = true) (hx : 0 ≤ x) (hb : b ≤ x) : 0 ≤ ((x - b + 1) * 1000000 - 1) / (1000000 + r) ∧ ((x - b + 1) * 1000000 - 1) / (1000000 + r) ≤ x := by
  have hr : 0 ≤ b ∧ 0 ≤ r ∧ r ≤ 1000000 := of_decide_eq_true hR
  have h0 := (out_iff 0 (x - b) r hr.2.1).1 (by simp; omega)
  refine ⟨h0, ?_⟩
  have h1 := (out_iff (((x - b + 1) * 1000000 - 1) / (1000000 + r)) (x - b) r hr.2.1).2 (Int.le_refl _)
  generalize ((x - b + 1) * 1000000 - 1) / (1000000 + r) = U at *
  have hp : 0 ≤ U * r / 1000000 := Int.ediv_nonneg (Int.mul_nonneg h0 hr.2.1) (by omega)
  omega

set_option maxHeartbeats 2000000 in
theorem rout_any (b r x : Int) (w : World) (b1 : -9223372036854775808 ≤ b) (b2 : b ≤ 9223372036854775807) (x2 : x ≤ 9223372036854775807) :
    Calls Try.prog 23 #[.agg #[.int .i64 b, .int .i64 r], .int .i64 x] w fun e w' => e = .returned (.tuple #[.int .i64 (outN b r x), .int .i64 (outE b r x)]) ∧ Below w.heap.size w w' := by
  have HG := hide (fun w => right_any b r w)
  by_cases hR : rightB b r = true
  · have hr : 0 ≤ b ∧ 0 ≤ r ∧ r ≤ 1000000 := of_decide_eq_true hR
    rw [hR] at HG
    by_cases hx : x < 0
    · have e1 : outN b r x = 0 := if_neg (by omega)
      have e2 : outE b r x = 1 := if_neg (by omega)
      rw [e1, e2]
      clear e1 e2 hR
      go_enter Try.func23, Try.ntmps23
      go_wp2_with fail
      refine (HG.out _).mono ?_
      rintro e w1 ⟨rfl, hb⟩
      have HB := hide (((Below.refl w.heap.size w).alloc (Nat.le_refl _) _).trans (hb.mono (by simp)))
      clear hb
      go_wp2
      go_ret2
      exact ⟨rfl, HB.out⟩
    · have hx0 : 0 ≤ x := by omega
      by_cases hl : x < b
      · have e1 : outN b r x = 0 := by unfold outN; rw [if_pos ⟨hR, hx0⟩, if_pos hl]
        have e2 : outE b r x = 20 := by unfold outE; rw [if_pos ⟨hR, hx0⟩, if_pos hl]
        rw [e1, e2]
        clear e1 e2 hR
        go_enter Try.func23, Try.ntmps23
        go_wp2_with fail
        refine (HG.out _).mono ?_
        rintro e w1 ⟨rfl, hb⟩
        have HB := hide (((Below.refl w.heap.size w).alloc (Nat.le_refl _) _).trans (hb.mono (by simp)))
        have q0 : w1.cell? ⟨w.heap.size, 0, none⟩ = some (.int .i64 b) := (hb.cell (by simp)).trans (by simp)
        clear hb
        go_wp2
        go_ret2
        exact ⟨rfl, HB.out⟩
      · have e1 : outN b r x = ((x - b + 1) * 1000000 - 1) / (1000000 + r) := by unfold outN; rw [if_pos ⟨hR, hx0⟩, if_neg hl]
        have e2 : outE b r x = 0 := by unfold outE; rw [if_pos ⟨hR, hx0⟩, if_neg hl]
        have HP := hide (fun m h1 h2 => in_le_iff b r x m hR hx0 (by omega) h1 h2 x2)
        have hU := outU_bd b r x hR hx0 (by omega)
        have HI := hide (fun m w (h1 : 0 ≤ m) (h2 : m ≤ x) => rin_any b r m w b2 (by omega) (by omega))
        rw [e1, e2]
        clear e1 e2 hR
        generalize ((x - b + 1) * 1000000 - 1) / (1000000 + r) = U at *
        obtain ⟨X, hX⟩ : ∃ X : Nat, (X : Int) = x := ⟨x.toNat, by omega⟩
        have HX := hide hX
        clear hX
        go_enter Try.func23, Try.ntmps23
        go_wp2_with fail
        refine (HG.out _).mono ?_
        rintro e w1 ⟨rfl, hb⟩
        have HB := hide (((Below.refl w.heap.size w).alloc (Nat.le_refl _) _).trans (hb.mono (by simp)))
        have hz : w.heap.size < w1.heap.size := by have := hb.size; simp at this; omega
        have q0 : w1.cell? ⟨w.heap.size, 0, none⟩ = some (.int .i64 b) := (hb.cell (by simp)).trans (by simp)
        have q1 : w1.cell? ⟨w.heap.size, 1, none⟩ = some (.int .i64 r) := (hb.cell (by simp)).trans (by simp)
        clear hb
        go_wp2
        go_loopw [6, 7] (fun lo hi wr => ∃ l h : Int, lo = .int .i64 l ∧ hi = .int .i64 h ∧ 0 ≤ l ∧ l ≤ U ∧ U ≤ h ∧ h ≤ x ∧ wr.cell? ⟨w.heap.size, 0, none⟩ = some (.int .i64 b) ∧ wr.cell? ⟨w.heap.size, 1, none⟩ = some (.int .i64 r) ∧ w.heap.size < wr.heap.size ∧ Hid (Below w.heap.size w wr)) (fun lo hi _ => (intOf hi - intOf lo).toNat)
        case atStart => exact ⟨0, x, rfl, rfl, by omega, hU.1, hU.2, Int.le_refl _, q0, q1, hz, HB⟩
        case round =>
          obtain ⟨l, h, rfl, rfl, k1, k2, k3, k4, c0, c1, zr, HBr⟩ := hrel
          clear q0 q1 hz HB
          by_cases hlt : l < h
          · obtain ⟨m, hm⟩ : ∃ m : Int, m = l + (h - l) / 2 + (h - l) % 2 := ⟨_, rfl⟩
            have m1 : l < m := by omega
            have m2 : m ≤ h := by omega
            have hm' : l + (h - l) / 2 + (h - l) % 2 = m := hm.symm
            clear hm
            have HM := hide (HP.out m (by omega) (by omega))
            have HW := hide (fun w => HI.out m w (by omega) (by omega))
            by_cases hmU : m ≤ U
            · have hh := HM.out.2 hmU
              rw [hh.1] at HW
              have hle : inN b r m ≤ x := hh.2
              clear hh
              generalize inN b r m = N at *
              go_wp2_with fail
              refine (HW.out _).mono ?_
              rintro e w2 ⟨rfl, hb⟩
              have HB2 := hide (HBr.out.trans (hb.mono (by omega)))
              have d0 : w2.cell? ⟨w.heap.size, 0, none⟩ = some (.int .i64 b) := (hb.cell (by exact zr)).trans c0
              have d1 : w2.cell? ⟨w.heap.size, 1, none⟩ = some (.int .i64 r) := (hb.cell (by exact zr)).trans c1
              have z2 : w.heap.size < w2.heap.size := by have := hb.size; omega
              clear hb c0 c1
              go_wp2
              go_roundw
              case rel => exact ⟨m, h, rfl, rfl, by omega, hmU, k3, k4, d0, d1, z2, HB2⟩
              case measure => simp [intOf]; omega
            · have hno : ¬ (inE b r m = 0 ∧ inN b r m ≤ x) := fun hh => hmU (HM.out.1 hh)
              generalize inN b r m = N at *
              generalize inE b r m = E at *
              by_cases hE : E = 0
              · subst hE
                have hN : ¬ N ≤ x := fun hh => hno ⟨rfl, hh⟩
                clear hno
                go_wp2_with fail
                refine (HW.out _).mono ?_
                rintro e w2 ⟨rfl, hb⟩
                have HB2 := hide (HBr.out.trans (hb.mono (by omega)))
                have d0 : w2.cell? ⟨w.heap.size, 0, none⟩ = some (.int .i64 b) := (hb.cell (by exact zr)).trans c0
                have d1 : w2.cell? ⟨w.heap.size, 1, none⟩ = some (.int .i64 r) := (hb.cell (by exact zr)).trans c1
                have z2 : w.heap.size < w2.heap.size := by have := hb.size; omega
                clear hb c0 c1
                go_wp2
                go_roundw
                case rel => exact ⟨l, m - 1, rfl, rfl, k1, k2, by omega, by omega, d0, d1, z2, HB2⟩
                case measure => simp [intOf]; omega
              · have g0 : (E == 0) = false := by simp; exact hE
                clear hno hE
                go_wp2_with fail
                refine (HW.out _).mono ?_
                rintro e w2 ⟨rfl, hb⟩
                have HB2 := hide (HBr.out.trans (hb.mono (by omega)))
                have d0 : w2.cell? ⟨w.heap.size, 0, none⟩ = some (.int .i64 b) := (hb.cell (by exact zr)).trans c0
                have d1 : w2.cell? ⟨w.heap.size, 1, none⟩ = some (.int .i64 r) := (hb.cell (by exact zr)).trans c1
                have z2 : w.heap.size < w2.heap.size := by have := hb.size; omega
                clear hb c0 c1
                go_wp2
                go_roundw
                case rel => exact ⟨l, m - 1, rfl, rfl, k1, k2, by omega, by omega, d0, d1, z2, HB2⟩
                case measure => simp [intOf]; omega
          · have e : l = U := by omega
            have E := hide e
            clear e
            go_wp2
            go_ret2
            exact ⟨by rw [← E.out]; rfl, HBr.out⟩
  · have hR' : rightB b r = false := by simpa using hR
    have e1 : outN b r x = 0 := if_neg (fun h => hR h.1)
    have e2 : outE b r x = 1 := if_neg (fun h => hR h.1)
    rw [e1, e2]
    rw [hR'] at HG
    clear e1 e2 hR hR'
    go_enter Try.func23, Try.ntmps23
    go_wp2_with fail
    refine (HG.out _).mono ?_
    rintro e w1 ⟨rfl, hb⟩
    have HB := hide (((Below.refl w.heap.size w).alloc (Nat.le_refl _) _).trans (hb.mono (by simp)))
    clear hb
    go_wp2
    go_ret2
    exact ⟨rfl, HB.out⟩
end Go.Proofs.Ytclimopeejkdbab
