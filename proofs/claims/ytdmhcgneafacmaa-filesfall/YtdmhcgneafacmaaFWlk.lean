/- The walk of FilesFall over this seat's translation. -/
import Derived.Test.YtdmhcgneafacmaaFTail
import Derived.Test.YtdmhcgneafacmaaFOps
import Derived.Test.YtdmhcgneafacmaaRows
import Derived.ProofKit
import Derived.OpenShut
import Derived.SizedLaws
import Derived.WideShapes
import Derived.ChangeMaps5
namespace Go.Proofs.Ytdmhcgneafacmaa.filesFall
open Go.ChangeShapes Go.WideShapes Go.ChangeAt Go.ChangeMaps Go.RowKit
set_option linter.unusedVariables false
set_option linter.unusedSimpArgs false
set_option maxRecDepth 100000

/-- New, and lives behind it -/
theorem start (w : World) : Hid (Calls Try.prog 7 #[.int .i64 65536] w fun e w1 => e = .returned (.tuple #[.pointer (some ⟨w.heap.size + 2, 0, none⟩), .int .i64 0]) ∧ Hid (Calls Try.prog 9 #[] w1 fun e w2 => e = .returned (.bool true) ∧ Hid (Fly w w2 (w.heap.size + 2) 0))) :=
  hide ((fly_new w).mono fun e w1 h1 => ⟨h1.1, hide ((lives_any w1).mono fun e w2 h2 => ⟨h2.1, hide (h1.2.out.next h2.2.out)⟩)⟩)
/-- a call's cells, whatever was done on the disk -/
theorem cal_cells {w W : World} {f k b off i : Nat} {q : Cal} (hc : ∀ j u, q.cells[j]? = some u → w.cell? ⟨b, off + i * 6 + j, none⟩ = some u) (h : Fly w W f k) :
    W.cell? ⟨b, off + i * 6, none⟩ = some (.int .i64 q.kind) ∧ W.cell? ⟨b, off + i * 6 + 1, none⟩ = some (.string q.s) ∧ W.cell? ⟨b, off + i * 6 + 2, none⟩ = some (.string q.t) ∧ W.cell? ⟨b, off + i * 6 + 3, none⟩ = some (.slice q.ao q.n q.cap) ∧ W.cell? ⟨b, off + i * 6 + 4, none⟩ = some (.int .i64 q.x) := by
  have hb := h.below
  have go : ∀ j u, q.cells[j]? = some u → W.cell? ⟨b, off + i * 6 + j, none⟩ = some u := fun j u hu => (hb.cell (p := ⟨b, off + i * 6 + j, none⟩) (block_lt_of_cell (hc j u hu))).trans (hc j u hu)
  exact ⟨go 0 _ rfl, go 1 _ rfl, go 2 _ rfl, go 3 _ rfl, go 4 _ rfl⟩
theorem fly_sync_of {w W : World} {f k : Nat} (h : Fly w W f k) (hk : k ≤ 60) (m : Nat) (hm : m = 0) : Calls Try.prog 12 #[.pointer (some ⟨f, 0, none⟩)] W fun e w' => e = .returned (.int .i64 0) ∧ Hid (Calm w w' f m true) := by
  subst hm
  exact fly_sync h hk
theorem Twin.drewN {w : World} {g1 g2 n : Nat} (h : Twin w g1 g2 n) (q : Nat) : Twin (w.drewN q) g1 g2 n := fun i hi => by
  obtain ⟨s, ao1, c1, ao2, c2, len, z, t1, t2, t3, t4, v1, v2⟩ := h i hi
  exact ⟨s, ao1, c1, ao2, c2, len, z, t1, t2, t3, t4, fun r => by rw [World.drewN_drewN]; exact v1 _, fun r => by rw [World.drewN_drewN]; exact v2 _⟩
theorem Below.drewN' {w W : World} {B : Nat} (h : Below B w W) (q : Nat) : Below B w (W.drewN q) := ⟨h.os, h.tape, h.output, h.size, h.block⟩
set_option maxHeartbeats 40000000 in
theorem walk (ao : Option Addr) (len cap : Nat) (k b : Int) (y : Bool) (w : World) (w0 : IsOps w ao len cap) (w1 : (Lit.int .i64 k).wf = true) (w2 : (Lit.int .i64 b).wf = true) :
    Calls Try.prog 4 #[.slice ao len cap, .int .i64 k, .int .i64 b, .bool y] w fun e w' => e = .returned (.bool true) ∧ Below w.heap.size w w' := by
  obtain ⟨k1, k2⟩ := bounds_i64 w1
  obtain ⟨b1, b2⟩ := bounds_i64 w2
  obtain ⟨hlc, hcm, bb, off, hao, hops⟩ := w0
  have HOPS := hide hops
  have H7 := start w
  have HX := hide (fun i W' (q : Cal) (k : Nat) (hc : ∀ j u, q.cells[j]? = some u → w.cell? ⟨bb, off + i * 6 + j, none⟩ = some u) (h : Fly w W' (w.heap.size + 2) k) => cal_cells hc h)
  have HL2 := hide hao
  clear w1 w2 hops hao
  generalize hf : w.heap.size + 2 = f at *
  clear hf
  go_enter Try.func4, Try.ntmps4
  go_wp2_with (first
    | (go_at_call 7; refine H7.out.mono ?_; rintro e w1 ⟨rfl, HA1⟩)
    | (go_at_call 9; refine HA1.out.mono ?_; rintro e w2 ⟨rfl, HF0⟩))
  go_loopw [11] (fun i wr => ∃ kk : Nat, kk ≤ len ∧ kk ≤ 60 ∧ i = .int .i64 kk ∧ Hid (Fly w wr f kk)) (fun i _ => 60 - (intOf i).toNat)
  case atStart => exact ⟨0, Nat.zero_le _, by omega, rfl, HF0⟩
  case round =>
    obtain ⟨kk, hk1, hk60, rfl, HF⟩ := hrel
    by_cases hlt : kk < len ∧ kk < 60
    · obtain ⟨hl1, hl2⟩ := hlt
      have hao := HL2.out (by omega)
      subst hao
      obtain ⟨q, hfit, hcells⟩ := HOPS.out kk hl1
      obtain ⟨c0, c1, c2, c3, c4⟩ := HX.out kk _ q kk hcells HF.out
      have hfd := HF.out.next (Below.refl _ _).drew
      obtain ⟨_, d1, d2, d3, d4⟩ := HX.out kk _ q kk hcells hfd
      have HN := hide (fun W' (h : Fly w W' f (kk + 1)) => HX.out kk W' q (kk + 1) hcells h)
      have HAP := hide (fly_append hfd (by omega) q.s hfit.ss q.ao q.cap q.zs q.n hfit.len (hfit.bytes.below hfd.below) hfit.cap hfit.most)
      have HTR := hide (fly_trunc hfd (by omega) q.s hfit.ss q.x hfit.num)
      have HRN := hide (fly_rename hfd (by omega) q.s q.t hfit.ss hfit.ts)
      have HRM := hide (fly_remove HF.out (by omega) q.s hfit.ss)
      have HMO := hide HF.out.more
      clear hfd hfit hcells
      generalize q.kind = kd at *
      generalize q.s = s at *
      generalize q.t = t at *
      generalize q.ao = a2 at *
      generalize q.n = n at *
      generalize q.cap = cp at *
      generalize q.x = x at *
      have hi1 : (kk : Int) < (len : Int) := by omega
      have hi2 : (kk : Int) < 60 := by omega
      by_cases h1 : kd = 1
      · subst h1
        go_wp2
        go_region_held3 (fun W' => W'.cell? ⟨bb, off + kk * 6 + 1, none⟩ = some (.string s) ∧ W'.cell? ⟨bb, off + kk * 6 + 3, none⟩ = some (.slice a2 n cp)) (exact ⟨by assumption, by assumption⟩)
          (first
            | (go_at_call 11; refine HAP.out.mono ?_; rintro e w9 ⟨E, rfl, HF9⟩; obtain ⟨_, e1, e2, e3, e4⟩ := HN.out _ HF9.out))
        go_wp2
        go_roundw
        case rel => exact ⟨kk + 1, by omega, by omega, by go_num, HF9⟩
        case measure => simp [intOf]; omega
      have n1 : (kd == 1) = false := beq_eq_false_iff_ne.2 h1
      by_cases h2 : kd = 2
      · subst h2
        go_wp2
        go_region_held3 (fun W' => W'.cell? ⟨bb, off + kk * 6 + 1, none⟩ = some (.string s) ∧ W'.cell? ⟨bb, off + kk * 6 + 4, none⟩ = some (.int .i64 x)) (exact ⟨by assumption, by assumption⟩)
          (first
            | (go_at_call 14; refine HTR.out.mono ?_; rintro e w9 ⟨E, rfl, HF9⟩; obtain ⟨_, e1, e2, e3, e4⟩ := HN.out _ HF9.out))
        go_wp2
        go_roundw
        case rel => exact ⟨kk + 1, by omega, by omega, by go_num, HF9⟩
        case measure => simp [intOf]; omega
      have n2 : (kd == 2) = false := beq_eq_false_iff_ne.2 h2
      by_cases h3 : kd = 3
      · subst h3
        go_wp2
        go_region_held3 (fun W' => W'.cell? ⟨bb, off + kk * 6 + 1, none⟩ = some (.string s) ∧ W'.cell? ⟨bb, off + kk * 6 + 2, none⟩ = some (.string t)) (exact ⟨by assumption, by assumption⟩)
          (first
            | (go_at_call 15; refine HRN.out.mono ?_; rintro e w9 ⟨E, rfl, HF9⟩; obtain ⟨_, e1, e2, e3, e4⟩ := HN.out _ HF9.out))
        go_wp2
        go_roundw
        case rel => exact ⟨kk + 1, by omega, by omega, by go_num, HF9⟩
        case measure => simp [intOf]; omega
      have n3 : (kd == 3) = false := beq_eq_false_iff_ne.2 h3
      by_cases h4 : kd = 4
      · subst h4
        go_wp2_with (first | (go_at_call 16; refine HRM.out.mono ?_; rintro e w9 ⟨E, rfl, HF9⟩))
        go_roundw
        case rel => exact ⟨kk + 1, by omega, by omega, by go_num, HF9⟩
        case measure => simp [intOf]; omega
      have n4 : (kd == 4) = false := beq_eq_false_iff_ne.2 h4
      go_wp2
      go_roundw
      case rel => exact ⟨kk + 1, by omega, by omega, by go_num, HMO⟩
      case measure => simp [intOf]; omega
    · have hend : (¬ (kk : Int) < (len : Int)) ∨ ((kk : Int) < (len : Int) ∧ ¬ (kk : Int) < 60) := by omega
      clear HOPS HX HL2 hlt H7 HA1 HF0
      cases y
      · obtain ⟨m, hm60, hcalm⟩ := HF.out.calm hk60
        by_cases hbad : k < 0 ∨ (m : Int) < k ∨ b < 0
        · have HL := hide (calm_bad hcalm k b hbad)
          clear HF hcalm
          by_cases hk0 : k < 0
          · clear hbad
            rcases hend with he | ⟨he, he2⟩
            · go_wp2_with (first
                | (go_at_call 12; refine HS.out.mono ?_; rintro e w5 ⟨rfl, HL⟩)
                | (go_at_call 17; refine HL.out.mono ?_; rintro e w6 ⟨v, rfl, HU, HCR, HB⟩)
                | (go_at_call 18; refine HU.out.mono ?_; rintro e w7 ⟨rfl, rfl⟩)
                | (go_at_call 19; refine HCR.out.mono ?_; rintro e w8 ⟨rfl, rfl⟩))
              go_ret
              exact ⟨rfl, HB.out⟩
            · go_wp2_with (first
                | (go_at_call 12; refine HS.out.mono ?_; rintro e w5 ⟨rfl, HL⟩)
                | (go_at_call 17; refine HL.out.mono ?_; rintro e w6 ⟨v, rfl, HU, HCR, HB⟩)
                | (go_at_call 18; refine HU.out.mono ?_; rintro e w7 ⟨rfl, rfl⟩)
                | (go_at_call 19; refine HCR.out.mono ?_; rintro e w8 ⟨rfl, rfl⟩))
              go_ret
              exact ⟨rfl, HB.out⟩
          by_cases hkm : (m : Int) < k
          · clear hbad
            rcases hend with he | ⟨he, he2⟩
            · go_wp2_with (first
                | (go_at_call 12; refine HS.out.mono ?_; rintro e w5 ⟨rfl, HL⟩)
                | (go_at_call 17; refine HL.out.mono ?_; rintro e w6 ⟨v, rfl, HU, HCR, HB⟩)
                | (go_at_call 18; refine HU.out.mono ?_; rintro e w7 ⟨rfl, rfl⟩)
                | (go_at_call 19; refine HCR.out.mono ?_; rintro e w8 ⟨rfl, rfl⟩))
              go_ret
              exact ⟨rfl, HB.out⟩
            · go_wp2_with (first
                | (go_at_call 12; refine HS.out.mono ?_; rintro e w5 ⟨rfl, HL⟩)
                | (go_at_call 17; refine HL.out.mono ?_; rintro e w6 ⟨v, rfl, HU, HCR, HB⟩)
                | (go_at_call 18; refine HU.out.mono ?_; rintro e w7 ⟨rfl, rfl⟩)
                | (go_at_call 19; refine HCR.out.mono ?_; rintro e w8 ⟨rfl, rfl⟩))
              go_ret
              exact ⟨rfl, HB.out⟩
          have hb0 : b < 0 := by omega
          clear hbad
          rcases hend with he | ⟨he, he2⟩
          · go_wp2_with (first
              | (go_at_call 12; refine HS.out.mono ?_; rintro e w5 ⟨rfl, HL⟩)
              | (go_at_call 17; refine HL.out.mono ?_; rintro e w6 ⟨v, rfl, HU, HCR, HB⟩)
              | (go_at_call 18; refine HU.out.mono ?_; rintro e w7 ⟨rfl, rfl⟩)
              | (go_at_call 19; refine HCR.out.mono ?_; rintro e w8 ⟨rfl, rfl⟩))
            go_ret
            exact ⟨rfl, HB.out⟩
          · go_wp2_with (first
              | (go_at_call 12; refine HS.out.mono ?_; rintro e w5 ⟨rfl, HL⟩)
              | (go_at_call 17; refine HL.out.mono ?_; rintro e w6 ⟨v, rfl, HU, HCR, HB⟩)
              | (go_at_call 18; refine HU.out.mono ?_; rintro e w7 ⟨rfl, rfl⟩)
              | (go_at_call 19; refine HCR.out.mono ?_; rintro e w8 ⟨rfl, rfl⟩))
            go_ret
            exact ⟨rfl, HB.out⟩
        · obtain ⟨kn, rfl⟩ : ∃ kn : Nat, k = kn := ⟨k.toNat, by omega⟩
          obtain ⟨bn, rfl⟩ : ∃ bn : Nat, b = bn := ⟨b.toNat, by omega⟩
          have hk0 : ¬ (kn : Int) < 0 := by omega
          have hkm : ¬ (m : Int) < (kn : Int) := by omega
          have hb0 : ¬ (bn : Int) < 0 := by omega
          have HL := hide (calm_good hcalm kn bn (by omega) (by omega))
          clear HF hbad hcalm
          by_cases hlt2 : kn < m
          · have hkm2 : (kn : Int) < (m : Int) := by omega
            rcases hend with he | ⟨he, he2⟩
            · go_wp2_with (first
                | (go_at_call 12; refine HS.out.mono ?_; rintro e w5 ⟨rfl, HL⟩)
                | (go_at_call 17; have _t := HL; refine HL.out.mono ?_; rintro e w6 ⟨g1, n1, cap1, rfl, HU, HCR⟩; clear HL)
                | (go_at_call 18; have _t := HU; refine HU.out.mono ?_; rintro e w7 ⟨rfl, rfl⟩; clear HU)
                | (go_at_call 19; refine HCR.out.mono ?_; rintro e w8 ⟨rfl, HL3⟩)
                | (go_at_call 17; refine HL3.out.mono ?_; rintro e w9 ⟨g2, n2, cap2, rfl, HU2, HB, HTW⟩)
                | (go_at_call 18; refine HU2.out.mono ?_; rintro e w10 ⟨rfl, rfl⟩))
              go_ret
              exact ⟨rfl, HB.out⟩
            · go_wp2_with (first
                | (go_at_call 12; refine HS.out.mono ?_; rintro e w5 ⟨rfl, HL⟩)
                | (go_at_call 17; have _t := HL; refine HL.out.mono ?_; rintro e w6 ⟨g1, n1, cap1, rfl, HU, HCR⟩; clear HL)
                | (go_at_call 18; have _t := HU; refine HU.out.mono ?_; rintro e w7 ⟨rfl, rfl⟩; clear HU)
                | (go_at_call 19; refine HCR.out.mono ?_; rintro e w8 ⟨rfl, HL3⟩)
                | (go_at_call 17; refine HL3.out.mono ?_; rintro e w9 ⟨g2, n2, cap2, rfl, HU2, HB, HTW⟩)
                | (go_at_call 18; refine HU2.out.mono ?_; rintro e w10 ⟨rfl, rfl⟩))
              go_ret
              exact ⟨rfl, HB.out⟩
          have HKM := hide (show kn = m by omega)
          have hkm2 : ¬ (kn : Int) < (m : Int) := by omega
          clear hlt2
          rcases hend with he | ⟨he, he2⟩
          · go_wp2_with (first
              | (go_at_call 12; refine HS.out.mono ?_; rintro e w5 ⟨rfl, HL⟩)
              | (go_at_call 17; have _t := HL; refine HL.out.mono ?_; rintro e w6 ⟨g1, n1, cap1, rfl, HU, HCR⟩; clear HL)
              | (go_at_call 18; have _t := HU; refine HU.out.mono ?_; rintro e w7 ⟨rfl, rfl⟩; clear HU)
              | (go_at_call 19; refine HCR.out.mono ?_; rintro e w8 ⟨rfl, HL3⟩)
              | (go_at_call 17; refine HL3.out.mono ?_; rintro e w9 ⟨g2, n2, cap2, rfl, HU2, HB, HTW⟩; obtain ⟨hnn, hsm, htw⟩ := HTW.out HKM.out; subst hnn; have HT := hide htw; clear htw HTW)
              | (go_at_call 18; refine HU2.out.mono ?_; rintro e w10 ⟨rfl, rfl⟩))
            go_loopw [15] (fun i wr => ∃ j : Nat, j ≤ n1 ∧ i = .int .i64 j ∧ Hid (Twin wr g1 g2 n1) ∧ Hid (Below w.heap.size w wr)) (fun i _ => n1 - (intOf i).toNat)
            case atStart => exact ⟨0, Nat.zero_le _, rfl, HT, HB⟩
            case round =>
              obtain ⟨j, hj, rfl, HT2, HB2⟩ := hrel
              by_cases hjn : j < n1
              · obtain ⟨s, ao1, c1, ao2, c2, ln, z, t1, t2, t3, t4, v1, v2⟩ := HT2.out j hjn
                have hji : (j : Int) < (n1 : Int) := by omega
                have sb := beq_same s
                have zb := beq_same z
                go_wp2
                go_quiet (fail)
                go_wp2
                go_roundw
                case rel => exact ⟨j + 1, by omega, by go_num, Twin.drewN HT2.out _, Below.drewN' HB2.out _⟩
                case measure => simp [intOf]; omega
              · have hji : ¬ (j : Int) < (n1 : Int) := by omega
                go_wp2
                go_ret
                exact ⟨rfl, HB2.out⟩
          · go_wp2_with (first
              | (go_at_call 12; refine HS.out.mono ?_; rintro e w5 ⟨rfl, HL⟩)
              | (go_at_call 17; have _t := HL; refine HL.out.mono ?_; rintro e w6 ⟨g1, n1, cap1, rfl, HU, HCR⟩; clear HL)
              | (go_at_call 18; have _t := HU; refine HU.out.mono ?_; rintro e w7 ⟨rfl, rfl⟩; clear HU)
              | (go_at_call 19; refine HCR.out.mono ?_; rintro e w8 ⟨rfl, HL3⟩)
              | (go_at_call 17; refine HL3.out.mono ?_; rintro e w9 ⟨g2, n2, cap2, rfl, HU2, HB, HTW⟩; obtain ⟨hnn, hsm, htw⟩ := HTW.out HKM.out; subst hnn; have HT := hide htw; clear htw HTW)
              | (go_at_call 18; refine HU2.out.mono ?_; rintro e w10 ⟨rfl, rfl⟩))
            go_loopw [15] (fun i wr => ∃ j : Nat, j ≤ n1 ∧ i = .int .i64 j ∧ Hid (Twin wr g1 g2 n1) ∧ Hid (Below w.heap.size w wr)) (fun i _ => n1 - (intOf i).toNat)
            case atStart => exact ⟨0, Nat.zero_le _, rfl, HT, HB⟩
            case round =>
              obtain ⟨j, hj, rfl, HT2, HB2⟩ := hrel
              by_cases hjn : j < n1
              · obtain ⟨s, ao1, c1, ao2, c2, ln, z, t1, t2, t3, t4, v1, v2⟩ := HT2.out j hjn
                have hji : (j : Int) < (n1 : Int) := by omega
                have sb := beq_same s
                have zb := beq_same z
                go_wp2
                go_quiet (fail)
                go_wp2
                go_roundw
                case rel => exact ⟨j + 1, by omega, by go_num, Twin.drewN HT2.out _, Below.drewN' HB2.out _⟩
                case measure => simp [intOf]; omega
              · have hji : ¬ (j : Int) < (n1 : Int) := by omega
                go_wp2
                go_ret
                exact ⟨rfl, HB2.out⟩
      · obtain ⟨m, hm⟩ : ∃ m : Nat, m = 0 := ⟨0, rfl⟩
        have hsy := fly_sync_of HF.out hk60 m hm
        have HM := hide hm
        clear hm
        by_cases hbad : k < 0 ∨ (m : Int) < k ∨ b < 0
        · have HS := hide (hsy.mono fun e w' hp => show e = _ ∧ Hid _ from ⟨hp.1, hide (calm_bad hp.2.out k b hbad)⟩)
          clear HF hsy
          by_cases hk0 : k < 0
          · clear hbad
            rcases hend with he | ⟨he, he2⟩
            · go_wp2_with (first
                | (go_at_call 12; refine HS.out.mono ?_; rintro e w5 ⟨rfl, HL⟩)
                | (go_at_call 17; refine HL.out.mono ?_; rintro e w6 ⟨v, rfl, HU, HCR, HB⟩)
                | (go_at_call 18; refine HU.out.mono ?_; rintro e w7 ⟨rfl, rfl⟩)
                | (go_at_call 19; refine HCR.out.mono ?_; rintro e w8 ⟨rfl, rfl⟩))
              go_ret
              exact ⟨rfl, HB.out⟩
            · go_wp2_with (first
                | (go_at_call 12; refine HS.out.mono ?_; rintro e w5 ⟨rfl, HL⟩)
                | (go_at_call 17; refine HL.out.mono ?_; rintro e w6 ⟨v, rfl, HU, HCR, HB⟩)
                | (go_at_call 18; refine HU.out.mono ?_; rintro e w7 ⟨rfl, rfl⟩)
                | (go_at_call 19; refine HCR.out.mono ?_; rintro e w8 ⟨rfl, rfl⟩))
              go_ret
              exact ⟨rfl, HB.out⟩
          by_cases hkm : (m : Int) < k
          · clear hbad
            rcases hend with he | ⟨he, he2⟩
            · go_wp2_with (first
                | (go_at_call 12; refine HS.out.mono ?_; rintro e w5 ⟨rfl, HL⟩)
                | (go_at_call 17; refine HL.out.mono ?_; rintro e w6 ⟨v, rfl, HU, HCR, HB⟩)
                | (go_at_call 18; refine HU.out.mono ?_; rintro e w7 ⟨rfl, rfl⟩)
                | (go_at_call 19; refine HCR.out.mono ?_; rintro e w8 ⟨rfl, rfl⟩))
              go_ret
              exact ⟨rfl, HB.out⟩
            · go_wp2_with (first
                | (go_at_call 12; refine HS.out.mono ?_; rintro e w5 ⟨rfl, HL⟩)
                | (go_at_call 17; refine HL.out.mono ?_; rintro e w6 ⟨v, rfl, HU, HCR, HB⟩)
                | (go_at_call 18; refine HU.out.mono ?_; rintro e w7 ⟨rfl, rfl⟩)
                | (go_at_call 19; refine HCR.out.mono ?_; rintro e w8 ⟨rfl, rfl⟩))
              go_ret
              exact ⟨rfl, HB.out⟩
          have hb0 : b < 0 := by omega
          clear hbad
          rcases hend with he | ⟨he, he2⟩
          · go_wp2_with (first
              | (go_at_call 12; refine HS.out.mono ?_; rintro e w5 ⟨rfl, HL⟩)
              | (go_at_call 17; refine HL.out.mono ?_; rintro e w6 ⟨v, rfl, HU, HCR, HB⟩)
              | (go_at_call 18; refine HU.out.mono ?_; rintro e w7 ⟨rfl, rfl⟩)
              | (go_at_call 19; refine HCR.out.mono ?_; rintro e w8 ⟨rfl, rfl⟩))
            go_ret
            exact ⟨rfl, HB.out⟩
          · go_wp2_with (first
              | (go_at_call 12; refine HS.out.mono ?_; rintro e w5 ⟨rfl, HL⟩)
              | (go_at_call 17; refine HL.out.mono ?_; rintro e w6 ⟨v, rfl, HU, HCR, HB⟩)
              | (go_at_call 18; refine HU.out.mono ?_; rintro e w7 ⟨rfl, rfl⟩)
              | (go_at_call 19; refine HCR.out.mono ?_; rintro e w8 ⟨rfl, rfl⟩))
            go_ret
            exact ⟨rfl, HB.out⟩
        · obtain ⟨kn, rfl⟩ : ∃ kn : Nat, k = kn := ⟨k.toNat, by omega⟩
          obtain ⟨bn, rfl⟩ : ∃ bn : Nat, b = bn := ⟨b.toNat, by omega⟩
          have hk0 : ¬ (kn : Int) < 0 := by omega
          have hkm : ¬ (m : Int) < (kn : Int) := by omega
          have hb0 : ¬ (bn : Int) < 0 := by omega
          have HS := hide (hsy.mono fun e w' hp => show e = _ ∧ Hid _ from ⟨hp.1, hide (calm_good hp.2.out kn bn (by omega) (by omega))⟩)
          clear HF hbad hsy
          have HKM := hide (show kn = m by have := HM.out; omega)
          rcases hend with he | ⟨he, he2⟩
          · go_wp2_with (first
              | (go_at_call 12; refine HS.out.mono ?_; rintro e w5 ⟨rfl, HL⟩)
              | (go_at_call 17; have _t := HL; refine HL.out.mono ?_; rintro e w6 ⟨g1, n1, cap1, rfl, HU, HCR⟩; clear HL)
              | (go_at_call 18; have _t := HU; refine HU.out.mono ?_; rintro e w7 ⟨rfl, rfl⟩; clear HU)
              | (go_at_call 19; refine HCR.out.mono ?_; rintro e w8 ⟨rfl, HL3⟩)
              | (go_at_call 17; refine HL3.out.mono ?_; rintro e w9 ⟨g2, n2, cap2, rfl, HU2, HB, HTW⟩; obtain ⟨hnn, hsm, htw⟩ := HTW.out HKM.out; subst hnn; have HT := hide htw; clear htw HTW)
              | (go_at_call 18; refine HU2.out.mono ?_; rintro e w10 ⟨rfl, rfl⟩))
            go_loopw [15] (fun i wr => ∃ j : Nat, j ≤ n1 ∧ i = .int .i64 j ∧ Hid (Twin wr g1 g2 n1) ∧ Hid (Below w.heap.size w wr)) (fun i _ => n1 - (intOf i).toNat)
            case atStart => exact ⟨0, Nat.zero_le _, rfl, HT, HB⟩
            case round =>
              obtain ⟨j, hj, rfl, HT2, HB2⟩ := hrel
              by_cases hjn : j < n1
              · obtain ⟨s, ao1, c1, ao2, c2, ln, z, t1, t2, t3, t4, v1, v2⟩ := HT2.out j hjn
                have hji : (j : Int) < (n1 : Int) := by omega
                have sb := beq_same s
                have zb := beq_same z
                go_wp2
                go_quiet (fail)
                go_wp2
                go_roundw
                case rel => exact ⟨j + 1, by omega, by go_num, Twin.drewN HT2.out _, Below.drewN' HB2.out _⟩
                case measure => simp [intOf]; omega
              · have hji : ¬ (j : Int) < (n1 : Int) := by omega
                go_wp2
                go_ret
                exact ⟨rfl, HB2.out⟩
          · go_wp2_with (first
              | (go_at_call 12; refine HS.out.mono ?_; rintro e w5 ⟨rfl, HL⟩)
              | (go_at_call 17; have _t := HL; refine HL.out.mono ?_; rintro e w6 ⟨g1, n1, cap1, rfl, HU, HCR⟩; clear HL)
              | (go_at_call 18; have _t := HU; refine HU.out.mono ?_; rintro e w7 ⟨rfl, rfl⟩; clear HU)
              | (go_at_call 19; refine HCR.out.mono ?_; rintro e w8 ⟨rfl, HL3⟩)
              | (go_at_call 17; refine HL3.out.mono ?_; rintro e w9 ⟨g2, n2, cap2, rfl, HU2, HB, HTW⟩; obtain ⟨hnn, hsm, htw⟩ := HTW.out HKM.out; subst hnn; have HT := hide htw; clear htw HTW)
              | (go_at_call 18; refine HU2.out.mono ?_; rintro e w10 ⟨rfl, rfl⟩))
            go_loopw [15] (fun i wr => ∃ j : Nat, j ≤ n1 ∧ i = .int .i64 j ∧ Hid (Twin wr g1 g2 n1) ∧ Hid (Below w.heap.size w wr)) (fun i _ => n1 - (intOf i).toNat)
            case atStart => exact ⟨0, Nat.zero_le _, rfl, HT, HB⟩
            case round =>
              obtain ⟨j, hj, rfl, HT2, HB2⟩ := hrel
              by_cases hjn : j < n1
              · obtain ⟨s, ao1, c1, ao2, c2, ln, z, t1, t2, t3, t4, v1, v2⟩ := HT2.out j hjn
                have hji : (j : Int) < (n1 : Int) := by omega
                have sb := beq_same s
                have zb := beq_same z
                go_wp2
                go_quiet (fail)
                go_wp2
                go_roundw
                case rel => exact ⟨j + 1, by omega, by go_num, Twin.drewN HT2.out _, Below.drewN' HB2.out _⟩
                case measure => simp [intOf]; omega
              · have hji : ¬ (j : Int) < (n1 : Int) := by omega
                go_wp2
                go_ret
                exact ⟨rfl, HB2.out⟩
end Go.Proofs.Ytdmhcgneafacmaa.filesFall
