/- The contract of wire's Encode over this seat's translation, where the message may be. -/
import Derived.Test.YtcbadmkgbaffpaaWEnc2
namespace Go.Proofs.Ytcbadmkgbaffpaa
open Go.RowKit
set_option linter.unusedVariables false

theorem make_two (N : Nat) (hN : N ≤ 281474976710656) (h2 : 2 ≤ N) (w : World) : (Instr.makeSlice 23 (.int .i64 2) (.int .i64 (N : Int))).run Try.prog w = .ok (.slice (some ⟨w.heap.size, 0, none⟩) 2 N) (w.alloc (.cells (madeCells #[.int .u8 0] N) 5)) := by
  obtain ⟨i0, hi, hz0, hz1, hz2⟩ := info_parts Try.info5
  have hr := run_make (P := Try.prog) w 23 5 i0 (.int .u8 0) Try.underlying23 hi hz0 .i64 .i64 2 (N : Int) (by omega) (by omega) (by rw [hz2]; omega) (by omega)
  simp only [Int.toNat_natCast, hz1, Nat.mul_one] at hr
  exact hr

theorem made_0 (N : Nat) (h : 2 ≤ N) : (madeCells #[.int .u8 0] N)[0]? = some (.int .u8 0) ∧ (madeCells #[.int .u8 0] N)[1]? = some (.int .u8 0) := by
  have h0 : 0 < N := by omega
  have h1 : 1 < N := by omega
  exact ⟨by simp [madeCells, h0], by simp [madeCells, h1]⟩
theorem set_two (M : Array Value) (x y : Value) (h : 2 ≤ M.size) : ((M.setIfInBounds 0 x).setIfInBounds 1 y).toList.take 2 = [x, y] := by
  obtain ⟨l⟩ := M
  match l, h with
  | a :: b :: t, _ => simp
  | [_], h => simp at h
  | [], h => simp at h
theorem own_two (w : World) (x y : Value) (N : Nat) (h : 2 ≤ N) (hN : N ≤ maxLen) : (w.alloc (.cells (((madeCells #[.int .u8 0] N).setIfInBounds 0 x).setIfInBounds 1 y) 5)).ownsRow w.heap.size 5 1 (.slice (some ⟨w.heap.size, 0, none⟩) 2 N) 2 [x, y] :=
  ⟨rfl, .inr ⟨w.heap.size, N, _, rfl, Nat.le_refl _, heap_alloc_new w _, h, hN, by simp [size_madeCells], set_two _ x y (by rw [size_madeCells]; exact h)⟩⟩

set_option maxHeartbeats 2000000 in
theorem encode_ok (K : Int) (F : Nat → Fld) (hF : Fits F) (w : World) (hG : Good w F) (hm : mayB K F = true) :
    Calls Try.prog 9 #[.agg (mc K F).toArray] w fun e w' => ∃ a c, e = .returned (.tuple #[.slice a (encB K F).length c, .int .i64 0]) ∧ Hid (IsB w' a c (encB K F)) ∧ (encB K F).length ≤ c ∧ c ≤ 9223372036854775807 ∧ Hid (Below w.heap.size w w') := by
  obtain ⟨i0, hi, hz0, hz1, hz2⟩ := info_parts Try.info5
  obtain ⟨j0, hj, hy0, hy1, hy2⟩ := info_parts Try.infoRec
  have HM := hide (MsgAt.new w K hF)
  have HR := hide HM.out.range
  have HL := hide (show (Try.prog.info? 25).map (·.size) = some (mc K F).length by rw [mc_len K hF]; exact Try.info25)
  have HMY := hide (fun W => may_any K F hF hG.small W)
  rw [hm] at HMY
  have HN := hide (fun (i : Nat) (hi : i < 12) => may_num hm hi)
  have HA := hide (recs_all hF hG hm)
  have hf0 := (may_ok hm).1
  have HG := hide hG
  have hK : 1 ≤ K ∧ K ≤ 6 := by
    unfold fl at hf0
    repeat' split at hf0
    all_goals first | omega | exact absurd rfl hf0
  have HFL := hide (fl_len K)
  have HF0 := hide hf0
  have HEB := hide (show encB K F = [0, K] ++ recsB (recs K F) from rfl)
  clear hm hG hf0
  generalize hC : mc K F = C at *
  clear hC
  go_enter Try.func9, Try.ntmps9
  go_wp2_with (first | refine wpList_load_mid rfl 25 (.tmp 1) rfl w.heap.size 0 rfl C _ HR.out Try.underlying25 rfl HL.out ?_ | fail)
  refine (HMY.out _).mono ?_
  rintro e w1 ⟨rfl, hb⟩
  have HB1 := hide (((Below.refl w.heap.size w).alloc (Nat.le_refl _) (.cells C.toArray 25)).trans (hb.out.mono (by simp)))
  have HM1 := hide (HM.out.below hb.out)
  have k1 := HM1.out.kind
  have hlt1 := HM1.out.lt
  clear hb HMY HR HL HM
  go_wp2_with fail
  refine (fields_ex K _).mono ?_
  rintro e w2 ⟨g, a, c, rfl, hv, HF2, hg, HB2⟩
  have HW2 := hide (HB1.out.trans (HB2.out.mono HB1.out.size))
  have HM2 := hide (HM1.out.below HB2.out)
  have HG2 := hide (HG.out.below HW2.out)
  have hLow := hide (HG.out.low (B := w2.heap.size) HW2.out.size)
  have hltb : w.heap.size < w2.heap.size := HM2.out.lt
  obtain ⟨rfl, rfl⟩ : a = some ⟨g, 0, none⟩ ∧ c = (fl K).length := by
    rcases hv with ⟨_, h⟩ | ⟨h, _⟩
    · simpa using h
    · exact absurd (List.eq_nil_of_length_eq_zero h.symm) HF0.out
  obtain ⟨n, hn⟩ : ∃ n, (fl K).length = n := ⟨_, rfl⟩
  have HNL := hide hn
  have hn6 : n ≤ 6 := by rw [← hn]; exact HFL.out
  rw [hn]
  clear hv hn HB2 HB1 HM1 hg k1 hlt1 HFL HG
  go_wp2
  go_loopw [4, 18] (fun lv iv wr => ∃ (k : Nat) (q : List Rq), k ≤ n ∧ q.length = k ∧ iv = .int .i64 k ∧ Hid (plain q = (recs K F).take k) ∧ Hid (wr.ownsRow w2.heap.size 39 2 lv q.length (rqCells q)) ∧ Hid (∀ r ∈ q, SrcI wr w2.heap.size r.2.1 r.2.2.1 r.2.2.2) ∧ Hid (Below w2.heap.size w2 wr)) (fun _ iv _ => n - (intOf iv).toNat)
  case atStart => exact ⟨0, [], by omega, rfl, rfl, hide (by simp [plain]), World.ownsRow_nil _ _ _ _, hide (fun r hr => by cases hr), Below.refl _ _⟩
  case round =>
    obtain ⟨k, q, hk, hqk, rfl, HP, HO, HQ, HB⟩ := hrel
    obtain ⟨la, lc, rfl⟩ := row_shape HO.out
    rw [hqk] at HO
    have HQK := hide hqk
    clear hqk
    rw [HQK.out]
    have zr := HB.out.size
    by_cases hlt : k < n
    · obtain ⟨i, hi⟩ : ∃ i, (fl K)[k]? = some i := ⟨_, List.getElem?_eq_getElem (by rw [HNL.out]; exact hlt)⟩
      have HI := hide hi
      have hi12 : i < 12 := fl_lt K i (List.mem_of_getElem? hi)
      have hck : (k : Int) < (n : Int) := by omega
      have hcell := (HF2.out.below (w' := wr) HB.out).2 k i hi
      have hgr : g < wr.heap.size := (HF2.out.below (w' := wr) HB.out).1 HF0.out
      unfold tyV at hcell
      have HBA := hide (below_alloc wr (.cells #[.int .u64 (2 * (i : Int) + 1), .slice none 0 0] 39))
      clear hi
      go_wp2_with fail
      refine (make_written _ _).mono ?_
      rintro e w3 ⟨vb, rfl, hv3, v1, v2, HB3⟩
      have HB3' := hide (HBA.out.trans (HB3.out.mono (by simp)))
      have HBW := hide (HB.out.trans (HB3'.out.mono zr))
      have r0 : w3.cell? ⟨wr.heap.size, 0, none⟩ = some (.int .u64 (2 * (i : Int) + 1)) := (HB3.out.cell (by simp)).trans (by simp)
      have r1 : w3.cell? ⟨wr.heap.size, 1, none⟩ = some (.slice none 0 0) := (HB3.out.cell (by simp)).trans (by simp)
      have rf : w3.frozen? ⟨wr.heap.size, 1, none⟩ = false := (HB3.out.frozen (by simp)).trans (by simp)
      have HST := hide (enc_step hi12 (HM2.out.below HBW.out) (HG2.out.below HBW.out) (HN.out i hi12) hv3 r1 rf hltb hLow.out zr)
      clear HB3 HBA rf hcell hv3
      go_wp2_with fail
      refine HST.out.mono ?_
      rintro e w4 ⟨rfl, HWr⟩
      obtain ⟨a4, c4, p1, p0, hS4, hg4⟩ := HWr.out
      rw [r0] at p0
      have HS4 := hide hS4
      have HB4 := hide (HB3'.out.grown hg4 HB3'.out.size (fun x hx => by cases hx; exact Nat.le_refl _))
      have z4 : wr.heap.size < w4.heap.size := block_lt_of_cell p0
      obtain ⟨k4, hk4⟩ : ∃ k4, (bytesF (F i)).length = k4 := ⟨_, rfl⟩
      have HK4 := hide hk4
      rw [hk4] at p1
      clear HST HWr hS4 hg4 r0 r1 hk4 HBW HB3'
      have HO4 := hide (owns_below HO.out HB4.out)
      go_wp2_with (at_builtin; refine wpList_append_own _ rfl (.tmp 28) (.tmp 30) 40 rfl w2.heap.size 39 j0 (.agg #[.int .u64 0, .slice none 0 0]) 2 32 Try.underlying40 hj hy0 hy1 hy2 rfl (by decide) (.slice la k lc) k (rqCells q) rfl (HO4.out.alloc _) ⟨w4.heap.size, 0, none⟩ 1 1 [.int .u64 (2 * (i : Int) + 1), .slice a4 k4 c4] rfl rfl (cell_two_new _ _ _ _) (one_rec _ _ rfl rfl) ?d3 ?d4 ?d5 ?_)
      case d3 => unfold maxLen; omega
      case d4 => omega
      case d5 => simp; omega
      intro v' w5 ho hg5 _
      have R5 := hide (src_push (w2 := w2) (X := 2 * (i : Int) + 1) (k := k4) (L := bytesF (F i)) (q := q) (by rw [HQK.out]; exact HO.out) HQ.out HB.out HB4.out HS4.out HK4.out (by rw [HQK.out]; exact ho) hg5)
      clear ho hg5 HO4 HS4 HB4 p0 p1
      go_wp2
      go_roundw
      case rel => exact ⟨k + 1, q ++ [(2 * (i : Int) + 1, a4, c4, bytesF (F i))], by omega, by rw [List.length_append, HQK.out]; rfl, by go_num, hide (by rw [plain_append, HP.out, recs_take HI.out]; rfl), R5.out.1, R5.out.2.1, R5.out.2.2⟩
      case measure => simp [intOf]; omega
    · have ek : k = n := by omega
      subst ek
      have HPA := hide (show plain q = recs K F by rw [HP.out]; exact List.take_of_length_le (by rw [recs_len, HNL.out]; exact Nat.le_refl _))
      have HEN := hide (enc_fit (A := recs K F) (q := q) (by rw [HQK.out]; exact HO.out) (fun r hr => (HQ.out r hr).1) HPA.out (by intro h; have := congrArg List.length h; rw [recs_len] at this; exact HF0.out (List.eq_nil_of_length_eq_zero this)) (by rw [recs_len, HNL.out]; omega) (recs_ris K F) HA.out.1 (by have := HA.out.2; omega))
      have hRl := HA.out.2
      obtain ⟨N, hN⟩ : ∃ N, (recsB (recs K F)).length = N := ⟨_, rfl⟩
      have HNN := hide hN
      rw [hN] at HEN hRl
      clear hN HPA HO HQ HP HA
      have HMw := hide (HM2.out.below HB.out)
      go_wp2_with fail
      refine HEN.out.mono ?_
      rintro e w6 ⟨sa, sc, rfl, HI6, HB6⟩
      have HW6 := hide (HW2.out.trans ((HB.out.trans (HB6.out.mono zr)).mono HW2.out.size))
      have k6 := (HMw.out.below HB6.out).kind
      have hl6 := (HMw.out.below HB6.out).lt
      have hmk := make_two (N + 2) (by omega) (by omega) w6
      rw [show ((N + 2 : Nat) : Int) = 2 + (N : Int) by omega] at hmk
      clear HEN HB6 HMw
      obtain ⟨m0, m1⟩ := made_0 (N + 2) (by omega)
      have HOW := hide (own_two w6 (.int .u8 0) (.int .u8 K) (N + 2) (by omega) (by unfold maxLen; omega))
      have HI7 := hide (HI6.out.below (below_alloc w6 (.cells (((madeCells #[.int .u8 0] (N + 2)).setIfInBounds 0 (.int .u8 0)).setIfInBounds 1 (.int .u8 K)) 5)))
      have hk0 : K / 256 = 0 := by omega
      have hk1 : K % 256 = K := by omega
      clear HI6
      go_wp2_with (at_builtin; refine wpList_append_fits_any _ rfl (.tmp 56) (.tmp 57) 23 rfl w6.heap.size 5 i0 1 Try.underlying23 hi hz1 w6.heap.size 2 (N + 2) _ rfl HOW.out sa N sc (U8 (recsB (recs K F))) rfl (by rw [U8_length, HNN.out, Nat.mul_one]) ?d1 ?d2 (one_u8 _) (by omega) ?_)
      case d1 =>
        intro hn
        rcases HI7.out with ⟨_, h2, h3⟩ | ⟨a, h2, _⟩
        · exact ⟨by rw [← HNN.out, h3]; rfl, h2⟩
        · rw [hn] at h2; cases h2
      case d2 =>
        intro ad had
        rcases HI7.out with ⟨h2, _, _⟩ | ⟨a, h2, h3⟩
        · rw [had] at h2; cases h2
        · rw [had] at h2; cases h2; exact h3
      intro w8 ho8 hg8
      have HW8 := hide ((HW6.out.alloc HW6.out.size (.cells (((madeCells #[.int .u8 0] (N + 2)).setIfInBounds 0 (.int .u8 0)).setIfInBounds 1 (.int .u8 K)) 5)).grown hg8 (by simp; omega) (fun x hx => by cases hx; exact HW6.out.size))
      have HLE := hide (show (encB K F).length = 2 + N by rw [HEB.out, List.length_append, HNN.out]; rfl)
      have HO8 := hide (show w8.ownsRow w6.heap.size 5 1 (.slice (some ⟨w6.heap.size, 0, none⟩) (encB K F).length (N + 2)) (encB K F).length (U8 (encB K F)) by rw [HLE.out, HEB.out, U8_append]; exact ho8)
      clear ho8 hg8 HI7 HOW hmk m0 m1
      go_wp2
      go_ret2
      obtain ⟨a9, c9, he9, hI9, l9, m9⟩ := own_isB HO8.out
      cases he9
      exact ⟨_, _, by rw [HLE.out]; rfl, hI9, l9, m9, HW8⟩
end Go.Proofs.Ytcbadmkgbaffpaa
