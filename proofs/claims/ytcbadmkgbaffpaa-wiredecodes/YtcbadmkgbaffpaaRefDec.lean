/- The contract of the document's Decode over this seat's translation. -/
import Derived.Test.YtcbadmkgbaffpaaDecOwn
namespace Go.Proofs.Ytcbadmkgbaffpaa
open Go.RowKit
set_option linter.unusedVariables false

theorem own_shape {w : World} {B n : Nat} {e : TypeId} {s : Nat} {v : Value} {xs : List Value} (h : w.ownsRow B e s v n xs) : ∃ a c, v = .slice a n c := by
  rcases h.2 with ⟨h1, h2⟩ | ⟨g, c, cur, h1, _⟩
  · exact ⟨none, 0, by rw [h1, h2]⟩
  · exact ⟨_, c, h1⟩

set_option maxRecDepth 100000 in
set_option maxHeartbeats 8000000 in
theorem rdecode_in (ao : Option Addr) (cap : Nat) (zs : List Int) (w : World) (hb : IsB w ao cap zs) (hcap : zs.length ≤ cap) (hl : cap ≤ 9223372036854775807) (hz : Bytes zs) (kao : Option Addr) (klen kcap : Nat) (z : Nat → Int) (hU : IsU w kao klen z) (hkl : klen ≤ 9223372036854775807) (hs : zs.length ≤ 65536) (D : Int × List (Int × List Int)) (hD : dec (knows z klen) (zs.length + 1) zs [] = D) :
    Calls Try.prog 35 #[.slice ao zs.length cap, .slice kao klen kcap] w fun e w' => ∃ v q, e = .returned (.tuple #[v, .int .i64 D.1]) ∧ Hid (OwnRecs w' w.heap.size v q) ∧ plain q = D.2 ∧ Hid (Below w.heap.size w w') := by
  obtain ⟨i0, hi, hz0, hz1, hz2⟩ := info_parts Try.infoRec
  have HI := hide hb
  have HZ := hide hz
  have HU := hide hU
  have HD := hide hD
  clear hb hz hU hD
  go_enter Try.func35, Try.ntmps35
  go_wp2
  go_loopw [0, 6] (fun rest l wr => ∃ (f : Nat) (q : List Rq) (R : List Int) (a : Option Addr) (c : Nat), rest = .slice a R.length c ∧ Hid (OwnRecs wr w.heap.size l q) ∧ Hid (IsB w a c R) ∧ R.length ≤ c ∧ c ≤ 9223372036854775807 ∧ R.length ≤ 65536 ∧ Hid (Bytes R) ∧ q.length ≤ 64 ∧ R.length ≤ f ∧ Hid (dec (knows z klen) (f + 1) R (plain q) = D) ∧ Hid (Below w.heap.size w wr)) (fun rest _ _ => lenOf rest)
  case atStart => exact ⟨zs.length, [], zs, ao, cap, rfl, OwnRecs.nil _ _, HI, hcap, hl, hs, HZ, Nat.zero_le _, Nat.le_refl _, HD, Below.refl _ _⟩
  case round =>
    clear HI HZ HD hcap hl hs
    obtain ⟨f, q, R, a, c, rfl, HO, HI, hc, hc2, hR, HZ, hq64, hf, HD, HB⟩ := hrel
    obtain ⟨lao, lcap, rfl⟩ := HO.out.shape
    have hp := plain_length q
    by_cases h0 : R.length = 0
    · have HE := hide (HD.out.symm.trans (dec_0 h0))
      rw [h0]
      go_wp2
      go_ret2
      exact ⟨_, q, by rw [HE.out]; rfl, HO, by rw [HE.out], HB⟩
    by_cases h1 : q.length = 64
    · have HE := hide (HD.out.symm.trans (dec_64 h0 (by omega)))
      rw [h1]
      go_wp2
      go_ret2
      exact ⟨_, [], by rw [HE.out]; rfl, OwnRecs.nil _ _, by rw [HE.out]; rfl, HB⟩
    have HRd := hide (rread_any a c R wr (HI.out.below HB.out) hc (by omega) (getD_all HZ.out))
    rcases rd_cases R (getD_all HZ.out) with ⟨r1, r2, h2⟩ | ⟨n, n1, n9, nl, hn, h2, x0, x1, hRR, hnl⟩
    · have HE := hide (HD.out.symm.trans (dec_10a h0 (by omega) h2))
      rw [h2, r1, r2] at HRd
      clear h2 r1 r2
      go_wp2_with fail
      refine HRd.out.mono ?_
      rintro e w1 ⟨rfl, hb1⟩
      have HB1 := hide hb1
      clear hb1
      go_wp2
      go_ret2
      exact ⟨_, [], by rw [HE.out]; rfl, OwnRecs.nil _ _, by rw [HE.out]; rfl, HB.out.trans (HB1.out.mono HB.out.size)⟩
    rw [h2, hn] at HRd
    clear hRR hnl
    have H1 := hide h1
    clear h1
    have hrow : (q.length = 0) ∨ ∃ g p, lao = some ⟨g, 0, none⟩ ∧ q.length = p + 1 ∧ wr.cell? ⟨g, p * 2, none⟩ = some (.int .u64 (lastT (plain q))) := by
      by_cases hq : q.length = 0
      · exact .inl hq
      · obtain ⟨g, cp, hv, hRec⟩ := HO.out.open (by omega)
        cases hv
        have q1 := hRec.type (q.length - 1) (by omega)
        rw [Nat.zero_add] at q1
        refine .inr ⟨g, q.length - 1, rfl, by omega, ?_⟩
        rw [plain_last q (by omega)]
        exact q1
    by_cases h3 : rdX R ≤ lastT (plain q)
    · have HE := hide (HD.out.symm.trans (dec_11 h0 (by rw [hp]; exact H1.out) h2 h3))
      rcases hrow with hq | ⟨g, p, rfl, hq, q1⟩
      · have hqn : q = [] := List.eq_nil_of_length_eq_zero hq
        rw [hqn] at h3
        have h4 : lastT (plain []) = -1 := rfl
        omega
      · have h64 : ((p : Int) + 1 == 64) = false := by have := H1.out; simp; omega
        have h65 : ((p + 1 : Nat) : Int) - 1 = p := by omega
        generalize lastT (plain q) = lt at *
        generalize rdX R = X at *
        rw [hq]
        go_wp2_with fail
        refine HRd.out.mono ?_
        rintro e w1 ⟨rfl, hb1⟩
        have q2 := cell_later hb1 q1
        have HB2 := hide hb1
        clear hb1 q1
        go_wp2
        go_ret2
        exact ⟨_, [], by rw [HE.out]; rfl, OwnRecs.nil _ _, by rw [HE.out]; rfl, HB.out.trans (HB2.out.mono HB.out.size)⟩

    have hl1 : (R.drop n).length = R.length - n := List.length_drop
    obtain ⟨b, off, rfl, hbl, hcel⟩ := HI.out.at (by omega)
    clear hcel
    have HIr := hide (HI.out.below HB.out)
    rcases rd_cases (R.drop n) (getD_all (HZ.out.drop n)) with ⟨r1, r2, h4⟩ | ⟨m, m1, m9, ml, hm, h4, y0, y1, hR1, hml⟩
    · have HE := hide (HD.out.symm.trans (dec_10b h0 (by rw [hp]; exact H1.out) h2 h3 hn h4))
      by_cases hcn : c = n
      · have HRd2 := hide (fun W (hW : Below wr.heap.size wr W) => rread_any (some ⟨b, off, none⟩) 0 [] W (isB_none _ _) (Nat.le_refl _) (by omega) (fun k hk => absurd hk (Nat.not_lt_zero _)))
        rw [List.length_nil, show rdX [] = 0 from rfl, show rdN [] = 0 from rfl, show rdE [] = 10 from rfl] at HRd2
        subst hcn
        have hrl : R.length = c := by omega
        rw [hrl] at HRd ⊢
        clear h4 hl1 hrl h0 hR hf nl hc
        rcases hrow with hq | ⟨g, p, rfl, hq, q1⟩
        · rw [hq] at HO ⊢
          clear h3
          generalize lastT (plain q) = lt at *
          generalize rdX R = X at *
          go_wp2_with fail
          refine HRd.out.mono ?_
          rintro e w1 ⟨rfl, hb1⟩
          have HB1 := hide hb1
          clear hb1
          go_wp2_with fail
          refine (HRd2.out _ HB1.out).mono ?_
          rintro e w2 ⟨rfl, hb2⟩
          have HB2 := hide (HB1.out.trans (hb2.mono HB1.out.size))
          clear hb2 HB1
          go_wp2
          go_ret2
          exact ⟨_, [], by rw [HE.out]; rfl, OwnRecs.nil _ _, by rw [HE.out]; rfl, HB.out.trans (HB2.out.mono HB.out.size)⟩

        · have h64 : ((p : Int) + 1 == 64) = false := by have := H1.out; simp; omega
          have h65 : ((p + 1 : Nat) : Int) - 1 = p := by omega
          rw [hq] at HO ⊢
          generalize lastT (plain q) = lt at *
          generalize rdX R = X at *
          go_wp2_with fail
          refine HRd.out.mono ?_
          rintro e w1 ⟨rfl, hb1⟩
          have q2 := cell_later hb1 q1
          have HB1 := hide hb1
          clear hb1 q1
          go_wp2_with fail
          refine (HRd2.out _ HB1.out).mono ?_
          rintro e w2 ⟨rfl, hb2⟩
          have HB2 := hide (HB1.out.trans (hb2.mono HB1.out.size))
          clear hb2 HB1
          go_wp2
          go_ret2
          exact ⟨_, [], by rw [HE.out]; rfl, OwnRecs.nil _ _, by rw [HE.out]; rfl, HB.out.trans (HB2.out.mono HB.out.size)⟩

      · have HRd2 := hide (fun W (hW : Below wr.heap.size wr W) => rread_any (some ⟨b, off + n, none⟩) (c - n) (R.drop n) W ((isB_drop HIr.out n).below hW) (by omega) (by omega) (getD_all (HZ.out.drop n)))
        rw [hl1, h4, r1, r2] at HRd2
        clear h4 hl1
        rcases hrow with hq | ⟨g, p, rfl, hq, q1⟩
        · rw [hq] at HO ⊢
          clear h3
          generalize lastT (plain q) = lt at *
          generalize rdX R = X at *
          go_wp2_with fail
          refine HRd.out.mono ?_
          rintro e w1 ⟨rfl, hb1⟩
          have HB1 := hide hb1
          clear hb1
          go_wp2_with fail
          refine (HRd2.out _ HB1.out).mono ?_
          rintro e w2 ⟨rfl, hb2⟩
          have HB2 := hide (HB1.out.trans (hb2.mono HB1.out.size))
          clear hb2 HB1
          go_wp2
          go_ret2
          exact ⟨_, [], by rw [HE.out]; rfl, OwnRecs.nil _ _, by rw [HE.out]; rfl, HB.out.trans (HB2.out.mono HB.out.size)⟩

        · have h64 : ((p : Int) + 1 == 64) = false := by have := H1.out; simp; omega
          have h65 : ((p + 1 : Nat) : Int) - 1 = p := by omega
          rw [hq] at HO ⊢
          generalize lastT (plain q) = lt at *
          generalize rdX R = X at *
          go_wp2_with fail
          refine HRd.out.mono ?_
          rintro e w1 ⟨rfl, hb1⟩
          have q2 := cell_later hb1 q1
          have HB1 := hide hb1
          clear hb1 q1
          go_wp2_with fail
          refine (HRd2.out _ HB1.out).mono ?_
          rintro e w2 ⟨rfl, hb2⟩
          have HB2 := hide (HB1.out.trans (hb2.mono HB1.out.size))
          clear hb2 HB1
          go_wp2
          go_ret2
          exact ⟨_, [], by rw [HE.out]; rfl, OwnRecs.nil _ _, by rw [HE.out]; rfl, HB.out.trans (HB2.out.mono HB.out.size)⟩

    clear hR1 hml
    have hcn : ¬ c = n := by omega
    have HRd2 := hide (fun W (hW : Below wr.heap.size wr W) => rread_any (some ⟨b, off + n, none⟩) (c - n) (R.drop n) W ((isB_drop HIr.out n).below hW) (by omega) (by omega) (getD_all (HZ.out.drop n)))
    rw [hl1, h4, hm] at HRd2
    by_cases h5 : ((R.drop n).length : Int) - m < rdX (R.drop n)
    · have HE := hide (HD.out.symm.trans (dec_10c h0 (by rw [hp]; exact H1.out) h2 h3 hn h4 hm h5))
      generalize rdX (R.drop n) = Y at *
      rw [hl1] at h5 ml
      clear h4 hl1 hm
      by_cases hcm : c = n + m
      · subst hcm
        have hrl : R.length = n + m := by omega
        have h5' : (0 : Int) < Y := by omega
        rw [hrl] at HRd HRd2 ⊢
        rw [Nat.add_sub_cancel_left] at HRd2
        clear h5 hrl hf hR h0 hc nl ml hcn
        rcases hrow with hq | ⟨g, p, rfl, hq, q1⟩
        · rw [hq] at HO ⊢
          clear h3
          generalize lastT (plain q) = lt at *
          generalize rdX R = X at *
          go_wp2_with fail
          refine HRd.out.mono ?_
          rintro e w1 ⟨rfl, hb1⟩
          have HB1 := hide hb1
          clear hb1
          go_wp2_with fail
          refine (HRd2.out _ HB1.out).mono ?_
          rintro e w2 ⟨rfl, hb2⟩
          have HB2 := hide (HB1.out.trans (hb2.mono HB1.out.size))
          clear hb2 HB1
          go_wp2
          go_ret2
          exact ⟨_, [], by rw [HE.out]; rfl, OwnRecs.nil _ _, by rw [HE.out]; rfl, HB.out.trans (HB2.out.mono HB.out.size)⟩

        · have h64 : ((p : Int) + 1 == 64) = false := by have := H1.out; simp; omega
          have h65 : ((p + 1 : Nat) : Int) - 1 = p := by omega
          rw [hq] at HO ⊢
          generalize lastT (plain q) = lt at *
          generalize rdX R = X at *
          go_wp2_with fail
          refine HRd.out.mono ?_
          rintro e w1 ⟨rfl, hb1⟩
          have q2 := cell_later hb1 q1
          have HB1 := hide hb1
          clear hb1 q1
          go_wp2_with fail
          refine (HRd2.out _ HB1.out).mono ?_
          rintro e w2 ⟨rfl, hb2⟩
          have HB2 := hide (HB1.out.trans (hb2.mono HB1.out.size))
          clear hb2 HB1
          go_wp2
          go_ret2
          exact ⟨_, [], by rw [HE.out]; rfl, OwnRecs.nil _ _, by rw [HE.out]; rfl, HB.out.trans (HB2.out.mono HB.out.size)⟩

      · have hcm2 : ¬ c - n = m := by omega
        have h5' : ((R.length - n - m : Nat) : Int) < Y := by omega
        rcases hrow with hq | ⟨g, p, rfl, hq, q1⟩
        · rw [hq] at HO ⊢
          clear h3
          generalize lastT (plain q) = lt at *
          generalize rdX R = X at *
          go_wp2_with fail
          refine HRd.out.mono ?_
          rintro e w1 ⟨rfl, hb1⟩
          have HB1 := hide hb1
          clear hb1
          go_wp2_with fail
          refine (HRd2.out _ HB1.out).mono ?_
          rintro e w2 ⟨rfl, hb2⟩
          have HB2 := hide (HB1.out.trans (hb2.mono HB1.out.size))
          clear hb2 HB1
          go_wp2
          go_ret2
          exact ⟨_, [], by rw [HE.out]; rfl, OwnRecs.nil _ _, by rw [HE.out]; rfl, HB.out.trans (HB2.out.mono HB.out.size)⟩

        · have h64 : ((p : Int) + 1 == 64) = false := by have := H1.out; simp; omega
          have h65 : ((p + 1 : Nat) : Int) - 1 = p := by omega
          rw [hq] at HO ⊢
          generalize lastT (plain q) = lt at *
          generalize rdX R = X at *
          go_wp2_with fail
          refine HRd.out.mono ?_
          rintro e w1 ⟨rfl, hb1⟩
          have q2 := cell_later hb1 q1
          have HB1 := hide hb1
          clear hb1 q1
          go_wp2_with fail
          refine (HRd2.out _ HB1.out).mono ?_
          rintro e w2 ⟨rfl, hb2⟩
          have HB2 := hide (HB1.out.trans (hb2.mono HB1.out.size))
          clear hb2 HB1
          go_wp2
          go_ret2
          exact ⟨_, [], by rw [HE.out]; rfl, OwnRecs.nil _ _, by rw [HE.out]; rfl, HB.out.trans (HB2.out.mono HB.out.size)⟩

    obtain ⟨k, hk⟩ := Int.eq_ofNat_of_zero_le y0
    have h5' : m + k ≤ (R.drop n).length := by omega
    have HK := hide (fun W (hW : Below wr.heap.size wr W) => has_any kao klen kcap z (rdX R) W ((HU.out.below HB.out).below hW) hkl)
    rw [hk] at HRd2
    by_cases h6 : rdX R % 2 = 0 ∧ knows z klen (rdX R) = false
    · have HE := hide (HD.out.symm.trans (dec_12 h0 (by rw [hp]; exact H1.out) h2 h3 hn h4 hm h5 h6))
      obtain ⟨ho, hkn⟩ := h6
      rw [hkn] at HK
      rw [hl1] at h5' ml
      clear h4 hl1 hm h5 y0 y1 hkn hk
      by_cases hcm : c = n + m
      · subst hcm
        have hrl : R.length = n + m := by omega
        have hk0 : k = 0 := by omega
        subst hk0
        rw [hrl] at HRd HRd2 ⊢
        rw [Nat.add_sub_cancel_left] at HRd2
        clear hrl hf hR h0 hc nl ml hcn h5'
        rcases hrow with hq | ⟨g, p, rfl, hq, q1⟩
        · rw [hq] at HO ⊢
          clear h3
          generalize lastT (plain q) = lt at *
          generalize rdX R = X at *
          go_wp2_with fail
          refine HRd.out.mono ?_
          rintro e w1 ⟨rfl, hb1⟩
          have HB1 := hide hb1
          clear hb1
          go_wp2_with fail
          refine (HRd2.out _ HB1.out).mono ?_
          rintro e w2 ⟨rfl, hb2⟩
          have HB2 := hide (HB1.out.trans (hb2.mono HB1.out.size))
          clear hb2 HB1
          go_wp2_with fail
          refine (HK.out _ HB2.out).mono ?_
          rintro e w3 ⟨rfl, rfl⟩
          go_wp2
          go_ret2
          exact ⟨_, [], by rw [HE.out]; rfl, OwnRecs.nil _ _, by rw [HE.out]; rfl, HB.out.trans (HB2.out.mono HB.out.size)⟩

        · have h64 : ((p : Int) + 1 == 64) = false := by have := H1.out; simp; omega
          have h65 : ((p + 1 : Nat) : Int) - 1 = p := by omega
          rw [hq] at HO ⊢
          generalize lastT (plain q) = lt at *
          generalize rdX R = X at *
          go_wp2_with fail
          refine HRd.out.mono ?_
          rintro e w1 ⟨rfl, hb1⟩
          have q2 := cell_later hb1 q1
          have HB1 := hide hb1
          clear hb1 q1
          go_wp2_with fail
          refine (HRd2.out _ HB1.out).mono ?_
          rintro e w2 ⟨rfl, hb2⟩
          have HB2 := hide (HB1.out.trans (hb2.mono HB1.out.size))
          clear hb2 HB1
          go_wp2_with fail
          refine (HK.out _ HB2.out).mono ?_
          rintro e w3 ⟨rfl, rfl⟩
          go_wp2
          go_ret2
          exact ⟨_, [], by rw [HE.out]; rfl, OwnRecs.nil _ _, by rw [HE.out]; rfl, HB.out.trans (HB2.out.mono HB.out.size)⟩

      · have hcm2 : ¬ c - n = m := by omega
        have h5 : k ≤ R.length - n - m := by omega
        rcases hrow with hq | ⟨g, p, rfl, hq, q1⟩
        · rw [hq] at HO ⊢
          clear h3
          generalize lastT (plain q) = lt at *
          generalize rdX R = X at *
          go_wp2_with fail
          refine HRd.out.mono ?_
          rintro e w1 ⟨rfl, hb1⟩
          have HB1 := hide hb1
          clear hb1
          go_wp2_with fail
          refine (HRd2.out _ HB1.out).mono ?_
          rintro e w2 ⟨rfl, hb2⟩
          have HB2 := hide (HB1.out.trans (hb2.mono HB1.out.size))
          clear hb2 HB1
          go_wp2_with fail
          refine (HK.out _ HB2.out).mono ?_
          rintro e w3 ⟨rfl, rfl⟩
          go_wp2
          go_ret2
          exact ⟨_, [], by rw [HE.out]; rfl, OwnRecs.nil _ _, by rw [HE.out]; rfl, HB.out.trans (HB2.out.mono HB.out.size)⟩

        · have h64 : ((p : Int) + 1 == 64) = false := by have := H1.out; simp; omega
          have h65 : ((p + 1 : Nat) : Int) - 1 = p := by omega
          rw [hq] at HO ⊢
          generalize lastT (plain q) = lt at *
          generalize rdX R = X at *
          go_wp2_with fail
          refine HRd.out.mono ?_
          rintro e w1 ⟨rfl, hb1⟩
          have q2 := cell_later hb1 q1
          have HB1 := hide hb1
          clear hb1 q1
          go_wp2_with fail
          refine (HRd2.out _ HB1.out).mono ?_
          rintro e w2 ⟨rfl, hb2⟩
          have HB2 := hide (HB1.out.trans (hb2.mono HB1.out.size))
          clear hb2 HB1
          go_wp2_with fail
          refine (HK.out _ HB2.out).mono ?_
          rintro e w3 ⟨rfl, rfl⟩
          go_wp2
          go_ret2
          exact ⟨_, [], by rw [HE.out]; rfl, OwnRecs.nil _ _, by rw [HE.out]; rfl, HB.out.trans (HB2.out.mono HB.out.size)⟩

    obtain ⟨f, rfl⟩ : ∃ g, f = g + 1 := ⟨f - 1, by omega⟩
    have HE := hide ((dec_go h0 (by rw [hp]; exact H1.out) h2 h3 hn h4 hm hk h5' h6).symm.trans HD.out)
    rw [hl1] at h5' ml
    have HLk : Hid (((R.drop (n + m)).take k).length = k) := hide (by rw [List.length_take, List.length_drop]; omega)
    have hc64 : q.length + 1 ≤ 64 := by have := H1.out; omega
    have HR' := hide (show (R.drop (n + (m + k))).length = R.length - n - m - k by rw [List.length_drop]; omega)
    have HZ' := hide (HZ.out.drop (n + (m + k)))
    have HI' := hide (fun c' => isB_drop (cap' := c') HI.out (n + (m + k)))
    have HIv := hide (fun c' => isB_take (a := none) (cap' := c') (isB_drop (cap' := c) HI.out (n + m)) k)
    rw [show off + (n + (m + k)) = off + n + m + k by omega] at HI'
    rw [show off + (n + m) = off + n + m by omega] at HIv
    have hnmk : n + (m + k) ≤ R.length := by omega
    generalize R.drop (n + (m + k)) = R' at *
    generalize (R.drop (n + m)).take k = L at *
    clear h4 hl1 hm h5 y0 y1 hk HD
    by_cases hodd : rdX R % 2 = 0
    · have hkn : knows z klen (rdX R) = true := by
        cases hh : knows z klen (rdX R) with
        | true => rfl
        | false => exact absurd ⟨hodd, hh⟩ h6
      rw [hkn] at HK
      clear hkn h6
      by_cases hcm : c = n + m
      · subst hcm
        have hrl : R.length = n + m := by omega
        have hk0 : k = 0 := by omega
        subst hk0
        have HLn : L = [] := List.eq_nil_of_length_eq_zero HLk.out
        have HIE := hide (show ∀ c', IsB w (some ⟨b, off + n, none⟩) c' L from fun c' => by rw [HLn]; exact isB_none _ c')
        rw [hrl] at HRd HRd2 HR' ⊢
        rw [Nat.add_sub_cancel_left] at HRd2
        rw [show n + m - n - m - 0 = 0 by omega] at HR'
        have HRn : R' = [] := List.eq_nil_of_length_eq_zero HR'.out
        have HIR := hide (show ∀ x c', IsB w (some x) c' R' from fun x c' => by rw [HRn]; exact isB_none x c')
        have hp1 := HLn
        clear HLn HRn hp1
        clear hrl h0 nl ml hcn hc HI' HIv h5'
        rcases hrow with hq | ⟨g, p, rfl, hq, q1⟩
        · rw [hq] at HO ⊢
          clear h3
          generalize lastT (plain q) = lt at *
          generalize rdX R = X at *
          go_wp2_with fail
          refine HRd.out.mono ?_
          rintro e w1 ⟨rfl, hb1⟩
          have HB1 := hide hb1
          clear hb1
          go_wp2_with fail
          refine (HRd2.out _ HB1.out).mono ?_
          rintro e w2 ⟨rfl, hb2⟩
          have HB2 := hide (HB1.out.trans (hb2.mono HB1.out.size))
          clear hb2 HB1
          go_wp2_with fail
          refine (HK.out _ HB2.out).mono ?_
          rintro e w3 ⟨rfl, rfl⟩
          have HBW := hide (HB.out.trans (HB2.out.mono HB.out.size))
          have HOW := hide (HO.out.below HB2.out)
          have HQ := hide (show w3.ownsRow w.heap.size 39 2 (.slice lao 0 lcap) 0 (rqCells q) by have h := HOW.out.row; rw [hq] at h; exact h)
          have HS3 := HBW.out.size
          go_wp2_with (at_builtin; refine wpList_append_ownx rfl (.tmp 74) (.tmp 77) rfl w3.heap.size _ 0 [] rfl (own_empty w3) (some ⟨b, off + n, none⟩) 0 0 L rfl HLk.out ?c1 (by omega) (by simp) ?_)
          case c1 => exact (HIE.out _).below (HBW.out.alloc HBW.out.size _)
          intro v1 w4 ho4 hg4
          have HB4 := hide (((Below.refl w3.heap.size w3).alloc (Nat.le_refl _) (.cells #[] 5)).grown hg4 (by simp) (fun k hk => by cases hk; exact Nat.le_refl _))
          have hv1 : ∃ va vc, v1 = .slice va 0 vc := own_shape ho4
          obtain ⟨va, vc, rfl⟩ := hv1
          have HV := hide (show w4.ownsRow w3.heap.size 5 1 (.slice va L.length vc) L.length (U8 L) by rw [HLk.out]; exact ho4)
          clear ho4 hg4
          have HQ4 := hide (owns_below HQ.out HB4.out)
          have HS4 := HB4.out.size
          go_wp2_with (at_builtin; refine wpList_append_own _ rfl (.tmp 72) (.tmp 80) 40 rfl w.heap.size 39 i0 (.agg #[.int .u64 0, .slice none 0 0]) 2 32 Try.underlying40 hi hz0 hz1 hz2 rfl (by decide) (.slice lao 0 lcap) 0 (rqCells q) rfl (HQ4.out.alloc _) ⟨w4.heap.size, 0, none⟩ 1 1 [.int .u64 X, .slice va 0 vc] rfl rfl (cell_two_new _ _ _ _) (one_rec _ _ rfl rfl) ?d3 ?d4 ?d5 ?_)
          case d3 => unfold maxLen; omega
          case d4 => omega
          case d5 => simp; omega
          intro v' w5 ho hg _
          have R5 := hide (rec_push (X := X) (k := 0) HOW.out HBW.out HB4.out HV.out HLk.out (by rw [hq]; exact ho) hg)
          clear ho hg HQ HQ4 HV HB4
          go_wp2
          go_roundw
          case rel => exact ⟨f, q ++ [(X, va, vc, L)], R', _, _, by rw [HR'.out] <;> rfl, R5.out.1, HIR.out _ _, by rw [HR'.out]; omega, by omega, by rw [HR'.out]; omega, HZ', by rw [List.length_append]; exact hc64, by rw [HR'.out]; omega, by rw [plain_append]; exact HE.out, R5.out.2⟩
          case measure => simp [lenOf]; omega

        · have h64 : ((p : Int) + 1 == 64) = false := by have := H1.out; simp; omega
          have h65 : ((p + 1 : Nat) : Int) - 1 = p := by omega
          rw [hq] at HO ⊢
          generalize lastT (plain q) = lt at *
          generalize rdX R = X at *
          go_wp2_with fail
          refine HRd.out.mono ?_
          rintro e w1 ⟨rfl, hb1⟩
          have q2 := cell_later hb1 q1
          have HB1 := hide hb1
          clear hb1 q1
          go_wp2_with fail
          refine (HRd2.out _ HB1.out).mono ?_
          rintro e w2 ⟨rfl, hb2⟩
          have HB2 := hide (HB1.out.trans (hb2.mono HB1.out.size))
          clear hb2 HB1
          go_wp2_with fail
          refine (HK.out _ HB2.out).mono ?_
          rintro e w3 ⟨rfl, rfl⟩
          have HBW := hide (HB.out.trans (HB2.out.mono HB.out.size))
          have HOW := hide (HO.out.below HB2.out)
          have HQ := hide (show w3.ownsRow w.heap.size 39 2 (.slice (some ⟨g, 0, none⟩) (p + 1) lcap) (p + 1) (rqCells q) by have h := HOW.out.row; rw [hq] at h; exact h)
          have HS3 := HBW.out.size
          go_wp2_with (at_builtin; refine wpList_append_ownx rfl (.tmp 74) (.tmp 77) rfl w3.heap.size _ 0 [] rfl (own_empty w3) (some ⟨b, off + n, none⟩) 0 0 L rfl HLk.out ?c1 (by omega) (by simp) ?_)
          case c1 => exact (HIE.out _).below (HBW.out.alloc HBW.out.size _)
          intro v1 w4 ho4 hg4
          have HB4 := hide (((Below.refl w3.heap.size w3).alloc (Nat.le_refl _) (.cells #[] 5)).grown hg4 (by simp) (fun k hk => by cases hk; exact Nat.le_refl _))
          have hv1 : ∃ va vc, v1 = .slice va 0 vc := own_shape ho4
          obtain ⟨va, vc, rfl⟩ := hv1
          have HV := hide (show w4.ownsRow w3.heap.size 5 1 (.slice va L.length vc) L.length (U8 L) by rw [HLk.out]; exact ho4)
          clear ho4 hg4
          have HQ4 := hide (owns_below HQ.out HB4.out)
          have HS4 := HB4.out.size
          go_wp2_with (at_builtin; refine wpList_append_own _ rfl (.tmp 72) (.tmp 80) 40 rfl w.heap.size 39 i0 (.agg #[.int .u64 0, .slice none 0 0]) 2 32 Try.underlying40 hi hz0 hz1 hz2 rfl (by decide) (.slice (some ⟨g, 0, none⟩) (p + 1) lcap) (p + 1) (rqCells q) rfl (HQ4.out.alloc _) ⟨w4.heap.size, 0, none⟩ 1 1 [.int .u64 X, .slice va 0 vc] rfl rfl (cell_two_new _ _ _ _) (one_rec _ _ rfl rfl) ?d3 ?d4 ?d5 ?_)
          case d3 => unfold maxLen; omega
          case d4 => omega
          case d5 => simp; omega
          intro v' w5 ho hg _
          have R5 := hide (rec_push (X := X) (k := 0) HOW.out HBW.out HB4.out HV.out HLk.out (by rw [hq]; exact ho) hg)
          clear ho hg HQ HQ4 HV HB4
          go_wp2
          go_roundw
          case rel => exact ⟨f, q ++ [(X, va, vc, L)], R', _, _, by rw [HR'.out] <;> rfl, R5.out.1, HIR.out _ _, by rw [HR'.out]; omega, by omega, by rw [HR'.out]; omega, HZ', by rw [List.length_append]; exact hc64, by rw [HR'.out]; omega, by rw [plain_append]; exact HE.out, R5.out.2⟩
          case measure => simp [lenOf]; omega

      by_cases hcc : c = n + (m + k)
      · subst hcc
        have hrl : R.length = n + (m + k) := by omega
        have hk1 : ¬ k = 0 := by omega
        rw [hrl] at HRd HRd2 HR' ⊢
        rw [Nat.add_sub_cancel_left] at HRd2
        rw [show n + (m + k) - n - m - k = 0 by omega] at HR'
        have HRn : R' = [] := List.eq_nil_of_length_eq_zero HR'.out
        have HIR := hide (show ∀ x c', IsB w (some x) c' R' from fun x c' => by rw [HRn]; exact isB_none x c')
        clear HRn
        clear hrl h0 nl ml hcn hc HI' h5' hcm
        rcases hrow with hq | ⟨g, p, rfl, hq, q1⟩
        · rw [hq] at HO ⊢
          clear h3
          generalize lastT (plain q) = lt at *
          generalize rdX R = X at *
          go_wp2_with fail
          refine HRd.out.mono ?_
          rintro e w1 ⟨rfl, hb1⟩
          have HB1 := hide hb1
          clear hb1
          go_wp2_with fail
          refine (HRd2.out _ HB1.out).mono ?_
          rintro e w2 ⟨rfl, hb2⟩
          have HB2 := hide (HB1.out.trans (hb2.mono HB1.out.size))
          clear hb2 HB1
          go_wp2_with fail
          refine (HK.out _ HB2.out).mono ?_
          rintro e w3 ⟨rfl, rfl⟩
          have HBW := hide (HB.out.trans (HB2.out.mono HB.out.size))
          have HOW := hide (HO.out.below HB2.out)
          have HQ := hide (show w3.ownsRow w.heap.size 39 2 (.slice lao 0 lcap) 0 (rqCells q) by have h := HOW.out.row; rw [hq] at h; exact h)
          have HS3 := HBW.out.size
          go_wp2_with (at_builtin; refine wpList_append_ownx rfl (.tmp 74) (.tmp 77) rfl w3.heap.size _ 0 [] rfl (own_empty w3) (some ⟨b, off + n + m, none⟩) k k L rfl HLk.out ?c1 (by omega) (by simp) ?_)
          case c1 => exact (HIv.out _).below (HBW.out.alloc HBW.out.size _)
          intro v1 w4 ho4 hg4
          have HB4 := hide (((Below.refl w3.heap.size w3).alloc (Nat.le_refl _) (.cells #[] 5)).grown hg4 (by simp) (fun k hk => by cases hk; exact Nat.le_refl _))
          have hv1 : ∃ va vc, v1 = .slice va k vc := own_shape ho4
          obtain ⟨va, vc, rfl⟩ := hv1
          have HV := hide (show w4.ownsRow w3.heap.size 5 1 (.slice va L.length vc) L.length (U8 L) by rw [HLk.out]; exact ho4)
          clear ho4 hg4
          have HQ4 := hide (owns_below HQ.out HB4.out)
          have HS4 := HB4.out.size
          go_wp2_with (at_builtin; refine wpList_append_own _ rfl (.tmp 72) (.tmp 80) 40 rfl w.heap.size 39 i0 (.agg #[.int .u64 0, .slice none 0 0]) 2 32 Try.underlying40 hi hz0 hz1 hz2 rfl (by decide) (.slice lao 0 lcap) 0 (rqCells q) rfl (HQ4.out.alloc _) ⟨w4.heap.size, 0, none⟩ 1 1 [.int .u64 X, .slice va k vc] rfl rfl (cell_two_new _ _ _ _) (one_rec _ _ rfl rfl) ?d3 ?d4 ?d5 ?_)
          case d3 => unfold maxLen; omega
          case d4 => omega
          case d5 => simp; omega
          intro v' w5 ho hg _
          have R5 := hide (rec_push (X := X) (k := k) HOW.out HBW.out HB4.out HV.out HLk.out (by rw [hq]; exact ho) hg)
          clear ho hg HQ HQ4 HV HB4
          go_wp2
          go_roundw
          case rel => exact ⟨f, q ++ [(X, va, vc, L)], R', _, _, by rw [HR'.out] <;> rfl, R5.out.1, HIR.out _ _, by rw [HR'.out]; omega, by omega, by rw [HR'.out]; omega, HZ', by rw [List.length_append]; exact hc64, by rw [HR'.out]; omega, by rw [plain_append]; exact HE.out, R5.out.2⟩
          case measure => simp [lenOf]; omega

        · have h64 : ((p : Int) + 1 == 64) = false := by have := H1.out; simp; omega
          have h65 : ((p + 1 : Nat) : Int) - 1 = p := by omega
          rw [hq] at HO ⊢
          generalize lastT (plain q) = lt at *
          generalize rdX R = X at *
          go_wp2_with fail
          refine HRd.out.mono ?_
          rintro e w1 ⟨rfl, hb1⟩
          have q2 := cell_later hb1 q1
          have HB1 := hide hb1
          clear hb1 q1
          go_wp2_with fail
          refine (HRd2.out _ HB1.out).mono ?_
          rintro e w2 ⟨rfl, hb2⟩
          have HB2 := hide (HB1.out.trans (hb2.mono HB1.out.size))
          clear hb2 HB1
          go_wp2_with fail
          refine (HK.out _ HB2.out).mono ?_
          rintro e w3 ⟨rfl, rfl⟩
          have HBW := hide (HB.out.trans (HB2.out.mono HB.out.size))
          have HOW := hide (HO.out.below HB2.out)
          have HQ := hide (show w3.ownsRow w.heap.size 39 2 (.slice (some ⟨g, 0, none⟩) (p + 1) lcap) (p + 1) (rqCells q) by have h := HOW.out.row; rw [hq] at h; exact h)
          have HS3 := HBW.out.size
          go_wp2_with (at_builtin; refine wpList_append_ownx rfl (.tmp 74) (.tmp 77) rfl w3.heap.size _ 0 [] rfl (own_empty w3) (some ⟨b, off + n + m, none⟩) k k L rfl HLk.out ?c1 (by omega) (by simp) ?_)
          case c1 => exact (HIv.out _).below (HBW.out.alloc HBW.out.size _)
          intro v1 w4 ho4 hg4
          have HB4 := hide (((Below.refl w3.heap.size w3).alloc (Nat.le_refl _) (.cells #[] 5)).grown hg4 (by simp) (fun k hk => by cases hk; exact Nat.le_refl _))
          have hv1 : ∃ va vc, v1 = .slice va k vc := own_shape ho4
          obtain ⟨va, vc, rfl⟩ := hv1
          have HV := hide (show w4.ownsRow w3.heap.size 5 1 (.slice va L.length vc) L.length (U8 L) by rw [HLk.out]; exact ho4)
          clear ho4 hg4
          have HQ4 := hide (owns_below HQ.out HB4.out)
          have HS4 := HB4.out.size
          go_wp2_with (at_builtin; refine wpList_append_own _ rfl (.tmp 72) (.tmp 80) 40 rfl w.heap.size 39 i0 (.agg #[.int .u64 0, .slice none 0 0]) 2 32 Try.underlying40 hi hz0 hz1 hz2 rfl (by decide) (.slice (some ⟨g, 0, none⟩) (p + 1) lcap) (p + 1) (rqCells q) rfl (HQ4.out.alloc _) ⟨w4.heap.size, 0, none⟩ 1 1 [.int .u64 X, .slice va k vc] rfl rfl (cell_two_new _ _ _ _) (one_rec _ _ rfl rfl) ?d3 ?d4 ?d5 ?_)
          case d3 => unfold maxLen; omega
          case d4 => omega
          case d5 => simp; omega
          intro v' w5 ho hg _
          have R5 := hide (rec_push (X := X) (k := k) HOW.out HBW.out HB4.out HV.out HLk.out (by rw [hq]; exact ho) hg)
          clear ho hg HQ HQ4 HV HB4
          go_wp2
          go_roundw
          case rel => exact ⟨f, q ++ [(X, va, vc, L)], R', _, _, by rw [HR'.out] <;> rfl, R5.out.1, HIR.out _ _, by rw [HR'.out]; omega, by omega, by rw [HR'.out]; omega, HZ', by rw [List.length_append]; exact hc64, by rw [HR'.out]; omega, by rw [plain_append]; exact HE.out, R5.out.2⟩
          case measure => simp [lenOf]; omega

      have hcm2 : ¬ c - n = m := by omega
      have hcm3 : ¬ c - n - m = k := by omega
      have h5 : k ≤ R.length - n - m := by omega
      rcases hrow with hq | ⟨g, p, rfl, hq, q1⟩
      · rw [hq] at HO ⊢
        clear h3
        generalize lastT (plain q) = lt at *
        generalize rdX R = X at *
        go_wp2_with fail
        refine HRd.out.mono ?_
        rintro e w1 ⟨rfl, hb1⟩
        have HB1 := hide hb1
        clear hb1
        go_wp2_with fail
        refine (HRd2.out _ HB1.out).mono ?_
        rintro e w2 ⟨rfl, hb2⟩
        have HB2 := hide (HB1.out.trans (hb2.mono HB1.out.size))
        clear hb2 HB1
        go_wp2_with fail
        refine (HK.out _ HB2.out).mono ?_
        rintro e w3 ⟨rfl, rfl⟩
        have HBW := hide (HB.out.trans (HB2.out.mono HB.out.size))
        have HOW := hide (HO.out.below HB2.out)
        have HQ := hide (show w3.ownsRow w.heap.size 39 2 (.slice lao 0 lcap) 0 (rqCells q) by have h := HOW.out.row; rw [hq] at h; exact h)
        have HS3 := HBW.out.size
        go_wp2_with (at_builtin; refine wpList_append_ownx rfl (.tmp 74) (.tmp 77) rfl w3.heap.size _ 0 [] rfl (own_empty w3) (some ⟨b, off + n + m, none⟩) k (c - n - m) L rfl HLk.out ?c1 (by omega) (by simp) ?_)
        case c1 => exact (HIv.out _).below (HBW.out.alloc HBW.out.size _)
        intro v1 w4 ho4 hg4
        have HB4 := hide (((Below.refl w3.heap.size w3).alloc (Nat.le_refl _) (.cells #[] 5)).grown hg4 (by simp) (fun k hk => by cases hk; exact Nat.le_refl _))
        have hv1 : ∃ va vc, v1 = .slice va k vc := own_shape ho4
        obtain ⟨va, vc, rfl⟩ := hv1
        have HV := hide (show w4.ownsRow w3.heap.size 5 1 (.slice va L.length vc) L.length (U8 L) by rw [HLk.out]; exact ho4)
        clear ho4 hg4
        have HQ4 := hide (owns_below HQ.out HB4.out)
        have HS4 := HB4.out.size
        go_wp2_with (at_builtin; refine wpList_append_own _ rfl (.tmp 72) (.tmp 80) 40 rfl w.heap.size 39 i0 (.agg #[.int .u64 0, .slice none 0 0]) 2 32 Try.underlying40 hi hz0 hz1 hz2 rfl (by decide) (.slice lao 0 lcap) 0 (rqCells q) rfl (HQ4.out.alloc _) ⟨w4.heap.size, 0, none⟩ 1 1 [.int .u64 X, .slice va k vc] rfl rfl (cell_two_new _ _ _ _) (one_rec _ _ rfl rfl) ?d3 ?d4 ?d5 ?_)
        case d3 => unfold maxLen; omega
        case d4 => omega
        case d5 => simp; omega
        intro v' w5 ho hg _
        have R5 := hide (rec_push (X := X) (k := k) HOW.out HBW.out HB4.out HV.out HLk.out (by rw [hq]; exact ho) hg)
        clear ho hg HQ HQ4 HV HB4
        go_wp2
        go_roundw
        case rel => exact ⟨f, q ++ [(X, va, vc, L)], R', _, _, by rw [HR'.out] <;> rfl, R5.out.1, HI'.out _, by rw [HR'.out]; omega, by omega, by rw [HR'.out]; omega, HZ', by rw [List.length_append]; exact hc64, by rw [HR'.out]; omega, by rw [plain_append]; exact HE.out, R5.out.2⟩
        case measure => simp [lenOf]; omega

      · have h64 : ((p : Int) + 1 == 64) = false := by have := H1.out; simp; omega
        have h65 : ((p + 1 : Nat) : Int) - 1 = p := by omega
        rw [hq] at HO ⊢
        generalize lastT (plain q) = lt at *
        generalize rdX R = X at *
        go_wp2_with fail
        refine HRd.out.mono ?_
        rintro e w1 ⟨rfl, hb1⟩
        have q2 := cell_later hb1 q1
        have HB1 := hide hb1
        clear hb1 q1
        go_wp2_with fail
        refine (HRd2.out _ HB1.out).mono ?_
        rintro e w2 ⟨rfl, hb2⟩
        have HB2 := hide (HB1.out.trans (hb2.mono HB1.out.size))
        clear hb2 HB1
        go_wp2_with fail
        refine (HK.out _ HB2.out).mono ?_
        rintro e w3 ⟨rfl, rfl⟩
        have HBW := hide (HB.out.trans (HB2.out.mono HB.out.size))
        have HOW := hide (HO.out.below HB2.out)
        have HQ := hide (show w3.ownsRow w.heap.size 39 2 (.slice (some ⟨g, 0, none⟩) (p + 1) lcap) (p + 1) (rqCells q) by have h := HOW.out.row; rw [hq] at h; exact h)
        have HS3 := HBW.out.size
        go_wp2_with (at_builtin; refine wpList_append_ownx rfl (.tmp 74) (.tmp 77) rfl w3.heap.size _ 0 [] rfl (own_empty w3) (some ⟨b, off + n + m, none⟩) k (c - n - m) L rfl HLk.out ?c1 (by omega) (by simp) ?_)
        case c1 => exact (HIv.out _).below (HBW.out.alloc HBW.out.size _)
        intro v1 w4 ho4 hg4
        have HB4 := hide (((Below.refl w3.heap.size w3).alloc (Nat.le_refl _) (.cells #[] 5)).grown hg4 (by simp) (fun k hk => by cases hk; exact Nat.le_refl _))
        have hv1 : ∃ va vc, v1 = .slice va k vc := own_shape ho4
        obtain ⟨va, vc, rfl⟩ := hv1
        have HV := hide (show w4.ownsRow w3.heap.size 5 1 (.slice va L.length vc) L.length (U8 L) by rw [HLk.out]; exact ho4)
        clear ho4 hg4
        have HQ4 := hide (owns_below HQ.out HB4.out)
        have HS4 := HB4.out.size
        go_wp2_with (at_builtin; refine wpList_append_own _ rfl (.tmp 72) (.tmp 80) 40 rfl w.heap.size 39 i0 (.agg #[.int .u64 0, .slice none 0 0]) 2 32 Try.underlying40 hi hz0 hz1 hz2 rfl (by decide) (.slice (some ⟨g, 0, none⟩) (p + 1) lcap) (p + 1) (rqCells q) rfl (HQ4.out.alloc _) ⟨w4.heap.size, 0, none⟩ 1 1 [.int .u64 X, .slice va k vc] rfl rfl (cell_two_new _ _ _ _) (one_rec _ _ rfl rfl) ?d3 ?d4 ?d5 ?_)
        case d3 => unfold maxLen; omega
        case d4 => omega
        case d5 => simp; omega
        intro v' w5 ho hg _
        have R5 := hide (rec_push (X := X) (k := k) HOW.out HBW.out HB4.out HV.out HLk.out (by rw [hq]; exact ho) hg)
        clear ho hg HQ HQ4 HV HB4
        go_wp2
        go_roundw
        case rel => exact ⟨f, q ++ [(X, va, vc, L)], R', _, _, by rw [HR'.out] <;> rfl, R5.out.1, HI'.out _, by rw [HR'.out]; omega, by omega, by rw [HR'.out]; omega, HZ', by rw [List.length_append]; exact hc64, by rw [HR'.out]; omega, by rw [plain_append]; exact HE.out, R5.out.2⟩
        case measure => simp [lenOf]; omega

    · clear h6 HK
      by_cases hcm : c = n + m
      · subst hcm
        have hrl : R.length = n + m := by omega
        have hk0 : k = 0 := by omega
        subst hk0
        have HLn : L = [] := List.eq_nil_of_length_eq_zero HLk.out
        have HIE := hide (show ∀ c', IsB w (some ⟨b, off + n, none⟩) c' L from fun c' => by rw [HLn]; exact isB_none _ c')
        rw [hrl] at HRd HRd2 HR' ⊢
        rw [Nat.add_sub_cancel_left] at HRd2
        rw [show n + m - n - m - 0 = 0 by omega] at HR'
        have HRn : R' = [] := List.eq_nil_of_length_eq_zero HR'.out
        have HIR := hide (show ∀ x c', IsB w (some x) c' R' from fun x c' => by rw [HRn]; exact isB_none x c')
        have hp1 := HLn
        clear HLn HRn hp1
        clear hrl h0 nl ml hcn hc HI' HIv h5'
        rcases hrow with hq | ⟨g, p, rfl, hq, q1⟩
        · rw [hq] at HO ⊢
          clear h3
          generalize lastT (plain q) = lt at *
          generalize rdX R = X at *
          go_wp2_with fail
          refine HRd.out.mono ?_
          rintro e w1 ⟨rfl, hb1⟩
          have HB1 := hide hb1
          clear hb1
          go_wp2_with fail
          refine (HRd2.out _ HB1.out).mono ?_
          rintro e w3 ⟨rfl, hb2⟩
          have HB2 := hide (HB1.out.trans (hb2.mono HB1.out.size))
          clear hb2 HB1
          have HBW := hide (HB.out.trans (HB2.out.mono HB.out.size))
          have HOW := hide (HO.out.below HB2.out)
          have HQ := hide (show w3.ownsRow w.heap.size 39 2 (.slice lao 0 lcap) 0 (rqCells q) by have h := HOW.out.row; rw [hq] at h; exact h)
          have HS3 := HBW.out.size
          go_wp2_with (at_builtin; refine wpList_append_ownx rfl (.tmp 74) (.tmp 77) rfl w3.heap.size _ 0 [] rfl (own_empty w3) (some ⟨b, off + n, none⟩) 0 0 L rfl HLk.out ?c1 (by omega) (by simp) ?_)
          case c1 => exact (HIE.out _).below (HBW.out.alloc HBW.out.size _)
          intro v1 w4 ho4 hg4
          have HB4 := hide (((Below.refl w3.heap.size w3).alloc (Nat.le_refl _) (.cells #[] 5)).grown hg4 (by simp) (fun k hk => by cases hk; exact Nat.le_refl _))
          have hv1 : ∃ va vc, v1 = .slice va 0 vc := own_shape ho4
          obtain ⟨va, vc, rfl⟩ := hv1
          have HV := hide (show w4.ownsRow w3.heap.size 5 1 (.slice va L.length vc) L.length (U8 L) by rw [HLk.out]; exact ho4)
          clear ho4 hg4
          have HQ4 := hide (owns_below HQ.out HB4.out)
          have HS4 := HB4.out.size
          go_wp2_with (at_builtin; refine wpList_append_own _ rfl (.tmp 72) (.tmp 80) 40 rfl w.heap.size 39 i0 (.agg #[.int .u64 0, .slice none 0 0]) 2 32 Try.underlying40 hi hz0 hz1 hz2 rfl (by decide) (.slice lao 0 lcap) 0 (rqCells q) rfl (HQ4.out.alloc _) ⟨w4.heap.size, 0, none⟩ 1 1 [.int .u64 X, .slice va 0 vc] rfl rfl (cell_two_new _ _ _ _) (one_rec _ _ rfl rfl) ?d3 ?d4 ?d5 ?_)
          case d3 => unfold maxLen; omega
          case d4 => omega
          case d5 => simp; omega
          intro v' w5 ho hg _
          have R5 := hide (rec_push (X := X) (k := 0) HOW.out HBW.out HB4.out HV.out HLk.out (by rw [hq]; exact ho) hg)
          clear ho hg HQ HQ4 HV HB4
          go_wp2
          go_roundw
          case rel => exact ⟨f, q ++ [(X, va, vc, L)], R', _, _, by rw [HR'.out] <;> rfl, R5.out.1, HIR.out _ _, by rw [HR'.out]; omega, by omega, by rw [HR'.out]; omega, HZ', by rw [List.length_append]; exact hc64, by rw [HR'.out]; omega, by rw [plain_append]; exact HE.out, R5.out.2⟩
          case measure => simp [lenOf]; omega

        · have h64 : ((p : Int) + 1 == 64) = false := by have := H1.out; simp; omega
          have h65 : ((p + 1 : Nat) : Int) - 1 = p := by omega
          rw [hq] at HO ⊢
          generalize lastT (plain q) = lt at *
          generalize rdX R = X at *
          go_wp2_with fail
          refine HRd.out.mono ?_
          rintro e w1 ⟨rfl, hb1⟩
          have q2 := cell_later hb1 q1
          have HB1 := hide hb1
          clear hb1 q1
          go_wp2_with fail
          refine (HRd2.out _ HB1.out).mono ?_
          rintro e w3 ⟨rfl, hb2⟩
          have HB2 := hide (HB1.out.trans (hb2.mono HB1.out.size))
          clear hb2 HB1
          have HBW := hide (HB.out.trans (HB2.out.mono HB.out.size))
          have HOW := hide (HO.out.below HB2.out)
          have HQ := hide (show w3.ownsRow w.heap.size 39 2 (.slice (some ⟨g, 0, none⟩) (p + 1) lcap) (p + 1) (rqCells q) by have h := HOW.out.row; rw [hq] at h; exact h)
          have HS3 := HBW.out.size
          go_wp2_with (at_builtin; refine wpList_append_ownx rfl (.tmp 74) (.tmp 77) rfl w3.heap.size _ 0 [] rfl (own_empty w3) (some ⟨b, off + n, none⟩) 0 0 L rfl HLk.out ?c1 (by omega) (by simp) ?_)
          case c1 => exact (HIE.out _).below (HBW.out.alloc HBW.out.size _)
          intro v1 w4 ho4 hg4
          have HB4 := hide (((Below.refl w3.heap.size w3).alloc (Nat.le_refl _) (.cells #[] 5)).grown hg4 (by simp) (fun k hk => by cases hk; exact Nat.le_refl _))
          have hv1 : ∃ va vc, v1 = .slice va 0 vc := own_shape ho4
          obtain ⟨va, vc, rfl⟩ := hv1
          have HV := hide (show w4.ownsRow w3.heap.size 5 1 (.slice va L.length vc) L.length (U8 L) by rw [HLk.out]; exact ho4)
          clear ho4 hg4
          have HQ4 := hide (owns_below HQ.out HB4.out)
          have HS4 := HB4.out.size
          go_wp2_with (at_builtin; refine wpList_append_own _ rfl (.tmp 72) (.tmp 80) 40 rfl w.heap.size 39 i0 (.agg #[.int .u64 0, .slice none 0 0]) 2 32 Try.underlying40 hi hz0 hz1 hz2 rfl (by decide) (.slice (some ⟨g, 0, none⟩) (p + 1) lcap) (p + 1) (rqCells q) rfl (HQ4.out.alloc _) ⟨w4.heap.size, 0, none⟩ 1 1 [.int .u64 X, .slice va 0 vc] rfl rfl (cell_two_new _ _ _ _) (one_rec _ _ rfl rfl) ?d3 ?d4 ?d5 ?_)
          case d3 => unfold maxLen; omega
          case d4 => omega
          case d5 => simp; omega
          intro v' w5 ho hg _
          have R5 := hide (rec_push (X := X) (k := 0) HOW.out HBW.out HB4.out HV.out HLk.out (by rw [hq]; exact ho) hg)
          clear ho hg HQ HQ4 HV HB4
          go_wp2
          go_roundw
          case rel => exact ⟨f, q ++ [(X, va, vc, L)], R', _, _, by rw [HR'.out] <;> rfl, R5.out.1, HIR.out _ _, by rw [HR'.out]; omega, by omega, by rw [HR'.out]; omega, HZ', by rw [List.length_append]; exact hc64, by rw [HR'.out]; omega, by rw [plain_append]; exact HE.out, R5.out.2⟩
          case measure => simp [lenOf]; omega

      by_cases hcc : c = n + (m + k)
      · subst hcc
        have hrl : R.length = n + (m + k) := by omega
        have hk1 : ¬ k = 0 := by omega
        rw [hrl] at HRd HRd2 HR' ⊢
        rw [Nat.add_sub_cancel_left] at HRd2
        rw [show n + (m + k) - n - m - k = 0 by omega] at HR'
        have HRn : R' = [] := List.eq_nil_of_length_eq_zero HR'.out
        have HIR := hide (show ∀ x c', IsB w (some x) c' R' from fun x c' => by rw [HRn]; exact isB_none x c')
        clear HRn
        clear hrl h0 nl ml hcn hc HI' h5' hcm
        rcases hrow with hq | ⟨g, p, rfl, hq, q1⟩
        · rw [hq] at HO ⊢
          clear h3
          generalize lastT (plain q) = lt at *
          generalize rdX R = X at *
          go_wp2_with fail
          refine HRd.out.mono ?_
          rintro e w1 ⟨rfl, hb1⟩
          have HB1 := hide hb1
          clear hb1
          go_wp2_with fail
          refine (HRd2.out _ HB1.out).mono ?_
          rintro e w3 ⟨rfl, hb2⟩
          have HB2 := hide (HB1.out.trans (hb2.mono HB1.out.size))
          clear hb2 HB1
          have HBW := hide (HB.out.trans (HB2.out.mono HB.out.size))
          have HOW := hide (HO.out.below HB2.out)
          have HQ := hide (show w3.ownsRow w.heap.size 39 2 (.slice lao 0 lcap) 0 (rqCells q) by have h := HOW.out.row; rw [hq] at h; exact h)
          have HS3 := HBW.out.size
          go_wp2_with (at_builtin; refine wpList_append_ownx rfl (.tmp 74) (.tmp 77) rfl w3.heap.size _ 0 [] rfl (own_empty w3) (some ⟨b, off + n + m, none⟩) k k L rfl HLk.out ?c1 (by omega) (by simp) ?_)
          case c1 => exact (HIv.out _).below (HBW.out.alloc HBW.out.size _)
          intro v1 w4 ho4 hg4
          have HB4 := hide (((Below.refl w3.heap.size w3).alloc (Nat.le_refl _) (.cells #[] 5)).grown hg4 (by simp) (fun k hk => by cases hk; exact Nat.le_refl _))
          have hv1 : ∃ va vc, v1 = .slice va k vc := own_shape ho4
          obtain ⟨va, vc, rfl⟩ := hv1
          have HV := hide (show w4.ownsRow w3.heap.size 5 1 (.slice va L.length vc) L.length (U8 L) by rw [HLk.out]; exact ho4)
          clear ho4 hg4
          have HQ4 := hide (owns_below HQ.out HB4.out)
          have HS4 := HB4.out.size
          go_wp2_with (at_builtin; refine wpList_append_own _ rfl (.tmp 72) (.tmp 80) 40 rfl w.heap.size 39 i0 (.agg #[.int .u64 0, .slice none 0 0]) 2 32 Try.underlying40 hi hz0 hz1 hz2 rfl (by decide) (.slice lao 0 lcap) 0 (rqCells q) rfl (HQ4.out.alloc _) ⟨w4.heap.size, 0, none⟩ 1 1 [.int .u64 X, .slice va k vc] rfl rfl (cell_two_new _ _ _ _) (one_rec _ _ rfl rfl) ?d3 ?d4 ?d5 ?_)
          case d3 => unfold maxLen; omega
          case d4 => omega
          case d5 => simp; omega
          intro v' w5 ho hg _
          have R5 := hide (rec_push (X := X) (k := k) HOW.out HBW.out HB4.out HV.out HLk.out (by rw [hq]; exact ho) hg)
          clear ho hg HQ HQ4 HV HB4
          go_wp2
          go_roundw
          case rel => exact ⟨f, q ++ [(X, va, vc, L)], R', _, _, by rw [HR'.out] <;> rfl, R5.out.1, HIR.out _ _, by rw [HR'.out]; omega, by omega, by rw [HR'.out]; omega, HZ', by rw [List.length_append]; exact hc64, by rw [HR'.out]; omega, by rw [plain_append]; exact HE.out, R5.out.2⟩
          case measure => simp [lenOf]; omega

        · have h64 : ((p : Int) + 1 == 64) = false := by have := H1.out; simp; omega
          have h65 : ((p + 1 : Nat) : Int) - 1 = p := by omega
          rw [hq] at HO ⊢
          generalize lastT (plain q) = lt at *
          generalize rdX R = X at *
          go_wp2_with fail
          refine HRd.out.mono ?_
          rintro e w1 ⟨rfl, hb1⟩
          have q2 := cell_later hb1 q1
          have HB1 := hide hb1
          clear hb1 q1
          go_wp2_with fail
          refine (HRd2.out _ HB1.out).mono ?_
          rintro e w3 ⟨rfl, hb2⟩
          have HB2 := hide (HB1.out.trans (hb2.mono HB1.out.size))
          clear hb2 HB1
          have HBW := hide (HB.out.trans (HB2.out.mono HB.out.size))
          have HOW := hide (HO.out.below HB2.out)
          have HQ := hide (show w3.ownsRow w.heap.size 39 2 (.slice (some ⟨g, 0, none⟩) (p + 1) lcap) (p + 1) (rqCells q) by have h := HOW.out.row; rw [hq] at h; exact h)
          have HS3 := HBW.out.size
          go_wp2_with (at_builtin; refine wpList_append_ownx rfl (.tmp 74) (.tmp 77) rfl w3.heap.size _ 0 [] rfl (own_empty w3) (some ⟨b, off + n + m, none⟩) k k L rfl HLk.out ?c1 (by omega) (by simp) ?_)
          case c1 => exact (HIv.out _).below (HBW.out.alloc HBW.out.size _)
          intro v1 w4 ho4 hg4
          have HB4 := hide (((Below.refl w3.heap.size w3).alloc (Nat.le_refl _) (.cells #[] 5)).grown hg4 (by simp) (fun k hk => by cases hk; exact Nat.le_refl _))
          have hv1 : ∃ va vc, v1 = .slice va k vc := own_shape ho4
          obtain ⟨va, vc, rfl⟩ := hv1
          have HV := hide (show w4.ownsRow w3.heap.size 5 1 (.slice va L.length vc) L.length (U8 L) by rw [HLk.out]; exact ho4)
          clear ho4 hg4
          have HQ4 := hide (owns_below HQ.out HB4.out)
          have HS4 := HB4.out.size
          go_wp2_with (at_builtin; refine wpList_append_own _ rfl (.tmp 72) (.tmp 80) 40 rfl w.heap.size 39 i0 (.agg #[.int .u64 0, .slice none 0 0]) 2 32 Try.underlying40 hi hz0 hz1 hz2 rfl (by decide) (.slice (some ⟨g, 0, none⟩) (p + 1) lcap) (p + 1) (rqCells q) rfl (HQ4.out.alloc _) ⟨w4.heap.size, 0, none⟩ 1 1 [.int .u64 X, .slice va k vc] rfl rfl (cell_two_new _ _ _ _) (one_rec _ _ rfl rfl) ?d3 ?d4 ?d5 ?_)
          case d3 => unfold maxLen; omega
          case d4 => omega
          case d5 => simp; omega
          intro v' w5 ho hg _
          have R5 := hide (rec_push (X := X) (k := k) HOW.out HBW.out HB4.out HV.out HLk.out (by rw [hq]; exact ho) hg)
          clear ho hg HQ HQ4 HV HB4
          go_wp2
          go_roundw
          case rel => exact ⟨f, q ++ [(X, va, vc, L)], R', _, _, by rw [HR'.out] <;> rfl, R5.out.1, HIR.out _ _, by rw [HR'.out]; omega, by omega, by rw [HR'.out]; omega, HZ', by rw [List.length_append]; exact hc64, by rw [HR'.out]; omega, by rw [plain_append]; exact HE.out, R5.out.2⟩
          case measure => simp [lenOf]; omega

      have hcm2 : ¬ c - n = m := by omega
      have hcm3 : ¬ c - n - m = k := by omega
      have h5 : k ≤ R.length - n - m := by omega
      rcases hrow with hq | ⟨g, p, rfl, hq, q1⟩
      · rw [hq] at HO ⊢
        clear h3
        generalize lastT (plain q) = lt at *
        generalize rdX R = X at *
        go_wp2_with fail
        refine HRd.out.mono ?_
        rintro e w1 ⟨rfl, hb1⟩
        have HB1 := hide hb1
        clear hb1
        go_wp2_with fail
        refine (HRd2.out _ HB1.out).mono ?_
        rintro e w3 ⟨rfl, hb2⟩
        have HB2 := hide (HB1.out.trans (hb2.mono HB1.out.size))
        clear hb2 HB1
        have HBW := hide (HB.out.trans (HB2.out.mono HB.out.size))
        have HOW := hide (HO.out.below HB2.out)
        have HQ := hide (show w3.ownsRow w.heap.size 39 2 (.slice lao 0 lcap) 0 (rqCells q) by have h := HOW.out.row; rw [hq] at h; exact h)
        have HS3 := HBW.out.size
        go_wp2_with (at_builtin; refine wpList_append_ownx rfl (.tmp 74) (.tmp 77) rfl w3.heap.size _ 0 [] rfl (own_empty w3) (some ⟨b, off + n + m, none⟩) k (c - n - m) L rfl HLk.out ?c1 (by omega) (by simp) ?_)
        case c1 => exact (HIv.out _).below (HBW.out.alloc HBW.out.size _)
        intro v1 w4 ho4 hg4
        have HB4 := hide (((Below.refl w3.heap.size w3).alloc (Nat.le_refl _) (.cells #[] 5)).grown hg4 (by simp) (fun k hk => by cases hk; exact Nat.le_refl _))
        have hv1 : ∃ va vc, v1 = .slice va k vc := own_shape ho4
        obtain ⟨va, vc, rfl⟩ := hv1
        have HV := hide (show w4.ownsRow w3.heap.size 5 1 (.slice va L.length vc) L.length (U8 L) by rw [HLk.out]; exact ho4)
        clear ho4 hg4
        have HQ4 := hide (owns_below HQ.out HB4.out)
        have HS4 := HB4.out.size
        go_wp2_with (at_builtin; refine wpList_append_own _ rfl (.tmp 72) (.tmp 80) 40 rfl w.heap.size 39 i0 (.agg #[.int .u64 0, .slice none 0 0]) 2 32 Try.underlying40 hi hz0 hz1 hz2 rfl (by decide) (.slice lao 0 lcap) 0 (rqCells q) rfl (HQ4.out.alloc _) ⟨w4.heap.size, 0, none⟩ 1 1 [.int .u64 X, .slice va k vc] rfl rfl (cell_two_new _ _ _ _) (one_rec _ _ rfl rfl) ?d3 ?d4 ?d5 ?_)
        case d3 => unfold maxLen; omega
        case d4 => omega
        case d5 => simp; omega
        intro v' w5 ho hg _
        have R5 := hide (rec_push (X := X) (k := k) HOW.out HBW.out HB4.out HV.out HLk.out (by rw [hq]; exact ho) hg)
        clear ho hg HQ HQ4 HV HB4
        go_wp2
        go_roundw
        case rel => exact ⟨f, q ++ [(X, va, vc, L)], R', _, _, by rw [HR'.out] <;> rfl, R5.out.1, HI'.out _, by rw [HR'.out]; omega, by omega, by rw [HR'.out]; omega, HZ', by rw [List.length_append]; exact hc64, by rw [HR'.out]; omega, by rw [plain_append]; exact HE.out, R5.out.2⟩
        case measure => simp [lenOf]; omega

      · have h64 : ((p : Int) + 1 == 64) = false := by have := H1.out; simp; omega
        have h65 : ((p + 1 : Nat) : Int) - 1 = p := by omega
        rw [hq] at HO ⊢
        generalize lastT (plain q) = lt at *
        generalize rdX R = X at *
        go_wp2_with fail
        refine HRd.out.mono ?_
        rintro e w1 ⟨rfl, hb1⟩
        have q2 := cell_later hb1 q1
        have HB1 := hide hb1
        clear hb1 q1
        go_wp2_with fail
        refine (HRd2.out _ HB1.out).mono ?_
        rintro e w3 ⟨rfl, hb2⟩
        have HB2 := hide (HB1.out.trans (hb2.mono HB1.out.size))
        clear hb2 HB1
        have HBW := hide (HB.out.trans (HB2.out.mono HB.out.size))
        have HOW := hide (HO.out.below HB2.out)
        have HQ := hide (show w3.ownsRow w.heap.size 39 2 (.slice (some ⟨g, 0, none⟩) (p + 1) lcap) (p + 1) (rqCells q) by have h := HOW.out.row; rw [hq] at h; exact h)
        have HS3 := HBW.out.size
        go_wp2_with (at_builtin; refine wpList_append_ownx rfl (.tmp 74) (.tmp 77) rfl w3.heap.size _ 0 [] rfl (own_empty w3) (some ⟨b, off + n + m, none⟩) k (c - n - m) L rfl HLk.out ?c1 (by omega) (by simp) ?_)
        case c1 => exact (HIv.out _).below (HBW.out.alloc HBW.out.size _)
        intro v1 w4 ho4 hg4
        have HB4 := hide (((Below.refl w3.heap.size w3).alloc (Nat.le_refl _) (.cells #[] 5)).grown hg4 (by simp) (fun k hk => by cases hk; exact Nat.le_refl _))
        have hv1 : ∃ va vc, v1 = .slice va k vc := own_shape ho4
        obtain ⟨va, vc, rfl⟩ := hv1
        have HV := hide (show w4.ownsRow w3.heap.size 5 1 (.slice va L.length vc) L.length (U8 L) by rw [HLk.out]; exact ho4)
        clear ho4 hg4
        have HQ4 := hide (owns_below HQ.out HB4.out)
        have HS4 := HB4.out.size
        go_wp2_with (at_builtin; refine wpList_append_own _ rfl (.tmp 72) (.tmp 80) 40 rfl w.heap.size 39 i0 (.agg #[.int .u64 0, .slice none 0 0]) 2 32 Try.underlying40 hi hz0 hz1 hz2 rfl (by decide) (.slice (some ⟨g, 0, none⟩) (p + 1) lcap) (p + 1) (rqCells q) rfl (HQ4.out.alloc _) ⟨w4.heap.size, 0, none⟩ 1 1 [.int .u64 X, .slice va k vc] rfl rfl (cell_two_new _ _ _ _) (one_rec _ _ rfl rfl) ?d3 ?d4 ?d5 ?_)
        case d3 => unfold maxLen; omega
        case d4 => omega
        case d5 => simp; omega
        intro v' w5 ho hg _
        have R5 := hide (rec_push (X := X) (k := k) HOW.out HBW.out HB4.out HV.out HLk.out (by rw [hq]; exact ho) hg)
        clear ho hg HQ HQ4 HV HB4
        go_wp2
        go_roundw
        case rel => exact ⟨f, q ++ [(X, va, vc, L)], R', _, _, by rw [HR'.out] <;> rfl, R5.out.1, HI'.out _, by rw [HR'.out]; omega, by omega, by rw [HR'.out]; omega, HZ', by rw [List.length_append]; exact hc64, by rw [HR'.out]; omega, by rw [plain_append]; exact HE.out, R5.out.2⟩
        case measure => simp [lenOf]; omega


set_option maxHeartbeats 1000000 in
theorem rdecode_long (ao : Option Addr) (cap n : Nat) (k : Value) (w : World) (hs : 65536 < n) (hn : n ≤ 9223372036854775807) :
    Calls Try.prog 35 #[.slice ao n cap, k] w fun e w' => e = .returned (.tuple #[.slice none 0 0, .int .i64 3]) ∧ w' = w := by
  go_enter Try.func35, Try.ntmps35
  go_wp2
  go_ret2
  exact ⟨rfl, rfl⟩

/-- the document's Decode -/
theorem rdecode_any (ao : Option Addr) (cap : Nat) (zs : List Int) (w : World) (hb : IsB w ao cap zs) (hcap : zs.length ≤ cap) (hl : cap ≤ 9223372036854775807) (hz : Bytes zs) (kao : Option Addr) (klen kcap : Nat) (z : Nat → Int) (hU : IsU w kao klen z) (hkl : klen ≤ 9223372036854775807) :
    Calls Try.prog 35 #[.slice ao zs.length cap, .slice kao klen kcap] w fun e w' => ∃ v q, e = .returned (.tuple #[v, .int .i64 (decT (knows z klen) zs).1]) ∧ Hid (OwnRecs w' w.heap.size v q) ∧ plain q = (decT (knows z klen) zs).2 ∧ Hid (Below w.heap.size w w') := by
  unfold decT
  by_cases hs : 65536 < zs.length
  · rw [if_pos hs]
    exact (rdecode_long ao cap zs.length _ w hs (by omega)).mono fun e w' h => ⟨_, [], h.1, OwnRecs.nil _ _, rfl, by rw [h.2]; exact Below.refl _ _⟩
  · rw [if_neg hs]
    exact rdecode_in ao cap zs w hb hcap hl hz kao klen kcap z hU hkl (by omega) _ rfl
end Go.Proofs.Ytcbadmkgbaffpaa
