/- Policy: questions one after the other; Forward and Final. -/
import Derived.Test.YtfbaidmnnkcaeaaPFun
namespace Go.Proofs.Ytfbaidmnnkcaeaa
open Go.RowKit
set_option linter.unusedVariables false
set_option linter.unusedSimpArgs false
set_option maxRecDepth 100000

/-- a question: its reason, its function, what that is bound to and what it captured, its answer -/
structure Qn where
  re : Int
  fn : Nat
  q : Array Value
  cap : Array Value
  c : Bool
def QL (x : Qn) : Array Value := #[.int .i64 x.re, .func (.func x.fn) x.q x.cap]
/-- the reason of the first one that applies, from i on -/
def frst (Qs : Nat → Qn) : Nat → Nat → Int
  | 0, _ => 0
  | m + 1, i => if (Qs i).c then (Qs i).re else frst Qs m (i + 1)
theorem frst_none {Qs : Nat → Qn} : ∀ m i, (∀ j, i ≤ j → j < i + m → (Qs j).c = false) → frst Qs m i = 0
  | 0, _, _ => rfl
  | m + 1, i, h => by
    unfold frst
    rw [h i (Nat.le_refl _) (by omega)]
    exact frst_none m (i + 1) (fun j h1 h2 => h j (by omega) (by omega))
theorem frst_some {Qs : Nat → Qn} : ∀ m i k, i ≤ k → k < i + m → (Qs k).c = true → (∀ j, i ≤ j → j < k → (Qs j).c = false) → frst Qs m i = (Qs k).re
  | 0, i, k, h1, h2, _, _ => by omega
  | m + 1, i, k, h1, h2, hk, h => by
    unfold frst
    by_cases e : i = k
    · subst e
      rw [hk]
      rfl
    · rw [h i (Nat.le_refl _) (by omega)]
      exact frst_some m (i + 1) k (by omega) (by omega) hk (fun j h1 h2 => h j (by omega) h2)
section
variable {o : Oper} {a : Act} {W : World}
theorem ex_ix60 {x y : Operand} {b p n c k : Nat} (ho : o.op = .indexAddr 60 x y) (hx : a.eval x = .slice (some ⟨b, p, none⟩) n c) (hy : a.eval y = .int .i64 k) (hk : k < n) : (execOp a.eval o).run Try.prog W = .ok (.value (.pointer (some ⟨b, p + k * 2, none⟩))) W := by
  have h1 : (k : Int) < (n : Int) := by omega
  unfold execOp
  simp only [ho, hx, hy]
  go_simp
theorem ex_bslN {t n : Nat} {ps : Array (Nat × Operand)} (ho : o.op = .buildSlice t n ps) {vs : List (Nat × Value)} {v : Value} {W' : World} (hv : ps.toList.map (fun p => (p.1, a.eval p.2)) = vs) (hb : (Instr.buildSlice t n vs.toArray).run Try.prog W = .ok v W') : (execOp a.eval o).run Try.prog W = .ok (.value v) W' := by
  have hm : ps.map (fun p => (p.1, a.eval p.2)) = vs.toArray := by rw [← hv, ← Array.toList_map]
  unfold execOp
  simp [ho, hm, hb]
end
set_option maxHeartbeats 2000000 in
theorem first_any (b n : Nat) (Qs : Nat → Qn) (w : World) (hr : ∀ i, i < n → w.rangeAt b (0 + i * 2) (QL (Qs i)).toList) (hn : n ≤ 100) (hkk : ∀ i, i < n → ∀ W vs, (callFunc (Qs i).fn vs).run Try.prog W = .ok (.enter (Qs i).fn vs) W)
    (hP : ∀ i, i < n → (∀ j, j < i → (Qs j).c = false) → ∀ W, Below w.heap.size w W → Calls Try.prog (Qs i).fn ((Qs i).q ++ [].toArray ++ (Qs i).cap) W fun e w' => e = .returned (.bool (Qs i).c) ∧ Below W.heap.size W w') :
    Calls Try.prog 25 #[.slice (some ⟨b, 0, none⟩) n n] w fun e w' => e = .returned (.int .i64 (frst Qs n 0)) ∧ Below w.heap.size w w' := by
  have E : Below w.heap.size w w := Below.refl _ _
  go_enter Try.func25, Try.ntmps25
  refine wq fun Q hQ => ?_
  refine sg (.int .i64 0) 2 rfl rfl rfl rfl ?_
  simp only [zp]
  refine st_end ?_
  subst hQ
  refine wp_seq ?_
  refine wq fun Q hQ => ?_
  refine sm (.slice (some ⟨b, 0, none⟩) n n) 5 rfl rfl rfl rfl ?_
  simp only [zp]
  refine sv (.int .i64 (n : Nat)) 6 rfl rfl (ex_len rfl rfl (len60 _ _ _ _ _)) ?_
  simp only [zp]
  refine sm (.int .i64 0) 7 rfl rfl rfl rfl ?_
  simp only [zp]
  refine st_end ?_
  subst hQ
  refine wp_block ?_
  go_loopw [7] (fun v7 wr => ∃ i : Nat, i ≤ n ∧ v7 = .int .i64 i ∧ Below w.heap.size w wr ∧ ∀ j, j < i → (Qs j).c = false) (fun v7 _ => n - (intOf v7).toNat)
  case atStart => exact ⟨0, Nat.zero_le _, rfl, E, fun j hj => by omega⟩
  case round =>
    obtain ⟨i, hi, rfl, E, hno⟩ := hrel
    by_cases hlt : i < n
    · have HC := hr i hlt
      have hk := hkk i hlt
      have E0 := E
      cases hp : (Qs i).c with
      | true =>
        refine wq fun Q hQ => ?_
        refine sv (.bool true) 8 rfl rfl (ex_bin (u := (.int .i64 (i : Nat))) (r := (.int .i64 (n : Nat))) rfl rfl rfl (eg3 _ _ _ _ _ _) (lss3 _ (decide_eq_true (by omega)))) ?_
        simp only [zp]
        refine st_end ?_
        subst hQ
        refine wp_seq ?_
        refine wp_cond_true rfl ?_
        refine wp_skip ?_
        refine wp_seq ?_
        refine wp_block ?_
        refine wq fun Q hQ => ?_
        refine sv (.pointer (some ⟨b, (0 + i * 2), none⟩)) 9 rfl rfl (ex_ix60 rfl rfl rfl hlt) ?_
        simp only [zp]
        refine sv (.agg (QL (Qs i))) 10 rfl rfl (ex_load rfl rfl (ld_range (range_below HC E) Try.underlying53 rfl inf53)) ?_
        simp only [zp]
        refine st_new (fun b => .pointer (some ⟨b, 0, none⟩)) (some 4) rfl rfl (ex_alloc rfl zero53) ?_
        intro b1 W1 k1 g1 B
        simp only [zp]
        have ge_b1 := Nat.le_trans E.size g1
        replace E := below_next E B
        clear B
        obtain ⟨W2, hst, kn, K⟩ := put_all (D := (QL (Qs i))) k1 rfl inf53 (by kernel_rfl)
        refine st_sk rfl rfl (ex_store rfl rfl rfl hst) ?_
        replace E := below_put E ge_b1 K
        replace k1 := kn
        clear kn K hst
        refine st_end ?_
        subst hQ
        refine wq fun Q hQ => ?_
        refine sv (.pointer (some ⟨b1, 1, none⟩)) 11 rfl rfl (ex_fa (p := (.pointer (some ⟨b1, 0, none⟩))) rfl rfl (fa53_1 _ _)) ?_
        simp only [zp]
        refine sv (.func (.func (Qs i).fn) (Qs i).q (Qs i).cap) 12 rfl rfl (ex_load (p := (.pointer (some ⟨b1, 1, none⟩))) rfl rfl (ld29 (at_cell k1 rfl))) ?_
        simp only [zp]
        refine st_call (some 13) rfl rfl (hp ▸ hP i hlt hno W2 E) (ex_callq (f := (Qs i).fn) (vs := []) rfl rfl (hk _) rfl) ?_
        rintro e W3 ⟨rfl, B⟩
        refine ⟨_, rfl, ?_⟩
        simp only [zp]
        replace E := below_next E B
        replace k1 := keep B k1
        refine st_end ?_
        subst hQ
        refine wp_cond_true rfl ?_
        refine wq fun Q hQ => ?_
        refine sv (.pointer (some ⟨b1, 0, none⟩)) 14 rfl rfl (ex_fa (p := (.pointer (some ⟨b1, 0, none⟩))) rfl rfl (fa53_0 _ _)) ?_
        simp only [zp]
        refine sv (.int .i64 (Qs i).re) 15 rfl rfl (ex_load (p := (.pointer (some ⟨b1, 0, none⟩))) rfl rfl (ld3 (at_cell k1 rfl))) ?_
        simp only [zp]
        refine sg (.int .i64 (Qs i).re) 2 rfl rfl rfl rfl ?_
        simp only [zp]
        refine st_end ?_
        subst hQ
        refine wp_ret ?_
        repeat (first | refine ret_out ?_ | refine ret_blk ?_)
        refine bodyPost_ret (results_tmp Try.results25 _ _ _) rfl ⟨?_, E⟩
        rw [frst_some n 0 i (by omega) (by omega) hp (fun j _ h => hno j h)]
        rfl
      | false =>
        refine wq fun Q hQ => ?_
        refine sv (.bool true) 8 rfl rfl (ex_bin (u := (.int .i64 (i : Nat))) (r := (.int .i64 (n : Nat))) rfl rfl rfl (eg3 _ _ _ _ _ _) (lss3 _ (decide_eq_true (by omega)))) ?_
        simp only [zp]
        refine st_end ?_
        subst hQ
        refine wp_seq ?_
        refine wp_cond_true rfl ?_
        refine wp_skip ?_
        refine wp_seq ?_
        refine wp_block ?_
        refine wq fun Q hQ => ?_
        refine sv (.pointer (some ⟨b, (0 + i * 2), none⟩)) 9 rfl rfl (ex_ix60 rfl rfl rfl hlt) ?_
        simp only [zp]
        refine sv (.agg (QL (Qs i))) 10 rfl rfl (ex_load rfl rfl (ld_range (range_below HC E) Try.underlying53 rfl inf53)) ?_
        simp only [zp]
        refine st_new (fun b => .pointer (some ⟨b, 0, none⟩)) (some 4) rfl rfl (ex_alloc rfl zero53) ?_
        intro b2 W4 k2 g2 B
        simp only [zp]
        have ge_b2 := Nat.le_trans E.size g2
        replace E := below_next E B
        clear B
        obtain ⟨W5, hst, kn, K⟩ := put_all (D := (QL (Qs i))) k2 rfl inf53 (by kernel_rfl)
        refine st_sk rfl rfl (ex_store rfl rfl rfl hst) ?_
        replace E := below_put E ge_b2 K
        replace k2 := kn
        clear kn K hst
        refine st_end ?_
        subst hQ
        refine wq fun Q hQ => ?_
        refine sv (.pointer (some ⟨b2, 1, none⟩)) 11 rfl rfl (ex_fa (p := (.pointer (some ⟨b2, 0, none⟩))) rfl rfl (fa53_1 _ _)) ?_
        simp only [zp]
        refine sv (.func (.func (Qs i).fn) (Qs i).q (Qs i).cap) 12 rfl rfl (ex_load (p := (.pointer (some ⟨b2, 1, none⟩))) rfl rfl (ld29 (at_cell k2 rfl))) ?_
        simp only [zp]
        refine st_call (some 13) rfl rfl (hp ▸ hP i hlt hno W5 E) (ex_callq (f := (Qs i).fn) (vs := []) rfl rfl (hk _) rfl) ?_
        rintro e W6 ⟨rfl, B⟩
        refine ⟨_, rfl, ?_⟩
        simp only [zp]
        replace E := below_next E B
        replace k2 := keep B k2
        refine st_end ?_
        subst hQ
        refine wp_cond_false rfl ?_
        refine wp_skip ?_
        refine wl_in (wl_cap fun Q hQ => ?_)
        refine sv (.int .i64 ((i + 1 : Nat) : Int)) 16 rfl rfl (ex_bin rfl rfl rfl (eg3 _ _ _ _ _ _) (add3 _ (by omega) (by omega))) ?_
        simp only [zp]
        refine sm (.int .i64 ((i + 1 : Nat) : Int)) 7 rfl rfl rfl rfl ?_
        simp only [zp]
        refine st_end ?_
        subst hQ
        refine then_go ?_
        go_roundw
        case rel =>
          refine ⟨i + 1, by omega, rfl, E, fun j hj => ?_⟩
          by_cases e : j = i
          · subst e; exact hp
          · exact hno j (by omega)
        case measure => simp [intOf]; omega
    · skip
      have hi' : i = n := by omega
      subst hi'
      refine wq fun Q hQ => ?_
      refine sv (.bool false) 8 rfl rfl (ex_bin (u := (.int .i64 (i : Nat))) (r := (.int .i64 (i : Nat))) rfl rfl rfl (eg3 _ _ _ _ _ _) (lss3 _ (decide_eq_false (by omega)))) ?_
      simp only [zp]
      refine st_end ?_
      subst hQ
      refine wp_seq ?_
      refine wp_cond_false rfl ?_
      refine wp_exit ?_
      refine ex_then ?_
      refine ex_then ?_
      refine ex_blk ?_
      refine wq fun Q hQ => ?_
      refine sg (.int .i64 0) 2 rfl rfl rfl rfl ?_
      simp only [zp]
      refine st_end ?_
      subst hQ
      refine wp_ret ?_
      refine bodyPost_ret (results_tmp Try.results25 _ _ _) rfl ⟨?_, E⟩
      rw [frst_none i 0 (fun j _ h => hno j (by omega))]
      rfl
set_option maxHeartbeats 2000000 in
theorem fw1 {q : RV} {H : Array Value} {v : HP} {a x h : Int} {px ph : Nat} (w : World) (kx : w.heap[px]? = some (.cells (XL q a x h) 50)) (kh : w.heap[ph]? = some (.cells H 28)) (hH : IsHop H v) (hb : q.b ≤ 9223372036854775807) {c : Bool} (hc : (wrongB q a x h || decide (v.ch < 1)) = c) :
    Calls Try.prog 26 #[.pointer (some ⟨px, 0, none⟩), .pointer (some ⟨ph, 0, none⟩)] w fun e w' => e = .returned (.bool c) ∧ Below w.heap.size w w' := by
  subst hc
  by_cases e0 : wrongB q a x h = true
  · skip
    have E : Below w.heap.size w w := Below.refl _ _
    go_enter Try.func26, Try.ntmps26
    refine wq fun Q hQ => ?_
    refine sg (.bool false) 2 rfl rfl rfl rfl ?_
    simp only [zp]
    refine st_end ?_
    subst hQ
    refine wq fun Q hQ => ?_
    refine sv (.agg (XL q a x h)) 3 rfl rfl (ex_load (p := (.pointer (some ⟨px, 0, none⟩))) rfl rfl (ld_all kx Try.underlying50 rfl inf50)) ?_
    simp only [zp]
    refine st_call (some 4) rfl rfl (wrong_any w hb e0) (ex_call (f := 27) (vs := [(.agg (XL q a x h))]) rfl (cf27 _) rfl) ?_
    rintro e W1 ⟨rfl, B⟩
    refine ⟨_, rfl, ?_⟩
    simp only [zp]
    replace E := below_next E B
    replace kx := keep B kx
    replace kh := keep B kh
    refine sm (.bool true) 5 rfl rfl rfl rfl ?_
    simp only [zp]
    refine sn 6 rfl rfl ?_
    simp only [zp]
    refine sn 7 rfl rfl ?_
    simp only [zp]
    refine sn 8 rfl rfl ?_
    simp only [zp]
    refine sv (.bool true) 9 rfl rfl (ex_pkT rfl rfl rfl) ?_
    simp only [zp]
    refine sg (.bool true) 2 rfl rfl rfl rfl ?_
    simp only [zp]
    refine st_end ?_
    subst hQ
    refine wp_ret ?_
    repeat (first | refine ret_out ?_ | refine ret_blk ?_)
    refine bodyPost_ret (results_tmp Try.results26 _ _ _) rfl ⟨?_, E⟩
    show Ending.returned (.bool true) = _
    simp [e0]
  · skip
    replace e0 := Bool.eq_false_iff.2 e0
    by_cases e1 : v.ch < 1
    · skip
      have E : Below w.heap.size w w := Below.refl _ _
      go_enter Try.func26, Try.ntmps26
      refine wq fun Q hQ => ?_
      refine sg (.bool false) 2 rfl rfl rfl rfl ?_
      simp only [zp]
      refine st_end ?_
      subst hQ
      refine wq fun Q hQ => ?_
      refine sv (.agg (XL q a x h)) 3 rfl rfl (ex_load (p := (.pointer (some ⟨px, 0, none⟩))) rfl rfl (ld_all kx Try.underlying50 rfl inf50)) ?_
      simp only [zp]
      refine st_call (some 4) rfl rfl (wrong_any w hb e0) (ex_call (f := 27) (vs := [(.agg (XL q a x h))]) rfl (cf27 _) rfl) ?_
      rintro e W1 ⟨rfl, B⟩
      refine ⟨_, rfl, ?_⟩
      simp only [zp]
      replace E := below_next E B
      replace kx := keep B kx
      replace kh := keep B kh
      refine sm (.bool false) 5 rfl rfl rfl rfl ?_
      simp only [zp]
      refine sv (.pointer (some ⟨ph, 0, none⟩)) 6 rfl rfl (ex_fa (p := (.pointer (some ⟨ph, 0, none⟩))) rfl rfl (fa28_0 _ _)) ?_
      simp only [zp]
      refine sv (.int .i64 v.ch) 7 rfl rfl (ex_load (p := (.pointer (some ⟨ph, 0, none⟩))) rfl rfl (ld3 (at_cell kh hH.c0))) ?_
      simp only [zp]
      refine sv (.bool true) 8 rfl rfl (ex_bin (u := (.int .i64 v.ch)) (r := (.int .i64 1)) rfl rfl rfl (eg3 _ _ _ _ _ _) (lss3 _ (decide_eq_true (by omega)))) ?_
      simp only [zp]
      refine sv (.bool true) 9 rfl rfl (ex_pkF rfl rfl rfl) ?_
      simp only [zp]
      refine sg (.bool true) 2 rfl rfl rfl rfl ?_
      simp only [zp]
      refine st_end ?_
      subst hQ
      refine wp_ret ?_
      repeat (first | refine ret_out ?_ | refine ret_blk ?_)
      refine bodyPost_ret (results_tmp Try.results26 _ _ _) rfl ⟨?_, E⟩
      show Ending.returned (.bool true) = _
      simp [e0, e1]
    · skip
      have E : Below w.heap.size w w := Below.refl _ _
      go_enter Try.func26, Try.ntmps26
      refine wq fun Q hQ => ?_
      refine sg (.bool false) 2 rfl rfl rfl rfl ?_
      simp only [zp]
      refine st_end ?_
      subst hQ
      refine wq fun Q hQ => ?_
      refine sv (.agg (XL q a x h)) 3 rfl rfl (ex_load (p := (.pointer (some ⟨px, 0, none⟩))) rfl rfl (ld_all kx Try.underlying50 rfl inf50)) ?_
      simp only [zp]
      refine st_call (some 4) rfl rfl (wrong_any w hb e0) (ex_call (f := 27) (vs := [(.agg (XL q a x h))]) rfl (cf27 _) rfl) ?_
      rintro e W1 ⟨rfl, B⟩
      refine ⟨_, rfl, ?_⟩
      simp only [zp]
      replace E := below_next E B
      replace kx := keep B kx
      replace kh := keep B kh
      refine sm (.bool false) 5 rfl rfl rfl rfl ?_
      simp only [zp]
      refine sv (.pointer (some ⟨ph, 0, none⟩)) 6 rfl rfl (ex_fa (p := (.pointer (some ⟨ph, 0, none⟩))) rfl rfl (fa28_0 _ _)) ?_
      simp only [zp]
      refine sv (.int .i64 v.ch) 7 rfl rfl (ex_load (p := (.pointer (some ⟨ph, 0, none⟩))) rfl rfl (ld3 (at_cell kh hH.c0))) ?_
      simp only [zp]
      refine sv (.bool false) 8 rfl rfl (ex_bin (u := (.int .i64 v.ch)) (r := (.int .i64 1)) rfl rfl rfl (eg3 _ _ _ _ _ _) (lss3 _ (decide_eq_false (by omega)))) ?_
      simp only [zp]
      refine sv (.bool false) 9 rfl rfl (ex_pkF rfl rfl rfl) ?_
      simp only [zp]
      refine sg (.bool false) 2 rfl rfl rfl rfl ?_
      simp only [zp]
      refine st_end ?_
      subst hQ
      refine wp_ret ?_
      repeat (first | refine ret_out ?_ | refine ret_blk ?_)
      refine bodyPost_ret (results_tmp Try.results26 _ _ _) rfl ⟨?_, E⟩
      show Ending.returned (.bool false) = _
      simp [e0, e1]
set_option maxHeartbeats 2000000 in
theorem fw2 {q : RV} {H : Array Value} {v : HP} {a x h : Int} {px ph : Nat} (w : World) (kx : w.heap[px]? = some (.cells (XL q a x h) 50)) (kh : w.heap[ph]? = some (.cells H 28)) (hH : IsHop H v) (x0 : 0 ≤ x) (x1 : x ≤ 2147483647) (h0 : 0 ≤ h) (h1 : h ≤ 2147483647) (hm : mayR q = true) {c : Bool} (hc : decide (v.ex ≤ h + q.g) = c) :
    Calls Try.prog 29 #[.pointer (some ⟨px, 0, none⟩), .pointer (some ⟨ph, 0, none⟩)] w fun e w' => e = .returned (.bool c) ∧ Below w.heap.size w w' := by
  have E : Below w.heap.size w w := Below.refl _ _
  go_enter Try.func29, Try.ntmps29
  refine wq fun Q hQ => ?_
  refine sg (.bool false) 2 rfl rfl rfl rfl ?_
  simp only [zp]
  refine st_end ?_
  subst hQ
  refine wq fun Q hQ => ?_
  refine sv (.agg (XL q a x h)) 3 rfl rfl (ex_load (p := (.pointer (some ⟨px, 0, none⟩))) rfl rfl (ld_all kx Try.underlying50 rfl inf50)) ?_
  simp only [zp]
  refine sv (.pointer (some ⟨ph, 2, none⟩)) 4 rfl rfl (ex_fa (p := (.pointer (some ⟨ph, 0, none⟩))) rfl rfl (fa28_2 _ _)) ?_
  simp only [zp]
  refine sv (.int .i64 v.ex) 5 rfl rfl (ex_load (p := (.pointer (some ⟨ph, 2, none⟩))) rfl rfl (ld3 (at_cell kh hH.c2))) ?_
  simp only [zp]
  refine st_call (some 6) rfl rfl (soon_any w h0 h1 (mayR_of hm).2.2.2.1 (mayR_of hm).2.2.2.2.1 hc) (ex_call (f := 30) (vs := [(.agg (XL q a x h)), (.int .i64 v.ex)]) rfl (cf30 _) rfl) ?_
  rintro e W1 ⟨rfl, B⟩
  refine ⟨_, rfl, ?_⟩
  simp only [zp]
  replace E := below_next E B
  replace kx := keep B kx
  replace kh := keep B kh
  refine sg (.bool c) 2 rfl rfl rfl rfl ?_
  simp only [zp]
  refine st_end ?_
  subst hQ
  refine wp_ret ?_
  refine bodyPost_ret (results_tmp Try.results29 _ _ _) rfl ⟨rfl, E⟩
set_option maxHeartbeats 2000000 in
theorem fw3 {q : RV} {H : Array Value} {v : HP} {a x h : Int} {ph pe pr : Nat} (w : World) (kh : w.heap[ph]? = some (.cells H 28)) (ke : w.heap[pe]? = some (.cells #[.int .i64 x] 3)) (kr : w.heap[pr]? = some (.cells (RL q) 25)) (hH : IsHop H v) (x0 : 0 ≤ x) (x1 : x ≤ 2147483647) (h0 : 0 ≤ h) (h1 : h ≤ 2147483647) (hm : mayR q = true) {c : Bool} (hc : decide (x - q.d < v.ex) = c) :
    Calls Try.prog 31 #[.pointer (some ⟨ph, 0, none⟩), .pointer (some ⟨pe, 0, none⟩), .pointer (some ⟨pr, 0, none⟩)] w fun e w' => e = .returned (.bool c) ∧ Below w.heap.size w w' := by
  have E : Below w.heap.size w w := Below.refl _ _
  go_enter Try.func31, Try.ntmps31
  refine wq fun Q hQ => ?_
  refine sg (.bool false) 3 rfl rfl rfl rfl ?_
  simp only [zp]
  refine st_end ?_
  subst hQ
  refine wq fun Q hQ => ?_
  refine sv (.pointer (some ⟨ph, 2, none⟩)) 4 rfl rfl (ex_fa (p := (.pointer (some ⟨ph, 0, none⟩))) rfl rfl (fa28_2 _ _)) ?_
  simp only [zp]
  refine sv (.int .i64 v.ex) 5 rfl rfl (ex_load (p := (.pointer (some ⟨ph, 2, none⟩))) rfl rfl (ld3 (at_cell kh hH.c2))) ?_
  simp only [zp]
  refine sv (.int .i64 x) 6 rfl rfl (ex_load (p := (.pointer (some ⟨pe, 0, none⟩))) rfl rfl (ld3 (at_cell ke rfl))) ?_
  simp only [zp]
  refine sv (.pointer (some ⟨pr, 2, none⟩)) 7 rfl rfl (ex_fa (p := (.pointer (some ⟨pr, 0, none⟩))) rfl rfl (fa25_1 _ _)) ?_
  simp only [zp]
  refine sv (.int .i64 q.d) 8 rfl rfl (ex_load (p := (.pointer (some ⟨pr, 2, none⟩))) rfl rfl (ld3 (at_cell kr rfl))) ?_
  simp only [zp]
  refine sv (.int .i64 (x - q.d)) 9 rfl rfl (ex_bin (u := (.int .i64 x)) (r := (.int .i64 q.d)) rfl rfl rfl (eg3 _ _ _ _ _ _) (sub3 _ rfl (by have := mayR_of hm; omega))) ?_
  simp only [zp]
  refine sv (.bool c) 10 rfl rfl (ex_bin (u := (.int .i64 v.ex)) (r := (.int .i64 (x - q.d))) rfl rfl rfl (eg3 _ _ _ _ _ _) (gtr3 _ hc)) ?_
  simp only [zp]
  refine sg (.bool c) 3 rfl rfl rfl rfl ?_
  simp only [zp]
  refine st_end ?_
  subst hQ
  refine wp_ret ?_
  refine bodyPost_ret (results_tmp Try.results31 _ _ _) rfl ⟨rfl, E⟩
set_option maxHeartbeats 2000000 in
theorem fw4 {q : RV} {H : Array Value} {v : HP} {a x h : Int} {ph : Nat} (w : World) (kh : w.heap[ph]? = some (.cells H 28)) (hH : IsHop H v)  {c : Bool} (hc : decide (v.am < 1) = c) :
    Calls Try.prog 32 #[.pointer (some ⟨ph, 0, none⟩)] w fun e w' => e = .returned (.bool c) ∧ Below w.heap.size w w' := by
  have E : Below w.heap.size w w := Below.refl _ _
  go_enter Try.func32, Try.ntmps32
  refine wq fun Q hQ => ?_
  refine sg (.bool false) 1 rfl rfl rfl rfl ?_
  simp only [zp]
  refine st_end ?_
  subst hQ
  refine wq fun Q hQ => ?_
  refine sv (.pointer (some ⟨ph, 1, none⟩)) 2 rfl rfl (ex_fa (p := (.pointer (some ⟨ph, 0, none⟩))) rfl rfl (fa28_1 _ _)) ?_
  simp only [zp]
  refine sv (.int .i64 v.am) 3 rfl rfl (ex_load (p := (.pointer (some ⟨ph, 1, none⟩))) rfl rfl (ld3 (at_cell kh hH.c1))) ?_
  simp only [zp]
  refine sv (.bool c) 4 rfl rfl (ex_bin (u := (.int .i64 v.am)) (r := (.int .i64 1)) rfl rfl rfl (eg3 _ _ _ _ _ _) (lss3 _ hc)) ?_
  simp only [zp]
  refine sg (.bool c) 1 rfl rfl rfl rfl ?_
  simp only [zp]
  refine st_end ?_
  subst hQ
  refine wp_ret ?_
  refine bodyPost_ret (results_tmp Try.results32 _ _ _) rfl ⟨rfl, E⟩
set_option maxHeartbeats 2000000 in
theorem fw5 {q : RV} {H : Array Value} {v : HP} {a x h : Int} {px ph : Nat} (w : World) (kx : w.heap[px]? = some (.cells (XL q a x h) 50)) (kh : w.heap[ph]? = some (.cells H 28)) (hH : IsHop H v) (hb : q.b ≤ 9223372036854775807) (y0 : -9223372036854775808 ≤ v.am) (y1 : v.am ≤ 9223372036854775807) {c : Bool} (hc : belowB q a v.am = c) :
    Calls Try.prog 33 #[.pointer (some ⟨px, 0, none⟩), .pointer (some ⟨ph, 0, none⟩)] w fun e w' => e = .returned (.bool c) ∧ Below w.heap.size w w' := by
  have E : Below w.heap.size w w := Below.refl _ _
  go_enter Try.func33, Try.ntmps33
  refine wq fun Q hQ => ?_
  refine sg (.bool false) 2 rfl rfl rfl rfl ?_
  simp only [zp]
  refine st_end ?_
  subst hQ
  refine wq fun Q hQ => ?_
  refine sv (.agg (XL q a x h)) 3 rfl rfl (ex_load (p := (.pointer (some ⟨px, 0, none⟩))) rfl rfl (ld_all kx Try.underlying50 rfl inf50)) ?_
  simp only [zp]
  refine sv (.pointer (some ⟨ph, 1, none⟩)) 4 rfl rfl (ex_fa (p := (.pointer (some ⟨ph, 0, none⟩))) rfl rfl (fa28_1 _ _)) ?_
  simp only [zp]
  refine sv (.int .i64 v.am) 5 rfl rfl (ex_load (p := (.pointer (some ⟨ph, 1, none⟩))) rfl rfl (ld3 (at_cell kh hH.c1))) ?_
  simp only [zp]
  refine st_call (some 6) rfl rfl (belowx_any w hb y0 y1 hc) (ex_call (f := 34) (vs := [(.agg (XL q a x h)), (.int .i64 v.am)]) rfl (cf34 _) rfl) ?_
  rintro e W1 ⟨rfl, B⟩
  refine ⟨_, rfl, ?_⟩
  simp only [zp]
  replace E := below_next E B
  replace kx := keep B kx
  replace kh := keep B kh
  refine sg (.bool c) 2 rfl rfl rfl rfl ?_
  simp only [zp]
  refine st_end ?_
  subst hQ
  refine wp_ret ?_
  refine bodyPost_ret (results_tmp Try.results33 _ _ _) rfl ⟨rfl, E⟩
set_option maxHeartbeats 2000000 in
theorem fi1 {q : RV} {H : Array Value} {v : HP} {a x h : Int} {px ph : Nat} (w : World) (kx : w.heap[px]? = some (.cells (XL q a x h) 50)) (kh : w.heap[ph]? = some (.cells H 28)) (hH : IsHop H v) (hb : q.b ≤ 9223372036854775807) {c : Bool} (hc : (wrongB q a x h || decide (¬ v.ch = 0)) = c) :
    Calls Try.prog 38 #[.pointer (some ⟨px, 0, none⟩), .pointer (some ⟨ph, 0, none⟩)] w fun e w' => e = .returned (.bool c) ∧ Below w.heap.size w w' := by
  subst hc
  by_cases e0 : wrongB q a x h = true
  · skip
    have E : Below w.heap.size w w := Below.refl _ _
    go_enter Try.func38, Try.ntmps38
    refine wq fun Q hQ => ?_
    refine sg (.bool false) 2 rfl rfl rfl rfl ?_
    simp only [zp]
    refine st_end ?_
    subst hQ
    refine wq fun Q hQ => ?_
    refine sv (.agg (XL q a x h)) 3 rfl rfl (ex_load (p := (.pointer (some ⟨px, 0, none⟩))) rfl rfl (ld_all kx Try.underlying50 rfl inf50)) ?_
    simp only [zp]
    refine st_call (some 4) rfl rfl (wrong_any w hb e0) (ex_call (f := 27) (vs := [(.agg (XL q a x h))]) rfl (cf27 _) rfl) ?_
    rintro e W1 ⟨rfl, B⟩
    refine ⟨_, rfl, ?_⟩
    simp only [zp]
    replace E := below_next E B
    replace kx := keep B kx
    replace kh := keep B kh
    refine sm (.bool true) 5 rfl rfl rfl rfl ?_
    simp only [zp]
    refine sn 6 rfl rfl ?_
    simp only [zp]
    refine sn 7 rfl rfl ?_
    simp only [zp]
    refine sn 8 rfl rfl ?_
    simp only [zp]
    refine sv (.bool true) 9 rfl rfl (ex_pkT rfl rfl rfl) ?_
    simp only [zp]
    refine sg (.bool true) 2 rfl rfl rfl rfl ?_
    simp only [zp]
    refine st_end ?_
    subst hQ
    refine wp_ret ?_
    repeat (first | refine ret_out ?_ | refine ret_blk ?_)
    refine bodyPost_ret (results_tmp Try.results38 _ _ _) rfl ⟨?_, E⟩
    show Ending.returned (.bool true) = _
    simp [e0]
  · skip
    replace e0 := Bool.eq_false_iff.2 e0
    by_cases e1 : v.ch = 0
    · skip
      have E : Below w.heap.size w w := Below.refl _ _
      go_enter Try.func38, Try.ntmps38
      refine wq fun Q hQ => ?_
      refine sg (.bool false) 2 rfl rfl rfl rfl ?_
      simp only [zp]
      refine st_end ?_
      subst hQ
      refine wq fun Q hQ => ?_
      refine sv (.agg (XL q a x h)) 3 rfl rfl (ex_load (p := (.pointer (some ⟨px, 0, none⟩))) rfl rfl (ld_all kx Try.underlying50 rfl inf50)) ?_
      simp only [zp]
      refine st_call (some 4) rfl rfl (wrong_any w hb e0) (ex_call (f := 27) (vs := [(.agg (XL q a x h))]) rfl (cf27 _) rfl) ?_
      rintro e W1 ⟨rfl, B⟩
      refine ⟨_, rfl, ?_⟩
      simp only [zp]
      replace E := below_next E B
      replace kx := keep B kx
      replace kh := keep B kh
      refine sm (.bool false) 5 rfl rfl rfl rfl ?_
      simp only [zp]
      refine sv (.pointer (some ⟨ph, 0, none⟩)) 6 rfl rfl (ex_fa (p := (.pointer (some ⟨ph, 0, none⟩))) rfl rfl (fa28_0 _ _)) ?_
      simp only [zp]
      refine sv (.int .i64 v.ch) 7 rfl rfl (ex_load (p := (.pointer (some ⟨ph, 0, none⟩))) rfl rfl (ld3 (at_cell kh hH.c0))) ?_
      simp only [zp]
      refine sv (.bool false) 8 rfl rfl (ex_bin (u := (.int .i64 v.ch)) (r := (.int .i64 0)) rfl rfl rfl (eg3 _ _ _ _ _ _) (neq3 _ (decide_eq_false (fun h => h e1)))) ?_
      simp only [zp]
      refine sv (.bool false) 9 rfl rfl (ex_pkF rfl rfl rfl) ?_
      simp only [zp]
      refine sg (.bool false) 2 rfl rfl rfl rfl ?_
      simp only [zp]
      refine st_end ?_
      subst hQ
      refine wp_ret ?_
      repeat (first | refine ret_out ?_ | refine ret_blk ?_)
      refine bodyPost_ret (results_tmp Try.results38 _ _ _) rfl ⟨?_, E⟩
      show Ending.returned (.bool false) = _
      simp [e0, e1]
    · skip
      have E : Below w.heap.size w w := Below.refl _ _
      go_enter Try.func38, Try.ntmps38
      refine wq fun Q hQ => ?_
      refine sg (.bool false) 2 rfl rfl rfl rfl ?_
      simp only [zp]
      refine st_end ?_
      subst hQ
      refine wq fun Q hQ => ?_
      refine sv (.agg (XL q a x h)) 3 rfl rfl (ex_load (p := (.pointer (some ⟨px, 0, none⟩))) rfl rfl (ld_all kx Try.underlying50 rfl inf50)) ?_
      simp only [zp]
      refine st_call (some 4) rfl rfl (wrong_any w hb e0) (ex_call (f := 27) (vs := [(.agg (XL q a x h))]) rfl (cf27 _) rfl) ?_
      rintro e W1 ⟨rfl, B⟩
      refine ⟨_, rfl, ?_⟩
      simp only [zp]
      replace E := below_next E B
      replace kx := keep B kx
      replace kh := keep B kh
      refine sm (.bool false) 5 rfl rfl rfl rfl ?_
      simp only [zp]
      refine sv (.pointer (some ⟨ph, 0, none⟩)) 6 rfl rfl (ex_fa (p := (.pointer (some ⟨ph, 0, none⟩))) rfl rfl (fa28_0 _ _)) ?_
      simp only [zp]
      refine sv (.int .i64 v.ch) 7 rfl rfl (ex_load (p := (.pointer (some ⟨ph, 0, none⟩))) rfl rfl (ld3 (at_cell kh hH.c0))) ?_
      simp only [zp]
      refine sv (.bool true) 8 rfl rfl (ex_bin (u := (.int .i64 v.ch)) (r := (.int .i64 0)) rfl rfl rfl (eg3 _ _ _ _ _ _) (neq3 _ (decide_eq_true e1))) ?_
      simp only [zp]
      refine sv (.bool true) 9 rfl rfl (ex_pkF rfl rfl rfl) ?_
      simp only [zp]
      refine sg (.bool true) 2 rfl rfl rfl rfl ?_
      simp only [zp]
      refine st_end ?_
      subst hQ
      refine wp_ret ?_
      repeat (first | refine ret_out ?_ | refine ret_blk ?_)
      refine bodyPost_ret (results_tmp Try.results38 _ _ _) rfl ⟨?_, E⟩
      show Ending.returned (.bool true) = _
      simp [e0, e1]
set_option maxHeartbeats 2000000 in
theorem fi2 {q : RV} {H : Array Value} {v : HP} {a x h : Int} {px pe : Nat} (w : World) (kx : w.heap[px]? = some (.cells (XL q a x h) 50)) (ke : w.heap[pe]? = some (.cells #[.int .i64 x] 3)) (hH : IsHop H v) (x0 : 0 ≤ x) (x1 : x ≤ 2147483647) (h0 : 0 ≤ h) (h1 : h ≤ 2147483647) (hm : mayR q = true) {c : Bool} (hc : decide (x ≤ h + q.g) = c) :
    Calls Try.prog 39 #[.pointer (some ⟨px, 0, none⟩), .pointer (some ⟨pe, 0, none⟩)] w fun e w' => e = .returned (.bool c) ∧ Below w.heap.size w w' := by
  have E : Below w.heap.size w w := Below.refl _ _
  go_enter Try.func39, Try.ntmps39
  refine wq fun Q hQ => ?_
  refine sg (.bool false) 2 rfl rfl rfl rfl ?_
  simp only [zp]
  refine st_end ?_
  subst hQ
  refine wq fun Q hQ => ?_
  refine sv (.agg (XL q a x h)) 3 rfl rfl (ex_load (p := (.pointer (some ⟨px, 0, none⟩))) rfl rfl (ld_all kx Try.underlying50 rfl inf50)) ?_
  simp only [zp]
  refine sv (.int .i64 x) 4 rfl rfl (ex_load (p := (.pointer (some ⟨pe, 0, none⟩))) rfl rfl (ld3 (at_cell ke rfl))) ?_
  simp only [zp]
  refine st_call (some 5) rfl rfl (soon_any w h0 h1 (mayR_of hm).2.2.2.1 (mayR_of hm).2.2.2.2.1 hc) (ex_call (f := 30) (vs := [(.agg (XL q a x h)), (.int .i64 x)]) rfl (cf30 _) rfl) ?_
  rintro e W1 ⟨rfl, B⟩
  refine ⟨_, rfl, ?_⟩
  simp only [zp]
  replace E := below_next E B
  replace kx := keep B kx
  replace ke := keep B ke
  refine sg (.bool c) 2 rfl rfl rfl rfl ?_
  simp only [zp]
  refine st_end ?_
  subst hQ
  refine wp_ret ?_
  refine bodyPost_ret (results_tmp Try.results39 _ _ _) rfl ⟨rfl, E⟩
set_option maxHeartbeats 2000000 in
theorem fi3 {q : RV} {H : Array Value} {v : HP} {a x h : Int} {pe ph : Nat} (w : World) (ke : w.heap[pe]? = some (.cells #[.int .i64 x] 3)) (kh : w.heap[ph]? = some (.cells H 28)) (hH : IsHop H v)  {c : Bool} (hc : decide (x < v.ex) = c) :
    Calls Try.prog 40 #[.pointer (some ⟨pe, 0, none⟩), .pointer (some ⟨ph, 0, none⟩)] w fun e w' => e = .returned (.bool c) ∧ Below w.heap.size w w' := by
  have E : Below w.heap.size w w := Below.refl _ _
  go_enter Try.func40, Try.ntmps40
  refine wq fun Q hQ => ?_
  refine sg (.bool false) 2 rfl rfl rfl rfl ?_
  simp only [zp]
  refine st_end ?_
  subst hQ
  refine wq fun Q hQ => ?_
  refine sv (.int .i64 x) 3 rfl rfl (ex_load (p := (.pointer (some ⟨pe, 0, none⟩))) rfl rfl (ld3 (at_cell ke rfl))) ?_
  simp only [zp]
  refine sv (.pointer (some ⟨ph, 2, none⟩)) 4 rfl rfl (ex_fa (p := (.pointer (some ⟨ph, 0, none⟩))) rfl rfl (fa28_2 _ _)) ?_
  simp only [zp]
  refine sv (.int .i64 v.ex) 5 rfl rfl (ex_load (p := (.pointer (some ⟨ph, 2, none⟩))) rfl rfl (ld3 (at_cell kh hH.c2))) ?_
  simp only [zp]
  refine sv (.bool c) 6 rfl rfl (ex_bin (u := (.int .i64 x)) (r := (.int .i64 v.ex)) rfl rfl rfl (eg3 _ _ _ _ _ _) (lss3 _ hc)) ?_
  simp only [zp]
  refine sg (.bool c) 2 rfl rfl rfl rfl ?_
  simp only [zp]
  refine st_end ?_
  subst hQ
  refine wp_ret ?_
  refine bodyPost_ret (results_tmp Try.results40 _ _ _) rfl ⟨rfl, E⟩
set_option maxHeartbeats 2000000 in
theorem fi4 {q : RV} {H : Array Value} {v : HP} {a x h : Int} {pa ph : Nat} (w : World) (ka : w.heap[pa]? = some (.cells #[.int .i64 a] 3)) (kh : w.heap[ph]? = some (.cells H 28)) (hH : IsHop H v)  {c : Bool} (hc : (decide (a < v.am) || decide (v.am < 1) || decide (v.tot < v.am)) = c) :
    Calls Try.prog 41 #[.pointer (some ⟨pa, 0, none⟩), .pointer (some ⟨ph, 0, none⟩)] w fun e w' => e = .returned (.bool c) ∧ Below w.heap.size w w' := by
  subst hc
  by_cases e0 : a < v.am
  · skip
    have E : Below w.heap.size w w := Below.refl _ _
    go_enter Try.func41, Try.ntmps41
    refine wq fun Q hQ => ?_
    refine sg (.bool false) 2 rfl rfl rfl rfl ?_
    simp only [zp]
    refine st_end ?_
    subst hQ
    refine wq fun Q hQ => ?_
    refine sv (.int .i64 a) 3 rfl rfl (ex_load (p := (.pointer (some ⟨pa, 0, none⟩))) rfl rfl (ld3 (at_cell ka rfl))) ?_
    simp only [zp]
    refine sv (.pointer (some ⟨ph, 1, none⟩)) 4 rfl rfl (ex_fa (p := (.pointer (some ⟨ph, 0, none⟩))) rfl rfl (fa28_1 _ _)) ?_
    simp only [zp]
    refine sv (.int .i64 v.am) 5 rfl rfl (ex_load (p := (.pointer (some ⟨ph, 1, none⟩))) rfl rfl (ld3 (at_cell kh hH.c1))) ?_
    simp only [zp]
    refine sv (.bool true) 6 rfl rfl (ex_bin (u := (.int .i64 a)) (r := (.int .i64 v.am)) rfl rfl rfl (eg3 _ _ _ _ _ _) (lss3 _ (decide_eq_true (by omega)))) ?_
    simp only [zp]
    refine sm (.bool true) 7 rfl rfl rfl rfl ?_
    simp only [zp]
    refine sn 8 rfl rfl ?_
    simp only [zp]
    refine sn 9 rfl rfl ?_
    simp only [zp]
    refine sn 10 rfl rfl ?_
    simp only [zp]
    refine sv (.bool true) 11 rfl rfl (ex_pkT rfl rfl rfl) ?_
    simp only [zp]
    refine sm (.bool true) 12 rfl rfl rfl rfl ?_
    simp only [zp]
    refine sn 13 rfl rfl ?_
    simp only [zp]
    refine sn 14 rfl rfl ?_
    simp only [zp]
    refine sn 15 rfl rfl ?_
    simp only [zp]
    refine sn 16 rfl rfl ?_
    simp only [zp]
    refine sn 17 rfl rfl ?_
    simp only [zp]
    refine sv (.bool true) 18 rfl rfl (ex_pkT rfl rfl rfl) ?_
    simp only [zp]
    refine sg (.bool true) 2 rfl rfl rfl rfl ?_
    simp only [zp]
    refine st_end ?_
    subst hQ
    refine wp_ret ?_
    repeat (first | refine ret_out ?_ | refine ret_blk ?_)
    refine bodyPost_ret (results_tmp Try.results41 _ _ _) rfl ⟨?_, E⟩
    show Ending.returned (.bool true) = _
    simp [e0]
  · skip
    by_cases e1 : v.am < 1
    · skip
      have E : Below w.heap.size w w := Below.refl _ _
      go_enter Try.func41, Try.ntmps41
      refine wq fun Q hQ => ?_
      refine sg (.bool false) 2 rfl rfl rfl rfl ?_
      simp only [zp]
      refine st_end ?_
      subst hQ
      refine wq fun Q hQ => ?_
      refine sv (.int .i64 a) 3 rfl rfl (ex_load (p := (.pointer (some ⟨pa, 0, none⟩))) rfl rfl (ld3 (at_cell ka rfl))) ?_
      simp only [zp]
      refine sv (.pointer (some ⟨ph, 1, none⟩)) 4 rfl rfl (ex_fa (p := (.pointer (some ⟨ph, 0, none⟩))) rfl rfl (fa28_1 _ _)) ?_
      simp only [zp]
      refine sv (.int .i64 v.am) 5 rfl rfl (ex_load (p := (.pointer (some ⟨ph, 1, none⟩))) rfl rfl (ld3 (at_cell kh hH.c1))) ?_
      simp only [zp]
      refine sv (.bool false) 6 rfl rfl (ex_bin (u := (.int .i64 a)) (r := (.int .i64 v.am)) rfl rfl rfl (eg3 _ _ _ _ _ _) (lss3 _ (decide_eq_false (by omega)))) ?_
      simp only [zp]
      refine sm (.bool false) 7 rfl rfl rfl rfl ?_
      simp only [zp]
      refine sv (.pointer (some ⟨ph, 1, none⟩)) 8 rfl rfl (ex_fa (p := (.pointer (some ⟨ph, 0, none⟩))) rfl rfl (fa28_1 _ _)) ?_
      simp only [zp]
      refine sv (.int .i64 v.am) 9 rfl rfl (ex_load (p := (.pointer (some ⟨ph, 1, none⟩))) rfl rfl (ld3 (at_cell kh hH.c1))) ?_
      simp only [zp]
      refine sv (.bool true) 10 rfl rfl (ex_bin (u := (.int .i64 v.am)) (r := (.int .i64 1)) rfl rfl rfl (eg3 _ _ _ _ _ _) (lss3 _ (decide_eq_true (by omega)))) ?_
      simp only [zp]
      refine sv (.bool true) 11 rfl rfl (ex_pkF rfl rfl rfl) ?_
      simp only [zp]
      refine sm (.bool true) 12 rfl rfl rfl rfl ?_
      simp only [zp]
      refine sn 13 rfl rfl ?_
      simp only [zp]
      refine sn 14 rfl rfl ?_
      simp only [zp]
      refine sn 15 rfl rfl ?_
      simp only [zp]
      refine sn 16 rfl rfl ?_
      simp only [zp]
      refine sn 17 rfl rfl ?_
      simp only [zp]
      refine sv (.bool true) 18 rfl rfl (ex_pkT rfl rfl rfl) ?_
      simp only [zp]
      refine sg (.bool true) 2 rfl rfl rfl rfl ?_
      simp only [zp]
      refine st_end ?_
      subst hQ
      refine wp_ret ?_
      repeat (first | refine ret_out ?_ | refine ret_blk ?_)
      refine bodyPost_ret (results_tmp Try.results41 _ _ _) rfl ⟨?_, E⟩
      show Ending.returned (.bool true) = _
      simp [e0, e1]
    · skip
      by_cases e2 : v.tot < v.am
      · skip
        have E : Below w.heap.size w w := Below.refl _ _
        go_enter Try.func41, Try.ntmps41
        refine wq fun Q hQ => ?_
        refine sg (.bool false) 2 rfl rfl rfl rfl ?_
        simp only [zp]
        refine st_end ?_
        subst hQ
        refine wq fun Q hQ => ?_
        refine sv (.int .i64 a) 3 rfl rfl (ex_load (p := (.pointer (some ⟨pa, 0, none⟩))) rfl rfl (ld3 (at_cell ka rfl))) ?_
        simp only [zp]
        refine sv (.pointer (some ⟨ph, 1, none⟩)) 4 rfl rfl (ex_fa (p := (.pointer (some ⟨ph, 0, none⟩))) rfl rfl (fa28_1 _ _)) ?_
        simp only [zp]
        refine sv (.int .i64 v.am) 5 rfl rfl (ex_load (p := (.pointer (some ⟨ph, 1, none⟩))) rfl rfl (ld3 (at_cell kh hH.c1))) ?_
        simp only [zp]
        refine sv (.bool false) 6 rfl rfl (ex_bin (u := (.int .i64 a)) (r := (.int .i64 v.am)) rfl rfl rfl (eg3 _ _ _ _ _ _) (lss3 _ (decide_eq_false (by omega)))) ?_
        simp only [zp]
        refine sm (.bool false) 7 rfl rfl rfl rfl ?_
        simp only [zp]
        refine sv (.pointer (some ⟨ph, 1, none⟩)) 8 rfl rfl (ex_fa (p := (.pointer (some ⟨ph, 0, none⟩))) rfl rfl (fa28_1 _ _)) ?_
        simp only [zp]
        refine sv (.int .i64 v.am) 9 rfl rfl (ex_load (p := (.pointer (some ⟨ph, 1, none⟩))) rfl rfl (ld3 (at_cell kh hH.c1))) ?_
        simp only [zp]
        refine sv (.bool false) 10 rfl rfl (ex_bin (u := (.int .i64 v.am)) (r := (.int .i64 1)) rfl rfl rfl (eg3 _ _ _ _ _ _) (lss3 _ (decide_eq_false (by omega)))) ?_
        simp only [zp]
        refine sv (.bool false) 11 rfl rfl (ex_pkF rfl rfl rfl) ?_
        simp only [zp]
        refine sm (.bool false) 12 rfl rfl rfl rfl ?_
        simp only [zp]
        refine sv (.pointer (some ⟨ph, 35, none⟩)) 13 rfl rfl (ex_fa (p := (.pointer (some ⟨ph, 0, none⟩))) rfl rfl (fa28_4 _ _)) ?_
        simp only [zp]
        refine sv (.int .i64 v.tot) 14 rfl rfl (ex_load (p := (.pointer (some ⟨ph, 35, none⟩))) rfl rfl (ld3 (at_cell kh hH.c35))) ?_
        simp only [zp]
        refine sv (.pointer (some ⟨ph, 1, none⟩)) 15 rfl rfl (ex_fa (p := (.pointer (some ⟨ph, 0, none⟩))) rfl rfl (fa28_1 _ _)) ?_
        simp only [zp]
        refine sv (.int .i64 v.am) 16 rfl rfl (ex_load (p := (.pointer (some ⟨ph, 1, none⟩))) rfl rfl (ld3 (at_cell kh hH.c1))) ?_
        simp only [zp]
        refine sv (.bool true) 17 rfl rfl (ex_bin (u := (.int .i64 v.tot)) (r := (.int .i64 v.am)) rfl rfl rfl (eg3 _ _ _ _ _ _) (lss3 _ (decide_eq_true (by omega)))) ?_
        simp only [zp]
        refine sv (.bool true) 18 rfl rfl (ex_pkF rfl rfl rfl) ?_
        simp only [zp]
        refine sg (.bool true) 2 rfl rfl rfl rfl ?_
        simp only [zp]
        refine st_end ?_
        subst hQ
        refine wp_ret ?_
        repeat (first | refine ret_out ?_ | refine ret_blk ?_)
        refine bodyPost_ret (results_tmp Try.results41 _ _ _) rfl ⟨?_, E⟩
        show Ending.returned (.bool true) = _
        simp [e0, e1, e2]
      · skip
        have E : Below w.heap.size w w := Below.refl _ _
        go_enter Try.func41, Try.ntmps41
        refine wq fun Q hQ => ?_
        refine sg (.bool false) 2 rfl rfl rfl rfl ?_
        simp only [zp]
        refine st_end ?_
        subst hQ
        refine wq fun Q hQ => ?_
        refine sv (.int .i64 a) 3 rfl rfl (ex_load (p := (.pointer (some ⟨pa, 0, none⟩))) rfl rfl (ld3 (at_cell ka rfl))) ?_
        simp only [zp]
        refine sv (.pointer (some ⟨ph, 1, none⟩)) 4 rfl rfl (ex_fa (p := (.pointer (some ⟨ph, 0, none⟩))) rfl rfl (fa28_1 _ _)) ?_
        simp only [zp]
        refine sv (.int .i64 v.am) 5 rfl rfl (ex_load (p := (.pointer (some ⟨ph, 1, none⟩))) rfl rfl (ld3 (at_cell kh hH.c1))) ?_
        simp only [zp]
        refine sv (.bool false) 6 rfl rfl (ex_bin (u := (.int .i64 a)) (r := (.int .i64 v.am)) rfl rfl rfl (eg3 _ _ _ _ _ _) (lss3 _ (decide_eq_false (by omega)))) ?_
        simp only [zp]
        refine sm (.bool false) 7 rfl rfl rfl rfl ?_
        simp only [zp]
        refine sv (.pointer (some ⟨ph, 1, none⟩)) 8 rfl rfl (ex_fa (p := (.pointer (some ⟨ph, 0, none⟩))) rfl rfl (fa28_1 _ _)) ?_
        simp only [zp]
        refine sv (.int .i64 v.am) 9 rfl rfl (ex_load (p := (.pointer (some ⟨ph, 1, none⟩))) rfl rfl (ld3 (at_cell kh hH.c1))) ?_
        simp only [zp]
        refine sv (.bool false) 10 rfl rfl (ex_bin (u := (.int .i64 v.am)) (r := (.int .i64 1)) rfl rfl rfl (eg3 _ _ _ _ _ _) (lss3 _ (decide_eq_false (by omega)))) ?_
        simp only [zp]
        refine sv (.bool false) 11 rfl rfl (ex_pkF rfl rfl rfl) ?_
        simp only [zp]
        refine sm (.bool false) 12 rfl rfl rfl rfl ?_
        simp only [zp]
        refine sv (.pointer (some ⟨ph, 35, none⟩)) 13 rfl rfl (ex_fa (p := (.pointer (some ⟨ph, 0, none⟩))) rfl rfl (fa28_4 _ _)) ?_
        simp only [zp]
        refine sv (.int .i64 v.tot) 14 rfl rfl (ex_load (p := (.pointer (some ⟨ph, 35, none⟩))) rfl rfl (ld3 (at_cell kh hH.c35))) ?_
        simp only [zp]
        refine sv (.pointer (some ⟨ph, 1, none⟩)) 15 rfl rfl (ex_fa (p := (.pointer (some ⟨ph, 0, none⟩))) rfl rfl (fa28_1 _ _)) ?_
        simp only [zp]
        refine sv (.int .i64 v.am) 16 rfl rfl (ex_load (p := (.pointer (some ⟨ph, 1, none⟩))) rfl rfl (ld3 (at_cell kh hH.c1))) ?_
        simp only [zp]
        refine sv (.bool false) 17 rfl rfl (ex_bin (u := (.int .i64 v.tot)) (r := (.int .i64 v.am)) rfl rfl rfl (eg3 _ _ _ _ _ _) (lss3 _ (decide_eq_false (by omega)))) ?_
        simp only [zp]
        refine sv (.bool false) 18 rfl rfl (ex_pkF rfl rfl rfl) ?_
        simp only [zp]
        refine sg (.bool false) 2 rfl rfl rfl rfl ?_
        simp only [zp]
        refine st_end ?_
        subst hQ
        refine wp_ret ?_
        repeat (first | refine ret_out ?_ | refine ret_blk ?_)
        refine bodyPost_ret (results_tmp Try.results41 _ _ _) rfl ⟨?_, E⟩
        show Ending.returned (.bool false) = _
        simp [e0, e1, e2]
end Go.Proofs.Ytfbaidmnnkcaeaa
