/- Whether a view may be. -/
import Derived.Test.YtkhpbjafdamhaaaDRow
namespace Go.Proofs.Ytkhpbjafdamhaaa
open Go.RowKit
set_option linter.unusedVariables false
set_option linter.unusedSimpArgs false
set_option maxRecDepth 100000

theorem range_kept {w W : World} {b o : Nat} {C : List Value} (h : Kept Nil w W) (hr : w.rangeAt b o C) : W.rangeAt b o C := fun j v hv => by
  have := hr j v hv
  rw [World.cell?_of_block (h.block _ (block_lt_of_cell this) (nilN _))]; exact this
/-- an Htlc that may not be -/
def wrongB (t : TV) (h : HV) : Bool := decide (¬ (h.by_ = t.a ∨ h.by_ = t.b) ∨ h.id < 0 ∨ h.ex < 0 ∨ 2147483647 < h.ex ∨ h.hl = ZL)
set_option maxHeartbeats 2000000 in
theorem wrong_any {C H : Array Value} {t : TV} {x : HV} {tb : Nat} (w : World) (hT : IsT C t) (hH : IsH H x) (kt : w.heap[tb]? = some (.cells C 26)) {c : Bool} (hc : wrongB t x = c) :
    Calls Try.prog 53 (#[.agg H] ++ #[.pointer (some ⟨tb, 0, none⟩)]) w fun e w' => e = .returned (.bool c) ∧ Below w.heap.size w w' := by
  show Calls Try.prog 53 #[.agg H, .pointer (some ⟨tb, 0, none⟩)] w _
  subst hc
  unfold wrongB
  by_cases c1 : x.by_ = t.a ∨ x.by_ = t.b
  rotate_left
  · skip
    have E : Below w.heap.size w w := Below.refl _ _
    go_enter Try.func53, Try.ntmps53; refine wq fun Q hQ => ?_; refine st_new (fun b => .pointer (some ⟨b, 0, none⟩)) (some 2) rfl rfl (ex_box rfl rfl) ?_; intro b1 W1 k1 g1 B; simp only [zp]
    have ne_b1_tb : b1 ≠ tb := fun e => by have := lt_of kt; omega
    have ge_b1 := Nat.le_trans E.size g1; replace E := below_next E B; replace kt := keep B kt; clear B; refine sg (.bool false) 3 rfl rfl rfl rfl ?_; simp only [zp]; refine st_end ?_; subst hQ; refine wq fun Q hQ => ?_; refine sv (.agg C) 4 rfl rfl (ex_load (p := (.pointer (some ⟨tb, 0, none⟩))) rfl rfl (ld_all kt Try.underlying26 rfl (inf26.trans (congrArg some (hT.size).symm)))) ?_; simp only [zp]; refine sv (.pointer (some ⟨b1, 0, none⟩)) 5 rfl rfl (ex_fa (p := (.pointer (some ⟨b1, 0, none⟩))) rfl rfl (fa49_0 _ _)) ?_; simp only [zp]
    refine sv (.int .i64 x.by_) 6 rfl rfl (ex_load (p := (.pointer (some ⟨b1, 0, none⟩))) rfl rfl (ld3 (at_cell k1 hH.c0))) ?_; simp only [zp]; refine st_call (some 7) rfl rfl (isOf_any x.by_ W1 hT (decide_eq_false c1)) (ex_call (f := 27) (vs := [(.agg C), (.int .i64 x.by_)]) rfl (cf27 _) rfl) ?_; rintro e W2 ⟨rfl, B⟩; refine ⟨_, rfl, ?_⟩; simp only [zp]; replace E := below_next E B; replace kt := keep B kt; replace k1 := keep B k1; refine sv (.bool true) 8 rfl rfl (ex_not rfl rfl rfl) ?_; simp only [zp]; refine sm (.bool true) 9 rfl rfl rfl rfl ?_; simp only [zp]
    refine sn 10 rfl rfl ?_; simp only [zp]; refine sn 11 rfl rfl ?_; simp only [zp]; refine sn 12 rfl rfl ?_; simp only [zp]; refine sv (.bool true) 13 rfl rfl (ex_pkT rfl rfl rfl) ?_; simp only [zp]; refine sm (.bool true) 14 rfl rfl rfl rfl ?_; simp only [zp]; refine sn 15 rfl rfl ?_; simp only [zp]; refine sn 16 rfl rfl ?_; simp only [zp]; refine sn 17 rfl rfl ?_; simp only [zp]; refine sv (.bool true) 18 rfl rfl (ex_pkT rfl rfl rfl) ?_; simp only [zp]; refine sm (.bool true) 19 rfl rfl rfl rfl ?_; simp only [zp]; refine sn 20 rfl rfl ?_; simp only [zp]
    refine sn 21 rfl rfl ?_; simp only [zp]; refine sn 22 rfl rfl ?_; simp only [zp]; refine sv (.bool true) 23 rfl rfl (ex_pkT rfl rfl rfl) ?_; simp only [zp]; refine sm (.bool true) 24 rfl rfl rfl rfl ?_; simp only [zp]; refine sn 25 rfl rfl ?_; simp only [zp]; refine sn 26 rfl rfl ?_; simp only [zp]; refine sn 27 rfl rfl ?_; simp only [zp]; refine sn 28 rfl rfl ?_; simp only [zp]; refine sv (.bool true) 29 rfl rfl (ex_pkT rfl rfl rfl) ?_; simp only [zp]; refine sg (.bool true) 3 rfl rfl rfl rfl ?_; simp only [zp]; refine st_end ?_; subst hQ; refine wp_ret ?_
    refine bodyPost_ret (results_tmp Try.results53 _ _ _) rfl ⟨?_, E⟩
    show Ending.returned (.bool true) = _
    rw [decide_eq_true (.inl c1)]
  by_cases c2 : x.id < 0
  · skip
    have E : Below w.heap.size w w := Below.refl _ _
    go_enter Try.func53, Try.ntmps53; refine wq fun Q hQ => ?_; refine st_new (fun b => .pointer (some ⟨b, 0, none⟩)) (some 2) rfl rfl (ex_box rfl rfl) ?_; intro b1 W1 k1 g1 B; simp only [zp]
    have ne_b1_tb : b1 ≠ tb := fun e => by have := lt_of kt; omega
    have ge_b1 := Nat.le_trans E.size g1; replace E := below_next E B; replace kt := keep B kt; clear B; refine sg (.bool false) 3 rfl rfl rfl rfl ?_; simp only [zp]; refine st_end ?_; subst hQ; refine wq fun Q hQ => ?_; refine sv (.agg C) 4 rfl rfl (ex_load (p := (.pointer (some ⟨tb, 0, none⟩))) rfl rfl (ld_all kt Try.underlying26 rfl (inf26.trans (congrArg some (hT.size).symm)))) ?_; simp only [zp]; refine sv (.pointer (some ⟨b1, 0, none⟩)) 5 rfl rfl (ex_fa (p := (.pointer (some ⟨b1, 0, none⟩))) rfl rfl (fa49_0 _ _)) ?_; simp only [zp]
    refine sv (.int .i64 x.by_) 6 rfl rfl (ex_load (p := (.pointer (some ⟨b1, 0, none⟩))) rfl rfl (ld3 (at_cell k1 hH.c0))) ?_; simp only [zp]; refine st_call (some 7) rfl rfl (isOf_any x.by_ W1 hT (decide_eq_true c1)) (ex_call (f := 27) (vs := [(.agg C), (.int .i64 x.by_)]) rfl (cf27 _) rfl) ?_; rintro e W2 ⟨rfl, B⟩; refine ⟨_, rfl, ?_⟩; simp only [zp]; replace E := below_next E B; replace kt := keep B kt; replace k1 := keep B k1; refine sv (.bool false) 8 rfl rfl (ex_not rfl rfl rfl) ?_; simp only [zp]; refine sm (.bool false) 9 rfl rfl rfl rfl ?_; simp only [zp]
    refine sv (.pointer (some ⟨b1, 1, none⟩)) 10 rfl rfl (ex_fa (p := (.pointer (some ⟨b1, 0, none⟩))) rfl rfl (fa49_1 _ _)) ?_; simp only [zp]; refine sv (.int .i64 x.id) 11 rfl rfl (ex_load (p := (.pointer (some ⟨b1, 1, none⟩))) rfl rfl (ld3 (at_cell k1 hH.c1))) ?_; simp only [zp]; refine sv (.bool true) 12 rfl rfl (ex_bin (u := (.int .i64 x.id)) (r := (.int .i64 0)) rfl rfl rfl (eg3 _ _ _ _ _ _) (lss3 _ (decide_eq_true c2))) ?_; simp only [zp]; refine sv (.bool true) 13 rfl rfl (ex_pkF rfl rfl rfl) ?_; simp only [zp]; refine sm (.bool true) 14 rfl rfl rfl rfl ?_; simp only [zp]
    refine sn 15 rfl rfl ?_; simp only [zp]; refine sn 16 rfl rfl ?_; simp only [zp]; refine sn 17 rfl rfl ?_; simp only [zp]; refine sv (.bool true) 18 rfl rfl (ex_pkT rfl rfl rfl) ?_; simp only [zp]; refine sm (.bool true) 19 rfl rfl rfl rfl ?_; simp only [zp]; refine sn 20 rfl rfl ?_; simp only [zp]; refine sn 21 rfl rfl ?_; simp only [zp]; refine sn 22 rfl rfl ?_; simp only [zp]; refine sv (.bool true) 23 rfl rfl (ex_pkT rfl rfl rfl) ?_; simp only [zp]; refine sm (.bool true) 24 rfl rfl rfl rfl ?_; simp only [zp]; refine sn 25 rfl rfl ?_; simp only [zp]
    refine sn 26 rfl rfl ?_; simp only [zp]; refine sn 27 rfl rfl ?_; simp only [zp]; refine sn 28 rfl rfl ?_; simp only [zp]; refine sv (.bool true) 29 rfl rfl (ex_pkT rfl rfl rfl) ?_; simp only [zp]; refine sg (.bool true) 3 rfl rfl rfl rfl ?_; simp only [zp]; refine st_end ?_; subst hQ; refine wp_ret ?_; refine bodyPost_ret (results_tmp Try.results53 _ _ _) rfl ⟨?_, E⟩
    show Ending.returned (.bool true) = _
    rw [decide_eq_true (.inr (.inl c2))]
  by_cases c3 : x.ex < 0
  · skip
    have E : Below w.heap.size w w := Below.refl _ _
    go_enter Try.func53, Try.ntmps53; refine wq fun Q hQ => ?_; refine st_new (fun b => .pointer (some ⟨b, 0, none⟩)) (some 2) rfl rfl (ex_box rfl rfl) ?_; intro b1 W1 k1 g1 B; simp only [zp]
    have ne_b1_tb : b1 ≠ tb := fun e => by have := lt_of kt; omega
    have ge_b1 := Nat.le_trans E.size g1; replace E := below_next E B; replace kt := keep B kt; clear B; refine sg (.bool false) 3 rfl rfl rfl rfl ?_; simp only [zp]; refine st_end ?_; subst hQ; refine wq fun Q hQ => ?_; refine sv (.agg C) 4 rfl rfl (ex_load (p := (.pointer (some ⟨tb, 0, none⟩))) rfl rfl (ld_all kt Try.underlying26 rfl (inf26.trans (congrArg some (hT.size).symm)))) ?_; simp only [zp]; refine sv (.pointer (some ⟨b1, 0, none⟩)) 5 rfl rfl (ex_fa (p := (.pointer (some ⟨b1, 0, none⟩))) rfl rfl (fa49_0 _ _)) ?_; simp only [zp]
    refine sv (.int .i64 x.by_) 6 rfl rfl (ex_load (p := (.pointer (some ⟨b1, 0, none⟩))) rfl rfl (ld3 (at_cell k1 hH.c0))) ?_; simp only [zp]; refine st_call (some 7) rfl rfl (isOf_any x.by_ W1 hT (decide_eq_true c1)) (ex_call (f := 27) (vs := [(.agg C), (.int .i64 x.by_)]) rfl (cf27 _) rfl) ?_; rintro e W2 ⟨rfl, B⟩; refine ⟨_, rfl, ?_⟩; simp only [zp]; replace E := below_next E B; replace kt := keep B kt; replace k1 := keep B k1; refine sv (.bool false) 8 rfl rfl (ex_not rfl rfl rfl) ?_; simp only [zp]; refine sm (.bool false) 9 rfl rfl rfl rfl ?_; simp only [zp]
    refine sv (.pointer (some ⟨b1, 1, none⟩)) 10 rfl rfl (ex_fa (p := (.pointer (some ⟨b1, 0, none⟩))) rfl rfl (fa49_1 _ _)) ?_; simp only [zp]; refine sv (.int .i64 x.id) 11 rfl rfl (ex_load (p := (.pointer (some ⟨b1, 1, none⟩))) rfl rfl (ld3 (at_cell k1 hH.c1))) ?_; simp only [zp]; refine sv (.bool false) 12 rfl rfl (ex_bin (u := (.int .i64 x.id)) (r := (.int .i64 0)) rfl rfl rfl (eg3 _ _ _ _ _ _) (lss3 _ (decide_eq_false c2))) ?_; simp only [zp]; refine sv (.bool false) 13 rfl rfl (ex_pkF rfl rfl rfl) ?_; simp only [zp]; refine sm (.bool false) 14 rfl rfl rfl rfl ?_; simp only [zp]
    refine sv (.pointer (some ⟨b1, 35, none⟩)) 15 rfl rfl (ex_fa (p := (.pointer (some ⟨b1, 0, none⟩))) rfl rfl (fa49_4 _ _)) ?_; simp only [zp]; refine sv (.int .i64 x.ex) 16 rfl rfl (ex_load (p := (.pointer (some ⟨b1, 35, none⟩))) rfl rfl (ld3 (at_cell k1 hH.c35))) ?_; simp only [zp]; refine sv (.bool true) 17 rfl rfl (ex_bin (u := (.int .i64 x.ex)) (r := (.int .i64 0)) rfl rfl rfl (eg3 _ _ _ _ _ _) (lss3 _ (decide_eq_true c3))) ?_; simp only [zp]; refine sv (.bool true) 18 rfl rfl (ex_pkF rfl rfl rfl) ?_; simp only [zp]; refine sm (.bool true) 19 rfl rfl rfl rfl ?_; simp only [zp]
    refine sn 20 rfl rfl ?_; simp only [zp]; refine sn 21 rfl rfl ?_; simp only [zp]; refine sn 22 rfl rfl ?_; simp only [zp]; refine sv (.bool true) 23 rfl rfl (ex_pkT rfl rfl rfl) ?_; simp only [zp]; refine sm (.bool true) 24 rfl rfl rfl rfl ?_; simp only [zp]; refine sn 25 rfl rfl ?_; simp only [zp]; refine sn 26 rfl rfl ?_; simp only [zp]; refine sn 27 rfl rfl ?_; simp only [zp]; refine sn 28 rfl rfl ?_; simp only [zp]; refine sv (.bool true) 29 rfl rfl (ex_pkT rfl rfl rfl) ?_; simp only [zp]; refine sg (.bool true) 3 rfl rfl rfl rfl ?_; simp only [zp]; refine st_end ?_; subst hQ
    refine wp_ret ?_; refine bodyPost_ret (results_tmp Try.results53 _ _ _) rfl ⟨?_, E⟩
    show Ending.returned (.bool true) = _
    rw [decide_eq_true (.inr (.inr (.inl c3)))]
  by_cases c4 : 2147483647 < x.ex
  · skip
    have E : Below w.heap.size w w := Below.refl _ _
    go_enter Try.func53, Try.ntmps53; refine wq fun Q hQ => ?_; refine st_new (fun b => .pointer (some ⟨b, 0, none⟩)) (some 2) rfl rfl (ex_box rfl rfl) ?_; intro b1 W1 k1 g1 B; simp only [zp]
    have ne_b1_tb : b1 ≠ tb := fun e => by have := lt_of kt; omega
    have ge_b1 := Nat.le_trans E.size g1; replace E := below_next E B; replace kt := keep B kt; clear B; refine sg (.bool false) 3 rfl rfl rfl rfl ?_; simp only [zp]; refine st_end ?_; subst hQ; refine wq fun Q hQ => ?_; refine sv (.agg C) 4 rfl rfl (ex_load (p := (.pointer (some ⟨tb, 0, none⟩))) rfl rfl (ld_all kt Try.underlying26 rfl (inf26.trans (congrArg some (hT.size).symm)))) ?_; simp only [zp]; refine sv (.pointer (some ⟨b1, 0, none⟩)) 5 rfl rfl (ex_fa (p := (.pointer (some ⟨b1, 0, none⟩))) rfl rfl (fa49_0 _ _)) ?_; simp only [zp]
    refine sv (.int .i64 x.by_) 6 rfl rfl (ex_load (p := (.pointer (some ⟨b1, 0, none⟩))) rfl rfl (ld3 (at_cell k1 hH.c0))) ?_; simp only [zp]; refine st_call (some 7) rfl rfl (isOf_any x.by_ W1 hT (decide_eq_true c1)) (ex_call (f := 27) (vs := [(.agg C), (.int .i64 x.by_)]) rfl (cf27 _) rfl) ?_; rintro e W2 ⟨rfl, B⟩; refine ⟨_, rfl, ?_⟩; simp only [zp]; replace E := below_next E B; replace kt := keep B kt; replace k1 := keep B k1; refine sv (.bool false) 8 rfl rfl (ex_not rfl rfl rfl) ?_; simp only [zp]; refine sm (.bool false) 9 rfl rfl rfl rfl ?_; simp only [zp]
    refine sv (.pointer (some ⟨b1, 1, none⟩)) 10 rfl rfl (ex_fa (p := (.pointer (some ⟨b1, 0, none⟩))) rfl rfl (fa49_1 _ _)) ?_; simp only [zp]; refine sv (.int .i64 x.id) 11 rfl rfl (ex_load (p := (.pointer (some ⟨b1, 1, none⟩))) rfl rfl (ld3 (at_cell k1 hH.c1))) ?_; simp only [zp]; refine sv (.bool false) 12 rfl rfl (ex_bin (u := (.int .i64 x.id)) (r := (.int .i64 0)) rfl rfl rfl (eg3 _ _ _ _ _ _) (lss3 _ (decide_eq_false c2))) ?_; simp only [zp]; refine sv (.bool false) 13 rfl rfl (ex_pkF rfl rfl rfl) ?_; simp only [zp]; refine sm (.bool false) 14 rfl rfl rfl rfl ?_; simp only [zp]
    refine sv (.pointer (some ⟨b1, 35, none⟩)) 15 rfl rfl (ex_fa (p := (.pointer (some ⟨b1, 0, none⟩))) rfl rfl (fa49_4 _ _)) ?_; simp only [zp]; refine sv (.int .i64 x.ex) 16 rfl rfl (ex_load (p := (.pointer (some ⟨b1, 35, none⟩))) rfl rfl (ld3 (at_cell k1 hH.c35))) ?_; simp only [zp]; refine sv (.bool false) 17 rfl rfl (ex_bin (u := (.int .i64 x.ex)) (r := (.int .i64 0)) rfl rfl rfl (eg3 _ _ _ _ _ _) (lss3 _ (decide_eq_false c3))) ?_; simp only [zp]; refine sv (.bool false) 18 rfl rfl (ex_pkF rfl rfl rfl) ?_; simp only [zp]; refine sm (.bool false) 19 rfl rfl rfl rfl ?_; simp only [zp]
    refine sv (.pointer (some ⟨b1, 35, none⟩)) 20 rfl rfl (ex_fa (p := (.pointer (some ⟨b1, 0, none⟩))) rfl rfl (fa49_4 _ _)) ?_; simp only [zp]; refine sv (.int .i64 x.ex) 21 rfl rfl (ex_load (p := (.pointer (some ⟨b1, 35, none⟩))) rfl rfl (ld3 (at_cell k1 hH.c35))) ?_; simp only [zp]; refine sv (.bool true) 22 rfl rfl (ex_bin (u := (.int .i64 x.ex)) (r := (.int .i64 2147483647)) rfl rfl rfl (eg3 _ _ _ _ _ _) (gtr3 _ (decide_eq_true c4))) ?_; simp only [zp]; refine sv (.bool true) 23 rfl rfl (ex_pkF rfl rfl rfl) ?_; simp only [zp]
    refine sm (.bool true) 24 rfl rfl rfl rfl ?_; simp only [zp]; refine sn 25 rfl rfl ?_; simp only [zp]; refine sn 26 rfl rfl ?_; simp only [zp]; refine sn 27 rfl rfl ?_; simp only [zp]; refine sn 28 rfl rfl ?_; simp only [zp]; refine sv (.bool true) 29 rfl rfl (ex_pkT rfl rfl rfl) ?_; simp only [zp]; refine sg (.bool true) 3 rfl rfl rfl rfl ?_; simp only [zp]; refine st_end ?_; subst hQ; refine wp_ret ?_; refine bodyPost_ret (results_tmp Try.results53 _ _ _) rfl ⟨?_, E⟩
    show Ending.returned (.bool true) = _
    rw [decide_eq_true (.inr (.inr (.inr (.inl c4))))]
  by_cases c5 : x.hl = ZL
  · skip
    have E : Below w.heap.size w w := Below.refl _ _
    go_enter Try.func53, Try.ntmps53; refine wq fun Q hQ => ?_; refine st_new (fun b => .pointer (some ⟨b, 0, none⟩)) (some 2) rfl rfl (ex_box rfl rfl) ?_; intro b1 W1 k1 g1 B; simp only [zp]
    have ne_b1_tb : b1 ≠ tb := fun e => by have := lt_of kt; omega
    have ge_b1 := Nat.le_trans E.size g1; replace E := below_next E B; replace kt := keep B kt; clear B; refine sg (.bool false) 3 rfl rfl rfl rfl ?_; simp only [zp]; refine st_end ?_; subst hQ; refine wq fun Q hQ => ?_; refine sv (.agg C) 4 rfl rfl (ex_load (p := (.pointer (some ⟨tb, 0, none⟩))) rfl rfl (ld_all kt Try.underlying26 rfl (inf26.trans (congrArg some (hT.size).symm)))) ?_; simp only [zp]; refine sv (.pointer (some ⟨b1, 0, none⟩)) 5 rfl rfl (ex_fa (p := (.pointer (some ⟨b1, 0, none⟩))) rfl rfl (fa49_0 _ _)) ?_; simp only [zp]
    refine sv (.int .i64 x.by_) 6 rfl rfl (ex_load (p := (.pointer (some ⟨b1, 0, none⟩))) rfl rfl (ld3 (at_cell k1 hH.c0))) ?_; simp only [zp]; refine st_call (some 7) rfl rfl (isOf_any x.by_ W1 hT (decide_eq_true c1)) (ex_call (f := 27) (vs := [(.agg C), (.int .i64 x.by_)]) rfl (cf27 _) rfl) ?_; rintro e W2 ⟨rfl, B⟩; refine ⟨_, rfl, ?_⟩; simp only [zp]; replace E := below_next E B; replace kt := keep B kt; replace k1 := keep B k1; refine sv (.bool false) 8 rfl rfl (ex_not rfl rfl rfl) ?_; simp only [zp]; refine sm (.bool false) 9 rfl rfl rfl rfl ?_; simp only [zp]
    refine sv (.pointer (some ⟨b1, 1, none⟩)) 10 rfl rfl (ex_fa (p := (.pointer (some ⟨b1, 0, none⟩))) rfl rfl (fa49_1 _ _)) ?_; simp only [zp]; refine sv (.int .i64 x.id) 11 rfl rfl (ex_load (p := (.pointer (some ⟨b1, 1, none⟩))) rfl rfl (ld3 (at_cell k1 hH.c1))) ?_; simp only [zp]; refine sv (.bool false) 12 rfl rfl (ex_bin (u := (.int .i64 x.id)) (r := (.int .i64 0)) rfl rfl rfl (eg3 _ _ _ _ _ _) (lss3 _ (decide_eq_false c2))) ?_; simp only [zp]; refine sv (.bool false) 13 rfl rfl (ex_pkF rfl rfl rfl) ?_; simp only [zp]; refine sm (.bool false) 14 rfl rfl rfl rfl ?_; simp only [zp]
    refine sv (.pointer (some ⟨b1, 35, none⟩)) 15 rfl rfl (ex_fa (p := (.pointer (some ⟨b1, 0, none⟩))) rfl rfl (fa49_4 _ _)) ?_; simp only [zp]; refine sv (.int .i64 x.ex) 16 rfl rfl (ex_load (p := (.pointer (some ⟨b1, 35, none⟩))) rfl rfl (ld3 (at_cell k1 hH.c35))) ?_; simp only [zp]; refine sv (.bool false) 17 rfl rfl (ex_bin (u := (.int .i64 x.ex)) (r := (.int .i64 0)) rfl rfl rfl (eg3 _ _ _ _ _ _) (lss3 _ (decide_eq_false c3))) ?_; simp only [zp]; refine sv (.bool false) 18 rfl rfl (ex_pkF rfl rfl rfl) ?_; simp only [zp]; refine sm (.bool false) 19 rfl rfl rfl rfl ?_; simp only [zp]
    refine sv (.pointer (some ⟨b1, 35, none⟩)) 20 rfl rfl (ex_fa (p := (.pointer (some ⟨b1, 0, none⟩))) rfl rfl (fa49_4 _ _)) ?_; simp only [zp]; refine sv (.int .i64 x.ex) 21 rfl rfl (ex_load (p := (.pointer (some ⟨b1, 35, none⟩))) rfl rfl (ld3 (at_cell k1 hH.c35))) ?_; simp only [zp]; refine sv (.bool false) 22 rfl rfl (ex_bin (u := (.int .i64 x.ex)) (r := (.int .i64 2147483647)) rfl rfl rfl (eg3 _ _ _ _ _ _) (gtr3 _ (decide_eq_false c4))) ?_; simp only [zp]; refine sv (.bool false) 23 rfl rfl (ex_pkF rfl rfl rfl) ?_; simp only [zp]
    refine sm (.bool false) 24 rfl rfl rfl rfl ?_; simp only [zp]; refine sv (.pointer (some ⟨b1, 3, none⟩)) 25 rfl rfl (ex_fa (p := (.pointer (some ⟨b1, 0, none⟩))) rfl rfl (fa49_3 _ _)) ?_; simp only [zp]; refine sv (.agg x.hash) 26 rfl rfl (ex_load (p := (.pointer (some ⟨b1, 3, none⟩))) rfl rfl (hH.ldp k1)) ?_; simp only [zp]; refine sv (.agg Z32) 27 rfl rfl (ex_build0  rfl (b22 _)) ?_; simp only [zp]; refine sv (.bool true) 28 rfl rfl (ex_bin rfl rfl rfl (eg22 _ _ _ _ _) (eqZ _ hH.len (decide_eq_true c5))) ?_; simp only [zp]
    refine sv (.bool true) 29 rfl rfl (ex_pkF rfl rfl rfl) ?_; simp only [zp]; refine sg (.bool true) 3 rfl rfl rfl rfl ?_; simp only [zp]; refine st_end ?_; subst hQ; refine wp_ret ?_; refine bodyPost_ret (results_tmp Try.results53 _ _ _) rfl ⟨?_, E⟩
    show Ending.returned (.bool true) = _
    rw [decide_eq_true (.inr (.inr (.inr (.inr c5))))]
  have E : Below w.heap.size w w := Below.refl _ _
  go_enter Try.func53, Try.ntmps53; refine wq fun Q hQ => ?_; refine st_new (fun b => .pointer (some ⟨b, 0, none⟩)) (some 2) rfl rfl (ex_box rfl rfl) ?_; intro b1 W1 k1 g1 B; simp only [zp]
  have ne_b1_tb : b1 ≠ tb := fun e => by have := lt_of kt; omega
  have ge_b1 := Nat.le_trans E.size g1; replace E := below_next E B; replace kt := keep B kt; clear B; refine sg (.bool false) 3 rfl rfl rfl rfl ?_; simp only [zp]; refine st_end ?_; subst hQ; refine wq fun Q hQ => ?_; refine sv (.agg C) 4 rfl rfl (ex_load (p := (.pointer (some ⟨tb, 0, none⟩))) rfl rfl (ld_all kt Try.underlying26 rfl (inf26.trans (congrArg some (hT.size).symm)))) ?_; simp only [zp]; refine sv (.pointer (some ⟨b1, 0, none⟩)) 5 rfl rfl (ex_fa (p := (.pointer (some ⟨b1, 0, none⟩))) rfl rfl (fa49_0 _ _)) ?_; simp only [zp]
  refine sv (.int .i64 x.by_) 6 rfl rfl (ex_load (p := (.pointer (some ⟨b1, 0, none⟩))) rfl rfl (ld3 (at_cell k1 hH.c0))) ?_; simp only [zp]; refine st_call (some 7) rfl rfl (isOf_any x.by_ W1 hT (decide_eq_true c1)) (ex_call (f := 27) (vs := [(.agg C), (.int .i64 x.by_)]) rfl (cf27 _) rfl) ?_; rintro e W2 ⟨rfl, B⟩; refine ⟨_, rfl, ?_⟩; simp only [zp]; replace E := below_next E B; replace kt := keep B kt; replace k1 := keep B k1; refine sv (.bool false) 8 rfl rfl (ex_not rfl rfl rfl) ?_; simp only [zp]; refine sm (.bool false) 9 rfl rfl rfl rfl ?_; simp only [zp]
  refine sv (.pointer (some ⟨b1, 1, none⟩)) 10 rfl rfl (ex_fa (p := (.pointer (some ⟨b1, 0, none⟩))) rfl rfl (fa49_1 _ _)) ?_; simp only [zp]; refine sv (.int .i64 x.id) 11 rfl rfl (ex_load (p := (.pointer (some ⟨b1, 1, none⟩))) rfl rfl (ld3 (at_cell k1 hH.c1))) ?_; simp only [zp]; refine sv (.bool false) 12 rfl rfl (ex_bin (u := (.int .i64 x.id)) (r := (.int .i64 0)) rfl rfl rfl (eg3 _ _ _ _ _ _) (lss3 _ (decide_eq_false c2))) ?_; simp only [zp]; refine sv (.bool false) 13 rfl rfl (ex_pkF rfl rfl rfl) ?_; simp only [zp]; refine sm (.bool false) 14 rfl rfl rfl rfl ?_; simp only [zp]
  refine sv (.pointer (some ⟨b1, 35, none⟩)) 15 rfl rfl (ex_fa (p := (.pointer (some ⟨b1, 0, none⟩))) rfl rfl (fa49_4 _ _)) ?_; simp only [zp]; refine sv (.int .i64 x.ex) 16 rfl rfl (ex_load (p := (.pointer (some ⟨b1, 35, none⟩))) rfl rfl (ld3 (at_cell k1 hH.c35))) ?_; simp only [zp]; refine sv (.bool false) 17 rfl rfl (ex_bin (u := (.int .i64 x.ex)) (r := (.int .i64 0)) rfl rfl rfl (eg3 _ _ _ _ _ _) (lss3 _ (decide_eq_false c3))) ?_; simp only [zp]; refine sv (.bool false) 18 rfl rfl (ex_pkF rfl rfl rfl) ?_; simp only [zp]; refine sm (.bool false) 19 rfl rfl rfl rfl ?_; simp only [zp]
  refine sv (.pointer (some ⟨b1, 35, none⟩)) 20 rfl rfl (ex_fa (p := (.pointer (some ⟨b1, 0, none⟩))) rfl rfl (fa49_4 _ _)) ?_; simp only [zp]; refine sv (.int .i64 x.ex) 21 rfl rfl (ex_load (p := (.pointer (some ⟨b1, 35, none⟩))) rfl rfl (ld3 (at_cell k1 hH.c35))) ?_; simp only [zp]; refine sv (.bool false) 22 rfl rfl (ex_bin (u := (.int .i64 x.ex)) (r := (.int .i64 2147483647)) rfl rfl rfl (eg3 _ _ _ _ _ _) (gtr3 _ (decide_eq_false c4))) ?_; simp only [zp]; refine sv (.bool false) 23 rfl rfl (ex_pkF rfl rfl rfl) ?_; simp only [zp]
  refine sm (.bool false) 24 rfl rfl rfl rfl ?_; simp only [zp]; refine sv (.pointer (some ⟨b1, 3, none⟩)) 25 rfl rfl (ex_fa (p := (.pointer (some ⟨b1, 0, none⟩))) rfl rfl (fa49_3 _ _)) ?_; simp only [zp]; refine sv (.agg x.hash) 26 rfl rfl (ex_load (p := (.pointer (some ⟨b1, 3, none⟩))) rfl rfl (hH.ldp k1)) ?_; simp only [zp]; refine sv (.agg Z32) 27 rfl rfl (ex_build0  rfl (b22 _)) ?_; simp only [zp]; refine sv (.bool false) 28 rfl rfl (ex_bin rfl rfl rfl (eg22 _ _ _ _ _) (eqZ _ hH.len (decide_eq_false c5))) ?_; simp only [zp]
  refine sv (.bool false) 29 rfl rfl (ex_pkF rfl rfl rfl) ?_; simp only [zp]; refine sg (.bool false) 3 rfl rfl rfl rfl ?_; simp only [zp]; refine st_end ?_; subst hQ; refine wp_ret ?_; refine bodyPost_ret (results_tmp Try.results53 _ _ _) rfl ⟨?_, E⟩
  show Ending.returned (.bool false) = _
  rw [decide_eq_false (fun h => by rcases h with h | h | h | h | h <;> contradiction)]

/-- each may be, and they rise -/
def mayHs (t : TV) (n : Nat) (hv : Nat → HV) : Bool := decide ((∀ i, i < n → wrongB t (hv i) = false) ∧ ∀ i, i < n - 1 → belowB (hv i) (hv (i + 1)) = true)
set_option maxHeartbeats 4000000 in
theorem mayHs_any {C : Array Value} {t : TV} {ao : Option Addr} {n c : Nat} {Cs : Nat → Array Value} {hv : Nat → HV} (w : World) (hT : IsT C t) (hH : Hs w ao n Cs hv) (hn : n ≤ 140737488355328) {r : Bool} (hr : mayHs t n hv = r) :
    Calls Try.prog 37 #[.agg C, .slice ao n c] w fun e w' => e = .returned (.bool r) ∧ Below w.heap.size w w' := by
  subst hr
  unfold mayHs
  by_cases c1 : ∀ i, i < n → wrongB t (hv i) = false
  rotate_left
  · skip
    have E : Below w.heap.size w w := Below.refl _ _
    go_enter Try.func37, Try.ntmps37; refine wq fun Q hQ => ?_; refine st_new (fun b => .pointer (some ⟨b, 0, none⟩)) (some 2) rfl rfl (ex_box rfl rfl) ?_; intro b1 W1 k1 g1 B; simp only [zp]; have ge_b1 := Nat.le_trans E.size g1; replace E := below_next E B; replace hH := hH.below B; clear B; refine sg (.bool false) 4 rfl rfl rfl rfl ?_; simp only [zp]; refine st_end ?_; subst hQ; refine wq fun Q hQ => ?_; refine sv (.func (.func 53) #[] #[(.pointer (some ⟨b1, 0, none⟩))]) 7 rfl rfl (ex_mkf rfl rfl) ?_; simp only [zp]
    refine sg (.func (.func 53) #[] #[(.pointer (some ⟨b1, 0, none⟩))]) 5 rfl rfl rfl rfl ?_; simp only [zp]; refine st_end ?_; subst hQ; refine wp_seq ?_; refine wq fun Q hQ => ?_; refine sm (.slice ao n c) 8 rfl rfl rfl rfl ?_; simp only [zp]; refine sm (.func (.func 53) #[] #[(.pointer (some ⟨b1, 0, none⟩))]) 9 rfl rfl rfl rfl ?_; simp only [zp]
    have hX : decide (0 ≤ idxP (fun i => wrongB t (hv i)) n) = true := idx_ge _ _ (by
      refine ⟨fun _ => rfl, fun _ => ?_⟩
      exact Classical.byContradiction fun hno => c1 fun i hi => by
        cases hq : wrongB t (hv i) with
        | false => rfl
        | true => exact absurd ⟨i, hi, hq⟩ hno)
    refine st_call (some 10) rfl rfl (cont54 53 #[.pointer (some ⟨b1, 0, none⟩)] ao n c Cs hv (fun i => wrongB t (hv i)) W1 hH hn cf53 (fun i hi W' hW' => wrong_any W' hT (hH.ish hi) (keep hW' k1) rfl) hX) (ex_call (f := 54) (vs := [(.slice ao n c), (.func (.func 53) #[] #[(.pointer (some ⟨b1, 0, none⟩))])]) rfl (cf54 _) rfl) ?_; rintro e W2 ⟨rfl, B⟩; refine ⟨_, rfl, ?_⟩; simp only [zp]; replace E := below_next E B; replace hH := hH.below B; replace k1 := keep B k1; refine st_end ?_; subst hQ; refine wp_cond_true rfl ?_; refine wq fun Q hQ => ?_
    refine sg (.bool false) 4 rfl rfl rfl rfl ?_; simp only [zp]; refine st_end ?_; subst hQ; refine wp_ret ?_; refine ret_out ?_; refine bodyPost_ret (results_tmp Try.results37 _ _ _) rfl ⟨?_, E⟩
    show Ending.returned (.bool false) = _
    rw [decide_eq_false (fun h => c1 h.1)]

  have E : Below w.heap.size w w := Below.refl _ _
  go_enter Try.func37, Try.ntmps37; refine wq fun Q hQ => ?_; refine st_new (fun b => .pointer (some ⟨b, 0, none⟩)) (some 2) rfl rfl (ex_box rfl rfl) ?_; intro b1 W1 k1 g1 B; simp only [zp]; have ge_b1 := Nat.le_trans E.size g1; replace E := below_next E B; replace hH := hH.below B; clear B; refine sg (.bool false) 4 rfl rfl rfl rfl ?_; simp only [zp]; refine st_end ?_; subst hQ; refine wq fun Q hQ => ?_; refine sv (.func (.func 53) #[] #[(.pointer (some ⟨b1, 0, none⟩))]) 7 rfl rfl (ex_mkf rfl rfl) ?_; simp only [zp]
  refine sg (.func (.func 53) #[] #[(.pointer (some ⟨b1, 0, none⟩))]) 5 rfl rfl rfl rfl ?_; simp only [zp]; refine st_end ?_; subst hQ; refine wp_seq ?_; refine wq fun Q hQ => ?_; refine sm (.slice ao n c) 8 rfl rfl rfl rfl ?_; simp only [zp]; refine sm (.func (.func 53) #[] #[(.pointer (some ⟨b1, 0, none⟩))]) 9 rfl rfl rfl rfl ?_; simp only [zp]
  have hX : decide (0 ≤ idxP (fun i => wrongB t (hv i)) n) = false := idx_ge _ _ (by
    refine ⟨fun ⟨i, hi, h⟩ => ?_, fun h => by cases h⟩
    have h : wrongB t (hv i) = true := h
    rw [c1 i hi] at h
    cases h)
  refine st_call (some 10) rfl rfl (cont54 53 #[.pointer (some ⟨b1, 0, none⟩)] ao n c Cs hv (fun i => wrongB t (hv i)) W1 hH hn cf53 (fun i hi W' hW' => wrong_any W' hT (hH.ish hi) (keep hW' k1) rfl) hX) (ex_call (f := 54) (vs := [(.slice ao n c), (.func (.func 53) #[] #[(.pointer (some ⟨b1, 0, none⟩))])]) rfl (cf54 _) rfl) ?_; rintro e W2 ⟨rfl, B⟩; refine ⟨_, rfl, ?_⟩; simp only [zp]; replace E := below_next E B; replace hH := hH.below B; replace k1 := keep B k1; refine st_end ?_; subst hQ; refine wp_cond_false rfl ?_; refine wp_skip ?_; refine wp_seq ?_; refine wq fun Q hQ => ?_
  refine sg (.int .i64 1) 6 rfl rfl rfl rfl ?_; simp only [zp]; refine st_end ?_; subst hQ; refine wp_block ?_; clear hX
  go_loopw [6] (fun v6 wr => ∃ i : Nat, 1 ≤ i ∧ i ≤ n + 1 ∧ v6 = .int .i64 i ∧ Below w.heap.size w wr ∧ Hs wr ao n Cs hv ∧ ∀ j, j < i - 1 → j < n - 1 → belowB (hv j) (hv (j + 1)) = true) (fun v6 _ => n + 1 - (intOf v6).toNat)
  case atStart => exact ⟨1, by omega, by omega, rfl, E, hH, fun j hj => by omega⟩
  case round =>
    clear E hH; obtain ⟨i, hi1, hi2, rfl, E, hH, hno⟩ := hrel
    by_cases hlt : i < n
    · have hH' := hH
      rcases hH' with h | ⟨b, p, rfl, h⟩
      · omega
      have HC := h i hlt; have HD := h (i - 1) (by omega)
      have e1 : ((i : Nat) : Int) - 1 = ((i - 1 : Nat) : Int) := by omega
      have e2 : i - 1 + 1 = i := by omega
      cases hp : belowB (hv (i - 1)) (hv i) with
      | false =>
        refine wp_seq ?_; refine wq fun Q hQ => ?_; refine sm (.int .i64 (i : Nat)) 11 rfl rfl rfl rfl ?_; simp only [zp]; refine sm (.slice (some ⟨b, p, none⟩) n c) 12 rfl rfl rfl rfl ?_; simp only [zp]; refine sv (.int .i64 (n : Nat)) 13 rfl rfl (ex_len rfl rfl (len27 _ _ _ _ _)) ?_; simp only [zp]; refine sv (.bool true) 14 rfl rfl (ex_bin (u := (.int .i64 (i : Nat))) (r := (.int .i64 (n : Nat))) rfl rfl rfl (eg3 _ _ _ _ _ _) (lss3 _ (decide_eq_true (by omega)))) ?_; simp only [zp]; refine st_end ?_; subst hQ; refine wp_cond_true rfl ?_; refine wp_skip ?_; refine wp_seq ?_
        refine wp_block ?_; refine wp_seq ?_; obtain ⟨W3, hwd⟩ : ∃ wd, wr.drew = wd := ⟨_, rfl⟩; refine wp_region_held (S := fun W => Kept Nil W3 W) (by kernel_rfl) ?_
        show wpAnyH _ _ _ _ _ _ _ _ wr.drew
        rw [hwd]; refine capQ fun Q hQ => ?_
        have hQP : ∀ c (a : Act) (d : Nat) v w, Q (.panic c) (a.put (some d) v) w → Q (.panic c) a w := by
          subst hQ; exact fun _ _ _ _ _ h => h
        have BD : Below wr.heap.size wr W3 := by rw [← hwd]; exact below_drew (Below.refl _ _)
        clear hwd; replace E := below_next E BD; replace hH := hH.below BD; replace HC := And.intro HC.1 (range_below HC.2 BD); replace HD := And.intro HD.1 (range_below HD.2 BD); clear BD
        have S : Kept Nil W3 W3 := Kept.refl _ _
        have d_hH := hH; have d_HC := HC; have d_HD := HD; refine ah_take (v := (.slice (some ⟨b, p, none⟩) n c)) (i := 0) (some 17) rfl rfl (by kernel_rfl) (by kernel_rfl) (by kernel_rfl) rfl (fun W hK => ex_mv rfl rfl) S (fun c a w h => hQP c a _ _ w h) ?_; simp only [zp]; refine ah_take (v := (.int .i64 (i : Nat))) (i := 1) (some 18) rfl rfl (by kernel_rfl) (by kernel_rfl) (by kernel_rfl) rfl (fun W hK => ex_mv rfl rfl) S (fun c a w h => hQP c a _ _ w h) ?_; simp only [zp]
        refine ah_take (v := (.int .i64 ((i - 1 : Nat) : Int))) (i := 2) (some 19) rfl rfl (by kernel_rfl) (by kernel_rfl) (by kernel_rfl) rfl (fun W hK => ex_bin rfl rfl rfl (eg3 _ _ _ _ _ _) (sub3 _ e1 (by omega))) S (fun c a w h => hQP c a _ _ w h) ?_; simp only [zp]; refine ah_take (v := (.pointer (some ⟨b, (p + (i - 1) * 36), none⟩))) (i := 3) (some 20) rfl rfl (by kernel_rfl) (by kernel_rfl) (by kernel_rfl) rfl (fun W hK => ex_ix27 rfl rfl rfl (by omega)) S (fun c a w h => hQP c a _ _ w h) ?_; simp only [zp]
        refine ah_take (v := (.agg (Cs (i - 1)))) (i := 4) (some 21) rfl rfl (by kernel_rfl) (by kernel_rfl) (by kernel_rfl) rfl (fun W hK => ex_load rfl rfl (ld_range (range_kept hK d_HD.2) Try.underlying49 rfl (inf49.trans (congrArg some HD.1.size.symm)))) S (fun c a w h => hQP c a _ _ w h) ?_; simp only [zp]; refine ah_take (v := (.slice (some ⟨b, p, none⟩) n c)) (i := 5) (some 22) rfl rfl (by kernel_rfl) (by kernel_rfl) (by kernel_rfl) rfl (fun W hK => ex_mv rfl rfl) S (fun c a w h => hQP c a _ _ w h) ?_; simp only [zp]
        refine ah_take (v := (.int .i64 (i : Nat))) (i := 6) (some 23) rfl rfl (by kernel_rfl) (by kernel_rfl) (by kernel_rfl) rfl (fun W hK => ex_mv rfl rfl) S (fun c a w h => hQP c a _ _ w h) ?_; simp only [zp]; refine ah_take (v := (.pointer (some ⟨b, (p + i * 36), none⟩))) (i := 7) (some 24) rfl rfl (by kernel_rfl) (by kernel_rfl) (by kernel_rfl) rfl (fun W hK => ex_ix27 rfl rfl rfl (by omega)) S (fun c a w h => hQP c a _ _ w h) ?_; simp only [zp]
        refine ah_take (v := (.agg (Cs i))) (i := 8) (some 25) rfl rfl (by kernel_rfl) (by kernel_rfl) (by kernel_rfl) rfl (fun W hK => ex_load rfl rfl (ld_range (range_kept hK d_HC.2) Try.underlying49 rfl (inf49.trans (congrArg some HC.1.size.symm)))) S (fun c a w h => hQP c a _ _ w h) ?_; simp only [zp]; refine ah_or1 (i := 9) (by kernel_rfl) ?_; refine nx_call (some 26) rfl rfl rfl (below_any W3 HD.1 HC.1 hp) (ex_call (f := 55) (vs := [(.agg (Cs (i - 1))), (.agg (Cs i))]) rfl (cf55 _) rfl) ?_; rintro e W4 ⟨rfl, B⟩; refine ⟨_, rfl, S.next B, ?_⟩; simp only [zp]
        replace E := below_next E B; replace hH := hH.below B; replace HC := And.intro HC.1 (range_below HC.2 B); replace HD := And.intro HD.1 (range_below HD.2 B); replace S := S.next B; refine ah_take (v := (.bool true)) (i := 10) (some 27) rfl rfl (by kernel_rfl) (by kernel_rfl) (by kernel_rfl) rfl (fun W hK => ex_not rfl rfl rfl) S (fun c a w h => hQP c a _ _ w h) ?_; simp only [zp]; refine ah_done (by kernel_rfl) ?_; clear hQP; subst hQ; clear S  d_hH d_HC d_HD; refine wp_cond_true rfl ?_; refine wq fun Q hQ => ?_; refine sg (.bool false) 4 rfl rfl rfl rfl ?_; simp only [zp]
        refine st_end ?_; subst hQ; refine wp_ret ?_
        repeat (first | refine ret_out ?_ | refine ret_blk ?_)
        refine bodyPost_ret (results_tmp Try.results37 _ _ _) rfl ⟨?_, E⟩
        show Ending.returned (.bool false) = _
        rw [decide_eq_false (fun h => by have := h.2 (i - 1) (by omega); rw [e2, hp] at this; cases this)]
      | true =>
        refine wp_seq ?_; refine wq fun Q hQ => ?_; refine sm (.int .i64 (i : Nat)) 11 rfl rfl rfl rfl ?_; simp only [zp]; refine sm (.slice (some ⟨b, p, none⟩) n c) 12 rfl rfl rfl rfl ?_; simp only [zp]; refine sv (.int .i64 (n : Nat)) 13 rfl rfl (ex_len rfl rfl (len27 _ _ _ _ _)) ?_; simp only [zp]; refine sv (.bool true) 14 rfl rfl (ex_bin (u := (.int .i64 (i : Nat))) (r := (.int .i64 (n : Nat))) rfl rfl rfl (eg3 _ _ _ _ _ _) (lss3 _ (decide_eq_true (by omega)))) ?_; simp only [zp]; refine st_end ?_; subst hQ; refine wp_cond_true rfl ?_; refine wp_skip ?_; refine wp_seq ?_
        refine wp_block ?_; refine wp_seq ?_; obtain ⟨W5, hwd⟩ : ∃ wd, wr.drew = wd := ⟨_, rfl⟩; refine wp_region_held (S := fun W => Kept Nil W5 W) (by kernel_rfl) ?_
        show wpAnyH _ _ _ _ _ _ _ _ wr.drew
        rw [hwd]; refine capQ fun Q hQ => ?_
        have hQP : ∀ c (a : Act) (d : Nat) v w, Q (.panic c) (a.put (some d) v) w → Q (.panic c) a w := by
          subst hQ; exact fun _ _ _ _ _ h => h
        have BD : Below wr.heap.size wr W5 := by rw [← hwd]; exact below_drew (Below.refl _ _)
        clear hwd; replace E := below_next E BD; replace hH := hH.below BD; replace HC := And.intro HC.1 (range_below HC.2 BD); replace HD := And.intro HD.1 (range_below HD.2 BD); clear BD
        have S : Kept Nil W5 W5 := Kept.refl _ _
        have d_hH := hH; have d_HC := HC; have d_HD := HD; refine ah_take (v := (.slice (some ⟨b, p, none⟩) n c)) (i := 0) (some 17) rfl rfl (by kernel_rfl) (by kernel_rfl) (by kernel_rfl) rfl (fun W hK => ex_mv rfl rfl) S (fun c a w h => hQP c a _ _ w h) ?_; simp only [zp]; refine ah_take (v := (.int .i64 (i : Nat))) (i := 1) (some 18) rfl rfl (by kernel_rfl) (by kernel_rfl) (by kernel_rfl) rfl (fun W hK => ex_mv rfl rfl) S (fun c a w h => hQP c a _ _ w h) ?_; simp only [zp]
        refine ah_take (v := (.int .i64 ((i - 1 : Nat) : Int))) (i := 2) (some 19) rfl rfl (by kernel_rfl) (by kernel_rfl) (by kernel_rfl) rfl (fun W hK => ex_bin rfl rfl rfl (eg3 _ _ _ _ _ _) (sub3 _ e1 (by omega))) S (fun c a w h => hQP c a _ _ w h) ?_; simp only [zp]; refine ah_take (v := (.pointer (some ⟨b, (p + (i - 1) * 36), none⟩))) (i := 3) (some 20) rfl rfl (by kernel_rfl) (by kernel_rfl) (by kernel_rfl) rfl (fun W hK => ex_ix27 rfl rfl rfl (by omega)) S (fun c a w h => hQP c a _ _ w h) ?_; simp only [zp]
        refine ah_take (v := (.agg (Cs (i - 1)))) (i := 4) (some 21) rfl rfl (by kernel_rfl) (by kernel_rfl) (by kernel_rfl) rfl (fun W hK => ex_load rfl rfl (ld_range (range_kept hK d_HD.2) Try.underlying49 rfl (inf49.trans (congrArg some HD.1.size.symm)))) S (fun c a w h => hQP c a _ _ w h) ?_; simp only [zp]; refine ah_take (v := (.slice (some ⟨b, p, none⟩) n c)) (i := 5) (some 22) rfl rfl (by kernel_rfl) (by kernel_rfl) (by kernel_rfl) rfl (fun W hK => ex_mv rfl rfl) S (fun c a w h => hQP c a _ _ w h) ?_; simp only [zp]
        refine ah_take (v := (.int .i64 (i : Nat))) (i := 6) (some 23) rfl rfl (by kernel_rfl) (by kernel_rfl) (by kernel_rfl) rfl (fun W hK => ex_mv rfl rfl) S (fun c a w h => hQP c a _ _ w h) ?_; simp only [zp]; refine ah_take (v := (.pointer (some ⟨b, (p + i * 36), none⟩))) (i := 7) (some 24) rfl rfl (by kernel_rfl) (by kernel_rfl) (by kernel_rfl) rfl (fun W hK => ex_ix27 rfl rfl rfl (by omega)) S (fun c a w h => hQP c a _ _ w h) ?_; simp only [zp]
        refine ah_take (v := (.agg (Cs i))) (i := 8) (some 25) rfl rfl (by kernel_rfl) (by kernel_rfl) (by kernel_rfl) rfl (fun W hK => ex_load rfl rfl (ld_range (range_kept hK d_HC.2) Try.underlying49 rfl (inf49.trans (congrArg some HC.1.size.symm)))) S (fun c a w h => hQP c a _ _ w h) ?_; simp only [zp]; refine ah_or1 (i := 9) (by kernel_rfl) ?_; refine nx_call (some 26) rfl rfl rfl (below_any W5 HD.1 HC.1 hp) (ex_call (f := 55) (vs := [(.agg (Cs (i - 1))), (.agg (Cs i))]) rfl (cf55 _) rfl) ?_; rintro e W6 ⟨rfl, B⟩; refine ⟨_, rfl, S.next B, ?_⟩; simp only [zp]
        replace E := below_next E B; replace hH := hH.below B; replace HC := And.intro HC.1 (range_below HC.2 B); replace HD := And.intro HD.1 (range_below HD.2 B); replace S := S.next B; refine ah_take (v := (.bool false)) (i := 10) (some 27) rfl rfl (by kernel_rfl) (by kernel_rfl) (by kernel_rfl) rfl (fun W hK => ex_not rfl rfl rfl) S (fun c a w h => hQP c a _ _ w h) ?_; simp only [zp]; refine ah_done (by kernel_rfl) ?_; clear hQP; subst hQ; clear S  d_hH d_HC d_HD; refine wp_cond_false rfl ?_; refine wp_skip ?_; refine wl_in (wl_cap fun Q hQ => ?_)
        refine sm (.int .i64 (i : Nat)) 15 rfl rfl rfl rfl ?_; simp only [zp]; refine sv (.int .i64 ((i + 1 : Nat) : Int)) 16 rfl rfl (ex_bin rfl rfl rfl (eg3 _ _ _ _ _ _) (add3 _ (by omega) (by omega))) ?_; simp only [zp]; refine sg (.int .i64 ((i + 1 : Nat) : Int)) 6 rfl rfl rfl rfl ?_; simp only [zp]; refine st_end ?_; subst hQ; refine then_go ?_
        go_roundw
        case rel =>
          refine ⟨i + 1, by omega, by omega, rfl, E, hH, fun j hj hj2 => ?_⟩
          by_cases e : j = i - 1
          · subst e; rw [e2]; exact hp
          · exact hno j (by omega) hj2
        case measure => simp [intOf]; omega
    · skip
      refine wp_seq ?_; refine wq fun Q hQ => ?_; refine sm (.int .i64 (i : Nat)) 11 rfl rfl rfl rfl ?_; simp only [zp]; refine sm (.slice ao n c) 12 rfl rfl rfl rfl ?_; simp only [zp]; refine sv (.int .i64 (n : Nat)) 13 rfl rfl (ex_len rfl rfl (len27 _ _ _ _ _)) ?_; simp only [zp]; refine sv (.bool false) 14 rfl rfl (ex_bin (u := (.int .i64 (i : Nat))) (r := (.int .i64 (n : Nat))) rfl rfl rfl (eg3 _ _ _ _ _ _) (lss3 _ (decide_eq_false (by omega)))) ?_; simp only [zp]; refine st_end ?_; subst hQ; refine wp_cond_false rfl ?_; refine wp_exit ?_; refine ex_then ?_; refine ex_then ?_
      refine ex_blk ?_; refine wq fun Q hQ => ?_; refine sg (.bool true) 4 rfl rfl rfl rfl ?_; simp only [zp]; refine st_end ?_; subst hQ; refine wp_ret ?_; refine bodyPost_ret (results_tmp Try.results37 _ _ _) rfl ⟨?_, E⟩
      show Ending.returned (.bool true) = _
      rw [decide_eq_true ⟨c1, fun j hj => hno j (by omega) hj⟩]

end Go.Proofs.Ytkhpbjafdamhaaa
