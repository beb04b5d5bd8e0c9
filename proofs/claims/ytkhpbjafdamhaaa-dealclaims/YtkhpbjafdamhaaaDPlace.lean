/- The fee that is paid, the place of an Htlc. -/
import Derived.Test.YtkhpbjafdamhaaaDFits
namespace Go.Proofs.Ytkhpbjafdamhaaa
open Go.RowKit
set_option linter.unusedVariables false
set_option linter.unusedSimpArgs false
set_option maxRecDepth 100000

theorem ret_ct {fn : Func} {p q : Tmp} {ty : TypeId} (h : fn.results = #[.cell p ty, .tmp q]) (tmps : Array Value) (w : World) (g : Nat) (cs : Array Value) (T : TypeId) (v : Value) (d : TypeDesc)
    (hp : tmps.getD p undef = .pointer (some ⟨g, 0, none⟩)) (hq : tmps.getD q undef = v) (hg : w.heap[g]? = some (.cells cs T)) (hu : Try.prog.underlying ty = some d) (hd : d.isRow = true) (hi : (Try.prog.info? ty).map (·.size) = some cs.size) :
    (results fn tmps).run Try.prog w = .ok (.tuple #[.agg cs, v]) w := by
  have hp' : tmps[p]?.getD undef = .pointer (some ⟨g, 0, none⟩) := by simpa using hp
  have hq' : tmps[q]?.getD undef = v := by simpa using hq
  have := run_loadVar_mid (P := Try.prog) w g 0 ty cs.toList d (fun j v hv => by rw [Nat.zero_add]; exact at_cell hg (by simpa using hv)) hu hd (by simpa using hi)
  rw [Array.toArray_toList] at this
  simp [results, h, hp', hq', asAddr, this]

theorem less_any {C : Array Value} {t : TV} (x : Int) (w : World) (hT : IsT C t) (hx : 0 ≤ x ∧ x ≤ 9223372036854775807) (hf : 0 ≤ t.fee ∧ t.fee ≤ 9223372036854775807) :
    Calls Try.prog 28 #[.agg C, .int .i64 x] w fun e w' => e = .returned (.int .i64 (subN x t.fee)) ∧ Below w.heap.size w w' := by
  have E : Below w.heap.size w w := Below.refl _ _
  go_enter Try.func28, Try.ntmps28; refine wq fun Q hQ => ?_; refine st_new (fun b => .pointer (some ⟨b, 0, none⟩)) (some 2) rfl rfl (ex_box rfl rfl) ?_; intro b1 W1 k1 g1 B; simp only [zp]; have ge_b1 := Nat.le_trans E.size g1; replace E := below_next E B; clear B; refine sg (.int .i64 0) 4 rfl rfl rfl rfl ?_; simp only [zp]; refine st_end ?_; subst hQ; refine wq fun Q hQ => ?_; refine sm (.int .i64 x) 8 rfl rfl rfl rfl ?_; simp only [zp]; refine sv (.pointer (some ⟨b1, 39, none⟩)) 9 rfl rfl (ex_fa (p := (.pointer (some ⟨b1, 0, none⟩))) rfl rfl (fa26_7 _ _)) ?_; simp only [zp]
  refine sv (.int .i64 t.fee) 10 rfl rfl (ex_load (p := (.pointer (some ⟨b1, 39, none⟩))) rfl rfl (ld3 (at_cell k1 hT.c39))) ?_; simp only [zp]; refine st_call (some 11) rfl rfl (sub_any x t.fee W1 (by omega) hx.2 (by omega) hf.2) (ex_call (f := 47) (vs := [(.int .i64 x), (.int .i64 t.fee)]) rfl (cf47 _) rfl) ?_; rintro e W2 ⟨rfl, B⟩; refine ⟨_, rfl, ?_⟩; simp only [zp]; replace E := below_next E B; replace k1 := keep B k1; refine sm (.tuple #[(.int .i64 (subN x t.fee)), (.int .i64 (subE x t.fee))]) 7 rfl rfl rfl rfl ?_; simp only [zp]
  refine sv (.int .i64 (subN x t.fee)) 12 rfl rfl (ex_ext rfl rfl rfl) ?_; simp only [zp]; refine sv (.int .i64 (subE x t.fee)) 13 rfl rfl (ex_ext rfl rfl rfl) ?_; simp only [zp]; refine sg (.int .i64 (subN x t.fee)) 5 rfl rfl rfl rfl ?_; simp only [zp]; refine sg (.int .i64 (subE x t.fee)) 6 rfl rfl rfl rfl ?_; simp only [zp]; refine st_end ?_; subst hQ; refine wq fun Q hQ => ?_; refine sm (.int .i64 (subN x t.fee)) 14 rfl rfl rfl rfl ?_; simp only [zp]; refine sg (.int .i64 (subN x t.fee)) 4 rfl rfl rfl rfl ?_; simp only [zp]; refine st_end ?_; subst hQ; refine wp_ret ?_
  refine bodyPost_ret (results_tmp Try.results28 _ _ _) rfl ⟨rfl, E⟩

/-- is it that Htlc? -/
def isP (y d : Int) (h : HV) : Bool := decide (h.by_ = y ∧ h.id = d)
set_option maxHeartbeats 2000000 in
theorem isP_any {H : Array Value} {x : HV} {y d : Int} {b c : Nat} (w : World) (hH : IsH H x) (kb : w.heap[b]? = some (.cells #[.int .i64 y] 3)) (kc : w.heap[c]? = some (.cells #[.int .i64 d] 3)) :
    Calls Try.prog 45 (#[.agg H] ++ #[.pointer (some ⟨b, 0, none⟩), .pointer (some ⟨c, 0, none⟩)]) w fun e w' => e = .returned (.bool (isP y d x)) ∧ Below w.heap.size w w' := by
  show Calls Try.prog 45 #[.agg H, .pointer (some ⟨b, 0, none⟩), .pointer (some ⟨c, 0, none⟩)] w _
  unfold isP
  by_cases c1 : x.by_ = y
  rotate_left
  · skip
    have E : Below w.heap.size w w := Below.refl _ _
    go_enter Try.func45, Try.ntmps45; refine wq fun Q hQ => ?_; refine st_new (fun b => .pointer (some ⟨b, 0, none⟩)) (some 3) rfl rfl (ex_box rfl rfl) ?_; intro b1 W1 k1 g1 B; simp only [zp]
    have ne_b1_b : b1 ≠ b := fun e => by have := lt_of kb; omega
    have ne_b1_c : b1 ≠ c := fun e => by have := lt_of kc; omega
    have ge_b1 := Nat.le_trans E.size g1; replace E := below_next E B; replace kb := keep B kb; replace kc := keep B kc; clear B; refine sg (.bool false) 4 rfl rfl rfl rfl ?_; simp only [zp]; refine st_end ?_; subst hQ; refine wq fun Q hQ => ?_; refine sv (.pointer (some ⟨b1, 0, none⟩)) 5 rfl rfl (ex_fa (p := (.pointer (some ⟨b1, 0, none⟩))) rfl rfl (fa49_0 _ _)) ?_; simp only [zp]; refine sv (.int .i64 x.by_) 6 rfl rfl (ex_load (p := (.pointer (some ⟨b1, 0, none⟩))) rfl rfl (ld3 (at_cell k1 hH.c0))) ?_; simp only [zp]
    refine sv (.int .i64 y) 7 rfl rfl (ex_load (p := (.pointer (some ⟨b, 0, none⟩))) rfl rfl (ld3 (at_cell kb rfl))) ?_; simp only [zp]; refine sv (.bool false) 8 rfl rfl (ex_bin (u := (.int .i64 x.by_)) (r := (.int .i64 y)) rfl rfl rfl (eg3 _ _ _ _ _ _) (eql3 _ (decide_eq_false c1))) ?_; simp only [zp]; refine sm (.bool false) 9 rfl rfl rfl rfl ?_; simp only [zp]; refine sn 10 rfl rfl ?_; simp only [zp]; refine sn 11 rfl rfl ?_; simp only [zp]; refine sn 12 rfl rfl ?_; simp only [zp]; refine sn 13 rfl rfl ?_; simp only [zp]
    refine sv (.bool false) 14 rfl rfl (ex_pkF rfl rfl rfl) ?_; simp only [zp]; refine sg (.bool false) 4 rfl rfl rfl rfl ?_; simp only [zp]; refine st_end ?_; subst hQ; refine wp_ret ?_; refine bodyPost_ret (results_tmp Try.results45 _ _ _) rfl ⟨?_, E⟩; rw [decide_eq_false (fun h => c1 h.1)]
    rfl
  by_cases c2 : x.id = d
  rotate_left
  · skip
    have E : Below w.heap.size w w := Below.refl _ _
    go_enter Try.func45, Try.ntmps45; refine wq fun Q hQ => ?_; refine st_new (fun b => .pointer (some ⟨b, 0, none⟩)) (some 3) rfl rfl (ex_box rfl rfl) ?_; intro b1 W1 k1 g1 B; simp only [zp]
    have ne_b1_b : b1 ≠ b := fun e => by have := lt_of kb; omega
    have ne_b1_c : b1 ≠ c := fun e => by have := lt_of kc; omega
    have ge_b1 := Nat.le_trans E.size g1; replace E := below_next E B; replace kb := keep B kb; replace kc := keep B kc; clear B; refine sg (.bool false) 4 rfl rfl rfl rfl ?_; simp only [zp]; refine st_end ?_; subst hQ; refine wq fun Q hQ => ?_; refine sv (.pointer (some ⟨b1, 0, none⟩)) 5 rfl rfl (ex_fa (p := (.pointer (some ⟨b1, 0, none⟩))) rfl rfl (fa49_0 _ _)) ?_; simp only [zp]; refine sv (.int .i64 x.by_) 6 rfl rfl (ex_load (p := (.pointer (some ⟨b1, 0, none⟩))) rfl rfl (ld3 (at_cell k1 hH.c0))) ?_; simp only [zp]
    refine sv (.int .i64 y) 7 rfl rfl (ex_load (p := (.pointer (some ⟨b, 0, none⟩))) rfl rfl (ld3 (at_cell kb rfl))) ?_; simp only [zp]; refine sv (.bool true) 8 rfl rfl (ex_bin (u := (.int .i64 x.by_)) (r := (.int .i64 y)) rfl rfl rfl (eg3 _ _ _ _ _ _) (eql3 _ (decide_eq_true c1))) ?_; simp only [zp]; refine sm (.bool true) 9 rfl rfl rfl rfl ?_; simp only [zp]; refine sv (.pointer (some ⟨b1, 1, none⟩)) 10 rfl rfl (ex_fa (p := (.pointer (some ⟨b1, 0, none⟩))) rfl rfl (fa49_1 _ _)) ?_; simp only [zp]
    refine sv (.int .i64 x.id) 11 rfl rfl (ex_load (p := (.pointer (some ⟨b1, 1, none⟩))) rfl rfl (ld3 (at_cell k1 hH.c1))) ?_; simp only [zp]; refine sv (.int .i64 d) 12 rfl rfl (ex_load (p := (.pointer (some ⟨c, 0, none⟩))) rfl rfl (ld3 (at_cell kc rfl))) ?_; simp only [zp]; refine sv (.bool false) 13 rfl rfl (ex_bin (u := (.int .i64 x.id)) (r := (.int .i64 d)) rfl rfl rfl (eg3 _ _ _ _ _ _) (eql3 _ (decide_eq_false c2))) ?_; simp only [zp]; refine sv (.bool false) 14 rfl rfl (ex_pkT rfl rfl rfl) ?_; simp only [zp]; refine sg (.bool false) 4 rfl rfl rfl rfl ?_; simp only [zp]
    refine st_end ?_; subst hQ; refine wp_ret ?_; refine bodyPost_ret (results_tmp Try.results45 _ _ _) rfl ⟨?_, E⟩; rw [decide_eq_false (fun h => c2 h.2)]
    rfl
  have E : Below w.heap.size w w := Below.refl _ _
  go_enter Try.func45, Try.ntmps45; refine wq fun Q hQ => ?_; refine st_new (fun b => .pointer (some ⟨b, 0, none⟩)) (some 3) rfl rfl (ex_box rfl rfl) ?_; intro b1 W1 k1 g1 B; simp only [zp]
  have ne_b1_b : b1 ≠ b := fun e => by have := lt_of kb; omega
  have ne_b1_c : b1 ≠ c := fun e => by have := lt_of kc; omega
  have ge_b1 := Nat.le_trans E.size g1; replace E := below_next E B; replace kb := keep B kb; replace kc := keep B kc; clear B; refine sg (.bool false) 4 rfl rfl rfl rfl ?_; simp only [zp]; refine st_end ?_; subst hQ; refine wq fun Q hQ => ?_; refine sv (.pointer (some ⟨b1, 0, none⟩)) 5 rfl rfl (ex_fa (p := (.pointer (some ⟨b1, 0, none⟩))) rfl rfl (fa49_0 _ _)) ?_; simp only [zp]; refine sv (.int .i64 x.by_) 6 rfl rfl (ex_load (p := (.pointer (some ⟨b1, 0, none⟩))) rfl rfl (ld3 (at_cell k1 hH.c0))) ?_; simp only [zp]
  refine sv (.int .i64 y) 7 rfl rfl (ex_load (p := (.pointer (some ⟨b, 0, none⟩))) rfl rfl (ld3 (at_cell kb rfl))) ?_; simp only [zp]; refine sv (.bool true) 8 rfl rfl (ex_bin (u := (.int .i64 x.by_)) (r := (.int .i64 y)) rfl rfl rfl (eg3 _ _ _ _ _ _) (eql3 _ (decide_eq_true c1))) ?_; simp only [zp]; refine sm (.bool true) 9 rfl rfl rfl rfl ?_; simp only [zp]; refine sv (.pointer (some ⟨b1, 1, none⟩)) 10 rfl rfl (ex_fa (p := (.pointer (some ⟨b1, 0, none⟩))) rfl rfl (fa49_1 _ _)) ?_; simp only [zp]
  refine sv (.int .i64 x.id) 11 rfl rfl (ex_load (p := (.pointer (some ⟨b1, 1, none⟩))) rfl rfl (ld3 (at_cell k1 hH.c1))) ?_; simp only [zp]; refine sv (.int .i64 d) 12 rfl rfl (ex_load (p := (.pointer (some ⟨c, 0, none⟩))) rfl rfl (ld3 (at_cell kc rfl))) ?_; simp only [zp]; refine sv (.bool true) 13 rfl rfl (ex_bin (u := (.int .i64 x.id)) (r := (.int .i64 d)) rfl rfl rfl (eg3 _ _ _ _ _ _) (eql3 _ (decide_eq_true c2))) ?_; simp only [zp]; refine sv (.bool true) 14 rfl rfl (ex_pkT rfl rfl rfl) ?_; simp only [zp]; refine sg (.bool true) 4 rfl rfl rfl rfl ?_; simp only [zp]
  refine st_end ?_; subst hQ; refine wp_ret ?_; refine bodyPost_ret (results_tmp Try.results45 _ _ _) rfl ⟨?_, E⟩; rw [decide_eq_true ⟨c1, c2⟩]
  rfl

def plI (y d : Int) (n : Nat) (hv : Nat → HV) : Int := idxP (fun i => isP y d (hv i)) n
theorem plI_ge (y d : Int) (n : Nat) (hv : Nat → HV) : -1 ≤ plI y d n hv ∧ plI y d n hv < n + 1 := by
  rcases idxP_cases (fun i => isP y d (hv i)) n with ⟨e, _⟩ | ⟨k, hk, e, _⟩
  · unfold plI; rw [e]; omega
  · unfold plI; rw [e]; omega
/-- which output it is -/
def plN (y d : Int) (n : Nat) (hv : Nat → HV) : Int := if plI y d n hv < 0 then 0 else 2 + plI y d n hv
def plB (y d : Int) (n : Nat) (hv : Nat → HV) : Bool := decide (¬ plI y d n hv < 0)
set_option maxHeartbeats 2000000 in
theorem place_any {x y by_ id : Int} {ao : Option Addr} {n c : Nat} {Cs : Nat → Array Value} {hv : Nat → HV} (w : World) (hH : Hs w ao n Cs hv) (hn : n ≤ 140737488355328) :
    Calls Try.prog 24 #[.agg #[.int .i64 x, .int .i64 y, .slice ao n c], .int .i64 by_, .int .i64 id] w fun e w' => e = .returned (.tuple #[.int .i64 (plN by_ id n hv), .bool (plB by_ id n hv)]) ∧ Below w.heap.size w w' := by
  have hge := plI_ge by_ id n hv
  unfold plN plB
  by_cases c1 : plI by_ id n hv < 0
  · skip
    have E : Below w.heap.size w w := Below.refl _ _
    go_enter Try.func24, Try.ntmps24; refine wq fun Q hQ => ?_; refine st_new (fun b => .pointer (some ⟨b, 0, none⟩)) (some 3) rfl rfl (ex_box rfl rfl) ?_; intro b1 W1 k1 g1 B; simp only [zp]; have ge_b1 := Nat.le_trans E.size g1; replace E := below_next E B; replace hH := hH.below B; clear B; refine st_new (fun b => .pointer (some ⟨b, 0, none⟩)) (some 4) rfl rfl (ex_box3 rfl rfl) ?_; intro b2 W2 k2 g2 B; simp only [zp]
    have ne_b2_b1 : b2 ≠ b1 := fun e => by have := lt_of k1; omega
    have ge_b2 := Nat.le_trans E.size g2; replace E := below_next E B; replace hH := hH.below B; replace k1 := keep B k1; clear B; refine st_new (fun b => .pointer (some ⟨b, 0, none⟩)) (some 5) rfl rfl (ex_box3 rfl rfl) ?_; intro b3 W3 k3 g3 B; simp only [zp]
    have ne_b3_b1 : b3 ≠ b1 := fun e => by have := lt_of k1; omega
    have ne_b3_b2 : b3 ≠ b2 := fun e => by have := lt_of k2; omega
    have ge_b3 := Nat.le_trans E.size g3; replace E := below_next E B; replace hH := hH.below B; replace k1 := keep B k1; replace k2 := keep B k2; clear B; refine sg (.int .i64 0) 6 rfl rfl rfl rfl ?_; simp only [zp]; refine sg (.bool false) 7 rfl rfl rfl rfl ?_; simp only [zp]; refine st_end ?_; subst hQ; refine wq fun Q hQ => ?_; refine sv (.pointer (some ⟨b1, 2, none⟩)) 9 rfl rfl (ex_fa (p := (.pointer (some ⟨b1, 0, none⟩))) rfl rfl (fa29_2 _ _)) ?_; simp only [zp]
    refine sv (.slice ao n c) 10 rfl rfl (ex_load (p := (.pointer (some ⟨b1, 2, none⟩))) rfl rfl (ld27 (at_cell k1 rfl))) ?_; simp only [zp]; refine sv (.func (.func 45) #[] #[(.pointer (some ⟨b2, 0, none⟩)), (.pointer (some ⟨b3, 0, none⟩))]) 11 rfl rfl (ex_mkf rfl rfl) ?_; simp only [zp]
    refine st_call (some 12) rfl rfl (idxH_any 45 #[.pointer (some ⟨b2, 0, none⟩), .pointer (some ⟨b3, 0, none⟩)] ao n c Cs hv (fun i => isP by_ id (hv i)) W3 hH hn cf45 (fun i hi W' hW' => isP_any W' (hH.ish hi) (keep hW' k2) (keep hW' k3))) (ex_call (f := 44) (vs := [(.slice ao n c), (.func (.func 45) #[] #[(.pointer (some ⟨b2, 0, none⟩)), (.pointer (some ⟨b3, 0, none⟩))])]) rfl (cf44 _) rfl) ?_; rintro e W4 ⟨rfl, B⟩; refine ⟨_, rfl, ?_⟩; simp only [zp]; replace E := below_next E B; replace hH := hH.below B; replace k1 := keep B k1; replace k2 := keep B k2; replace k3 := keep B k3
    refine sg (.int .i64 (plI by_ id n hv)) 8 rfl rfl rfl rfl ?_; simp only [zp]; refine st_end ?_; subst hQ; refine wp_seq ?_; refine wq fun Q hQ => ?_; refine sm (.int .i64 (plI by_ id n hv)) 13 rfl rfl rfl rfl ?_; simp only [zp]; refine sv (.bool true) 14 rfl rfl (ex_bin (u := (.int .i64 (plI by_ id n hv))) (r := (.int .i64 0)) rfl rfl rfl (eg3 _ _ _ _ _ _) (lss3 _ (decide_eq_true c1))) ?_; simp only [zp]; refine st_end ?_; subst hQ; refine wp_cond_true rfl ?_; refine wq fun Q hQ => ?_; refine sg (.int .i64 0) 6 rfl rfl rfl rfl ?_; simp only [zp]
    refine sg (.bool false) 7 rfl rfl rfl rfl ?_; simp only [zp]; refine st_end ?_; subst hQ; refine wp_ret ?_; refine ret_out ?_; refine bodyPost_ret (results_tmp2 Try.results24 _ _ _) rfl ⟨?_, E⟩; rw [if_pos c1, decide_eq_false (fun h => h c1)]
    rfl
  · skip
    have E : Below w.heap.size w w := Below.refl _ _
    go_enter Try.func24, Try.ntmps24; refine wq fun Q hQ => ?_; refine st_new (fun b => .pointer (some ⟨b, 0, none⟩)) (some 3) rfl rfl (ex_box rfl rfl) ?_; intro b1 W1 k1 g1 B; simp only [zp]; have ge_b1 := Nat.le_trans E.size g1; replace E := below_next E B; replace hH := hH.below B; clear B; refine st_new (fun b => .pointer (some ⟨b, 0, none⟩)) (some 4) rfl rfl (ex_box3 rfl rfl) ?_; intro b2 W2 k2 g2 B; simp only [zp]
    have ne_b2_b1 : b2 ≠ b1 := fun e => by have := lt_of k1; omega
    have ge_b2 := Nat.le_trans E.size g2; replace E := below_next E B; replace hH := hH.below B; replace k1 := keep B k1; clear B; refine st_new (fun b => .pointer (some ⟨b, 0, none⟩)) (some 5) rfl rfl (ex_box3 rfl rfl) ?_; intro b3 W3 k3 g3 B; simp only [zp]
    have ne_b3_b1 : b3 ≠ b1 := fun e => by have := lt_of k1; omega
    have ne_b3_b2 : b3 ≠ b2 := fun e => by have := lt_of k2; omega
    have ge_b3 := Nat.le_trans E.size g3; replace E := below_next E B; replace hH := hH.below B; replace k1 := keep B k1; replace k2 := keep B k2; clear B; refine sg (.int .i64 0) 6 rfl rfl rfl rfl ?_; simp only [zp]; refine sg (.bool false) 7 rfl rfl rfl rfl ?_; simp only [zp]; refine st_end ?_; subst hQ; refine wq fun Q hQ => ?_; refine sv (.pointer (some ⟨b1, 2, none⟩)) 9 rfl rfl (ex_fa (p := (.pointer (some ⟨b1, 0, none⟩))) rfl rfl (fa29_2 _ _)) ?_; simp only [zp]
    refine sv (.slice ao n c) 10 rfl rfl (ex_load (p := (.pointer (some ⟨b1, 2, none⟩))) rfl rfl (ld27 (at_cell k1 rfl))) ?_; simp only [zp]; refine sv (.func (.func 45) #[] #[(.pointer (some ⟨b2, 0, none⟩)), (.pointer (some ⟨b3, 0, none⟩))]) 11 rfl rfl (ex_mkf rfl rfl) ?_; simp only [zp]
    refine st_call (some 12) rfl rfl (idxH_any 45 #[.pointer (some ⟨b2, 0, none⟩), .pointer (some ⟨b3, 0, none⟩)] ao n c Cs hv (fun i => isP by_ id (hv i)) W3 hH hn cf45 (fun i hi W' hW' => isP_any W' (hH.ish hi) (keep hW' k2) (keep hW' k3))) (ex_call (f := 44) (vs := [(.slice ao n c), (.func (.func 45) #[] #[(.pointer (some ⟨b2, 0, none⟩)), (.pointer (some ⟨b3, 0, none⟩))])]) rfl (cf44 _) rfl) ?_; rintro e W4 ⟨rfl, B⟩; refine ⟨_, rfl, ?_⟩; simp only [zp]; replace E := below_next E B; replace hH := hH.below B; replace k1 := keep B k1; replace k2 := keep B k2; replace k3 := keep B k3
    refine sg (.int .i64 (plI by_ id n hv)) 8 rfl rfl rfl rfl ?_; simp only [zp]; refine st_end ?_; subst hQ; refine wp_seq ?_; refine wq fun Q hQ => ?_; refine sm (.int .i64 (plI by_ id n hv)) 13 rfl rfl rfl rfl ?_; simp only [zp]; refine sv (.bool false) 14 rfl rfl (ex_bin (u := (.int .i64 (plI by_ id n hv))) (r := (.int .i64 0)) rfl rfl rfl (eg3 _ _ _ _ _ _) (lss3 _ (decide_eq_false c1))) ?_; simp only [zp]; refine st_end ?_; subst hQ; refine wp_cond_false rfl ?_; refine wp_skip ?_; refine wq fun Q hQ => ?_; refine sm (.int .i64 (plI by_ id n hv)) 15 rfl rfl rfl rfl ?_; simp only [zp]
    refine sv (.int .i64 (2 + plI by_ id n hv)) 16 rfl rfl (ex_bin rfl rfl rfl (eg3 _ _ _ _ _ _) (add3 _ rfl (by omega))) ?_; simp only [zp]; refine sg (.int .i64 (2 + plI by_ id n hv)) 6 rfl rfl rfl rfl ?_; simp only [zp]; refine sg (.bool true) 7 rfl rfl rfl rfl ?_; simp only [zp]; refine st_end ?_; subst hQ; refine wp_ret ?_; refine bodyPost_ret (results_tmp2 Try.results24 _ _ _) rfl ⟨?_, E⟩; rw [if_neg c1, decide_eq_true c1]
    rfl

end Go.Proofs.Ytkhpbjafdamhaaa
