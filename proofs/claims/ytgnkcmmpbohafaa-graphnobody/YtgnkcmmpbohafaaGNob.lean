/- A range over a function that goes over nothing; a nil graph: the walk. -/
import Derived.RangeFuncFrom
import Derived.RangeFuncLeaves
import Derived.RangeFuncCalls
import Derived.Test.YtgnkcmmpbohafaaGNil
namespace Go.Proofs.Ytgnkcmmpbohafaa
open Go.RowKit
set_option linter.unusedVariables false
set_option linter.unusedSimpArgs false
set_option maxRecDepth 100000

theorem wp_range_none {g : Operand} {ps : Array Tmp} {assign body : Code} {Q : Exit → Act → World → Prop} {a : Act} {w : World} {gf : Nat} {lb : Array Value} (hg : a.eval g = .func (.func gf) #[] lb) (eg : ∀ args w, (callFunc gf args).run Try.prog w = .ok (.enter gf args) w)
    (hseq : ∀ (l : Nat) (W : World), Below w.heap.size w W → Calls Try.prog gf (#[.func (.yield l) #[] #[]] ++ lb) W fun e W' => (∃ v, e = .returned v) ∧ Below W.heap.size W W')
    (hdone : ∀ (D : Nat) (W : World), w.heap.size ≤ D → Below w.heap.size w W → W.heap[D]? = some (.deferred (some [])) → Q .normal { a with defers := { target := .collected D, args := #[] } :: a.defers } W) : (Code.rangeFunc g ps assign body).wp Try.prog Q a w := by
  refine (wpIn_wide (n := 3)).1 ?_
  refine wpIn_rangeFunc_ownF (F := Fence.wide) (α := Empty) (encs := fun x => x.elim) (Kp := Below w.heap.size) (S := fun _ => True) (Sp := fun _ => False) (N := 0) (w0 := w) rfl (by decide) hg trivial eg ?seq belowK_t (belowK_b (Nat.le_refl _)) (Below.refl _ _) (fun x => x.elim) (fun _ W => Below w.heap.size w W) (fun _ _ _ => False) (ownFrom_below (Nat.le_refl _) (Nat.le_refl _)) (fun _ _ _ _ _ hs _ _ => hs) (Below.refl _ _) (fun x => x.elim) (fun l x => x.elim) (fun l pre x => x.elim) ?done ?stop
  case seq =>
    intro l J Jx W hW hJ hJx hY h0
    exact callsIn_wide.2 ((hseq l W hW).mono fun e W' hh => ⟨hh.1, .inl ⟨[], trivial, hJ [] W W' none h0 ⟨hh.2.os, hh.2.tape, hh.2.output, hh.2.size, fun k hk _ => hh.2.block k hk⟩ (fun r e => by cases e)⟩⟩)
  case done => exact fun D xs W hD _ hI hK => hdone D W hD hI hK
  case stop => exact fun D c pre W hD h => h.elim
theorem ldp {W : World} {b o : Nat} {p : Option Addr} (h : W.cell? ⟨b, o, none⟩ = some (.pointer p)) : (Instr.loadAt 23 (.pointer (some ⟨b, o, none⟩))).run Try.prog W = .ok (.pointer p) W := by go_simp
set_option maxHeartbeats 8000000 in
theorem fr1_nil {l c1 c2 : Nat} {x : Int} (w : World) (k1 : w.heap[c1]? = some (.cells #[.pointer none] 23)) (k2 : w.heap[c2]? = some (.cells #[.int .i64 x] 3)) : Calls Try.prog 59 #[.func (.yield l) #[] #[], .pointer (some ⟨c1, 0, none⟩), .pointer (some ⟨c2, 0, none⟩)] w fun e w' => (∃ v, e = .returned v) ∧ Below w.heap.size w w' := by
  have E : Below w.heap.size w w := Below.refl _ _
  go_enter Try.func59, Try.ntmps59
  refine wq fun Q hQ => ?_
  refine sv (.pointer none) 6 rfl rfl (ex_load (p := (.pointer (some ⟨c1, 0, none⟩))) rfl rfl (ld23 (at_cell k1 rfl))) ?_
  simp only [zp]
  refine sv (.int .i64 x) 7 rfl rfl (ex_load (p := (.pointer (some ⟨c2, 0, none⟩))) rfl rfl (ld3 (at_cell k2 rfl))) ?_
  simp only [zp]
  refine st_call (some 8) rfl rfl (frm_nil w) (ex_call (f := 60) (vs := [(.pointer none), (.int .i64 x)]) rfl (cf60 _) rfl) ?_
  rintro e W1 ⟨rfl, B⟩
  refine ⟨_, rfl, ?_⟩
  simp only [zp]
  replace E := below_next E B
  replace k1 := keep B k1
  replace k2 := keep B k2
  refine sv (.int .i64 (0 : Nat)) 9 rfl rfl (ex_len rfl rfl (len33 _ _ _ _ _)) ?_
  simp only [zp]
  refine sm (.int .i64 0) 10 rfl rfl rfl rfl ?_
  simp only [zp]
  refine st_end ?_
  subst hQ
  refine wp_block ?_
  go_loopw [10] (fun v10 wr => v10 = .int .i64 0 ∧ Below w.heap.size w wr) (fun _ _ => 0)
  case atStart => exact ⟨rfl, E⟩
  case round =>
    clear E
    obtain ⟨rfl, E⟩ := hrel
    refine wq fun Q hQ => ?_
    refine sv (.bool false) 11 rfl rfl (ex_bin (u := (.int .i64 0)) (r := (.int .i64 (0 : Nat))) rfl rfl rfl (eg3 _ _ _ _ _ _) (lss3 _ (decide_eq_false (by simp)))) ?_
    simp only [zp]
    refine st_end ?_
    subst hQ
    refine wp_seq ?_
    refine wp_cond_false rfl ?_
    refine wp_exit ?_
    refine ex_then ?_
    refine ex_then ?_
    refine ex_blk ?_
    exact bodyPost_end (results_none Try.results59 _ _ _) rfl ⟨⟨_, rfl⟩, E⟩
/-- a call, as numbers; as cells -/
structure OV where
  kd : Int
  e : EV
  n : Int
  ti : Int
  gd : Bool
def OL (p : OV) : Array Value := #[.int .i64 p.kd, .int .i64 p.e.ch, .int .i64 p.e.fr, .int .i64 p.e.to, .int .i64 p.e.cap, .int .i64 p.e.q.b, .int .i64 p.e.q.r, .int .i64 p.e.q.d, .int .i64 p.e.q.g, .int .i64 p.e.q.f, .int .i64 p.e.p.good, .int .i64 p.e.p.gat, .int .i64 p.e.p.bad, .int .i64 p.e.p.bat, .int .i64 p.n, .int .i64 p.ti, .bool p.gd]
theorem ldOE {W : World} {bl : Nat} {p : OV} (k : W.heap[bl]? = some (.cells (OL p) 60)) : (Instr.loadAt 49 (.pointer (some ⟨bl, 1, none⟩))).run Try.prog W = .ok (.agg (EL p.e)) W := ld_part (o := 1) (n := 13) k (by show 1 + 13 ≤ _; simp [OL]) Try.underlying49 rfl inf49
theorem res_b {fn : Func} {p : Tmp} {g : Nat} {b : Bool} (h : fn.results = #[.cell p 4]) (tmps : Array Value) (w : World) (hp : tmps.getD p undef = .pointer (some ⟨g, 0, none⟩)) (hg : w.cell? ⟨g, 0, none⟩ = some (.bool b)) : (results fn tmps).run Try.prog w = .ok (.bool b) w := by
  have hp' : tmps[p]?.getD undef = .pointer (some ⟨g, 0, none⟩) := by simpa using hp
  have hl : (loadVar 4 ⟨g, 0, none⟩).run Try.prog w = .ok (.bool b) w := by
    have := ld4 hg
    simpa [Instr.loadAt, Instr.sureAddr] using this
  simp [results, h, hp', asAddr, hl]
section
variable {o : Oper} {a : Act} {W : World}
theorem ex_allocb (ho : o.op = .alloc 4) : (execOp a.eval o).run Try.prog W = .ok (.value (.pointer (some ⟨W.heap.size, 0, none⟩))) (W.alloc (.cells #[.bool false] 4)) := by
  unfold execOp
  simp only [ho]
  go_simp
end
set_option maxHeartbeats 16000000 in
theorem nobody_any {p : OV} {v : WV} {ao : Option Addr} {nw cw : Nat} (w : World) : Calls Try.prog 6 #[.agg (OL p), .agg (WL_ v ao nw cw)] w fun e w' => e = .returned (.bool true) ∧ Below w.heap.size w w' := by
  refine (callsIn_wide (n := 3)).1 (callsIn_of_wp_marks Try.func6 rfl trivial (wpIn_wide.2 ?_) rfl)
  have E : Below w.heap.size w w := Below.refl _ _
  simp only [Try.ntmps6, List.size_toArray, List.length_cons, List.length_nil, Nat.reduceAdd, Nat.reduceSub, Array.replicate_succ, Array.replicate_zero, List.push_toArray, List.append_toArray, List.nil_append, List.cons_append]
  refine wq fun Q hQ => ?_
  refine st_new (fun b => .pointer (some ⟨b, 0, none⟩)) (some 2) rfl rfl (ex_box rfl rfl) ?_
  intro b21 W1 k21 g21 B
  simp only [zp]
  have ge_b21 := Nat.le_trans E.size g21
  replace E := below_next E B
  clear B
  refine st_new (fun b => .pointer (some ⟨b, 0, none⟩)) (some 3) rfl rfl (ex_box rfl rfl) ?_
  intro b22 W2 k22 g22 B
  simp only [zp]
  have ne_b22_b21 : b22 ≠ b21 := fun e => by have := lt_of k21; omega
  have ge_b22 := Nat.le_trans E.size g22
  replace E := below_next E B
  replace k21 := keep B k21
  clear B
  refine st_new (fun b => .pointer (some ⟨b, 0, none⟩)) (some 4) rfl rfl (ex_allocb rfl) ?_
  intro b23 W3 k23 g23 B
  simp only [zp]
  have ne_b23_b21 : b23 ≠ b21 := fun e => by have := lt_of k21; omega
  have ne_b23_b22 : b23 ≠ b22 := fun e => by have := lt_of k22; omega
  have ge_b23 := Nat.le_trans E.size g23
  replace E := below_next E B
  replace k21 := keep B k21
  replace k22 := keep B k22
  clear B
  refine st_end ?_
  subst hQ
  refine wq fun Q hQ => ?_
  refine sg (.pointer none) 5 rfl rfl rfl rfl ?_
  simp only [zp]
  refine st_end ?_
  subst hQ
  refine wq fun Q hQ => ?_
  refine sm (.pointer none) 11 rfl rfl rfl rfl ?_
  simp only [zp]
  refine sv (.pointer (some ⟨b22, 0, none⟩)) 12 rfl rfl (ex_fa (p := (.pointer (some ⟨b22, 0, none⟩))) rfl rfl (fa32_0 _ _)) ?_
  simp only [zp]
  refine sv (.int .i64 v.fr) 13 rfl rfl (ex_load (p := (.pointer (some ⟨b22, 0, none⟩))) rfl rfl (ld3 (at_cell k22 rfl))) ?_
  simp only [zp]
  refine st_call (some 14) rfl rfl (from_seq W3) (ex_call (f := 19) (vs := [(.pointer none), (.int .i64 v.fr)]) rfl (cf19 _) rfl) ?_
  rintro e W4 ⟨c1, c2, rfl, gc1, gc2, kc1, kc2, B⟩
  refine ⟨_, rfl, ?_⟩
  simp only [zp]
  replace E := below_next E B
  replace k21 := keep B k21
  replace k22 := keep B k22
  replace k23 := keep B k23
  refine sg (.func (.func 59) #[] #[(.pointer (some ⟨c1, 0, none⟩)), (.pointer (some ⟨c2, 0, none⟩))]) 6 rfl rfl rfl rfl ?_
  simp only [zp]
  refine st_end ?_
  subst hQ
  refine wp_seq ?_
  refine wq fun Q hQ => ?_
  refine st_call (some 15) rfl rfl (lives_any W4) (ex_call (f := 10) (vs := []) rfl (cf10 _) rfl) ?_
  rintro e W5 ⟨rfl, B⟩
  refine ⟨_, rfl, ?_⟩
  simp only [zp]
  replace E := below_next E B
  replace k21 := keep B k21
  replace k22 := keep B k22
  replace k23 := keep B k23
  replace kc1 := keep B kc1
  replace kc2 := keep B kc2
  refine sv (.bool false) 16 rfl rfl (ex_not rfl rfl rfl) ?_
  simp only [zp]
  refine sm (.bool false) 17 rfl rfl rfl rfl ?_
  simp only [zp]
  refine sm (.func (.func 59) #[] #[(.pointer (some ⟨c1, 0, none⟩)), (.pointer (some ⟨c2, 0, none⟩))]) 18 rfl rfl rfl rfl ?_
  simp only [zp]
  refine sv (.bool false) 19 rfl rfl (ex_fnil rfl rfl rfl) ?_
  simp only [zp]
  refine sv (.bool false) 20 rfl rfl (ex_pkF rfl rfl rfl) ?_
  simp only [zp]
  refine st_end ?_
  subst hQ
  refine wp_cond_false rfl ?_
  refine wp_skip ?_
  refine wp_seq ?_
  refine wq fun Q hQ => ?_
  refine sm (.func (.func 59) #[] #[(.pointer (some ⟨c1, 0, none⟩)), (.pointer (some ⟨c2, 0, none⟩))]) 21 rfl rfl rfl rfl ?_
  simp only [zp]
  refine st_end ?_
  subst hQ
  refine wp_block ?_
  refine wp_range_none rfl (fun args w => cf59 w args) (fun l W hW => fr1_nil W (keep hW kc1) (keep hW kc2)) ?_
  intro D W99 hD B hK
  replace hD : w.heap.size ≤ D := Nat.le_trans E.size hD
  replace E := below_next E B
  replace k21 := keep B k21
  replace k22 := keep B k22
  replace k23 := keep B k23
  replace kc1 := keep B kc1
  replace kc2 := keep B kc2
  clear B
  refine wq fun Q hQ => ?_
  refine sm (.pointer none) 24 rfl rfl rfl rfl ?_
  simp only [zp]
  refine sv (.agg (WL_ v ao nw cw)) 25 rfl rfl (ex_load (p := (.pointer (some ⟨b22, 0, none⟩))) rfl rfl (ld_all k22 Try.underlying32 rfl inf32)) ?_
  simp only [zp]
  refine st_call (some 26) rfl rfl (find_nil W99) (ex_call (f := 12) (vs := [(.pointer none), (.agg (WL_ v ao nw cw))]) rfl (cf12 _) rfl) ?_
  rintro e W6 ⟨rfl, B⟩
  refine ⟨_, rfl, ?_⟩
  simp only [zp]
  replace hK := keep B hK
  replace E := below_next E B
  replace k21 := keep B k21
  replace k22 := keep B k22
  replace k23 := keep B k23
  replace kc1 := keep B kc1
  replace kc2 := keep B kc2
  refine sm (.tuple #[(.agg #[.slice none 0 0, .slice none 0 0, .slice none 0 0, .int .i64 0, .float .f64 0]), (.int .i64 6)]) 23 rfl rfl rfl rfl ?_
  simp only [zp]
  refine sv (.agg #[.slice none 0 0, .slice none 0 0, .slice none 0 0, .int .i64 0, .float .f64 0]) 27 rfl rfl (ex_ext rfl rfl rfl) ?_
  simp only [zp]
  refine sv (.int .i64 6) 28 rfl rfl (ex_ext rfl rfl rfl) ?_
  simp only [zp]
  refine st_new (fun b => .pointer (some ⟨b, 0, none⟩)) (some 7) rfl rfl (ex_alloc rfl zero36) ?_
  intro b24 W7 k24 g24 B
  simp only [zp]
  have ne_b24_b21 : b24 ≠ b21 := fun e => by have := lt_of k21; omega
  have ne_b24_b22 : b24 ≠ b22 := fun e => by have := lt_of k22; omega
  have ne_b24_b23 : b24 ≠ b23 := fun e => by have := lt_of k23; omega
  have ne_b24_c1 : b24 ≠ c1 := fun e => by have := lt_of kc1; omega
  have ne_b24_c2 : b24 ≠ c2 := fun e => by have := lt_of kc2; omega
  have ge_b24 := Nat.le_trans E.size g24
  replace hK := keep B hK
  replace E := below_next E B
  replace k21 := keep B k21
  replace k22 := keep B k22
  replace k23 := keep B k23
  replace kc1 := keep B kc1
  replace kc2 := keep B kc2
  clear B
  obtain ⟨W8, hst, kn, K⟩ := put_all (D := #[.slice none 0 0, .slice none 0 0, .slice none 0 0, .int .i64 0, .float .f64 0]) k24 rfl inf36 (by kernel_rfl)
  refine st_sk rfl rfl (ex_store rfl rfl rfl hst) ?_
  replace hK := keepK K hK (fun e => by have q := k24; rw [← e, hK] at q; cases q)
  replace E := below_put E ge_b24 K
  replace k21 := keepK K k21 (fun e => ne_tag k21 k24 (by decide) e)
  replace k22 := keepK K k22 (fun e => ne_tag k22 k24 (by decide) e)
  replace k23 := keepK K k23 (fun e => ne_tag k23 k24 (by decide) e)
  replace kc1 := keepK K kc1 (fun e => ne_tag kc1 k24 (by decide) e)
  replace kc2 := keepK K kc2 (fun e => ne_tag kc2 k24 (by decide) e)
  replace k24 := kn
  clear kn K hst
  refine sg (.int .i64 6) 8 rfl rfl rfl rfl ?_
  simp only [zp]
  refine st_end ?_
  subst hQ
  refine wq fun Q hQ => ?_
  refine sm (.pointer none) 30 rfl rfl rfl rfl ?_
  simp only [zp]
  refine sv (.pointer (some ⟨b21, 1, none⟩)) 31 rfl rfl (ex_fa (p := (.pointer (some ⟨b21, 0, none⟩))) rfl rfl (fa60_1 _ _)) ?_
  simp only [zp]
  refine sv (.pointer (some ⟨b21, 1, none⟩)) 32 rfl rfl (ex_fa (p := (.pointer (some ⟨b21, 1, none⟩))) rfl rfl (fg49_0 _ _ _)) ?_
  simp only [zp]
  refine sv (.int .i64 p.e.ch) 33 rfl rfl (ex_load (p := (.pointer (some ⟨b21, 1, none⟩))) rfl rfl (ld3 (at_cell k21 rfl))) ?_
  simp only [zp]
  refine sv (.pointer (some ⟨b21, 1, none⟩)) 34 rfl rfl (ex_fa (p := (.pointer (some ⟨b21, 0, none⟩))) rfl rfl (fa60_1 _ _)) ?_
  simp only [zp]
  refine sv (.pointer (some ⟨b21, 2, none⟩)) 35 rfl rfl (ex_fa (p := (.pointer (some ⟨b21, 1, none⟩))) rfl rfl (fg49_1 _ _ _)) ?_
  simp only [zp]
  refine sv (.int .i64 p.e.fr) 36 rfl rfl (ex_load (p := (.pointer (some ⟨b21, 2, none⟩))) rfl rfl (ld3 (at_cell k21 rfl))) ?_
  simp only [zp]
  refine st_call (some 37) rfl rfl (get_nil W8) (ex_call (f := 20) (vs := [(.pointer none), (.int .i64 p.e.ch), (.int .i64 p.e.fr)]) rfl (cf20 _) rfl) ?_
  rintro e W9 ⟨rfl, B⟩
  refine ⟨_, rfl, ?_⟩
  simp only [zp]
  replace hK := keep B hK
  replace E := below_next E B
  replace k21 := keep B k21
  replace k22 := keep B k22
  replace k23 := keep B k23
  replace kc1 := keep B kc1
  replace kc2 := keep B kc2
  replace k24 := keep B k24
  refine sm (.tuple #[(.agg #[.int .i64 0, .int .i64 0, .int .i64 0, .int .i64 0, .int .i64 0, .int .i64 0, .int .i64 0, .int .i64 0, .int .i64 0, .int .i64 0, .int .i64 0, .int .i64 0, .int .i64 0]), (.bool false)]) 29 rfl rfl rfl rfl ?_
  simp only [zp]
  refine sv (.agg #[.int .i64 0, .int .i64 0, .int .i64 0, .int .i64 0, .int .i64 0, .int .i64 0, .int .i64 0, .int .i64 0, .int .i64 0, .int .i64 0, .int .i64 0, .int .i64 0, .int .i64 0]) 38 rfl rfl (ex_ext rfl rfl rfl) ?_
  simp only [zp]
  refine sv (.bool false) 39 rfl rfl (ex_ext rfl rfl rfl) ?_
  simp only [zp]
  refine st_new (fun b => .pointer (some ⟨b, 0, none⟩)) (some 9) rfl rfl (ex_alloc rfl zero49) ?_
  intro b25 W10 k25 g25 B
  simp only [zp]
  have ne_b25_b21 : b25 ≠ b21 := fun e => by have := lt_of k21; omega
  have ne_b25_b22 : b25 ≠ b22 := fun e => by have := lt_of k22; omega
  have ne_b25_b23 : b25 ≠ b23 := fun e => by have := lt_of k23; omega
  have ne_b25_c1 : b25 ≠ c1 := fun e => by have := lt_of kc1; omega
  have ne_b25_c2 : b25 ≠ c2 := fun e => by have := lt_of kc2; omega
  have ne_b25_b24 : b25 ≠ b24 := fun e => by have := lt_of k24; omega
  have ge_b25 := Nat.le_trans E.size g25
  replace hK := keep B hK
  replace E := below_next E B
  replace k21 := keep B k21
  replace k22 := keep B k22
  replace k23 := keep B k23
  replace kc1 := keep B kc1
  replace kc2 := keep B kc2
  replace k24 := keep B k24
  clear B
  obtain ⟨W11, hst, kn, K⟩ := put_all (D := #[.int .i64 0, .int .i64 0, .int .i64 0, .int .i64 0, .int .i64 0, .int .i64 0, .int .i64 0, .int .i64 0, .int .i64 0, .int .i64 0, .int .i64 0, .int .i64 0, .int .i64 0]) k25 rfl inf49 (by kernel_rfl)
  refine st_sk rfl rfl (ex_store rfl rfl rfl hst) ?_
  replace hK := keepK K hK (fun e => by have q := k25; rw [← e, hK] at q; cases q)
  replace E := below_put E ge_b25 K
  replace k21 := keepK K k21 (fun e => ne_tag k21 k25 (by decide) e)
  replace k22 := keepK K k22 (fun e => ne_tag k22 k25 (by decide) e)
  replace k23 := keepK K k23 (fun e => ne_tag k23 k25 (by decide) e)
  replace kc1 := keepK K kc1 (fun e => ne_tag kc1 k25 (by decide) e)
  replace kc2 := keepK K kc2 (fun e => ne_tag kc2 k25 (by decide) e)
  replace k24 := keepK K k24 (fun e => ne_tag k24 k25 (by decide) e)
  replace k25 := kn
  clear kn K hst
  refine sg (.bool false) 10 rfl rfl rfl rfl ?_
  simp only [zp]
  refine st_end ?_
  subst hQ
  refine wq fun Q hQ => ?_
  refine sv (.pointer (some ⟨b24, 0, none⟩)) 40 rfl rfl (ex_fa (p := (.pointer (some ⟨b24, 0, none⟩))) rfl rfl (fa36_0 _ _)) ?_
  simp only [zp]
  refine sv (.slice none 0 0) 41 rfl rfl (ex_load (p := (.pointer (some ⟨b24, 0, none⟩))) rfl rfl (ld33 (at_cell k24 rfl))) ?_
  simp only [zp]
  refine sv (.int .i64 (0 : Nat)) 42 rfl rfl (ex_len rfl rfl (len33 _ _ _ _ _)) ?_
  simp only [zp]
  refine sv (.bool true) 43 rfl rfl (ex_bin (u := (.int .i64 (0 : Nat))) (r := (.int .i64 0)) rfl rfl rfl (eg3 _ _ _ _ _ _) (eql3 _ (decide_eq_true (by simp)))) ?_
  simp only [zp]
  refine sm (.bool true) 44 rfl rfl rfl rfl ?_
  simp only [zp]
  refine sm (.int .i64 6) 45 rfl rfl rfl rfl ?_
  simp only [zp]
  refine sv (.bool true) 46 rfl rfl (ex_bin (u := (.int .i64 6)) (r := (.int .i64 6)) rfl rfl rfl (eg37 _ _ _ _ _ _) (eql37 _ (by decide))) ?_
  simp only [zp]
  refine sv (.bool true) 47 rfl rfl (ex_pkT rfl rfl rfl) ?_
  simp only [zp]
  refine sm (.bool true) 48 rfl rfl rfl rfl ?_
  simp only [zp]
  refine sm (.bool false) 49 rfl rfl rfl rfl ?_
  simp only [zp]
  refine sv (.bool true) 50 rfl rfl (ex_not rfl rfl rfl) ?_
  simp only [zp]
  refine sv (.bool true) 51 rfl rfl (ex_pkT rfl rfl rfl) ?_
  simp only [zp]
  refine sm (.bool true) 52 rfl rfl rfl rfl ?_
  simp only [zp]
  refine sm (.pointer none) 53 rfl rfl rfl rfl ?_
  simp only [zp]
  refine sv (.pointer (some ⟨b21, 1, none⟩)) 54 rfl rfl (ex_fa (p := (.pointer (some ⟨b21, 0, none⟩))) rfl rfl (fa60_1 _ _)) ?_
  simp only [zp]
  refine sv (.agg (EL p.e)) 55 rfl rfl (ex_load (p := (.pointer (some ⟨b21, 1, none⟩))) rfl rfl (ldOE k21)) ?_
  simp only [zp]
  refine st_call (some 56) rfl rfl (set_nil W11) (ex_call (f := 21) (vs := [(.pointer none), (.agg (EL p.e))]) rfl (cf21 _) rfl) ?_
  rintro e W12 ⟨rfl, B⟩
  refine ⟨_, rfl, ?_⟩
  simp only [zp]
  replace hK := keep B hK
  replace E := below_next E B
  replace k21 := keep B k21
  replace k22 := keep B k22
  replace k23 := keep B k23
  replace kc1 := keep B kc1
  replace kc2 := keep B kc2
  replace k24 := keep B k24
  replace k25 := keep B k25
  refine sv (.bool true) 57 rfl rfl (ex_bin (u := (.int .i64 6)) (r := (.int .i64 6)) rfl rfl rfl (eg37 _ _ _ _ _ _) (eql37 _ (by decide))) ?_
  simp only [zp]
  refine sv (.bool true) 58 rfl rfl (ex_pkT rfl rfl rfl) ?_
  simp only [zp]
  refine sm (.bool true) 59 rfl rfl rfl rfl ?_
  simp only [zp]
  refine sm (.pointer none) 60 rfl rfl rfl rfl ?_
  simp only [zp]
  refine sv (.pointer (some ⟨b21, 14, none⟩)) 61 rfl rfl (ex_fa (p := (.pointer (some ⟨b21, 0, none⟩))) rfl rfl (fa60_2 _ _)) ?_
  simp only [zp]
  refine sv (.int .i64 p.n) 62 rfl rfl (ex_load (p := (.pointer (some ⟨b21, 14, none⟩))) rfl rfl (ld3 (at_cell k21 rfl))) ?_
  simp only [zp]
  refine sv (.pointer (some ⟨b21, 15, none⟩)) 63 rfl rfl (ex_fa (p := (.pointer (some ⟨b21, 0, none⟩))) rfl rfl (fa60_3 _ _)) ?_
  simp only [zp]
  refine sv (.int .i64 p.ti) 64 rfl rfl (ex_load (p := (.pointer (some ⟨b21, 15, none⟩))) rfl rfl (ld3 (at_cell k21 rfl))) ?_
  simp only [zp]
  refine st_call (some 65) rfl rfl (rem_nil W12) (ex_call (f := 22) (vs := [(.pointer none), (.int .i64 p.n), (.int .i64 p.ti)]) rfl (cf22 _) rfl) ?_
  rintro e W13 ⟨rfl, B⟩
  refine ⟨_, rfl, ?_⟩
  simp only [zp]
  replace hK := keep B hK
  replace E := below_next E B
  replace k21 := keep B k21
  replace k22 := keep B k22
  replace k23 := keep B k23
  replace kc1 := keep B kc1
  replace kc2 := keep B kc2
  replace k24 := keep B k24
  replace k25 := keep B k25
  refine sv (.bool true) 66 rfl rfl (ex_bin (u := (.int .i64 6)) (r := (.int .i64 6)) rfl rfl rfl (eg37 _ _ _ _ _ _) (eql37 _ (by decide))) ?_
  simp only [zp]
  refine sv (.bool true) 67 rfl rfl (ex_pkT rfl rfl rfl) ?_
  simp only [zp]
  refine sm (.bool true) 68 rfl rfl rfl rfl ?_
  simp only [zp]
  refine sm (.pointer none) 69 rfl rfl rfl rfl ?_
  simp only [zp]
  refine sv (.pointer (some ⟨b21, 14, none⟩)) 70 rfl rfl (ex_fa (p := (.pointer (some ⟨b21, 0, none⟩))) rfl rfl (fa60_2 _ _)) ?_
  simp only [zp]
  refine sv (.int .i64 p.n) 71 rfl rfl (ex_load (p := (.pointer (some ⟨b21, 14, none⟩))) rfl rfl (ld3 (at_cell k21 rfl))) ?_
  simp only [zp]
  refine sv (.pointer (some ⟨b21, 15, none⟩)) 72 rfl rfl (ex_fa (p := (.pointer (some ⟨b21, 0, none⟩))) rfl rfl (fa60_3 _ _)) ?_
  simp only [zp]
  refine sv (.int .i64 p.ti) 73 rfl rfl (ex_load (p := (.pointer (some ⟨b21, 15, none⟩))) rfl rfl (ld3 (at_cell k21 rfl))) ?_
  simp only [zp]
  refine sv (.pointer (some ⟨b21, 16, none⟩)) 74 rfl rfl (ex_fa (p := (.pointer (some ⟨b21, 0, none⟩))) rfl rfl (fa60_4 _ _)) ?_
  simp only [zp]
  refine sv (.bool p.gd) 75 rfl rfl (ex_load (p := (.pointer (some ⟨b21, 16, none⟩))) rfl rfl (ld4 (at_cell k21 rfl))) ?_
  simp only [zp]
  refine st_call (some 76) rfl rfl (lrn_nil W13) (ex_call (f := 23) (vs := [(.pointer none), (.int .i64 p.n), (.int .i64 p.ti), (.int .i64 1), (.int .i64 1), (.bool p.gd)]) rfl (cf23 _) rfl) ?_
  rintro e W14 ⟨rfl, B⟩
  refine ⟨_, rfl, ?_⟩
  simp only [zp]
  replace hK := keep B hK
  replace E := below_next E B
  replace k21 := keep B k21
  replace k22 := keep B k22
  replace k23 := keep B k23
  replace kc1 := keep B kc1
  replace kc2 := keep B kc2
  replace k24 := keep B k24
  replace k25 := keep B k25
  refine sv (.bool true) 77 rfl rfl (ex_bin (u := (.int .i64 6)) (r := (.int .i64 6)) rfl rfl rfl (eg37 _ _ _ _ _ _) (eql37 _ (by decide))) ?_
  simp only [zp]
  refine sv (.bool true) 78 rfl rfl (ex_pkT rfl rfl rfl) ?_
  simp only [zp]
  refine sm (.bool true) 79 rfl rfl rfl rfl ?_
  simp only [zp]
  refine sm (.pointer none) 80 rfl rfl rfl rfl ?_
  simp only [zp]
  refine st_call (some 81) rfl rfl (len_nil W14) (ex_call (f := 24) (vs := [(.pointer none)]) rfl (cf24 _) rfl) ?_
  rintro e W15 ⟨rfl, B⟩
  refine ⟨_, rfl, ?_⟩
  simp only [zp]
  replace hK := keep B hK
  replace E := below_next E B
  replace k21 := keep B k21
  replace k22 := keep B k22
  replace k23 := keep B k23
  replace kc1 := keep B kc1
  replace kc2 := keep B kc2
  replace k24 := keep B k24
  replace k25 := keep B k25
  refine sv (.bool true) 82 rfl rfl (ex_bin (u := (.int .i64 0)) (r := (.int .i64 0)) rfl rfl rfl (eg3 _ _ _ _ _ _) (eql3 _ (by decide))) ?_
  simp only [zp]
  refine sv (.bool true) 83 rfl rfl (ex_pkT rfl rfl rfl) ?_
  simp only [zp]
  refine sm (.bool true) 84 rfl rfl rfl rfl ?_
  simp only [zp]
  refine sm (.pointer none) 85 rfl rfl rfl rfl ?_
  simp only [zp]
  refine st_call (some 86) rfl rfl (fork_nil W15) (ex_call (f := 25) (vs := [(.pointer none)]) rfl (cf25 _) rfl) ?_
  rintro e W16 ⟨rfl, B⟩
  refine ⟨_, rfl, ?_⟩
  simp only [zp]
  replace hK := keep B hK
  replace E := below_next E B
  replace k21 := keep B k21
  replace k22 := keep B k22
  replace k23 := keep B k23
  replace kc1 := keep B kc1
  replace kc2 := keep B kc2
  replace k24 := keep B k24
  replace k25 := keep B k25
  refine sv (.bool true) 87 rfl rfl (ex_pnil (t := 0) rfl rfl rfl rfl) ?_
  simp only [zp]
  refine sv (.bool true) 88 rfl rfl (ex_pkT rfl rfl rfl) ?_
  simp only [zp]
  obtain ⟨kn, K⟩ := put_cell (i := 0) (.bool true) k23
  refine st_sk rfl rfl (ex_store rfl rfl rfl (sto4 (at_cell k23 rfl) (unfrozen k23))) ?_
  obtain ⟨W17, hW2⟩ : ∃ W', W16.setCell ⟨b23, 0, none⟩ (.bool true) = W' := ⟨_, rfl⟩
  rw [hW2] at kn K ⊢
  replace hK := keepK K hK (fun e => by have q := k23; rw [← e, hK] at q; cases q)
  replace E := below_put E ge_b23 K
  replace k21 := keepK K k21 (fun e => ne_tag k21 k23 (by decide) e)
  replace k22 := keepK K k22 (fun e => ne_tag k22 k23 (by decide) e)
  replace kc1 := keepK K kc1 (fun e => ne_tag kc1 k23 (by decide) e)
  replace kc2 := keepK K kc2 (fun e => ne_tag kc2 k23 (by decide) e)
  replace k24 := keepK K k24 (fun e => ne_tag k24 k23 (by decide) e)
  replace k25 := keepK K k25 (fun e => ne_tag k25 k23 (by decide) e)
  replace k23 := kn
  clear kn K
  refine st_end ?_
  subst hQ
  refine wp_ret ?_
  repeat (first | refine ret_out ?_ | refine ret_blk ?_)
  refine ⟨by simp, .inl ⟨D, _, rfl, run_takeDeferred hK, ?_⟩⟩
  have hKd := Kept.ofGrown (grownBy_putObj' W17 D (.deferred none))
  have hne : ¬ some D = some b23 := fun e => by have q := k23; rw [← Option.some.inj e, hK] at q; cases q
  exact ⟨_, res_b Try.results6 _ _ rfl (at_cell (keepK hKd k23 hne) rfl), rfl, E.trans (belowK_b (w := w) (Nat.le_refl _) _ D _ _ hD hK rfl rfl)⟩
end Go.Proofs.Ytgnkcmmpbohafaa
