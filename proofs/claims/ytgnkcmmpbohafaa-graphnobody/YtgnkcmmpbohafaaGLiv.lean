/- What must come of every program. -/
import Derived.Test.YtgnkcmmpbohafaaGSe2
namespace Go.Proofs.Ytgnkcmmpbohafaa
open Go.RowKit
set_option linter.unusedVariables false
set_option linter.unusedSimpArgs false
set_option maxRecDepth 100000

def LR : RV := ⟨1, 1000, 5, 2, 500⟩
def LEd (ch fr to cap : Int) : EV := ⟨ch, fr, to, cap, LR, ⟨0, 0, 0, 0⟩⟩
theorem bFe (x y : Int) (W : World) : (Instr.build 43 #[(0, .int .i64 x), (1, .int .i64 y)]).run Try.prog W = .ok (.agg #[.int .i64 x, .int .i64 y]) W := run_build W 43 _ _ (by kernel_rfl)
theorem bRu (x y d g f : Int) (W : World) : (Instr.build 45 #[(0, .agg #[.int .i64 x, .int .i64 y]), (1, .int .i64 d), (2, .int .i64 g), (3, .int .i64 f)]).run Try.prog W = .ok (.agg #[.int .i64 x, .int .i64 y, .int .i64 d, .int .i64 g, .int .i64 f]) W := run_build W 45 _ _ (by kernel_rfl)
theorem bEd (ch fr to cap : Int) (W : World) : (Instr.build 49 #[(0, .int .i64 ch), (1, .int .i64 fr), (2, .int .i64 to), (3, .int .i64 cap), (4, .agg (RL LR))]).run Try.prog W = .ok (.agg (EL (LEd ch fr to cap))) W := run_build W 49 _ _ (by kernel_rfl)
theorem bWant (a b c d m : Int) (W : World) : (Instr.build 32 #[(0, .int .i64 a), (1, .int .i64 b), (2, .int .i64 c), (3, .int .i64 d), (6, .int .i64 m)]).run Try.prog W = .ok (.agg (WL_ ⟨a, b, c, d, m, 0, []⟩ none 0 0)) W := run_build W 32 _ _ (by kernel_rfl)
section
variable {o : Oper} {a : Act} {W : World}
theorem ex_boxp {T : Nat} {x : Operand} {p : Option Addr} (ho : o.op = .box 23 x) (hx : a.eval x = .pointer p) : (execOp a.eval o).run Try.prog W = .ok (.value (.pointer (some ⟨W.heap.size, 0, none⟩))) (W.alloc (.cells #[.pointer p] 23)) := by
  unfold execOp
  simp only [ho, hx]
  go_simp
theorem ex_fnil {x y : Operand} {t2 : Nat} {k : Nat} {cp : Array Value} (ho : o.op = .binOp .eql 62 x y t2) (hx : a.eval x = .func (.func k) #[] cp) (hy : a.eval y = .nilFunc) : (execOp a.eval o).run Try.prog W = .ok (.value (.bool false)) W := by
  have hq : (eqGuard .eql 62 x y (.func (.func k) #[] cp) .nilFunc).run Try.prog W = .ok () W := by rfl
  have h : ∀ d, (Op.equalIn (d + 1) 62 (.func (.func k) #[] cp) .nilFunc).run Try.prog W = .ok false W := fun d => by simp [Op.equalIn, run_underlying Try.underlying62]
  refine ex_bin ho hx hy hq ?_
  simp only [binOp]
  simp [Op.equal, Op.maxDepth, h 9999]
end
theorem Gr.putT {W W' : World} {base g k T : Nat} {L : List EV} {C : Array Value} (h : Gr W base g L) (hK : Kept (· = k) W W') (hk : W.heap[k]? = some (.cells C T)) (hT : T ≠ 105 ∧ T ≠ 49) : Gr W' base g L := by
  obtain ⟨b, c, h1, h2, h3⟩ := h
  exact ⟨b, c, keepK hK h1 (fun e => ne_tag h1 hk hT.1.symm e), h2, own_keepK h3 hK (fun q hq e => own_ne h3 hk hT.2.symm (by rw [hq, e]))⟩
theorem find_gr {base g nw cw : Nat} {ao : Option Addr} {L : List EV} {v : WV} (w : World) (hG : Gr w base g L) (hn2 : L.length ≤ 64) (hLb : ∀ e ∈ L, EB e) (hA : Is w ao v.av) (hnw : nw = v.av.length) (hnw2 : nw ≤ 140737488355328) (hm : v.am ≤ 9223372036854775807) (hmo : v.mo ≤ 9223372036854775807) (t1 : -9223372036854775808 ≤ v.ti) (t2 : v.ti ≤ 9223372036854775807) : Calls Try.prog 12 #[.pointer (some ⟨g, 0, none⟩), .agg (WL_ v ao nw cw)] w fun e w' => ∃ C, e = .returned (.tuple #[.agg C, .int .i64 (fndR L v).1]) ∧ Wyd w' w.heap.size C (fndR L v).2 ∧ Below w.heap.size w w' := by
  obtain ⟨b, c, kg, _, hO⟩ := hG
  exact find_any w kg (own_Es hO) (Nat.le_refl _) rfl hn2 hLb hA hnw hnw2 hm hmo t1 t2
theorem len_gr {base g : Nat} {L : List EV} (w : World) (hG : Gr w base g L) : Calls Try.prog 24 #[.pointer (some ⟨g, 0, none⟩)] w fun e w' => e = .returned (.int .i64 (L.length : Nat)) ∧ Below w.heap.size w w' := by
  obtain ⟨b, c, kg, _, hO⟩ := hG
  exact len_any w kg
def L1 : EV := LEd 1 0 1 5000
def L2 : EV := LEd 2 1 2 5000
theorem find1 : (fndR [L1, L2] ⟨0, 2, 1000, 20, 100, 0, []⟩).1 = 0 ∧ ((fndR [L1, L2] ⟨0, 2, 1000, 20, 100, 0, []⟩).2.map fun y => (y.es.length, y.am, y.xs, y.fee)) = some (2, [1002, 1000], [25, 20], 2) := by decide +kernel
theorem find2 : (fndR [L1, L2] ⟨0, 2, 1000, 20, 1, 0, []⟩).1 = 4 := by decide +kernel
theorem find2b : ((fndR [L1, L2] ⟨0, 2, 1000, 20, 1, 0, []⟩).2.map fun y => y.fee) = none := by decide +kernel
theorem EBl (a : EV) (h : a = L1 ∨ a = L2) : EB a := by
  rcases h with rfl | rfl
  · exact ⟨by decide +kernel, by decide, by decide, by decide, by decide, by decide, by decide⟩
  · exact ⟨by decide +kernel, by decide, by decide, by decide, by decide, by decide, by decide⟩
theorem find_1 {base g : Nat} (w : World) (hG : Gr w base g [L1, L2]) : Calls Try.prog 12 #[.pointer (some ⟨g, 0, none⟩), .agg (WL_ ⟨0, 2, 1000, 20, 100, 0, []⟩ none 0 0)] w fun e w' => ∃ g1 c1 bA bX co, e = .returned (.tuple #[.agg #[.slice (some ⟨g1, 0, none⟩) 2 c1, .slice (some ⟨bA, 0, none⟩) 2 2, .slice (some ⟨bX, 0, none⟩) 2 2, .int .i64 2, .float .f64 co], .int .i64 0]) ∧ w'.heap[bA]? = some (.cells #[.int .i64 1002, .int .i64 1000] 3) ∧ w'.heap[bX]? = some (.cells #[.int .i64 25, .int .i64 20] 3) ∧ Below w.heap.size w w' := by
  refine (find_gr (v := ⟨0, 2, 1000, 20, 100, 0, []⟩) w hG (by decide) (fun e he => EBl e (by simpa using he)) (.inl rfl) rfl (by decide) (by decide) (by decide) (by decide) (by decide)).mono fun e w' hh => ?_
  obtain ⟨C, h1, h2, h3⟩ := hh
  obtain ⟨f1, f2⟩ := find1
  rw [f1] at h1
  cases hy : (fndR [L1, L2] ⟨0, 2, 1000, 20, 100, 0, []⟩).2 with
  | none => rw [hy] at f2; cases f2
  | some y =>
    rw [hy] at f2 h2
    have f3 : (y.es.length, y.am, y.xs, y.fee) = (2, [1002, 1000], [25, 20], 2) := Option.some.inj f2
    simp only [Prod.mk.injEq] at f3
    obtain ⟨q1, q2, q3, q4⟩ := f3
    obtain ⟨g1, c1, bA, bX, rfl, _, _, kA, kX, _⟩ := h2
    rw [q1, q4] at h1
    rw [q2] at kA
    rw [q3] at kX
    exact ⟨g1, c1, bA, bX, y.cost, h1, kA, kX, h3⟩
theorem find_2 {base g : Nat} (w : World) (hG : Gr w base g [L1, L2]) : Calls Try.prog 12 #[.pointer (some ⟨g, 0, none⟩), .agg (WL_ ⟨0, 2, 1000, 20, 1, 0, []⟩ none 0 0)] w fun e w' => e = .returned (.tuple #[.agg #[.slice none 0 0, .slice none 0 0, .slice none 0 0, .int .i64 0, .float .f64 0], .int .i64 4]) ∧ Below w.heap.size w w' := by
  refine (find_gr (v := ⟨0, 2, 1000, 20, 1, 0, []⟩) w hG (by decide) (fun e he => EBl e (by simpa using he)) (.inl rfl) rfl (by decide) (by decide) (by decide) (by decide) (by decide)).mono fun e w' hh => ?_
  obtain ⟨C, h1, h2, h3⟩ := hh
  rw [find2] at h1
  cases hy : (fndR [L1, L2] ⟨0, 2, 1000, 20, 1, 0, []⟩).2 with
  | some y => have := find2b; rw [hy] at this; cases this
  | none =>
    rw [hy] at h2
    have h2 : C = _ := h2
    subst h2
    exact ⟨h1, h3⟩
set_option maxHeartbeats 4000000 in
theorem rules_any (w : World) : Calls Try.prog 71 #[] w fun e w' => e = .returned (.agg (RL LR)) ∧ Below w.heap.size w w' := by
  have E : Below w.heap.size w w := Below.refl _ _
  go_enter Try.func71, Try.ntmps71
  refine wq fun Q hQ => ?_
  refine st_new (fun b => .pointer (some ⟨b, 0, none⟩)) (some 0) rfl rfl (ex_alloc rfl zero45) ?_
  intro b21 W1 k21 g21 B
  simp only [zp]
  have ge_b21 := Nat.le_trans E.size g21
  replace E := below_next E B
  clear B
  refine st_end ?_
  subst hQ
  refine wq fun Q hQ => ?_
  refine sv (.agg #[.int .i64 1, .int .i64 1000]) 1 rfl rfl (ex_build2 (v1 := (.int .i64 1)) (v2 := (.int .i64 1000)) rfl rfl rfl (bFe _ _ _)) ?_
  simp only [zp]
  refine sv (.agg #[.int .i64 1, .int .i64 1000, .int .i64 5, .int .i64 2, .int .i64 500]) 2 rfl rfl (ex_build4 (v1 := (.agg #[.int .i64 1, .int .i64 1000])) (v2 := (.int .i64 5)) (v3 := (.int .i64 2)) (v4 := (.int .i64 500)) rfl rfl rfl rfl rfl (bRu _ _ _ _ _ _)) ?_
  simp only [zp]
  obtain ⟨W2, hst, kn, K⟩ := put_all (D := #[.int .i64 1, .int .i64 1000, .int .i64 5, .int .i64 2, .int .i64 500]) k21 rfl inf45 (by kernel_rfl)
  refine st_sk rfl rfl (ex_store rfl rfl rfl hst) ?_
  replace E := below_put E ge_b21 K
  replace k21 := kn
  clear kn K hst
  refine st_end ?_
  subst hQ
  refine wp_ret ?_
  refine bodyPost_ret (results_cell_row Try.results71 _ _ b21 _ _ _ _ rfl k21 Try.underlying45 rfl inf45) rfl ⟨rfl, E⟩
set_option maxHeartbeats 4000000 in
theorem edge_any (ch fr to cap : Int) (w : World) : Calls Try.prog 32 #[.int .i64 ch, .int .i64 fr, .int .i64 to, .int .i64 cap] w fun e w' => e = .returned (.agg (EL (LEd ch fr to cap))) ∧ Below w.heap.size w w' := by
  have E : Below w.heap.size w w := Below.refl _ _
  go_enter Try.func32, Try.ntmps32
  refine wq fun Q hQ => ?_
  refine st_new (fun b => .pointer (some ⟨b, 0, none⟩)) (some 8) rfl rfl (ex_alloc rfl zero49) ?_
  intro b21 W1 k21 g21 B
  simp only [zp]
  have ge_b21 := Nat.le_trans E.size g21
  replace E := below_next E B
  clear B
  refine st_end ?_
  subst hQ
  refine wq fun Q hQ => ?_
  refine sm (.int .i64 ch) 9 rfl rfl rfl rfl ?_
  simp only [zp]
  refine sm (.int .i64 fr) 10 rfl rfl rfl rfl ?_
  simp only [zp]
  refine sm (.int .i64 to) 11 rfl rfl rfl rfl ?_
  simp only [zp]
  refine sm (.int .i64 cap) 12 rfl rfl rfl rfl ?_
  simp only [zp]
  refine st_call (some 13) rfl rfl (rules_any W1) (ex_call (f := 71) (vs := []) rfl (cf71 _) rfl) ?_
  rintro e W2 ⟨rfl, B⟩
  refine ⟨_, rfl, ?_⟩
  simp only [zp]
  replace E := below_next E B
  replace k21 := keep B k21
  refine sv (.agg (EL (LEd ch fr to cap))) 14 rfl rfl (ex_build5 (v1 := (.int .i64 ch)) (v2 := (.int .i64 fr)) (v3 := (.int .i64 to)) (v4 := (.int .i64 cap)) (v5 := (.agg (RL LR))) rfl rfl rfl rfl rfl rfl (bEd ch fr to cap _)) ?_
  simp only [zp]
  obtain ⟨W3, hst, kn, K⟩ := put_all (D := (EL (LEd ch fr to cap))) k21 rfl inf49 (by kernel_rfl)
  refine st_sk rfl rfl (ex_store rfl rfl rfl hst) ?_
  replace E := below_put E ge_b21 K
  replace k21 := kn
  clear kn K hst
  refine st_end ?_
  subst hQ
  refine wp_ret ?_
  refine bodyPost_ret (results_cell_row Try.results32 _ _ b21 _ _ _ _ rfl k21 Try.underlying49 rfl inf49) rfl ⟨rfl, E⟩
set_option maxHeartbeats 4000000 in
theorem from_seq {p : Option Addr} {x : Int} (w : World) : Calls Try.prog 19 #[.pointer p, .int .i64 x] w fun e w' => ∃ c1 c2, e = .returned (.func (.func 59) #[] #[.pointer (some ⟨c1, 0, none⟩), .pointer (some ⟨c2, 0, none⟩)]) ∧ w.heap.size ≤ c1 ∧ w.heap.size ≤ c2 ∧ w'.heap[c1]? = some (.cells #[.pointer p] 23) ∧ w'.heap[c2]? = some (.cells #[.int .i64 x] 3) ∧ Below w.heap.size w w' := by
  have E : Below w.heap.size w w := Below.refl _ _
  go_enter Try.func19, Try.ntmps19
  refine wq fun Q hQ => ?_
  refine st_new (fun b => .pointer (some ⟨b, 0, none⟩)) (some 2) rfl rfl (ex_boxp (T := 0) rfl rfl) ?_
  intro b21 W1 k21 g21 B
  simp only [zp]
  have ge_b21 := Nat.le_trans E.size g21
  replace E := below_next E B
  clear B
  refine st_new (fun b => .pointer (some ⟨b, 0, none⟩)) (some 3) rfl rfl (ex_box3 rfl rfl) ?_
  intro b22 W2 k22 g22 B
  simp only [zp]
  have ne_b22_b21 : b22 ≠ b21 := fun e => by have := lt_of k21; omega
  have ge_b22 := Nat.le_trans E.size g22
  replace E := below_next E B
  replace k21 := keep B k21
  clear B
  refine sg .nilFunc 4 rfl rfl rfl rfl ?_
  simp only [zp]
  refine st_end ?_
  subst hQ
  refine wq fun Q hQ => ?_
  refine sv (.func (.func 59) #[] #[(.pointer (some ⟨b21, 0, none⟩)), (.pointer (some ⟨b22, 0, none⟩))]) 5 rfl rfl (ex_mkf rfl rfl) ?_
  simp only [zp]
  refine sg (.func (.func 59) #[] #[(.pointer (some ⟨b21, 0, none⟩)), (.pointer (some ⟨b22, 0, none⟩))]) 4 rfl rfl rfl rfl ?_
  simp only [zp]
  refine st_end ?_
  subst hQ
  refine wp_ret ?_
  exact bodyPost_ret (results_tmp Try.results19 _ _ _) rfl ⟨b21, b22, rfl, ge_b21, ge_b22, k21, k22, E⟩
theorem srt0 : srt [] := fun i j a b _ h => by simp at h
theorem lt12 : ∀ d ∈ [L1], ltE d L2 := fun d hd => by
  have : d = L1 := by simpa using hd
  subst this
  exact .inl (by decide)
theorem srt1 : srt [L1] := fun i j a b hij h1 h2 => by
  cases j with
  | zero => omega
  | succ j => simp at h2
set_option maxHeartbeats 16000000 in
theorem lives_any (w : World) : Calls Try.prog 10 #[] w fun e w' => e = .returned (.bool true) ∧ Below w.heap.size w w' := by
  have E : Below w.heap.size w w := Below.refl _ _
  go_enter Try.func10, Try.ntmps10
  refine wq fun Q hQ => ?_
  refine sg (.bool false) 0 rfl rfl rfl rfl ?_
  simp only [zp]
  refine st_end ?_
  subst hQ
  refine wq fun Q hQ => ?_
  refine st_call (some 6) rfl rfl (new_any w) (ex_call (f := 27) (vs := []) rfl (cf27 _) rfl) ?_
  rintro e W1 ⟨g, rfl, hG, B⟩
  refine ⟨_, rfl, ?_⟩
  simp only [zp]
  replace E := below_next E B
  refine sg (.pointer (some ⟨g, 0, none⟩)) 1 rfl rfl rfl rfl ?_
  simp only [zp]
  refine st_end ?_
  subst hQ
  refine wp_seq ?_
  refine wq fun Q hQ => ?_
  refine sm (.pointer (some ⟨g, 0, none⟩)) 7 rfl rfl rfl rfl ?_
  simp only [zp]
  refine sv (.bool false) 8 rfl rfl (ex_pnil (t := 0) rfl rfl rfl rfl) ?_
  simp only [zp]
  refine sm (.bool false) 9 rfl rfl rfl rfl ?_
  simp only [zp]
  refine sm (.pointer (some ⟨g, 0, none⟩)) 10 rfl rfl rfl rfl ?_
  simp only [zp]
  refine st_call (some 11) rfl rfl (edge_any 1 0 1 5000 W1) (ex_call (f := 32) (vs := [(.int .i64 1), (.int .i64 0), (.int .i64 1), (.int .i64 5000)]) rfl (cf32 _) rfl) ?_
  rintro e W2 ⟨rfl, B⟩
  refine ⟨_, rfl, ?_⟩
  simp only [zp]
  replace E := below_next E B
  replace hG := hG.keep B
  refine st_call (some 12) rfl rfl (set_end (e := L1) W2 hG E.size srt0 (fun d hd => by simp at hd) (by decide) (EBl L1 (.inl rfl))) (ex_call (f := 21) (vs := [(.pointer (some ⟨g, 0, none⟩)), (.agg (EL L1))]) rfl (cf21 _) rfl) ?_
  rintro e W3 ⟨rfl, hG2, B2⟩
  replace E := E.trans B2
  replace hG := hG2
  clear hG2 B2
  refine ⟨_, rfl, ?_⟩
  simp only [zp]
  refine sv (.bool false) 13 rfl rfl (ex_bin (u := (.int .i64 0)) (r := (.int .i64 0)) rfl rfl rfl (eg37 _ _ _ _ _ _) (neq37 _ (by decide))) ?_
  simp only [zp]
  refine sv (.bool false) 14 rfl rfl (ex_pkF rfl rfl rfl) ?_
  simp only [zp]
  refine sm (.bool false) 15 rfl rfl rfl rfl ?_
  simp only [zp]
  refine sm (.pointer (some ⟨g, 0, none⟩)) 16 rfl rfl rfl rfl ?_
  simp only [zp]
  refine st_call (some 17) rfl rfl (edge_any 2 1 2 5000 W3) (ex_call (f := 32) (vs := [(.int .i64 2), (.int .i64 1), (.int .i64 2), (.int .i64 5000)]) rfl (cf32 _) rfl) ?_
  rintro e W4 ⟨rfl, B⟩
  refine ⟨_, rfl, ?_⟩
  simp only [zp]
  replace E := below_next E B
  replace hG := hG.keep B
  refine st_call (some 18) rfl rfl (set_end (e := L2) W4 hG E.size srt1 lt12 (by decide) (EBl L2 (.inr rfl))) (ex_call (f := 21) (vs := [(.pointer (some ⟨g, 0, none⟩)), (.agg (EL L2))]) rfl (cf21 _) rfl) ?_
  rintro e W5 ⟨rfl, hG2, B2⟩
  replace E := E.trans B2
  replace hG := hG2
  clear hG2 B2
  refine ⟨_, rfl, ?_⟩
  simp only [zp]
  refine sv (.bool false) 19 rfl rfl (ex_bin (u := (.int .i64 0)) (r := (.int .i64 0)) rfl rfl rfl (eg37 _ _ _ _ _ _) (neq37 _ (by decide))) ?_
  simp only [zp]
  refine sv (.bool false) 20 rfl rfl (ex_pkF rfl rfl rfl) ?_
  simp only [zp]
  refine sm (.bool false) 21 rfl rfl rfl rfl ?_
  simp only [zp]
  refine sm (.pointer (some ⟨g, 0, none⟩)) 22 rfl rfl rfl rfl ?_
  simp only [zp]
  refine st_call (some 23) rfl rfl (from_seq W5) (ex_call (f := 19) (vs := [(.pointer (some ⟨g, 0, none⟩)), (.int .i64 0)]) rfl (cf19 _) rfl) ?_
  rintro e W6 ⟨c1, c2, rfl, _, _, _, _, B⟩
  refine ⟨_, rfl, ?_⟩
  simp only [zp]
  replace E := below_next E B
  replace hG := hG.keep B
  refine sv (.bool false) 24 rfl rfl (ex_fnil rfl rfl rfl) ?_
  simp only [zp]
  refine sv (.bool false) 25 rfl rfl (ex_pkF rfl rfl rfl) ?_
  simp only [zp]
  refine st_end ?_
  subst hQ
  refine wp_cond_false rfl ?_
  refine wp_skip ?_
  refine wq fun Q hQ => ?_
  refine sm (.pointer (some ⟨g, 0, none⟩)) 27 rfl rfl rfl rfl ?_
  simp only [zp]
  refine sv (.agg (WL_ ⟨0, 2, 1000, 20, 100, 0, []⟩ none 0 0)) 28 rfl rfl (ex_build5 (v1 := (.int .i64 0)) (v2 := (.int .i64 2)) (v3 := (.int .i64 1000)) (v4 := (.int .i64 20)) (v5 := (.int .i64 100)) rfl rfl rfl rfl rfl rfl (bWant 0 2 1000 20 100 _)) ?_
  simp only [zp]
  refine st_call (some 29) rfl rfl (find_1 W6 hG) (ex_call (f := 12) (vs := [(.pointer (some ⟨g, 0, none⟩)), (.agg (WL_ ⟨0, 2, 1000, 20, 100, 0, []⟩ none 0 0))]) rfl (cf12 _) rfl) ?_
  rintro e W7 ⟨g1, cc1, bA, bX, co, rfl, kA, kX, B⟩
  refine ⟨_, rfl, ?_⟩
  simp only [zp]
  replace E := below_next E B
  replace hG := hG.keep B
  refine sm (.tuple #[(.agg #[.slice (some ⟨g1, 0, none⟩) 2 cc1, .slice (some ⟨bA, 0, none⟩) 2 2, .slice (some ⟨bX, 0, none⟩) 2 2, .int .i64 2, .float .f64 co]), (.int .i64 0)]) 26 rfl rfl rfl rfl ?_
  simp only [zp]
  refine sv (.agg #[.slice (some ⟨g1, 0, none⟩) 2 cc1, .slice (some ⟨bA, 0, none⟩) 2 2, .slice (some ⟨bX, 0, none⟩) 2 2, .int .i64 2, .float .f64 co]) 30 rfl rfl (ex_ext rfl rfl rfl) ?_
  simp only [zp]
  refine sv (.int .i64 0) 31 rfl rfl (ex_ext rfl rfl rfl) ?_
  simp only [zp]
  refine st_new (fun b => .pointer (some ⟨b, 0, none⟩)) (some 2) rfl rfl (ex_alloc rfl zero36) ?_
  intro b21 W8 k21 g21 B
  simp only [zp]
  have ne_b21_bA : b21 ≠ bA := fun e => by have := lt_of kA; omega
  have ne_b21_bX : b21 ≠ bX := fun e => by have := lt_of kX; omega
  have ge_b21 := Nat.le_trans E.size g21
  replace E := below_next E B
  replace hG := hG.keep B
  replace kA := keep B kA
  replace kX := keep B kX
  clear B
  obtain ⟨W9, hst, kn, K⟩ := put_all (D := #[.slice (some ⟨g1, 0, none⟩) 2 cc1, .slice (some ⟨bA, 0, none⟩) 2 2, .slice (some ⟨bX, 0, none⟩) 2 2, .int .i64 2, .float .f64 co]) k21 rfl inf36 one5
  refine st_sk rfl rfl (ex_store rfl rfl rfl hst) ?_
  replace E := below_put E ge_b21 K
  replace hG := hG.putT K k21 (by decide)
  replace kA := keepK K kA (fun e => ne_tag kA k21 (by decide) e)
  replace kX := keepK K kX (fun e => ne_tag kX k21 (by decide) e)
  replace k21 := kn
  clear kn K hst
  refine sg (.int .i64 0) 3 rfl rfl rfl rfl ?_
  simp only [zp]
  refine st_end ?_
  subst hQ
  refine wq fun Q hQ => ?_
  refine sm (.pointer (some ⟨g, 0, none⟩)) 33 rfl rfl rfl rfl ?_
  simp only [zp]
  refine sv (.agg (WL_ ⟨0, 2, 1000, 20, 1, 0, []⟩ none 0 0)) 34 rfl rfl (ex_build5 (v1 := (.int .i64 0)) (v2 := (.int .i64 2)) (v3 := (.int .i64 1000)) (v4 := (.int .i64 20)) (v5 := (.int .i64 1)) rfl rfl rfl rfl rfl rfl (bWant 0 2 1000 20 1 _)) ?_
  simp only [zp]
  refine st_call (some 35) rfl rfl (find_2 W9 hG) (ex_call (f := 12) (vs := [(.pointer (some ⟨g, 0, none⟩)), (.agg (WL_ ⟨0, 2, 1000, 20, 1, 0, []⟩ none 0 0))]) rfl (cf12 _) rfl) ?_
  rintro e W10 ⟨rfl, B⟩
  refine ⟨_, rfl, ?_⟩
  simp only [zp]
  replace E := below_next E B
  replace hG := hG.keep B
  replace kA := keep B kA
  replace kX := keep B kX
  replace k21 := keep B k21
  refine sm (.tuple #[(.agg #[.slice none 0 0, .slice none 0 0, .slice none 0 0, .int .i64 0, .float .f64 0]), (.int .i64 4)]) 32 rfl rfl rfl rfl ?_
  simp only [zp]
  refine sv (.agg #[.slice none 0 0, .slice none 0 0, .slice none 0 0, .int .i64 0, .float .f64 0]) 36 rfl rfl (ex_ext rfl rfl rfl) ?_
  simp only [zp]
  refine sv (.int .i64 4) 37 rfl rfl (ex_ext rfl rfl rfl) ?_
  simp only [zp]
  refine st_new (fun b => .pointer (some ⟨b, 0, none⟩)) (some 4) rfl rfl (ex_alloc rfl zero36) ?_
  intro b22 W11 k22 g22 B
  simp only [zp]
  have ne_b22_bA : b22 ≠ bA := fun e => by have := lt_of kA; omega
  have ne_b22_bX : b22 ≠ bX := fun e => by have := lt_of kX; omega
  have ne_b22_b21 : b22 ≠ b21 := fun e => by have := lt_of k21; omega
  have ge_b22 := Nat.le_trans E.size g22
  replace E := below_next E B
  replace hG := hG.keep B
  replace kA := keep B kA
  replace kX := keep B kX
  replace k21 := keep B k21
  clear B
  obtain ⟨W12, hst, kn, K⟩ := put_all (D := #[.slice none 0 0, .slice none 0 0, .slice none 0 0, .int .i64 0, .float .f64 0]) k22 rfl inf36 (by kernel_rfl)
  refine st_sk rfl rfl (ex_store rfl rfl rfl hst) ?_
  replace E := below_put E ge_b22 K
  replace hG := hG.putT K k22 (by decide)
  replace kA := keepK K kA (fun e => ne_tag kA k22 (by decide) e)
  replace kX := keepK K kX (fun e => ne_tag kX k22 (by decide) e)
  replace k21 := keepK K k21 (fun e => by first | exact ne_b21_b22 e | exact ne_b22_b21 e.symm)
  replace k22 := kn
  clear kn K hst
  refine sg (.int .i64 4) 5 rfl rfl rfl rfl ?_
  simp only [zp]
  refine st_end ?_
  subst hQ
  refine wq fun Q hQ => ?_
  refine sm (.int .i64 0) 38 rfl rfl rfl rfl ?_
  simp only [zp]
  refine sv (.bool true) 39 rfl rfl (ex_bin (u := (.int .i64 0)) (r := (.int .i64 0)) rfl rfl rfl (eg37 _ _ _ _ _ _) (eql37 _ (by decide))) ?_
  simp only [zp]
  refine sm (.bool true) 40 rfl rfl rfl rfl ?_
  simp only [zp]
  refine sm (.int .i64 4) 41 rfl rfl rfl rfl ?_
  simp only [zp]
  refine sv (.bool true) 42 rfl rfl (ex_bin (u := (.int .i64 4)) (r := (.int .i64 4)) rfl rfl rfl (eg37 _ _ _ _ _ _) (eql37 _ (by decide))) ?_
  simp only [zp]
  refine sv (.bool true) 43 rfl rfl (ex_pkT rfl rfl rfl) ?_
  simp only [zp]
  refine sm (.bool true) 44 rfl rfl rfl rfl ?_
  simp only [zp]
  refine sv (.pointer (some ⟨b21, 0, none⟩)) 45 rfl rfl (ex_fa (p := (.pointer (some ⟨b21, 0, none⟩))) rfl rfl (fa36_0 _ _)) ?_
  simp only [zp]
  refine sv (.slice (some ⟨g1, 0, none⟩) 2 cc1) 46 rfl rfl (ex_load (p := (.pointer (some ⟨b21, 0, none⟩))) rfl rfl (ld33 (at_cell k21 rfl))) ?_
  simp only [zp]
  refine sv (.int .i64 (2 : Nat)) 47 rfl rfl (ex_len rfl rfl (len33 _ _ _ _ _)) ?_
  simp only [zp]
  refine sv (.bool true) 48 rfl rfl (ex_bin (u := (.int .i64 (2 : Nat))) (r := (.int .i64 2)) rfl rfl rfl (eg3 _ _ _ _ _ _) (eql3 _ (by decide))) ?_
  simp only [zp]
  refine sv (.bool true) 49 rfl rfl (ex_pkT rfl rfl rfl) ?_
  simp only [zp]
  refine sm (.bool true) 50 rfl rfl rfl rfl ?_
  simp only [zp]
  refine sv (.pointer (some ⟨b21, 1, none⟩)) 51 rfl rfl (ex_fa (p := (.pointer (some ⟨b21, 0, none⟩))) rfl rfl (fa36_1 _ _)) ?_
  simp only [zp]
  refine sv (.slice (some ⟨bA, 0, none⟩) 2 2) 52 rfl rfl (ex_load (p := (.pointer (some ⟨b21, 1, none⟩))) rfl rfl (ld30 (at_cell k21 rfl))) ?_
  simp only [zp]
  refine sv (.int .i64 (2 : Nat)) 53 rfl rfl (ex_len rfl rfl (len30 _ _ _ _ _)) ?_
  simp only [zp]
  refine sv (.bool true) 54 rfl rfl (ex_bin (u := (.int .i64 (2 : Nat))) (r := (.int .i64 2)) rfl rfl rfl (eg3 _ _ _ _ _ _) (eql3 _ (by decide))) ?_
  simp only [zp]
  refine sv (.bool true) 55 rfl rfl (ex_pkT rfl rfl rfl) ?_
  simp only [zp]
  refine sm (.bool true) 56 rfl rfl rfl rfl ?_
  simp only [zp]
  refine sv (.pointer (some ⟨b21, 2, none⟩)) 57 rfl rfl (ex_fa (p := (.pointer (some ⟨b21, 0, none⟩))) rfl rfl (fa36_2 _ _)) ?_
  simp only [zp]
  refine sv (.slice (some ⟨bX, 0, none⟩) 2 2) 58 rfl rfl (ex_load (p := (.pointer (some ⟨b21, 2, none⟩))) rfl rfl (ld30 (at_cell k21 rfl))) ?_
  simp only [zp]
  refine sv (.int .i64 (2 : Nat)) 59 rfl rfl (ex_len rfl rfl (len30 _ _ _ _ _)) ?_
  simp only [zp]
  refine sv (.bool true) 60 rfl rfl (ex_bin (u := (.int .i64 (2 : Nat))) (r := (.int .i64 2)) rfl rfl rfl (eg3 _ _ _ _ _ _) (eql3 _ (by decide))) ?_
  simp only [zp]
  refine sv (.bool true) 61 rfl rfl (ex_pkT rfl rfl rfl) ?_
  simp only [zp]
  refine sm (.bool true) 62 rfl rfl rfl rfl ?_
  simp only [zp]
  refine sv (.pointer (some ⟨b21, 1, none⟩)) 63 rfl rfl (ex_fa (p := (.pointer (some ⟨b21, 0, none⟩))) rfl rfl (fa36_1 _ _)) ?_
  simp only [zp]
  refine sv (.slice (some ⟨bA, 0, none⟩) 2 2) 64 rfl rfl (ex_load (p := (.pointer (some ⟨b21, 1, none⟩))) rfl rfl (ld30 (at_cell k21 rfl))) ?_
  simp only [zp]
  refine sv (.pointer (some ⟨bA, 0, none⟩)) 65 rfl rfl (ixI0 (k := 0) rfl rfl rfl rfl (by decide)) ?_
  simp only [zp]
  refine sv (.int .i64 1002) 66 rfl rfl (ex_load (p := (.pointer (some ⟨bA, 0, none⟩))) rfl rfl (ld3 (at_cell kA rfl))) ?_
  simp only [zp]
  refine sv (.bool true) 67 rfl rfl (ex_bin (u := (.int .i64 1002)) (r := (.int .i64 1002)) rfl rfl rfl (eg3 _ _ _ _ _ _) (eql3 _ (by decide))) ?_
  simp only [zp]
  refine sv (.bool true) 68 rfl rfl (ex_pkT rfl rfl rfl) ?_
  simp only [zp]
  refine sm (.bool true) 69 rfl rfl rfl rfl ?_
  simp only [zp]
  refine sv (.pointer (some ⟨b21, 2, none⟩)) 70 rfl rfl (ex_fa (p := (.pointer (some ⟨b21, 0, none⟩))) rfl rfl (fa36_2 _ _)) ?_
  simp only [zp]
  refine sv (.slice (some ⟨bX, 0, none⟩) 2 2) 71 rfl rfl (ex_load (p := (.pointer (some ⟨b21, 2, none⟩))) rfl rfl (ld30 (at_cell k21 rfl))) ?_
  simp only [zp]
  refine sv (.pointer (some ⟨bX, 0, none⟩)) 72 rfl rfl (ixI0 (k := 0) rfl rfl rfl rfl (by decide)) ?_
  simp only [zp]
  refine sv (.int .i64 25) 73 rfl rfl (ex_load (p := (.pointer (some ⟨bX, 0, none⟩))) rfl rfl (ld3 (at_cell kX rfl))) ?_
  simp only [zp]
  refine sv (.bool true) 74 rfl rfl (ex_bin (u := (.int .i64 25)) (r := (.int .i64 25)) rfl rfl rfl (eg3 _ _ _ _ _ _) (eql3 _ (by decide))) ?_
  simp only [zp]
  refine sv (.bool true) 75 rfl rfl (ex_pkT rfl rfl rfl) ?_
  simp only [zp]
  refine sm (.bool true) 76 rfl rfl rfl rfl ?_
  simp only [zp]
  refine sv (.pointer (some ⟨b21, 3, none⟩)) 77 rfl rfl (ex_fa (p := (.pointer (some ⟨b21, 0, none⟩))) rfl rfl (fa36_3 _ _)) ?_
  simp only [zp]
  refine sv (.int .i64 2) 78 rfl rfl (ex_load (p := (.pointer (some ⟨b21, 3, none⟩))) rfl rfl (ld3 (at_cell k21 rfl))) ?_
  simp only [zp]
  refine sv (.bool true) 79 rfl rfl (ex_bin (u := (.int .i64 2)) (r := (.int .i64 2)) rfl rfl rfl (eg3 _ _ _ _ _ _) (eql3 _ (by decide))) ?_
  simp only [zp]
  refine sv (.bool true) 80 rfl rfl (ex_pkT rfl rfl rfl) ?_
  simp only [zp]
  refine sm (.bool true) 81 rfl rfl rfl rfl ?_
  simp only [zp]
  refine sm (.pointer (some ⟨g, 0, none⟩)) 82 rfl rfl rfl rfl ?_
  simp only [zp]
  refine st_call (some 83) rfl rfl (len_gr W12 hG) (ex_call (f := 24) (vs := [(.pointer (some ⟨g, 0, none⟩))]) rfl (cf24 _) rfl) ?_
  rintro e W13 ⟨rfl, B⟩
  refine ⟨_, rfl, ?_⟩
  simp only [zp]
  replace E := below_next E B
  replace hG := hG.keep B
  replace kA := keep B kA
  replace kX := keep B kX
  replace k21 := keep B k21
  replace k22 := keep B k22
  refine sv (.bool true) 84 rfl rfl (ex_bin (u := (.int .i64 ([L1, L2].length : Nat))) (r := (.int .i64 2)) rfl rfl rfl (eg3 _ _ _ _ _ _) (eql3 _ (by decide))) ?_
  simp only [zp]
  refine sv (.bool true) 85 rfl rfl (ex_pkT rfl rfl rfl) ?_
  simp only [zp]
  refine sg (.bool true) 0 rfl rfl rfl rfl ?_
  simp only [zp]
  refine st_end ?_
  subst hQ
  refine wp_ret ?_
  repeat (first | refine ret_out ?_ | refine ret_blk ?_)
  exact bodyPost_ret (results_tmp Try.results10 _ _ _) rfl ⟨rfl, E⟩
end Go.Proofs.Ytgnkcmmpbohafaa
