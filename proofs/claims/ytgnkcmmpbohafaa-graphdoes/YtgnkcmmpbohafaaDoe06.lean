/- A way along edges, if it may be taken. -/
import Derived.Test.YtgnkcmmpbohafaaDoe05
namespace Go.Proofs.Ytgnkcmmpbohafaa
open Go.RowKit
set_option linter.unusedVariables false
set_option linter.unusedSimpArgs false
set_option maxRecDepth 100000

theorem in_ge {b r y : Int} (h : inE b r y = 0) (hy : 0 ≤ y) : y ≤ inN b r y := by
  unfold inE at h
  unfold inN
  by_cases e : feeE b r y = 0
  · rw [if_pos e] at h ⊢
    unfold addE at h
    unfold addN
    by_cases e1 : y < 0 ∨ feeN b r y < 0
    · rw [if_pos e1] at h
      omega
    · rw [if_neg e1] at h ⊢
      by_cases e2 : y > 9223372036854775807 - feeN b r y
      · rw [if_pos e2] at h
        omega
      · rw [if_neg e2]
        omega
  · rw [if_neg e] at h
    exact absurd h e
theorem ex_pass {Q : Exit → Act → World → Prop} {a : Act} {w : World} {i j : Nat} (hne : j ≠ i) (h : Q (.exit j) a w) : Exit.inBlock i Q (.exit j) a w := by
  show (if j = i then Q .normal a w else Q (.exit j) a w)
  rw [if_neg hne]; exact h
def Il (l : List Int) : List Value := l.map fun x => .int .i64 x
theorem Il_set (m : Nat) (am : List Int) (a : Int) : (Il (List.replicate (m + 1) 0 ++ am)).set m (.int .i64 a) = Il (List.replicate m 0 ++ a :: am) := by
  unfold Il
  rw [List.map_append, List.map_append, List.map_replicate, List.map_replicate, List.set_append_left _ _ (by simp), List.replicate_succ']; rw [List.set_append_right _ _ (by simp)]
  simp
theorem Il_at (m : Nat) (am : List Int) : (Il (List.replicate (m + 1) 0 ++ am)).toArray[m]? = some (.int .i64 0) := by
  unfold Il
  simp [List.getElem?_append]
theorem Il_Is {W : World} {b : Nat} {l : List Int} (h : W.heap[b]? = some (.cells (Il l).toArray 3)) : Is W (some ⟨b, 0, none⟩) l := .inr ⟨b, 0, rfl, fun j v hv => by
  rw [Nat.zero_add]
  exact at_cell h (by simpa [Il] using hv)⟩
theorem Try.info3 : (Try.prog.info? 3).map (fun i => (i.zero, i.size, i.bytes)) = some (some (.int .i64 0), 1, 8) := by kernel_rfl
section
variable {o : Oper} {a : Act} {W : World}
theorem ex_mkI {x y : Operand} {n : Nat} (ho : o.op = .makeSlice 30 x y) (hx : a.eval x = .int .i64 (n : Int)) (hy : a.eval y = .int .i64 (n : Int)) (hn : n * 8 ≤ 281474976710656) : (execOp a.eval o).run Try.prog W = .ok (.value (.slice (some ⟨W.heap.size, 0, none⟩) n n)) (W.alloc (.cells (Il (List.replicate n 0 ++ [])).toArray 3)) := by
  obtain ⟨i0, hi, hz0, hz1, hz2⟩ := info_parts Try.info3; have h := run_make (P := Try.prog) W 30 3 i0 (.int .i64 0) Try.underlying30 hi hz0 .i64 .i64 (n : Int) (n : Int) (by omega) (by omega) (by rw [hz2]; omega) (by omega); rw [hz1] at h; simp only [Int.toNat_natCast, Nat.mul_one] at h
  have e : madeCells (Value.int .i64 0).cells n = (Il (List.replicate n 0 ++ [])).toArray := by
    apply Array.ext'
    show (madeCells #[Value.int .i64 0] n).toList = _
    rw [toList_madeCells_one]
    simp [Il]
  rw [e] at h
  unfold execOp
  simp only [ho, hx, hy]
  simp [h]
theorem ixI0 {x y : Operand} {b n c k : Nat} {i : Int} (ho : o.op = .indexAddr 30 x y) (hx : a.eval x = .slice (some ⟨b, 0, none⟩) n c) (hy : a.eval y = .int .i64 i) (hi : i = (k : Int)) (hk : k < n) : (execOp a.eval o).run Try.prog W = .ok (.value (.pointer (some ⟨b, k, none⟩))) W := by
  have h := ix30 (W := W) ho hx hy hi hk; rw [Nat.zero_add] at h; exact h
end
theorem res_ct {fn : Func} {p u : Tmp} {ty g t : Nat} (h : fn.results = #[.cell p ty, .tmp u]) (tmps : Array Value) (w : World) (cs : Array Value) (d : TypeDesc) (hp : tmps.getD p undef = .pointer (some ⟨g, 0, none⟩)) (hg : w.heap[g]? = some (.cells cs t)) (hu : Try.prog.underlying ty = some d) (hd : d.isRow = true) (hi : (Try.prog.info? ty).map (·.size) = some cs.size) : (results fn tmps).run Try.prog w = .ok (.tuple #[.agg cs, tmps.getD u undef]) w := by
  have hp' : tmps[p]?.getD undef = .pointer (some ⟨g, 0, none⟩) := by simpa using hp
  have hl := run_loadVar_row (P := Try.prog) w g t ty cs (0, 0) d hg hu (by cases d <;> simp_all [TypeDesc.isRow]) hi
  simp [results, h, hp', asAddr, hl]
theorem bWay (x y z : Value) (hx : x.oneCell' = true) (hy : y.oneCell' = true) (hz : z.oneCell' = true) (a1 a2 a3 : Option Addr) (n1 n2 n3 c1 c2 c3 : Nat) (W : World) : (Instr.build 36 #[(0, .slice a1 n1 c1), (1, .slice a2 n2 c2), (2, .slice a3 n3 c3)]).run Try.prog W = .ok (.agg #[.slice a1 n1 c1, .slice a2 n2 c2, .slice a3 n3 c3, .int .i64 0, .float .f64 0]) W := run_build W 36 _ _ (by kernel_rfl)
theorem bWay0 (W : World) : (Instr.build 36 #[]).run Try.prog W = .ok (.agg #[.slice none 0 0, .slice none 0 0, .slice none 0 0, .int .i64 0, .float .f64 0]) W := run_build W 36 _ _ (by kernel_rfl)
theorem range_sub {W : World} {b p : Nat} {e : EV} (h : W.rangeAt b p (EL e).toList) : W.rangeAt b (p + 4) (FL e.q).toList := fun j v hv => by
  rw [Nat.add_assoc]
  match j, hv with
  | 0, hv => exact h 4 v hv
  | 1, hv => exact h 5 v hv
/-- where an end may not be taken, none may -/
theorem lay_none {v : WV} : ∀ (k : Nat) (es : List EV), layN v (es.drop k) = none → layN v es = none
  | 0, es, h => by simpa using h
  | k + 1, [], h => by simp [layN] at h
  | k + 1, e :: es, h => by
    have ih := lay_none k es (by simpa using h)
    show (layN v es).bind _ = none
    rw [ih]
    rfl
theorem drop_cons {es : List EV} {i : Nat} {e : EV} (h : es[i]? = some e) : es.drop i = e :: es.drop (i + 1) := by
  obtain ⟨hl, rfl⟩ := List.getElem?_eq_some_iff.1 h; exact List.drop_eq_getElem_cons hl
theorem lay_bad {v : WV} {e : EV} {r : List EV} {am xs : List Int} {a x : Int} (h1 : layN v r = some (am, xs)) (h2 : into v r am xs = some (a, x)) (h : e.cap < a ∨ 2147483647 < x) : layN v (e :: r) = none := by
  show (layN v r).bind _ = none
  rw [h1]
  show (into v r am xs).bind _ = none
  rw [h2]; exact if_pos h
theorem lay_good {v : WV} {e : EV} {r : List EV} {am xs : List Int} {a x : Int} (h1 : layN v r = some (am, xs)) (h2 : into v r am xs = some (a, x)) (h : ¬ (e.cap < a ∨ 2147483647 < x)) : layN v (e :: r) = some (a :: am, x :: xs) := by
  show (layN v r).bind _ = _
  rw [h1]
  show (into v r am xs).bind _ = _
  rw [h2]; exact if_neg h
theorem lay_off {v : WV} {d e : EV} {r : List EV} {am xs : List Int} {a x : Int} (h1 : layN v (e :: r) = some (a :: am, x :: xs)) (h : ¬ inE e.q.b e.q.r a = 0) : layN v (d :: e :: r) = none := by
  show (layN v (e :: r)).bind _ = none
  rw [h1]
  show (into v (e :: r) (a :: am) (x :: xs)).bind _ = none
  rw [show into v (e :: r) (a :: am) (x :: xs) = none from if_neg h]
  rfl
theorem way_none {v : WV} {es : List EV} (h : layN v es = none) : wayN v es = none := by unfold wayN; rw [h]; rfl
theorem one5 {a1 a2 a3 : Option Addr} {n1 n2 n3 c1 c2 c3 : Nat} {fe : Int} {co : Nat} : (#[.slice a1 n1 c1, .slice a2 n2 c2, .slice a3 n3 c3, .int .i64 fe, .float .f64 co] : Array Value).all (·.oneCell') = true := by kernel_rfl
/-- bounds of what is wanted -/
structure WB (v : WV) : Prop where
  ok : mayW v = true
  am : v.am ≤ 9223372036854775807
  mo : v.mo ≤ 9223372036854775807
  t1 : -9223372036854775808 ≤ v.ti
  t2 : v.ti ≤ 9223372036854775807
theorem WB.nums {v : WV} (h : WB v) : 1 ≤ v.am ∧ 0 ≤ v.la ∧ v.la ≤ 2147483647 ∧ 0 ≤ v.mo := by
  have := h.ok
  unfold mayW at this
  simp only [Bool.and_eq_true, decide_eq_true_eq] at this
  omega
theorem EB.caps {e : EV} (h : EB e) : 0 ≤ e.cap := by
  have := h.ok
  unfold mayE at this
  simp only [Bool.and_eq_true, decide_eq_true_eq] at this
  omega
theorem in_le {b r y : Int} (h : inE b r y = 0) (hy : 0 ≤ y) (hb : b ≤ 9223372036854775807) : inN b r y ≤ 9223372036854775807 := by
  unfold inE at h
  unfold inN
  by_cases e : feeE b r y = 0
  · rw [if_pos e] at h ⊢
    unfold addE at h
    unfold addN
    by_cases e1 : y < 0 ∨ feeN b r y < 0
    · rw [if_pos e1] at h
      omega
    · rw [if_neg e1] at h ⊢
      by_cases e2 : y > 9223372036854775807 - feeN b r y
      · rw [if_pos e2] at h
        omega
      · rw [if_neg e2]
        omega
  · rw [if_neg e] at h
    exact absurd h e
theorem lay_len {v : WV} : ∀ {es : List EV} {z : List Int × List Int}, layN v es = some z → z.1.length = es.length ∧ z.2.length = es.length
  | [], z, h => by cases h; exact ⟨rfl, rfl⟩
  | e :: r, z, h => by
    unfold layN at h
    cases h1 : layN v r with
    | none => rw [h1] at h; cases h
    | some y =>
      rw [h1] at h; have ih := lay_len h1
      have h : (into v r y.1 y.2).bind _ = _ := h
      cases h2 : into v r y.1 y.2 with
      | none => rw [h2] at h; cases h
      | some u =>
        rw [h2] at h
        have h : (if _ then _ else _) = _ := h
        split at h
        · cases h
        · cases h
          exact ⟨by simp [ih.1], by simp [ih.2]⟩
set_option maxHeartbeats 16000000 in
theorem lay_any {ao aE : Option Addr} {nw cw n cE N : Nat} {v : WV} {es : List EV} (w : World) (hE : Es w N aE es) (hN : N ≤ w.heap.size) (hn : n = es.length) (h1 : 1 ≤ n) (hn2 : n ≤ 8) (hb : ∀ e ∈ es, EB e) (hv : WB v) : Calls Try.prog 37 #[.agg (WL_ v ao nw cw), .slice aE n cE] w fun e w' => Below w.heap.size w w' ∧ match wayN v es with | none => ∃ C : Array Value, e = .returned (.tuple #[.agg C, .bool false]) ∧ C.size = 5 ∧ C.all (·.oneCell') = true | some y => ∃ bA bX, e = .returned (.tuple #[.agg #[.slice aE n cE, .slice (some ⟨bA, 0, none⟩) n n, .slice (some ⟨bX, 0, none⟩) n n, .int .i64 y.fee, .float .f64 y.cost], .bool true]) ∧ w.heap.size ≤ bA ∧ w.heap.size ≤ bX ∧ w'.heap[bA]? = some (.cells (Il y.am).toArray 3) ∧ w'.heap[bX]? = some (.cells (Il y.xs).toArray 3) := by
  have hvn := hv.nums; have hvm := hv.am
  have E : Below w.heap.size w w := Below.refl _ _
  go_enter Try.func37, Try.ntmps37; refine wq fun Q hQ => ?_; refine st_new (fun b => .pointer (some ⟨b, 0, none⟩)) (some 2) rfl rfl (ex_box rfl rfl) ?_; intro b1 W1 k1 g1 B; simp only [zp]; have ge_b1 := Nat.le_trans E.size g1; replace E := below_next E B; clear B; refine st_new (fun b => .pointer (some ⟨b, 0, none⟩)) (some 4) rfl rfl (ex_alloc rfl zero36) ?_; intro b2 W2 k2 g2 B; simp only [zp]
  have ne_b2_b1 : b2 ≠ b1 := fun e => by have := lt_of k1; omega
  have ge_b2 := Nat.le_trans E.size g2; replace E := below_next E B; replace k1 := keep B k1; clear B; refine vg (.bool false) 5 rfl rfl rfl rfl ?_; refine st_end ?_; subst hQ; refine wp_seq ?_; obtain ⟨W3, hwd⟩ : ∃ wd, W2.drew = wd := ⟨_, rfl⟩; refine wp_region_held (S := fun W => Kept Nil W3 W) (by kernel_rfl) ?_
  show wpAnyH _ _ _ _ _ _ _ _ W2.drew
  rw [hwd]; refine capQ fun Q hQ => ?_
  have hQP : ∀ c (a : Act) (d : Nat) v w, Q (.panic c) (a.put (some d) v) w → Q (.panic c) a w := by
    subst hQ; exact fun _ _ _ _ _ h => h
  have BD : Below W2.heap.size W2 W3 := by rw [← hwd]; exact below_drewB (Below.refl _ _)
  clear hwd; replace E := below_next E BD; replace k1 := keep BD k1; replace k2 := keep BD k2; clear BD
  have S : Kept Nil W3 W3 := Kept.refl _ _
  have d_k1 := k1; have d_k2 := k2; refine tk (.slice aE n cE) 0 12 rfl rfl rfl (fun W hK => ex_mv rfl rfl) S hQP ?_; refine tk (.slice aE n cE) 1 13 rfl rfl rfl (fun W hK => ex_mv rfl rfl) S hQP ?_; refine tk (.int .i64 (n : Nat)) 2 14 rfl rfl rfl (fun W hK => ex_len rfl rfl (len33 _ _ _ _ _)) S hQP ?_; refine tk (.slice aE n cE) 4 16 rfl rfl rfl (fun W hK => ex_mv rfl rfl) S hQP ?_; refine tk (.int .i64 (n : Nat)) 5 17 rfl rfl rfl (fun W hK => ex_len rfl rfl (len33 _ _ _ _ _)) S hQP ?_; refine cap2 fun ops SS hops hS => ?_
  let F : Value → Value → Value → Value → Act := fun s6 s15 s18 s19 => { tmps := #[(.agg (WL_ v ao nw cw)), (.slice aE n cE), (Pz b1 0), undef, (Pz b2 0), (.bool false), s6, undef, undef, undef, undef, undef, (.slice aE n cE), (.slice aE n cE), (.int .i64 (n : Nat)), s15, (.slice aE n cE), (.int .i64 (n : Nat)), s18, s19, undef, undef, undef, undef, undef, undef, undef, undef, undef, undef, undef, undef, undef, undef, undef, undef, undef, undef, undef, undef, undef, undef, undef, undef, undef, undef, undef, undef, undef, undef, undef, undef, undef, undef, undef, undef, undef, undef, undef, undef, undef, undef, undef, undef, undef, undef, undef, undef, undef, undef, undef, undef, undef, undef, undef, undef, undef, undef, undef, undef, undef, undef, undef, undef, undef, undef, undef, undef, undef, undef, undef, undef, undef, undef, undef, undef, undef, undef, undef], defers := [] }
  suffices FIN : ∀ (bt15 : Nat) (bt18 : Nat) (bt6 : Nat) (Wq : World) (gd_bt15 : W3.heap.size ≤ bt15) (ge_bt15 : w.heap.size ≤ bt15) (gd_bt18 : W3.heap.size ≤ bt18) (ge_bt18 : w.heap.size ≤ bt18) (ne_bt15_bt18 : bt15 ≠ bt18) (ne_bt18_bt15 : bt18 ≠ bt15) (gd_bt6 : W3.heap.size ≤ bt6) (ge_bt6 : w.heap.size ≤ bt6) (ne_b2_bt6 : b2 ≠ bt6) (ne_bt6_b2 : bt6 ≠ b2) (E : Below w.heap.size w Wq) (k1 : Wq.heap[b1]? = some (.cells (WL_ v ao nw cw) 32)) (k2 : Wq.heap[b2]? = some (.cells #[.slice none 0 0, .slice none 0 0, .slice none 0 0, .int .i64 0, .float .f64 0] 36)) (S : Kept Nil W3 Wq) (kt15 : Wq.heap[bt15]? = some (.cells (Il (List.replicate n 0 ++ [])).toArray 3)) (kt18 : Wq.heap[bt18]? = some (.cells (Il (List.replicate n 0 ++ [])).toArray 3)) (kt6 : Wq.heap[bt6]? = some (.cells #[(.slice aE n cE), (.slice (some ⟨bt15, 0, none⟩) n n), (.slice (some ⟨bt18, 0, none⟩) n n), .int .i64 0, .float .f64 0] 36)), wpAnyH Try.prog .any ops Q SS 0 #[true, true, true, true, true, true, true, true, true, true] (F (Pz bt6 0) (.slice (some ⟨bt15, 0, none⟩) n n) (.slice (some ⟨bt18, 0, none⟩) n n) (.agg #[(.slice aE n cE), (.slice (some ⟨bt15, 0, none⟩) n n), (.slice (some ⟨bt18, 0, none⟩) n n), .int .i64 0, .float .f64 0])) Wq by
    have ST1 : ∀ (bt15 : Nat) (bt18 : Nat) (bt6 : Nat) (Wq : World) (gd_bt15 : W3.heap.size ≤ bt15) (ge_bt15 : w.heap.size ≤ bt15) (gd_bt18 : W3.heap.size ≤ bt18) (ge_bt18 : w.heap.size ≤ bt18) (ne_bt15_bt18 : bt15 ≠ bt18) (ne_bt18_bt15 : bt18 ≠ bt15) (gd_bt6 : W3.heap.size ≤ bt6) (ge_bt6 : w.heap.size ≤ bt6) (ne_b2_bt6 : b2 ≠ bt6) (ne_bt6_b2 : bt6 ≠ b2) (E : Below w.heap.size w Wq) (k1 : Wq.heap[b1]? = some (.cells (WL_ v ao nw cw) 32)) (k2 : Wq.heap[b2]? = some (.cells #[.slice none 0 0, .slice none 0 0, .slice none 0 0, .int .i64 0, .float .f64 0] 36)) (S : Kept Nil W3 Wq) (kt15 : Wq.heap[bt15]? = some (.cells (Il (List.replicate n 0 ++ [])).toArray 3)) (kt18 : Wq.heap[bt18]? = some (.cells (Il (List.replicate n 0 ++ [])).toArray 3)) (kt6 : Wq.heap[bt6]? = some (.cells #[.slice none 0 0, .slice none 0 0, .slice none 0 0, .int .i64 0, .float .f64 0] 36)), wpAnyH Try.prog .any ops Q SS 1 #[true, true, true, true, true, true, true, true, true, false] (F (Pz bt6 0) (.slice (some ⟨bt15, 0, none⟩) n n) (.slice (some ⟨bt18, 0, none⟩) n n) (.agg #[(.slice aE n cE), (.slice (some ⟨bt15, 0, none⟩) n n), (.slice (some ⟨bt18, 0, none⟩) n n), .int .i64 0, .float .f64 0])) Wq := by
      intro bt15 bt18 bt6 Wq gd_bt15 ge_bt15 gd_bt18 ge_bt18 ne_bt15_bt18 ne_bt18_bt15 gd_bt6 ge_bt6 ne_b2_bt6 ne_bt6_b2 E k1 k2 S kt15 kt18 kt6
      dsimp only [F]
      refine ops_in hops hS ?_; refine ah_or1 (i := 9) (by kernel_rfl) ?_
      · skip
        obtain ⟨W17, hst, kn, K⟩ := put_all (D := #[(.slice aE n cE), (.slice (some ⟨bt15, 0, none⟩) n n), (.slice (some ⟨bt18, 0, none⟩) n n), .int .i64 0, .float .f64 0]) kt6 rfl inf36 (by kernel_rfl); refine nx_sk rfl rfl rfl (ex_store rfl rfl rfl hst) (S.putN K gd_bt6) ?_; replace E := below_put E ge_bt6 K; replace k1 := keepK K k1 (fun e => ne_tag k1 kt6 (by decide) e); replace k2 := keepK K k2 (fun e => by first | exact ne_b2_bt6 e | exact ne_bt6_b2 e.symm); replace S := S.putN K gd_bt6; replace kt15 := keepK K kt15 (fun e => ne_tag kt15 kt6 (by decide) e)
        replace kt18 := keepK K kt18 (fun e => ne_tag kt18 kt6 (by decide) e); replace kt6 := kn; clear kn K hst; refine ah_L (L' := #[true, true, true, true, true, true, true, true, true, true]) (by kernel_rfl) ?_; refine ops_out hops hS ?_; exact FIN bt15 bt18 bt6 W17 gd_bt15 ge_bt15 gd_bt18 ge_bt18 ne_bt15_bt18 ne_bt18_bt15 gd_bt6 ge_bt6 ne_b2_bt6 ne_bt6_b2 E k1 k2 S kt15 kt18 kt6
    have ST2 : ∀ (bt15 : Nat) (bt18 : Nat) (Wq : World) (gd_bt15 : W3.heap.size ≤ bt15) (ge_bt15 : w.heap.size ≤ bt15) (gd_bt18 : W3.heap.size ≤ bt18) (ge_bt18 : w.heap.size ≤ bt18) (ne_bt15_bt18 : bt15 ≠ bt18) (ne_bt18_bt15 : bt18 ≠ bt15) (E : Below w.heap.size w Wq) (k1 : Wq.heap[b1]? = some (.cells (WL_ v ao nw cw) 32)) (k2 : Wq.heap[b2]? = some (.cells #[.slice none 0 0, .slice none 0 0, .slice none 0 0, .int .i64 0, .float .f64 0] 36)) (S : Kept Nil W3 Wq) (kt15 : Wq.heap[bt15]? = some (.cells (Il (List.replicate n 0 ++ [])).toArray 3)) (kt18 : Wq.heap[bt18]? = some (.cells (Il (List.replicate n 0 ++ [])).toArray 3)), wpAnyH Try.prog .any ops Q SS 2 #[true, true, true, true, true, true, true, true, false, false] (F undef (.slice (some ⟨bt15, 0, none⟩) n n) (.slice (some ⟨bt18, 0, none⟩) n n) (.agg #[(.slice aE n cE), (.slice (some ⟨bt15, 0, none⟩) n n), (.slice (some ⟨bt18, 0, none⟩) n n), .int .i64 0, .float .f64 0])) Wq := by
      intro bt15 bt18 Wq gd_bt15 ge_bt15 gd_bt18 ge_bt18 ne_bt15_bt18 ne_bt18_bt15 E k1 k2 S kt15 kt18
      dsimp only [F]
      refine ops_in hops hS ?_; refine ah_or1 (i := 8) (by kernel_rfl) ?_
      · skip
        refine nx_new (fun b => .pointer (some ⟨b, 0, none⟩)) (some 6) rfl rfl rfl (ex_alloc rfl zero36) ?_; intro bt6 W18 kt6 gt6 B; refine ⟨S.next B, ?_⟩; simp only [zp]; have gd_bt6 := Nat.le_trans S.size gt6
        have ne_bt6_b2 : bt6 ≠ b2 := fun e => by have := lt_of k2; omega
        have ne_b2_bt6 := ne_bt6_b2.symm; have ge_bt6 := Nat.le_trans E.size gt6; replace E := below_next E B; replace k1 := keep B k1; replace k2 := keep B k2; replace S := S.next B; replace kt15 := keep B kt15; replace kt18 := keep B kt18; clear B; refine ah_L (L' := #[true, true, true, true, true, true, true, true, true, false]) (by kernel_rfl) ?_; refine ops_out hops hS ?_; exact ST1 bt15 bt18 bt6 W18 gd_bt15 ge_bt15 gd_bt18 ge_bt18 ne_bt15_bt18 ne_bt18_bt15 gd_bt6 ge_bt6 ne_b2_bt6 ne_bt6_b2 E k1 k2 S kt15 kt18 kt6
    have ST3 : ∀ (bt15 : Nat) (bt6 : Nat) (Wq : World) (gd_bt15 : W3.heap.size ≤ bt15) (ge_bt15 : w.heap.size ≤ bt15) (gd_bt6 : W3.heap.size ≤ bt6) (ge_bt6 : w.heap.size ≤ bt6) (ne_b2_bt6 : b2 ≠ bt6) (ne_bt6_b2 : bt6 ≠ b2) (E : Below w.heap.size w Wq) (k1 : Wq.heap[b1]? = some (.cells (WL_ v ao nw cw) 32)) (k2 : Wq.heap[b2]? = some (.cells #[.slice none 0 0, .slice none 0 0, .slice none 0 0, .int .i64 0, .float .f64 0] 36)) (S : Kept Nil W3 Wq) (kt15 : Wq.heap[bt15]? = some (.cells (Il (List.replicate n 0 ++ [])).toArray 3)) (kt6 : Wq.heap[bt6]? = some (.cells #[.slice none 0 0, .slice none 0 0, .slice none 0 0, .int .i64 0, .float .f64 0] 36)), wpAnyH Try.prog .any ops Q SS 3 #[true, true, true, true, true, true, false, false, true, false] (F (Pz bt6 0) (.slice (some ⟨bt15, 0, none⟩) n n) undef undef) Wq := by
      intro bt15 bt6 Wq gd_bt15 ge_bt15 gd_bt6 ge_bt6 ne_b2_bt6 ne_bt6_b2 E k1 k2 S kt15 kt6
      dsimp only [F]
      refine ops_in hops hS ?_; refine ah_or1 (i := 6) (by kernel_rfl) ?_
      · skip
        refine nx_new (fun b => .slice (some ⟨b, 0, none⟩) n n) (some 18) rfl rfl rfl (ex_mkI (n := n) rfl rfl rfl (by omega)) ?_; intro bt18 W19 kt18 gt18 B; refine ⟨S.next B, ?_⟩; simp only [zp]; have gd_bt18 := Nat.le_trans S.size gt18
        have ne_bt18_bt15 : bt18 ≠ bt15 := fun e => by have := lt_of kt15; omega
        have ne_bt15_bt18 := ne_bt18_bt15.symm; have ge_bt18 := Nat.le_trans E.size gt18; replace E := below_next E B; replace k1 := keep B k1; replace k2 := keep B k2; replace S := S.next B; replace kt15 := keep B kt15; replace kt6 := keep B kt6; clear B
        refine tk (.agg #[(.slice aE n cE), (.slice (some ⟨bt15, 0, none⟩) n n), (.slice (some ⟨bt18, 0, none⟩) n n), .int .i64 0, .float .f64 0]) 7 19 rfl rfl rfl (fun W hK => ex_build3 (v1 := (.slice aE n cE)) (v2 := (.slice (some ⟨bt15, 0, none⟩) n n)) (v3 := (.slice (some ⟨bt18, 0, none⟩) n n)) rfl rfl rfl rfl (bWay .nilFunc .nilFunc .nilFunc rfl rfl rfl _ _ _ _ _ _ _ _ _ _)) S hQP ?_; refine ah_L (L' := #[true, true, true, true, true, true, true, true, true, false]) (by kernel_rfl) ?_; refine ops_out hops hS ?_
        exact ST1 bt15 bt18 bt6 W19 gd_bt15 ge_bt15 gd_bt18 ge_bt18 ne_bt15_bt18 ne_bt18_bt15 gd_bt6 ge_bt6 ne_b2_bt6 ne_bt6_b2 E k1 k2 S kt15 kt18 kt6
    have ST4 : ∀ (bt18 : Nat) (bt6 : Nat) (Wq : World) (gd_bt18 : W3.heap.size ≤ bt18) (ge_bt18 : w.heap.size ≤ bt18) (gd_bt6 : W3.heap.size ≤ bt6) (ge_bt6 : w.heap.size ≤ bt6) (ne_b2_bt6 : b2 ≠ bt6) (ne_bt6_b2 : bt6 ≠ b2) (E : Below w.heap.size w Wq) (k1 : Wq.heap[b1]? = some (.cells (WL_ v ao nw cw) 32)) (k2 : Wq.heap[b2]? = some (.cells #[.slice none 0 0, .slice none 0 0, .slice none 0 0, .int .i64 0, .float .f64 0] 36)) (S : Kept Nil W3 Wq) (kt18 : Wq.heap[bt18]? = some (.cells (Il (List.replicate n 0 ++ [])).toArray 3)) (kt6 : Wq.heap[bt6]? = some (.cells #[.slice none 0 0, .slice none 0 0, .slice none 0 0, .int .i64 0, .float .f64 0] 36)), wpAnyH Try.prog .any ops Q SS 3 #[true, true, true, false, true, true, true, false, true, false] (F (Pz bt6 0) undef (.slice (some ⟨bt18, 0, none⟩) n n) undef) Wq := by
      intro bt18 bt6 Wq gd_bt18 ge_bt18 gd_bt6 ge_bt6 ne_b2_bt6 ne_bt6_b2 E k1 k2 S kt18 kt6
      dsimp only [F]
      refine ops_in hops hS ?_; refine ah_or1 (i := 3) (by kernel_rfl) ?_
      · skip
        refine nx_new (fun b => .slice (some ⟨b, 0, none⟩) n n) (some 15) rfl rfl rfl (ex_mkI (n := n) rfl rfl rfl (by omega)) ?_; intro bt15 W20 kt15 gt15 B; refine ⟨S.next B, ?_⟩; simp only [zp]; have gd_bt15 := Nat.le_trans S.size gt15
        have ne_bt15_bt18 : bt15 ≠ bt18 := fun e => by have := lt_of kt18; omega
        have ne_bt18_bt15 := ne_bt15_bt18.symm; have ge_bt15 := Nat.le_trans E.size gt15; replace E := below_next E B; replace k1 := keep B k1; replace k2 := keep B k2; replace S := S.next B; replace kt18 := keep B kt18; replace kt6 := keep B kt6; clear B
        refine tk (.agg #[(.slice aE n cE), (.slice (some ⟨bt15, 0, none⟩) n n), (.slice (some ⟨bt18, 0, none⟩) n n), .int .i64 0, .float .f64 0]) 7 19 rfl rfl rfl (fun W hK => ex_build3 (v1 := (.slice aE n cE)) (v2 := (.slice (some ⟨bt15, 0, none⟩) n n)) (v3 := (.slice (some ⟨bt18, 0, none⟩) n n)) rfl rfl rfl rfl (bWay .nilFunc .nilFunc .nilFunc rfl rfl rfl _ _ _ _ _ _ _ _ _ _)) S hQP ?_; refine ah_L (L' := #[true, true, true, true, true, true, true, true, true, false]) (by kernel_rfl) ?_; refine ops_out hops hS ?_
        exact ST1 bt15 bt18 bt6 W20 gd_bt15 ge_bt15 gd_bt18 ge_bt18 ne_bt15_bt18 ne_bt18_bt15 gd_bt6 ge_bt6 ne_b2_bt6 ne_bt6_b2 E k1 k2 S kt15 kt18 kt6
    have ST5 : ∀ (bt15 : Nat) (Wq : World) (gd_bt15 : W3.heap.size ≤ bt15) (ge_bt15 : w.heap.size ≤ bt15) (E : Below w.heap.size w Wq) (k1 : Wq.heap[b1]? = some (.cells (WL_ v ao nw cw) 32)) (k2 : Wq.heap[b2]? = some (.cells #[.slice none 0 0, .slice none 0 0, .slice none 0 0, .int .i64 0, .float .f64 0] 36)) (S : Kept Nil W3 Wq) (kt15 : Wq.heap[bt15]? = some (.cells (Il (List.replicate n 0 ++ [])).toArray 3)), wpAnyH Try.prog .any ops Q SS 4 #[true, true, true, true, true, true, false, false, false, false] (F undef (.slice (some ⟨bt15, 0, none⟩) n n) undef undef) Wq := by
      intro bt15 Wq gd_bt15 ge_bt15 E k1 k2 S kt15
      dsimp only [F]
      refine ops_in hops hS ?_; refine ah_or2 (i := 6) (j := 8) (by kernel_rfl) ?_ ?_
      · skip
        refine nx_new (fun b => .slice (some ⟨b, 0, none⟩) n n) (some 18) rfl rfl rfl (ex_mkI (n := n) rfl rfl rfl (by omega)) ?_; intro bt18 W21 kt18 gt18 B; refine ⟨S.next B, ?_⟩; simp only [zp]; have gd_bt18 := Nat.le_trans S.size gt18
        have ne_bt18_bt15 : bt18 ≠ bt15 := fun e => by have := lt_of kt15; omega
        have ne_bt15_bt18 := ne_bt18_bt15.symm; have ge_bt18 := Nat.le_trans E.size gt18; replace E := below_next E B; replace k1 := keep B k1; replace k2 := keep B k2; replace S := S.next B; replace kt15 := keep B kt15; clear B
        refine tk (.agg #[(.slice aE n cE), (.slice (some ⟨bt15, 0, none⟩) n n), (.slice (some ⟨bt18, 0, none⟩) n n), .int .i64 0, .float .f64 0]) 7 19 rfl rfl rfl (fun W hK => ex_build3 (v1 := (.slice aE n cE)) (v2 := (.slice (some ⟨bt15, 0, none⟩) n n)) (v3 := (.slice (some ⟨bt18, 0, none⟩) n n)) rfl rfl rfl rfl (bWay .nilFunc .nilFunc .nilFunc rfl rfl rfl _ _ _ _ _ _ _ _ _ _)) S hQP ?_; refine ah_L (L' := #[true, true, true, true, true, true, true, true, false, false]) (by kernel_rfl) ?_; refine ops_out hops hS ?_
        exact ST2 bt15 bt18 W21 gd_bt15 ge_bt15 gd_bt18 ge_bt18 ne_bt15_bt18 ne_bt18_bt15 E k1 k2 S kt15 kt18
      · skip
        refine nx_new (fun b => .pointer (some ⟨b, 0, none⟩)) (some 6) rfl rfl rfl (ex_alloc rfl zero36) ?_; intro bt6 W22 kt6 gt6 B; refine ⟨S.next B, ?_⟩; simp only [zp]; have gd_bt6 := Nat.le_trans S.size gt6
        have ne_bt6_b2 : bt6 ≠ b2 := fun e => by have := lt_of k2; omega
        have ne_b2_bt6 := ne_bt6_b2.symm; have ge_bt6 := Nat.le_trans E.size gt6; replace E := below_next E B; replace k1 := keep B k1; replace k2 := keep B k2; replace S := S.next B; replace kt15 := keep B kt15; clear B; refine ah_L (L' := #[true, true, true, true, true, true, false, false, true, false]) (by kernel_rfl) ?_; refine ops_out hops hS ?_; exact ST3 bt15 bt6 W22 gd_bt15 ge_bt15 gd_bt6 ge_bt6 ne_b2_bt6 ne_bt6_b2 E k1 k2 S kt15 kt6
    have ST6 : ∀ (bt18 : Nat) (Wq : World) (gd_bt18 : W3.heap.size ≤ bt18) (ge_bt18 : w.heap.size ≤ bt18) (E : Below w.heap.size w Wq) (k1 : Wq.heap[b1]? = some (.cells (WL_ v ao nw cw) 32)) (k2 : Wq.heap[b2]? = some (.cells #[.slice none 0 0, .slice none 0 0, .slice none 0 0, .int .i64 0, .float .f64 0] 36)) (S : Kept Nil W3 Wq) (kt18 : Wq.heap[bt18]? = some (.cells (Il (List.replicate n 0 ++ [])).toArray 3)), wpAnyH Try.prog .any ops Q SS 4 #[true, true, true, false, true, true, true, false, false, false] (F undef undef (.slice (some ⟨bt18, 0, none⟩) n n) undef) Wq := by
      intro bt18 Wq gd_bt18 ge_bt18 E k1 k2 S kt18
      dsimp only [F]
      refine ops_in hops hS ?_; refine ah_or2 (i := 3) (j := 8) (by kernel_rfl) ?_ ?_
      · skip
        refine nx_new (fun b => .slice (some ⟨b, 0, none⟩) n n) (some 15) rfl rfl rfl (ex_mkI (n := n) rfl rfl rfl (by omega)) ?_; intro bt15 W23 kt15 gt15 B; refine ⟨S.next B, ?_⟩; simp only [zp]; have gd_bt15 := Nat.le_trans S.size gt15
        have ne_bt15_bt18 : bt15 ≠ bt18 := fun e => by have := lt_of kt18; omega
        have ne_bt18_bt15 := ne_bt15_bt18.symm; have ge_bt15 := Nat.le_trans E.size gt15; replace E := below_next E B; replace k1 := keep B k1; replace k2 := keep B k2; replace S := S.next B; replace kt18 := keep B kt18; clear B
        refine tk (.agg #[(.slice aE n cE), (.slice (some ⟨bt15, 0, none⟩) n n), (.slice (some ⟨bt18, 0, none⟩) n n), .int .i64 0, .float .f64 0]) 7 19 rfl rfl rfl (fun W hK => ex_build3 (v1 := (.slice aE n cE)) (v2 := (.slice (some ⟨bt15, 0, none⟩) n n)) (v3 := (.slice (some ⟨bt18, 0, none⟩) n n)) rfl rfl rfl rfl (bWay .nilFunc .nilFunc .nilFunc rfl rfl rfl _ _ _ _ _ _ _ _ _ _)) S hQP ?_; refine ah_L (L' := #[true, true, true, true, true, true, true, true, false, false]) (by kernel_rfl) ?_; refine ops_out hops hS ?_
        exact ST2 bt15 bt18 W23 gd_bt15 ge_bt15 gd_bt18 ge_bt18 ne_bt15_bt18 ne_bt18_bt15 E k1 k2 S kt15 kt18
      · skip
        refine nx_new (fun b => .pointer (some ⟨b, 0, none⟩)) (some 6) rfl rfl rfl (ex_alloc rfl zero36) ?_; intro bt6 W24 kt6 gt6 B; refine ⟨S.next B, ?_⟩; simp only [zp]; have gd_bt6 := Nat.le_trans S.size gt6
        have ne_bt6_b2 : bt6 ≠ b2 := fun e => by have := lt_of k2; omega
        have ne_b2_bt6 := ne_bt6_b2.symm; have ge_bt6 := Nat.le_trans E.size gt6; replace E := below_next E B; replace k1 := keep B k1; replace k2 := keep B k2; replace S := S.next B; replace kt18 := keep B kt18; clear B; refine ah_L (L' := #[true, true, true, false, true, true, true, false, true, false]) (by kernel_rfl) ?_; refine ops_out hops hS ?_; exact ST4 bt18 bt6 W24 gd_bt18 ge_bt18 gd_bt6 ge_bt6 ne_b2_bt6 ne_bt6_b2 E k1 k2 S kt18 kt6
    have ST7 : ∀ (bt6 : Nat) (Wq : World) (gd_bt6 : W3.heap.size ≤ bt6) (ge_bt6 : w.heap.size ≤ bt6) (ne_b2_bt6 : b2 ≠ bt6) (ne_bt6_b2 : bt6 ≠ b2) (E : Below w.heap.size w Wq) (k1 : Wq.heap[b1]? = some (.cells (WL_ v ao nw cw) 32)) (k2 : Wq.heap[b2]? = some (.cells #[.slice none 0 0, .slice none 0 0, .slice none 0 0, .int .i64 0, .float .f64 0] 36)) (S : Kept Nil W3 Wq) (kt6 : Wq.heap[bt6]? = some (.cells #[.slice none 0 0, .slice none 0 0, .slice none 0 0, .int .i64 0, .float .f64 0] 36)), wpAnyH Try.prog .any ops Q SS 4 #[true, true, true, false, true, true, false, false, true, false] (F (Pz bt6 0) undef undef undef) Wq := by
      intro bt6 Wq gd_bt6 ge_bt6 ne_b2_bt6 ne_bt6_b2 E k1 k2 S kt6
      dsimp only [F]
      refine ops_in hops hS ?_; refine ah_or2 (i := 3) (j := 6) (by kernel_rfl) ?_ ?_
      · skip
        refine nx_new (fun b => .slice (some ⟨b, 0, none⟩) n n) (some 15) rfl rfl rfl (ex_mkI (n := n) rfl rfl rfl (by omega)) ?_; intro bt15 W25 kt15 gt15 B; refine ⟨S.next B, ?_⟩; simp only [zp]; have gd_bt15 := Nat.le_trans S.size gt15; have ge_bt15 := Nat.le_trans E.size gt15; replace E := below_next E B; replace k1 := keep B k1; replace k2 := keep B k2; replace S := S.next B; replace kt6 := keep B kt6; clear B; refine ah_L (L' := #[true, true, true, true, true, true, false, false, true, false]) (by kernel_rfl) ?_; refine ops_out hops hS ?_
        exact ST3 bt15 bt6 W25 gd_bt15 ge_bt15 gd_bt6 ge_bt6 ne_b2_bt6 ne_bt6_b2 E k1 k2 S kt15 kt6
      · skip
        refine nx_new (fun b => .slice (some ⟨b, 0, none⟩) n n) (some 18) rfl rfl rfl (ex_mkI (n := n) rfl rfl rfl (by omega)) ?_; intro bt18 W26 kt18 gt18 B; refine ⟨S.next B, ?_⟩; simp only [zp]; have gd_bt18 := Nat.le_trans S.size gt18; have ge_bt18 := Nat.le_trans E.size gt18; replace E := below_next E B; replace k1 := keep B k1; replace k2 := keep B k2; replace S := S.next B; replace kt6 := keep B kt6; clear B; refine ah_L (L' := #[true, true, true, false, true, true, true, false, true, false]) (by kernel_rfl) ?_; refine ops_out hops hS ?_
        exact ST4 bt18 bt6 W26 gd_bt18 ge_bt18 gd_bt6 ge_bt6 ne_b2_bt6 ne_bt6_b2 E k1 k2 S kt18 kt6
    refine ops_in hops hS ?_; refine ah_or3 (i := 3) (j := 6) (k := 8) (by kernel_rfl) ?_ ?_ ?_
    · skip
      refine nx_new (fun b => .slice (some ⟨b, 0, none⟩) n n) (some 15) rfl rfl rfl (ex_mkI (n := n) rfl rfl rfl (by omega)) ?_; intro bt15 W27 kt15 gt15 B; refine ⟨S.next B, ?_⟩; simp only [zp]; have gd_bt15 := Nat.le_trans S.size gt15; have ge_bt15 := Nat.le_trans E.size gt15; replace E := below_next E B; replace k1 := keep B k1; replace k2 := keep B k2; replace S := S.next B; clear B; refine ah_L (L' := #[true, true, true, true, true, true, false, false, false, false]) (by kernel_rfl) ?_; refine ops_out hops hS ?_; exact ST5 bt15 W27 gd_bt15 ge_bt15 E k1 k2 S kt15
    · skip
      refine nx_new (fun b => .slice (some ⟨b, 0, none⟩) n n) (some 18) rfl rfl rfl (ex_mkI (n := n) rfl rfl rfl (by omega)) ?_; intro bt18 W28 kt18 gt18 B; refine ⟨S.next B, ?_⟩; simp only [zp]; have gd_bt18 := Nat.le_trans S.size gt18; have ge_bt18 := Nat.le_trans E.size gt18; replace E := below_next E B; replace k1 := keep B k1; replace k2 := keep B k2; replace S := S.next B; clear B; refine ah_L (L' := #[true, true, true, false, true, true, true, false, false, false]) (by kernel_rfl) ?_; refine ops_out hops hS ?_; exact ST6 bt18 W28 gd_bt18 ge_bt18 E k1 k2 S kt18
    · skip
      refine nx_new (fun b => .pointer (some ⟨b, 0, none⟩)) (some 6) rfl rfl rfl (ex_alloc rfl zero36) ?_; intro bt6 W29 kt6 gt6 B; refine ⟨S.next B, ?_⟩; simp only [zp]; have gd_bt6 := Nat.le_trans S.size gt6
      have ne_bt6_b2 : bt6 ≠ b2 := fun e => by have := lt_of k2; omega
      have ne_b2_bt6 := ne_bt6_b2.symm; have ge_bt6 := Nat.le_trans E.size gt6; replace E := below_next E B; replace k1 := keep B k1; replace k2 := keep B k2; replace S := S.next B; clear B; refine ah_L (L' := #[true, true, true, false, true, true, false, false, true, false]) (by kernel_rfl) ?_; refine ops_out hops hS ?_; exact ST7 bt6 W29 gd_bt6 ge_bt6 ne_b2_bt6 ne_bt6_b2 E k1 k2 S kt6
  intro bt15 bt18 bt6 Wq gd_bt15 ge_bt15 gd_bt18 ge_bt18 ne_bt15_bt18 ne_bt18_bt15 gd_bt6 ge_bt6 ne_b2_bt6 ne_bt6_b2 E k1 k2 S kt15 kt18 kt6
  dsimp only [F]
  try dsimp only
  refine ops_in hops hS ?_; refine ah_done (by kernel_rfl) ?_; clear hQP hops hS; subst hQ; clear S d_k1 d_k2 ; refine wp_seq ?_; obtain ⟨W30, hwd⟩ : ∃ wd, Wq.drew = wd := ⟨_, rfl⟩; refine wp_region_held (S := fun W => Kept Nil W30 W) (by kernel_rfl) ?_
  show wpAnyH _ _ _ _ _ _ _ _ Wq.drew
  rw [hwd]; refine capQ fun Q hQ => ?_
  have hQP : ∀ c (a : Act) (d : Nat) v w, Q (.panic c) (a.put (some d) v) w → Q (.panic c) a w := by
    subst hQ; exact fun _ _ _ _ _ h => h
  have BD : Below Wq.heap.size Wq W30 := by rw [← hwd]; exact below_drewB (Below.refl _ _)
  clear hwd; replace E := below_next E BD; replace k1 := keep BD k1; replace k2 := keep BD k2; replace kt15 := keep BD kt15; replace kt18 := keep BD kt18; replace kt6 := keep BD kt6; clear BD
  have S : Kept Nil W30 W30 := Kept.refl _ _
  have d_k1 := k1; have d_k2 := k2; have d_kt15 := kt15; have d_kt18 := kt18; have d_kt6 := kt6; refine tk (Pz b1 2) 0 20 rfl rfl rfl (fun W hK => ex_fa (p := (Pz b1 0)) rfl rfl (fa32_2 _ _)) S hQP ?_; refine tk (.int .i64 v.am) 1 21 rfl rfl rfl (fun W hK => ex_load (p := (Pz b1 2)) rfl rfl (ld3 (at_cell (keepK hK d_k1 (nilN _)) rfl))) S hQP ?_; refine tk (Pz b1 3) 2 22 rfl rfl rfl (fun W hK => ex_fa (p := (Pz b1 0)) rfl rfl (fa32_3 _ _)) S hQP ?_; refine tk (.int .i64 v.la) 3 23 rfl rfl rfl (fun W hK => ex_load (p := (Pz b1 3)) rfl rfl (ld3 (at_cell (keepK hK d_k1 (nilN _)) rfl))) S hQP ?_
  refine tk (.int .i64 v.am) 4 7 rfl rfl rfl (fun W hK => ex_asg rfl rfl) S hQP ?_; refine tk (.int .i64 v.la) 5 8 rfl rfl rfl (fun W hK => ex_asg rfl rfl) S hQP ?_; refine ah_done (by kernel_rfl) ?_; clear hQP; subst hQ; clear S d_k1 d_k2 d_kt15 d_kt18 d_kt6 ; refine wp_seq ?_; refine wq fun Q hQ => ?_; refine vm (.slice aE n cE) 24 rfl rfl rfl rfl ?_; refine vv (.int .i64 (n : Nat)) 25 rfl rfl (ex_len rfl rfl (len33 _ _ _ _ _)) ?_; refine vv (.int .i64 ((n : Int) - 1)) 26 rfl rfl (ex_bin rfl rfl rfl (eg3 _ _ _ _ _ _) (sub3 _ rfl (by omega))) ?_
  refine vg (.int .i64 ((n : Int) - 1)) 9 rfl rfl rfl rfl ?_; refine st_end ?_; subst hQ; refine wp_block ?_
  have neAX : ¬ bt15 = bt18 := by first | exact ne_bt15_bt18 | exact fun e => ne_bt18_bt15 e.symm
  have ne46 : ¬ b2 = bt6 := by first | exact ne_b2_bt6 | exact fun e => ne_bt6_b2 e.symm | omega
  go_loopw [7, 8, 9] (fun v7 v8 v9 wr => ∃ (m : Nat) (am xs : List Int) (a x : Int), 1 ≤ m ∧ m ≤ n ∧ v9 = .int .i64 ((m : Int) - 1) ∧ v7 = .int .i64 a ∧ v8 = .int .i64 x ∧ layN v (es.drop m) = some (am, xs) ∧ into v (es.drop m) am xs = some (a, x) ∧ (0 ≤ a ∧ a ≤ 9223372036854775807) ∧ (0 ≤ x ∧ x ≤ 2147484647) ∧ (∀ q ∈ am, 0 ≤ q ∧ q ≤ 9223372036854775807) ∧ Below w.heap.size w wr ∧ wr.heap[b1]? = some (.cells (WL_ v ao nw cw) 32) ∧ wr.heap[b2]? = some (.cells #[.slice none 0 0, .slice none 0 0, .slice none 0 0, .int .i64 0, .float .f64 0] 36) ∧ wr.heap[bt6]? = some (.cells #[(.slice aE n cE), (.slice (some ⟨bt15, 0, none⟩) n n), (.slice (some ⟨bt18, 0, none⟩) n n), .int .i64 0, .float .f64 0] 36) ∧ wr.heap[bt15]? = some (.cells (Il (List.replicate m 0 ++ am)).toArray 3) ∧ wr.heap[bt18]? = some (.cells (Il (List.replicate m 0 ++ xs)).toArray 3)) (fun _ _ v9 _ => (intOf v9).toNat)
  case atStart => exact ⟨n, [], [], v.am, v.la, h1, Nat.le_refl _, rfl, rfl, rfl, by rw [List.drop_of_length_le (by omega)]; rfl, by rw [List.drop_of_length_le (by omega)]; rfl, by have := hv.am; omega, by omega, by simp, E, k1, k2, kt6, kt15, kt18⟩
  case round =>
    clear E k1 k2 kt6 kt15 kt18; obtain ⟨m1, am, xs, a, x, hm1, hmn, rfl, rfl, rfl, hla, hin, ha, hx, ham, E, k2, k4, k6, kA, kX⟩ := hrel; obtain ⟨m, rfl⟩ : ∃ m, m1 = m + 1 := ⟨m1 - 1, by omega⟩; obtain ⟨e, he⟩ : ∃ e, es[m]? = some e := ⟨es[m]'(by omega), List.getElem?_eq_getElem (by omega)⟩; have heb := hb e (List.mem_of_getElem? he); have hdl := heb.delta; have hcp := heb.caps; have hcm := heb.cap; have hqb := heb.b; have hdr := drop_cons he
    rcases hE with q | ⟨bE, oE, rfl, hbN, ⟨cur0, hcur0⟩, hr⟩
    · rw [q] at he; simp at he
    have hrb := range_below (range_at hr he) E
    by_cases e0 : e.cap < a
    · skip
      have hno : wayN v es = none := way_none (lay_none m es (by rw [hdr]; exact lay_bad hla hin (.inl e0)))
      refine wp_seq ?_; refine wq fun Q hQ => ?_; refine vm (.int .i64 (((m + 1 : Nat) : Int) - 1)) 27 rfl rfl rfl rfl ?_; refine vv (.bool true) 28 rfl rfl (ex_bin (u := (.int .i64 (((m + 1 : Nat) : Int) - 1))) (r := (.int .i64 0)) rfl rfl rfl (eg3 _ _ _ _ _ _) (geq3 _ (decide_eq_true (by omega)))) ?_; refine st_end ?_; subst hQ; refine wp_cond_true rfl ?_; refine wp_skip ?_; refine wp_seq ?_; refine wp_block ?_; refine wp_seq ?_; refine wq fun Q hQ => ?_; refine vm (.int .i64 a) 31 rfl rfl rfl rfl ?_; refine vm (.slice (some ⟨bE, oE, none⟩) n cE) 32 rfl rfl rfl rfl ?_
      refine vm (.int .i64 (((m + 1 : Nat) : Int) - 1)) 33 rfl rfl rfl rfl ?_; refine vv (.pointer (some ⟨bE, (oE + m * 13), none⟩)) 34 rfl rfl (ix33 (k := m) rfl rfl rfl ((by omega)) ((by omega))) ?_; refine vv (.pointer (some ⟨bE, ((oE + m * 13) + 3), none⟩)) 35 rfl rfl (ex_fa (p := (.pointer (some ⟨bE, (oE + m * 13), none⟩))) rfl rfl (fg49_3 _ _ _)) ?_; refine vv (.int .i64 e.cap) 36 rfl rfl (ex_load rfl rfl (ld3 (hrb 3 _ rfl))) ?_
      refine vv (.bool true) 37 rfl rfl (ex_bin (u := (.int .i64 a)) (r := (.int .i64 e.cap)) rfl rfl rfl (eg3 _ _ _ _ _ _) (gtr3 _ (decide_eq_true (by omega)))) ?_; refine vm (.bool true) 38 rfl rfl rfl rfl ?_; refine vn 39 rfl rfl ?_; refine vn 40 rfl rfl ?_; refine vv (.bool true) 41 rfl rfl (ex_pkT rfl rfl rfl) ?_; refine st_end ?_; subst hQ; refine wp_cond_true rfl ?_; refine wq fun Q hQ => ?_; refine vv (.agg #[.slice none 0 0, .slice none 0 0, .slice none 0 0, .int .i64 0, .float .f64 0]) 42 rfl rfl (ex_build0  rfl (bWay0 _)) ?_
      obtain ⟨W31, hst, kn, K⟩ := put_all (D := #[.slice none 0 0, .slice none 0 0, .slice none 0 0, .int .i64 0, .float .f64 0]) k4 rfl inf36 (by kernel_rfl); refine st_sk rfl rfl (ex_store rfl rfl rfl hst) ?_; replace E := below_put E ge_b2 K; replace k2 := keepK K k2 (fun e => ne_tag k2 k4 (by decide) e); replace k6 := keepK K k6 (fun e => ne46 e.symm); replace kA := keepK K kA (fun e => ne_tag kA k4 (by decide) e); replace kX := keepK K kX (fun e => ne_tag kX k4 (by decide) e); replace k4 := kn; clear kn K hst; refine vg (.bool false) 5 rfl rfl rfl rfl ?_; refine st_end ?_; subst hQ
      refine wp_ret ?_
      repeat (first | refine ret_out ?_ | refine ret_blk ?_)
      refine bodyPost_ret (res_ct Try.results37 _ _ _ _ rfl k4 Try.underlying36 rfl inf36) rfl ⟨E, ?_⟩; rw [hno]; exact ⟨_, rfl, rfl, one5⟩
    by_cases e1 : 2147483647 < x
    · skip
      have hno : wayN v es = none := way_none (lay_none m es (by rw [hdr]; exact lay_bad hla hin (.inr e1)))
      refine wp_seq ?_; refine wq fun Q hQ => ?_; refine vm (.int .i64 (((m + 1 : Nat) : Int) - 1)) 27 rfl rfl rfl rfl ?_; refine vv (.bool true) 28 rfl rfl (ex_bin (u := (.int .i64 (((m + 1 : Nat) : Int) - 1))) (r := (.int .i64 0)) rfl rfl rfl (eg3 _ _ _ _ _ _) (geq3 _ (decide_eq_true (by omega)))) ?_; refine st_end ?_; subst hQ; refine wp_cond_true rfl ?_; refine wp_skip ?_; refine wp_seq ?_; refine wp_block ?_; refine wp_seq ?_; refine wq fun Q hQ => ?_; refine vm (.int .i64 a) 31 rfl rfl rfl rfl ?_; refine vm (.slice (some ⟨bE, oE, none⟩) n cE) 32 rfl rfl rfl rfl ?_
      refine vm (.int .i64 (((m + 1 : Nat) : Int) - 1)) 33 rfl rfl rfl rfl ?_; refine vv (.pointer (some ⟨bE, (oE + m * 13), none⟩)) 34 rfl rfl (ix33 (k := m) rfl rfl rfl ((by omega)) ((by omega))) ?_; refine vv (.pointer (some ⟨bE, ((oE + m * 13) + 3), none⟩)) 35 rfl rfl (ex_fa (p := (.pointer (some ⟨bE, (oE + m * 13), none⟩))) rfl rfl (fg49_3 _ _ _)) ?_; refine vv (.int .i64 e.cap) 36 rfl rfl (ex_load rfl rfl (ld3 (hrb 3 _ rfl))) ?_
      refine vv (.bool false) 37 rfl rfl (ex_bin (u := (.int .i64 a)) (r := (.int .i64 e.cap)) rfl rfl rfl (eg3 _ _ _ _ _ _) (gtr3 _ (decide_eq_false (by omega)))) ?_; refine vm (.bool false) 38 rfl rfl rfl rfl ?_; refine vm (.int .i64 x) 39 rfl rfl rfl rfl ?_; refine vv (.bool true) 40 rfl rfl (ex_bin (u := (.int .i64 x)) (r := (.int .i64 2147483647)) rfl rfl rfl (eg3 _ _ _ _ _ _) (gtr3 _ (decide_eq_true (by omega)))) ?_; refine vv (.bool true) 41 rfl rfl (ex_pkF rfl rfl rfl) ?_; refine st_end ?_; subst hQ; refine wp_cond_true rfl ?_; refine wq fun Q hQ => ?_
      refine vv (.agg #[.slice none 0 0, .slice none 0 0, .slice none 0 0, .int .i64 0, .float .f64 0]) 42 rfl rfl (ex_build0  rfl (bWay0 _)) ?_; obtain ⟨W32, hst, kn, K⟩ := put_all (D := #[.slice none 0 0, .slice none 0 0, .slice none 0 0, .int .i64 0, .float .f64 0]) k4 rfl inf36 (by kernel_rfl); refine st_sk rfl rfl (ex_store rfl rfl rfl hst) ?_; replace E := below_put E ge_b2 K; replace k2 := keepK K k2 (fun e => ne_tag k2 k4 (by decide) e); replace k6 := keepK K k6 (fun e => ne46 e.symm); replace kA := keepK K kA (fun e => ne_tag kA k4 (by decide) e)
      replace kX := keepK K kX (fun e => ne_tag kX k4 (by decide) e); replace k4 := kn; clear kn K hst; refine vg (.bool false) 5 rfl rfl rfl rfl ?_; refine st_end ?_; subst hQ; refine wp_ret ?_
      repeat (first | refine ret_out ?_ | refine ret_blk ?_)
      refine bodyPost_ret (res_ct Try.results37 _ _ _ _ rfl k4 Try.underlying36 rfl inf36) rfl ⟨E, ?_⟩; rw [hno]; exact ⟨_, rfl, rfl, one5⟩
    have hgo := lay_good (e := e) hla hin (by omega); rw [← hdr] at hgo
    have ham2 : ∀ q ∈ a :: am, 0 ≤ q ∧ q ≤ 9223372036854775807 := fun q hq => by
      rcases List.mem_cons.1 hq with h | h
      · subst h; exact ha
      · exact ham q h
    by_cases e2 : m = 0
    · skip
      refine wp_seq ?_; refine wq fun Q hQ => ?_; refine vm (.int .i64 (((m + 1 : Nat) : Int) - 1)) 27 rfl rfl rfl rfl ?_; refine vv (.bool true) 28 rfl rfl (ex_bin (u := (.int .i64 (((m + 1 : Nat) : Int) - 1))) (r := (.int .i64 0)) rfl rfl rfl (eg3 _ _ _ _ _ _) (geq3 _ (decide_eq_true (by omega)))) ?_; refine st_end ?_; subst hQ; refine wp_cond_true rfl ?_; refine wp_skip ?_; refine wp_seq ?_; refine wp_block ?_; refine wp_seq ?_; refine wq fun Q hQ => ?_; refine vm (.int .i64 a) 31 rfl rfl rfl rfl ?_; refine vm (.slice (some ⟨bE, oE, none⟩) n cE) 32 rfl rfl rfl rfl ?_
      refine vm (.int .i64 (((m + 1 : Nat) : Int) - 1)) 33 rfl rfl rfl rfl ?_; refine vv (.pointer (some ⟨bE, (oE + m * 13), none⟩)) 34 rfl rfl (ix33 (k := m) rfl rfl rfl ((by omega)) ((by omega))) ?_; refine vv (.pointer (some ⟨bE, ((oE + m * 13) + 3), none⟩)) 35 rfl rfl (ex_fa (p := (.pointer (some ⟨bE, (oE + m * 13), none⟩))) rfl rfl (fg49_3 _ _ _)) ?_; refine vv (.int .i64 e.cap) 36 rfl rfl (ex_load rfl rfl (ld3 (hrb 3 _ rfl))) ?_
      refine vv (.bool false) 37 rfl rfl (ex_bin (u := (.int .i64 a)) (r := (.int .i64 e.cap)) rfl rfl rfl (eg3 _ _ _ _ _ _) (gtr3 _ (decide_eq_false (by omega)))) ?_; refine vm (.bool false) 38 rfl rfl rfl rfl ?_; refine vm (.int .i64 x) 39 rfl rfl rfl rfl ?_; refine vv (.bool false) 40 rfl rfl (ex_bin (u := (.int .i64 x)) (r := (.int .i64 2147483647)) rfl rfl rfl (eg3 _ _ _ _ _ _) (gtr3 _ (decide_eq_false (by omega)))) ?_; refine vv (.bool false) 41 rfl rfl (ex_pkF rfl rfl rfl) ?_; refine st_end ?_; subst hQ; refine wp_cond_false rfl ?_; refine wp_skip ?_; refine wp_seq ?_
      obtain ⟨W33, hwd⟩ : ∃ wd, wr.drew = wd := ⟨_, rfl⟩; refine wp_region_held (S := fun W => Kept (fun k => k = bt15 ∨ k = bt18) W33 W) (by kernel_rfl) ?_
      show wpAnyH _ _ _ _ _ _ _ _ wr.drew
      rw [hwd]; refine capQ fun Q hQ => ?_
      have hQP : ∀ c (a : Act) (d : Nat) v w, Q (.panic c) (a.put (some d) v) w → Q (.panic c) a w := by
        subst hQ; exact fun _ _ _ _ _ h => h
      have BD : Below wr.heap.size wr W33 := by rw [← hwd]; exact below_drewB (Below.refl _ _)
      clear hwd; replace E := below_next E BD; replace k2 := keep BD k2; replace k4 := keep BD k4; replace k6 := keep BD k6; replace kA := keep BD kA; replace kX := keep BD kX; clear BD
      have S : Kept (fun k => k = bt15 ∨ k = bt18) W33 W33 := Kept.refl _ _
      have d_k2 := k2; have d_k4 := k4; have d_k6 := k6; have d_kA := kA; have d_kX := kX; refine tk (Pz bt6 1) 0 43 rfl rfl rfl (fun W hK => ex_fa (p := (Pz bt6 0)) rfl rfl (fa36_1 _ _)) S hQP ?_; refine tk (.slice (some ⟨bt15, 0, none⟩) n n) 1 44 rfl rfl rfl (fun W hK => ex_load (p := (Pz bt6 1)) rfl rfl (ld30 (at_cell (keepK hK d_k6 (fun e => e.elim (fun e => ne_tag d_k6 d_kA (by decide) e) (fun e => ne_tag d_k6 d_kX (by decide) e))) rfl))) S hQP ?_; refine tk (.int .i64 (((m + 1 : Nat) : Int) - 1)) 2 45 rfl rfl rfl (fun W hK => ex_mv rfl rfl) S hQP ?_
      refine tk (Pz bt6 2) 3 46 rfl rfl rfl (fun W hK => ex_fa (p := (Pz bt6 0)) rfl rfl (fa36_2 _ _)) S hQP ?_; refine tk (.slice (some ⟨bt18, 0, none⟩) n n) 4 47 rfl rfl rfl (fun W hK => ex_load (p := (Pz bt6 2)) rfl rfl (ld30 (at_cell (keepK hK d_k6 (fun e => e.elim (fun e => ne_tag d_k6 d_kA (by decide) e) (fun e => ne_tag d_k6 d_kX (by decide) e))) rfl))) S hQP ?_; refine tk (.int .i64 (((m + 1 : Nat) : Int) - 1)) 5 48 rfl rfl rfl (fun W hK => ex_mv rfl rfl) S hQP ?_; refine tk (.int .i64 a) 6 49 rfl rfl rfl (fun W hK => ex_mv rfl rfl) S hQP ?_
      refine tk (.int .i64 x) 7 50 rfl rfl rfl (fun W hK => ex_mv rfl rfl) S hQP ?_; refine tk (Pz bt15 m) 8 51 rfl rfl rfl (fun W hK => ixI0 (i := (((m + 1 : Nat) : Int) - 1)) (n := n) (k := m) rfl rfl rfl (by omega) (by omega)) S hQP ?_; refine ah_or1 (i := 9) (by kernel_rfl) ?_; obtain ⟨kn, K⟩ := put_cell (i := m) (.int .i64 a) kA; refine nx_sk rfl rfl rfl (ex_store rfl rfl rfl (sto3 (at_cell kA (Il_at m am)) (unfrozen kA))) (S.putL K) ?_; obtain ⟨W34, hW2⟩ : ∃ W', W33.setCell ⟨bt15, m, none⟩ (.int .i64 a) = W' := ⟨_, rfl⟩; rw [hW2] at kn K ⊢
      rw [List.setIfInBounds_toArray, Il_set m am a] at kn; replace E := below_put E ge_bt15 K; replace k2 := keepK K k2 (fun e => ne_tag k2 kA (by decide) e); replace k4 := keepK K k4 (fun e => ne_tag k4 kA (by decide) e); replace k6 := keepK K k6 (fun e => ne_tag k6 kA (by decide) e); replace kX := keepK K kX (fun e => neAX e.symm); replace S := S.putL K; replace kA := kn; clear kn K; refine tk (Pz bt18 m) 10 52 rfl rfl rfl (fun W hK => ixI0 (i := (((m + 1 : Nat) : Int) - 1)) (n := n) (k := m) rfl rfl rfl (by omega) (by omega)) S hQP ?_; refine ah_or1 (i := 11) (by kernel_rfl) ?_
      obtain ⟨kn, K⟩ := put_cell (i := m) (.int .i64 x) kX; refine nx_sk rfl rfl rfl (ex_store rfl rfl rfl (sto3 (at_cell kX (Il_at m xs)) (unfrozen kX))) (S.putR K) ?_; obtain ⟨W35, hW2⟩ : ∃ W', W34.setCell ⟨bt18, m, none⟩ (.int .i64 x) = W' := ⟨_, rfl⟩; rw [hW2] at kn K ⊢; rw [List.setIfInBounds_toArray, Il_set m xs x] at kn; replace E := below_put E ge_bt18 K; replace k2 := keepK K k2 (fun e => ne_tag k2 kX (by decide) e); replace k4 := keepK K k4 (fun e => ne_tag k4 kX (by decide) e); replace k6 := keepK K k6 (fun e => ne_tag k6 kX (by decide) e); replace S := S.putR K
      replace kA := keepK K kA (fun e => neAX e); replace kX := kn; clear kn K; refine ah_done (by kernel_rfl) ?_; clear hQP; subst hQ; clear S d_k2 d_k4 d_k6 d_kA d_kX ; refine wp_seq ?_; refine wq fun Q hQ => ?_; refine vm (.int .i64 (((m + 1 : Nat) : Int) - 1)) 53 rfl rfl rfl rfl ?_; refine vv (.bool true) 54 rfl rfl (ex_bin (u := (.int .i64 (((m + 1 : Nat) : Int) - 1))) (r := (.int .i64 0)) rfl rfl rfl (eg3 _ _ _ _ _ _) (eql3 _ (decide_eq_true (by omega)))) ?_; refine st_end ?_; subst hQ; refine wp_cond_true rfl ?_; refine wp_exit ?_; refine ex_then ?_; refine ex_pass (by decide) ?_
      refine ex_then ?_; refine ex_then ?_; refine ex_blk ?_; subst e2; rw [List.drop_zero] at hgo; clear hla hin hdr hrb
      by_cases e4 : v.mo < a - v.am
      · have hno : wayN v es = none := by
          unfold wayN
          rw [hgo]; exact if_pos e4
        refine wq fun Q hQ => ?_; refine vm (.int .i64 a) 78 rfl rfl rfl rfl ?_; refine vv (Pz b1 2) 79 rfl rfl (ex_fa (p := (Pz b1 0)) rfl rfl (fa32_2 _ _)) ?_; refine vv (.int .i64 v.am) 80 rfl rfl (ex_load (p := (Pz b1 2)) rfl rfl (ld3 (at_cell k2 rfl))) ?_; refine vv (.int .i64 (a - v.am)) 81 rfl rfl (ex_bin rfl rfl rfl (eg3 _ _ _ _ _ _) (sub3 _ rfl (by omega))) ?_; refine vv (Pz bt6 3) 82 rfl rfl (ex_fa (p := (Pz bt6 0)) rfl rfl (fa36_3 _ _)) ?_; obtain ⟨kn, K⟩ := put_cell (i := 3) (.int .i64 (a - v.am)) k6
        refine st_sk rfl rfl (ex_store rfl rfl rfl (sto3 (at_cell k6 rfl) (unfrozen k6))) ?_; obtain ⟨W36, hW2⟩ : ∃ W', W35.setCell ⟨bt6, 3, none⟩ (.int .i64 (a - v.am)) = W' := ⟨_, rfl⟩; rw [hW2] at kn K ⊢; replace E := below_put E ge_bt6 K; replace k2 := keepK K k2 (fun e => ne_tag k2 k6 (by decide) e); replace k4 := keepK K k4 (fun e => ne46 e); replace kA := keepK K kA (fun e => ne_tag kA k6 (by decide) e); replace kX := keepK K kX (fun e => ne_tag kX k6 (by decide) e); replace k6 := kn; clear kn K; refine st_end ?_; subst hQ; refine wp_seq ?_; refine wq fun Q hQ => ?_
        refine vv (Pz bt6 3) 83 rfl rfl (ex_fa (p := (Pz bt6 0)) rfl rfl (fa36_3 _ _)) ?_; refine vv (.int .i64 (a - v.am)) 84 rfl rfl (ex_load (p := (Pz bt6 3)) rfl rfl (ld3 (at_cell k6 rfl))) ?_; refine vv (Pz b1 6) 85 rfl rfl (ex_fa (p := (Pz b1 0)) rfl rfl (fa32_6 _ _)) ?_; refine vv (.int .i64 v.mo) 86 rfl rfl (ex_load (p := (Pz b1 6)) rfl rfl (ld3 (at_cell k2 rfl))) ?_; refine vv (.bool true) 87 rfl rfl (ex_bin (u := (.int .i64 (a - v.am))) (r := (.int .i64 v.mo)) rfl rfl rfl (eg3 _ _ _ _ _ _) (gtr3 _ (decide_eq_true (by omega)))) ?_; refine st_end ?_; subst hQ
        refine wp_cond_true rfl ?_; refine wq fun Q hQ => ?_; refine vv (.agg #[.slice none 0 0, .slice none 0 0, .slice none 0 0, .int .i64 0, .float .f64 0]) 88 rfl rfl (ex_build0  rfl (bWay0 _)) ?_; obtain ⟨W37, hst, kn, K⟩ := put_all (D := #[.slice none 0 0, .slice none 0 0, .slice none 0 0, .int .i64 0, .float .f64 0]) k4 rfl inf36 (by kernel_rfl); refine st_sk rfl rfl (ex_store rfl rfl rfl hst) ?_; replace E := below_put E ge_b2 K; replace k2 := keepK K k2 (fun e => ne_tag k2 k4 (by decide) e); replace kA := keepK K kA (fun e => ne_tag kA k4 (by decide) e)
        replace kX := keepK K kX (fun e => ne_tag kX k4 (by decide) e); replace k6 := keepK K k6 (fun e => ne46 e.symm); replace k4 := kn; clear kn K hst; refine vg (.bool false) 5 rfl rfl rfl rfl ?_; refine st_end ?_; subst hQ; refine wp_ret ?_
        repeat (first | refine ret_out ?_ | refine ret_blk ?_)
        refine bodyPost_ret (res_ct Try.results37 _ _ _ _ rfl k4 Try.underlying36 rfl inf36) rfl ⟨E, ?_⟩; rw [hno]; exact ⟨_, rfl, rfl, one5⟩
      · skip
        by_cases e5 : lsN (jn (cstN v.ti none es (a :: am)) 0) 9218868437227405312 = true
        · skip
          have hsome : wayN v es = some ⟨es, a :: am, x :: xs, a - v.am, (jn (cstN v.ti none es (a :: am)) 0)⟩ := by
            unfold wayN
            rw [hgo]
            show (if v.mo < a - v.am then none else _) = _
            rw [if_neg e4, if_pos e5]
            rfl
          refine wq fun Q hQ => ?_; refine vm (.int .i64 a) 78 rfl rfl rfl rfl ?_; refine vv (Pz b1 2) 79 rfl rfl (ex_fa (p := (Pz b1 0)) rfl rfl (fa32_2 _ _)) ?_; refine vv (.int .i64 v.am) 80 rfl rfl (ex_load (p := (Pz b1 2)) rfl rfl (ld3 (at_cell k2 rfl))) ?_; refine vv (.int .i64 (a - v.am)) 81 rfl rfl (ex_bin rfl rfl rfl (eg3 _ _ _ _ _ _) (sub3 _ rfl (by omega))) ?_; refine vv (Pz bt6 3) 82 rfl rfl (ex_fa (p := (Pz bt6 0)) rfl rfl (fa36_3 _ _)) ?_; obtain ⟨kn, K⟩ := put_cell (i := 3) (.int .i64 (a - v.am)) k6
          refine st_sk rfl rfl (ex_store rfl rfl rfl (sto3 (at_cell k6 rfl) (unfrozen k6))) ?_; obtain ⟨W38, hW2⟩ : ∃ W', W35.setCell ⟨bt6, 3, none⟩ (.int .i64 (a - v.am)) = W' := ⟨_, rfl⟩; rw [hW2] at kn K ⊢; replace E := below_put E ge_bt6 K; replace k2 := keepK K k2 (fun e => ne_tag k2 k6 (by decide) e); replace k4 := keepK K k4 (fun e => ne46 e); replace kA := keepK K kA (fun e => ne_tag kA k6 (by decide) e); replace kX := keepK K kX (fun e => ne_tag kX k6 (by decide) e); replace k6 := kn; clear kn K; refine st_end ?_; subst hQ; refine wp_seq ?_; refine wq fun Q hQ => ?_
          refine vv (Pz bt6 3) 83 rfl rfl (ex_fa (p := (Pz bt6 0)) rfl rfl (fa36_3 _ _)) ?_; refine vv (.int .i64 (a - v.am)) 84 rfl rfl (ex_load (p := (Pz bt6 3)) rfl rfl (ld3 (at_cell k6 rfl))) ?_; refine vv (Pz b1 6) 85 rfl rfl (ex_fa (p := (Pz b1 0)) rfl rfl (fa32_6 _ _)) ?_; refine vv (.int .i64 v.mo) 86 rfl rfl (ex_load (p := (Pz b1 6)) rfl rfl (ld3 (at_cell k2 rfl))) ?_; refine vv (.bool false) 87 rfl rfl (ex_bin (u := (.int .i64 (a - v.am))) (r := (.int .i64 v.mo)) rfl rfl rfl (eg3 _ _ _ _ _ _) (gtr3 _ (decide_eq_false (by omega)))) ?_; refine st_end ?_; subst hQ
          refine wp_cond_false rfl ?_; refine wp_skip ?_; refine wq fun Q hQ => ?_; refine vv (.agg #[(.slice (some ⟨bE, oE, none⟩) n cE), (.slice (some ⟨bt15, 0, none⟩) n n), (.slice (some ⟨bt18, 0, none⟩) n n), (.int .i64 (a - v.am)), (.float .f64 0)]) 89 rfl rfl (ex_load (p := (Pz bt6 0)) rfl rfl (ld_all k6 Try.underlying36 rfl inf36)) ?_; refine vv (Pz b1 4) 90 rfl rfl (ex_fa (p := (Pz b1 0)) rfl rfl (fa32_4 _ _)) ?_; refine vv (.int .i64 v.ti) 91 rfl rfl (ex_load (p := (Pz b1 4)) rfl rfl (ld3 (at_cell k2 rfl))) ?_
          refine st_call (some 92) rfl rfl (cost_any W38 (Es.keep (N := N) (.inr ⟨bE, oE, rfl, hbN, ⟨cur0, hcur0⟩, hr⟩) E hN) (Nat.le_trans hN E.size) (Il_Is (by simpa using kA)) hn (by have := lay_len hgo; rw [hn]; exact this.1.symm) hn2 hb ham2 hv.t1 hv.t2) (ex_call (f := 77) (vs := [(.agg #[(.slice (some ⟨bE, oE, none⟩) n cE), (.slice (some ⟨bt15, 0, none⟩) n n), (.slice (some ⟨bt18, 0, none⟩) n n), (.int .i64 (a - v.am)), (.float .f64 0)]), (.int .i64 v.ti)]) rfl (cf77 _) rfl) ?_; rintro e W39 ⟨rfl, B⟩; refine ⟨_, rfl, ?_⟩; simp only [zp]; replace E := below_next E B
          replace k2 := keep B k2; replace k4 := keep B k4; replace kA := keep B kA; replace kX := keep B kX; replace k6 := keep B k6; refine vv (Pz bt6 4) 93 rfl rfl (ex_fa (p := (Pz bt6 0)) rfl rfl (fa36_4 _ _)) ?_; obtain ⟨kn, K⟩ := put_cell (i := 4) (.float .f64 (jn (cstN v.ti none es (a :: am)) 0)) k6; refine st_sk rfl rfl (ex_store rfl rfl rfl (sto34 (at_cell k6 rfl) (unfrozen k6))) ?_; obtain ⟨W40, hW2⟩ : ∃ W', W39.setCell ⟨bt6, 4, none⟩ (.float .f64 (jn (cstN v.ti none es (a :: am)) 0)) = W' := ⟨_, rfl⟩; rw [hW2] at kn K ⊢; replace E := below_put E ge_bt6 K
          replace k2 := keepK K k2 (fun e => ne_tag k2 k6 (by decide) e); replace k4 := keepK K k4 (fun e => ne46 e); replace kA := keepK K kA (fun e => ne_tag kA k6 (by decide) e); replace kX := keepK K kX (fun e => ne_tag kX k6 (by decide) e); replace k6 := kn; clear kn K; refine st_end ?_; subst hQ; refine wp_seq ?_; obtain ⟨W41, hwd⟩ : ∃ wd, W40.drew = wd := ⟨_, rfl⟩
          refine wp_region_held (S := fun W => Kept (· = b2) W41 W) (by kernel_rfl) ?_
          show wpAnyH _ _ _ _ _ _ _ _ W40.drew
          rw [hwd]; refine capQ fun Q hQ => ?_
          have hQP : ∀ c (a : Act) (d : Nat) v w, Q (.panic c) (a.put (some d) v) w → Q (.panic c) a w := by
            subst hQ; exact fun _ _ _ _ _ h => h
          have BD : Below W40.heap.size W40 W41 := by rw [← hwd]; exact below_drewB (Below.refl _ _)
          clear hwd; replace E := below_next E BD; replace k2 := keep BD k2; replace k4 := keep BD k4; replace kA := keep BD kA; replace kX := keep BD kX; replace k6 := keep BD k6; clear BD
          have S : Kept (· = b2) W41 W41 := Kept.refl _ _
          have d_k2 := k2; have d_k4 := k4; have d_k6 := k6; have d_kA := kA; have d_kX := kX; refine tk (.agg #[(.slice (some ⟨bE, oE, none⟩) n cE), (.slice (some ⟨bt15, 0, none⟩) n n), (.slice (some ⟨bt18, 0, none⟩) n n), (.int .i64 (a - v.am)), (.float .f64 (jn (cstN v.ti none es (a :: am)) 0))]) 0 94 rfl rfl rfl (fun W hK => ex_load (p := (Pz bt6 0)) rfl rfl (ld_all (keepK hK d_k6 (fun e => ne46 e.symm)) Try.underlying36 rfl inf36)) S hQP ?_; refine tk (Pz bt6 4) 1 95 rfl rfl rfl (fun W hK => ex_fa (p := (Pz bt6 0)) rfl rfl (fa36_4 _ _)) S hQP ?_
          refine tk (.float .f64 (jn (cstN v.ti none es (a :: am)) 0)) 2 96 rfl rfl rfl (fun W hK => ex_load (p := (Pz bt6 4)) rfl rfl (ld34 (at_cell (keepK hK d_k6 (fun e => ne46 e.symm)) rfl))) S hQP ?_; refine ah_or1 (i := 3) (by kernel_rfl) ?_; refine nx_call (some 97) rfl rfl rfl (inf_any W41) (ex_call (f := 54) (vs := [(.int .i64 1)]) rfl (cf54 _) rfl) ?_; rintro e W42 ⟨rfl, B⟩; refine ⟨_, rfl, S.next B, ?_⟩; simp only [zp]; replace E := below_next E B; replace k2 := keep B k2; replace k4 := keep B k4; replace kA := keep B kA; replace kX := keep B kX; replace k6 := keep B k6
          replace S := S.next B; refine ah_or1 (i := 4) (by kernel_rfl) ?_; refine nx_call (some 98) rfl rfl rfl (sless_any (jn (cstN v.ti none es (a :: am)) 0) 9218868437227405312 W42 e5) (ex_call (f := 26) (vs := [(.float .f64 (jn (cstN v.ti none es (a :: am)) 0)), (.float .f64 9218868437227405312)]) rfl (cf26 _) rfl) ?_; rintro e W43 ⟨rfl, B⟩; refine ⟨_, rfl, S.next B, ?_⟩; simp only [zp]; replace E := below_next E B; replace k2 := keep B k2; replace k4 := keep B k4; replace kA := keep B kA; replace kX := keep B kX; replace k6 := keep B k6; replace S := S.next B
          refine ah_or1 (i := 5) (by kernel_rfl) ?_; obtain ⟨W44, hst, kn, K⟩ := put_all (D := #[(.slice (some ⟨bE, oE, none⟩) n cE), (.slice (some ⟨bt15, 0, none⟩) n n), (.slice (some ⟨bt18, 0, none⟩) n n), (.int .i64 (a - v.am)), (.float .f64 (jn (cstN v.ti none es (a :: am)) 0))]) k4 rfl inf36 (by kernel_rfl); refine nx_sk rfl rfl rfl (ex_store rfl rfl rfl hst) (S.putX K) ?_; replace E := below_put E ge_b2 K; replace k2 := keepK K k2 (fun e => ne_tag k2 k4 (by decide) e); replace kA := keepK K kA (fun e => ne_tag kA k4 (by decide) e)
          replace kX := keepK K kX (fun e => ne_tag kX k4 (by decide) e); replace k6 := keepK K k6 (fun e => ne46 e.symm); replace S := S.putX K; replace k4 := kn; clear kn K hst; refine tk (.bool true) 6 5 rfl rfl rfl (fun W hK => ex_asg rfl rfl) S hQP ?_; refine ah_done (by kernel_rfl) ?_; clear hQP; subst hQ; clear S d_k2 d_k4 d_k6 d_kA d_kX ; refine wp_ret ?_
          repeat (first | refine ret_out ?_ | refine ret_blk ?_)
          refine bodyPost_ret (res_ct Try.results37 _ _ _ _ rfl k4 Try.underlying36 rfl inf36) rfl ⟨E, ?_⟩; rw [hsome]; exact ⟨bt15, bt18, rfl, ge_bt15, ge_bt18, by simpa using kA, by simpa using kX⟩
        · skip
          replace e5 := Bool.eq_false_iff.2 e5
          have hno : wayN v es = none := by
            unfold wayN
            rw [hgo]
            show (if v.mo < a - v.am then none else _) = _
            rw [if_neg e4, e5]
            rfl
          refine wq fun Q hQ => ?_; refine vm (.int .i64 a) 78 rfl rfl rfl rfl ?_; refine vv (Pz b1 2) 79 rfl rfl (ex_fa (p := (Pz b1 0)) rfl rfl (fa32_2 _ _)) ?_; refine vv (.int .i64 v.am) 80 rfl rfl (ex_load (p := (Pz b1 2)) rfl rfl (ld3 (at_cell k2 rfl))) ?_; refine vv (.int .i64 (a - v.am)) 81 rfl rfl (ex_bin rfl rfl rfl (eg3 _ _ _ _ _ _) (sub3 _ rfl (by omega))) ?_; refine vv (Pz bt6 3) 82 rfl rfl (ex_fa (p := (Pz bt6 0)) rfl rfl (fa36_3 _ _)) ?_; obtain ⟨kn, K⟩ := put_cell (i := 3) (.int .i64 (a - v.am)) k6
          refine st_sk rfl rfl (ex_store rfl rfl rfl (sto3 (at_cell k6 rfl) (unfrozen k6))) ?_; obtain ⟨W45, hW2⟩ : ∃ W', W35.setCell ⟨bt6, 3, none⟩ (.int .i64 (a - v.am)) = W' := ⟨_, rfl⟩; rw [hW2] at kn K ⊢; replace E := below_put E ge_bt6 K; replace k2 := keepK K k2 (fun e => ne_tag k2 k6 (by decide) e); replace k4 := keepK K k4 (fun e => ne46 e); replace kA := keepK K kA (fun e => ne_tag kA k6 (by decide) e); replace kX := keepK K kX (fun e => ne_tag kX k6 (by decide) e); replace k6 := kn; clear kn K; refine st_end ?_; subst hQ; refine wp_seq ?_; refine wq fun Q hQ => ?_
          refine vv (Pz bt6 3) 83 rfl rfl (ex_fa (p := (Pz bt6 0)) rfl rfl (fa36_3 _ _)) ?_; refine vv (.int .i64 (a - v.am)) 84 rfl rfl (ex_load (p := (Pz bt6 3)) rfl rfl (ld3 (at_cell k6 rfl))) ?_; refine vv (Pz b1 6) 85 rfl rfl (ex_fa (p := (Pz b1 0)) rfl rfl (fa32_6 _ _)) ?_; refine vv (.int .i64 v.mo) 86 rfl rfl (ex_load (p := (Pz b1 6)) rfl rfl (ld3 (at_cell k2 rfl))) ?_; refine vv (.bool false) 87 rfl rfl (ex_bin (u := (.int .i64 (a - v.am))) (r := (.int .i64 v.mo)) rfl rfl rfl (eg3 _ _ _ _ _ _) (gtr3 _ (decide_eq_false (by omega)))) ?_; refine st_end ?_; subst hQ
          refine wp_cond_false rfl ?_; refine wp_skip ?_; refine wq fun Q hQ => ?_; refine vv (.agg #[(.slice (some ⟨bE, oE, none⟩) n cE), (.slice (some ⟨bt15, 0, none⟩) n n), (.slice (some ⟨bt18, 0, none⟩) n n), (.int .i64 (a - v.am)), (.float .f64 0)]) 89 rfl rfl (ex_load (p := (Pz bt6 0)) rfl rfl (ld_all k6 Try.underlying36 rfl inf36)) ?_; refine vv (Pz b1 4) 90 rfl rfl (ex_fa (p := (Pz b1 0)) rfl rfl (fa32_4 _ _)) ?_; refine vv (.int .i64 v.ti) 91 rfl rfl (ex_load (p := (Pz b1 4)) rfl rfl (ld3 (at_cell k2 rfl))) ?_
          refine st_call (some 92) rfl rfl (cost_any W45 (Es.keep (N := N) (.inr ⟨bE, oE, rfl, hbN, ⟨cur0, hcur0⟩, hr⟩) E hN) (Nat.le_trans hN E.size) (Il_Is (by simpa using kA)) hn (by have := lay_len hgo; rw [hn]; exact this.1.symm) hn2 hb ham2 hv.t1 hv.t2) (ex_call (f := 77) (vs := [(.agg #[(.slice (some ⟨bE, oE, none⟩) n cE), (.slice (some ⟨bt15, 0, none⟩) n n), (.slice (some ⟨bt18, 0, none⟩) n n), (.int .i64 (a - v.am)), (.float .f64 0)]), (.int .i64 v.ti)]) rfl (cf77 _) rfl) ?_; rintro e W46 ⟨rfl, B⟩; refine ⟨_, rfl, ?_⟩; simp only [zp]; replace E := below_next E B
          replace k2 := keep B k2; replace k4 := keep B k4; replace kA := keep B kA; replace kX := keep B kX; replace k6 := keep B k6; refine vv (Pz bt6 4) 93 rfl rfl (ex_fa (p := (Pz bt6 0)) rfl rfl (fa36_4 _ _)) ?_; obtain ⟨kn, K⟩ := put_cell (i := 4) (.float .f64 (jn (cstN v.ti none es (a :: am)) 0)) k6; refine st_sk rfl rfl (ex_store rfl rfl rfl (sto34 (at_cell k6 rfl) (unfrozen k6))) ?_; obtain ⟨W47, hW2⟩ : ∃ W', W46.setCell ⟨bt6, 4, none⟩ (.float .f64 (jn (cstN v.ti none es (a :: am)) 0)) = W' := ⟨_, rfl⟩; rw [hW2] at kn K ⊢; replace E := below_put E ge_bt6 K
          replace k2 := keepK K k2 (fun e => ne_tag k2 k6 (by decide) e); replace k4 := keepK K k4 (fun e => ne46 e); replace kA := keepK K kA (fun e => ne_tag kA k6 (by decide) e); replace kX := keepK K kX (fun e => ne_tag kX k6 (by decide) e); replace k6 := kn; clear kn K; refine st_end ?_; subst hQ; refine wp_seq ?_; obtain ⟨W48, hwd⟩ : ∃ wd, W47.drew = wd := ⟨_, rfl⟩
          refine wp_region_held (S := fun W => Kept (· = b2) W48 W) (by kernel_rfl) ?_
          show wpAnyH _ _ _ _ _ _ _ _ W47.drew
          rw [hwd]; refine capQ fun Q hQ => ?_
          have hQP : ∀ c (a : Act) (d : Nat) v w, Q (.panic c) (a.put (some d) v) w → Q (.panic c) a w := by
            subst hQ; exact fun _ _ _ _ _ h => h
          have BD : Below W47.heap.size W47 W48 := by rw [← hwd]; exact below_drewB (Below.refl _ _)
          clear hwd; replace E := below_next E BD; replace k2 := keep BD k2; replace k4 := keep BD k4; replace kA := keep BD kA; replace kX := keep BD kX; replace k6 := keep BD k6; clear BD
          have S : Kept (· = b2) W48 W48 := Kept.refl _ _
          have d_k2 := k2; have d_k4 := k4; have d_k6 := k6; have d_kA := kA; have d_kX := kX; refine tk (.agg #[(.slice (some ⟨bE, oE, none⟩) n cE), (.slice (some ⟨bt15, 0, none⟩) n n), (.slice (some ⟨bt18, 0, none⟩) n n), (.int .i64 (a - v.am)), (.float .f64 (jn (cstN v.ti none es (a :: am)) 0))]) 0 94 rfl rfl rfl (fun W hK => ex_load (p := (Pz bt6 0)) rfl rfl (ld_all (keepK hK d_k6 (fun e => ne46 e.symm)) Try.underlying36 rfl inf36)) S hQP ?_; refine tk (Pz bt6 4) 1 95 rfl rfl rfl (fun W hK => ex_fa (p := (Pz bt6 0)) rfl rfl (fa36_4 _ _)) S hQP ?_
          refine tk (.float .f64 (jn (cstN v.ti none es (a :: am)) 0)) 2 96 rfl rfl rfl (fun W hK => ex_load (p := (Pz bt6 4)) rfl rfl (ld34 (at_cell (keepK hK d_k6 (fun e => ne46 e.symm)) rfl))) S hQP ?_; refine ah_or1 (i := 3) (by kernel_rfl) ?_; refine nx_call (some 97) rfl rfl rfl (inf_any W48) (ex_call (f := 54) (vs := [(.int .i64 1)]) rfl (cf54 _) rfl) ?_; rintro e W49 ⟨rfl, B⟩; refine ⟨_, rfl, S.next B, ?_⟩; simp only [zp]; replace E := below_next E B; replace k2 := keep B k2; replace k4 := keep B k4; replace kA := keep B kA; replace kX := keep B kX; replace k6 := keep B k6
          replace S := S.next B; refine ah_or1 (i := 4) (by kernel_rfl) ?_; refine nx_call (some 98) rfl rfl rfl (sless_any (jn (cstN v.ti none es (a :: am)) 0) 9218868437227405312 W49 e5) (ex_call (f := 26) (vs := [(.float .f64 (jn (cstN v.ti none es (a :: am)) 0)), (.float .f64 9218868437227405312)]) rfl (cf26 _) rfl) ?_; rintro e W50 ⟨rfl, B⟩; refine ⟨_, rfl, S.next B, ?_⟩; simp only [zp]; replace E := below_next E B; replace k2 := keep B k2; replace k4 := keep B k4; replace kA := keep B kA; replace kX := keep B kX; replace k6 := keep B k6; replace S := S.next B
          refine ah_or1 (i := 5) (by kernel_rfl) ?_; obtain ⟨W51, hst, kn, K⟩ := put_all (D := #[(.slice (some ⟨bE, oE, none⟩) n cE), (.slice (some ⟨bt15, 0, none⟩) n n), (.slice (some ⟨bt18, 0, none⟩) n n), (.int .i64 (a - v.am)), (.float .f64 (jn (cstN v.ti none es (a :: am)) 0))]) k4 rfl inf36 (by kernel_rfl); refine nx_sk rfl rfl rfl (ex_store rfl rfl rfl hst) (S.putX K) ?_; replace E := below_put E ge_b2 K; replace k2 := keepK K k2 (fun e => ne_tag k2 k4 (by decide) e); replace kA := keepK K kA (fun e => ne_tag kA k4 (by decide) e)
          replace kX := keepK K kX (fun e => ne_tag kX k4 (by decide) e); replace k6 := keepK K k6 (fun e => ne46 e.symm); replace S := S.putX K; replace k4 := kn; clear kn K hst; refine tk (.bool false) 6 5 rfl rfl rfl (fun W hK => ex_asg rfl rfl) S hQP ?_; refine ah_done (by kernel_rfl) ?_; clear hQP; subst hQ; clear S d_k2 d_k4 d_k6 d_kA d_kX ; refine wp_ret ?_
          repeat (first | refine ret_out ?_ | refine ret_blk ?_)
          refine bodyPost_ret (res_ct Try.results37 _ _ _ _ rfl k4 Try.underlying36 rfl inf36) rfl ⟨E, ?_⟩; rw [hno]; exact ⟨_, rfl, rfl, one5⟩
    · skip
      by_cases e3 : inE e.q.b e.q.r a = 0
      · skip
        have hge := in_ge e3 ha.1; have hle := in_le e3 ha.1 hqb; refine wp_seq ?_; refine wq fun Q hQ => ?_; refine vm (.int .i64 (((m + 1 : Nat) : Int) - 1)) 27 rfl rfl rfl rfl ?_; refine vv (.bool true) 28 rfl rfl (ex_bin (u := (.int .i64 (((m + 1 : Nat) : Int) - 1))) (r := (.int .i64 0)) rfl rfl rfl (eg3 _ _ _ _ _ _) (geq3 _ (decide_eq_true (by omega)))) ?_; refine st_end ?_; subst hQ; refine wp_cond_true rfl ?_; refine wp_skip ?_; refine wp_seq ?_; refine wp_block ?_; refine wp_seq ?_; refine wq fun Q hQ => ?_; refine vm (.int .i64 a) 31 rfl rfl rfl rfl ?_
        refine vm (.slice (some ⟨bE, oE, none⟩) n cE) 32 rfl rfl rfl rfl ?_; refine vm (.int .i64 (((m + 1 : Nat) : Int) - 1)) 33 rfl rfl rfl rfl ?_; refine vv (.pointer (some ⟨bE, (oE + m * 13), none⟩)) 34 rfl rfl (ix33 (k := m) rfl rfl rfl ((by omega)) ((by omega))) ?_; refine vv (.pointer (some ⟨bE, ((oE + m * 13) + 3), none⟩)) 35 rfl rfl (ex_fa (p := (.pointer (some ⟨bE, (oE + m * 13), none⟩))) rfl rfl (fg49_3 _ _ _)) ?_; refine vv (.int .i64 e.cap) 36 rfl rfl (ex_load rfl rfl (ld3 (hrb 3 _ rfl))) ?_
        refine vv (.bool false) 37 rfl rfl (ex_bin (u := (.int .i64 a)) (r := (.int .i64 e.cap)) rfl rfl rfl (eg3 _ _ _ _ _ _) (gtr3 _ (decide_eq_false (by omega)))) ?_; refine vm (.bool false) 38 rfl rfl rfl rfl ?_; refine vm (.int .i64 x) 39 rfl rfl rfl rfl ?_; refine vv (.bool false) 40 rfl rfl (ex_bin (u := (.int .i64 x)) (r := (.int .i64 2147483647)) rfl rfl rfl (eg3 _ _ _ _ _ _) (gtr3 _ (decide_eq_false (by omega)))) ?_; refine vv (.bool false) 41 rfl rfl (ex_pkF rfl rfl rfl) ?_; refine st_end ?_; subst hQ; refine wp_cond_false rfl ?_; refine wp_skip ?_; refine wp_seq ?_
        obtain ⟨W52, hwd⟩ : ∃ wd, wr.drew = wd := ⟨_, rfl⟩; refine wp_region_held (S := fun W => Kept (fun k => k = bt15 ∨ k = bt18) W52 W) (by kernel_rfl) ?_
        show wpAnyH _ _ _ _ _ _ _ _ wr.drew
        rw [hwd]; refine capQ fun Q hQ => ?_
        have hQP : ∀ c (a : Act) (d : Nat) v w, Q (.panic c) (a.put (some d) v) w → Q (.panic c) a w := by
          subst hQ; exact fun _ _ _ _ _ h => h
        have BD : Below wr.heap.size wr W52 := by rw [← hwd]; exact below_drewB (Below.refl _ _)
        clear hwd; replace E := below_next E BD; replace k2 := keep BD k2; replace k4 := keep BD k4; replace k6 := keep BD k6; replace kA := keep BD kA; replace kX := keep BD kX; clear BD
        have S : Kept (fun k => k = bt15 ∨ k = bt18) W52 W52 := Kept.refl _ _
        have d_k2 := k2; have d_k4 := k4; have d_k6 := k6; have d_kA := kA; have d_kX := kX; refine tk (Pz bt6 1) 0 43 rfl rfl rfl (fun W hK => ex_fa (p := (Pz bt6 0)) rfl rfl (fa36_1 _ _)) S hQP ?_; refine tk (.slice (some ⟨bt15, 0, none⟩) n n) 1 44 rfl rfl rfl (fun W hK => ex_load (p := (Pz bt6 1)) rfl rfl (ld30 (at_cell (keepK hK d_k6 (fun e => e.elim (fun e => ne_tag d_k6 d_kA (by decide) e) (fun e => ne_tag d_k6 d_kX (by decide) e))) rfl))) S hQP ?_; refine tk (.int .i64 (((m + 1 : Nat) : Int) - 1)) 2 45 rfl rfl rfl (fun W hK => ex_mv rfl rfl) S hQP ?_
        refine tk (Pz bt6 2) 3 46 rfl rfl rfl (fun W hK => ex_fa (p := (Pz bt6 0)) rfl rfl (fa36_2 _ _)) S hQP ?_; refine tk (.slice (some ⟨bt18, 0, none⟩) n n) 4 47 rfl rfl rfl (fun W hK => ex_load (p := (Pz bt6 2)) rfl rfl (ld30 (at_cell (keepK hK d_k6 (fun e => e.elim (fun e => ne_tag d_k6 d_kA (by decide) e) (fun e => ne_tag d_k6 d_kX (by decide) e))) rfl))) S hQP ?_; refine tk (.int .i64 (((m + 1 : Nat) : Int) - 1)) 5 48 rfl rfl rfl (fun W hK => ex_mv rfl rfl) S hQP ?_; refine tk (.int .i64 a) 6 49 rfl rfl rfl (fun W hK => ex_mv rfl rfl) S hQP ?_
        refine tk (.int .i64 x) 7 50 rfl rfl rfl (fun W hK => ex_mv rfl rfl) S hQP ?_; refine tk (Pz bt15 m) 8 51 rfl rfl rfl (fun W hK => ixI0 (i := (((m + 1 : Nat) : Int) - 1)) (n := n) (k := m) rfl rfl rfl (by omega) (by omega)) S hQP ?_; refine ah_or1 (i := 9) (by kernel_rfl) ?_; obtain ⟨kn, K⟩ := put_cell (i := m) (.int .i64 a) kA; refine nx_sk rfl rfl rfl (ex_store rfl rfl rfl (sto3 (at_cell kA (Il_at m am)) (unfrozen kA))) (S.putL K) ?_; obtain ⟨W53, hW2⟩ : ∃ W', W52.setCell ⟨bt15, m, none⟩ (.int .i64 a) = W' := ⟨_, rfl⟩; rw [hW2] at kn K ⊢
        rw [List.setIfInBounds_toArray, Il_set m am a] at kn; replace E := below_put E ge_bt15 K; replace k2 := keepK K k2 (fun e => ne_tag k2 kA (by decide) e); replace k4 := keepK K k4 (fun e => ne_tag k4 kA (by decide) e); replace k6 := keepK K k6 (fun e => ne_tag k6 kA (by decide) e); replace kX := keepK K kX (fun e => neAX e.symm); replace S := S.putL K; replace kA := kn; clear kn K; refine tk (Pz bt18 m) 10 52 rfl rfl rfl (fun W hK => ixI0 (i := (((m + 1 : Nat) : Int) - 1)) (n := n) (k := m) rfl rfl rfl (by omega) (by omega)) S hQP ?_; refine ah_or1 (i := 11) (by kernel_rfl) ?_
        obtain ⟨kn, K⟩ := put_cell (i := m) (.int .i64 x) kX; refine nx_sk rfl rfl rfl (ex_store rfl rfl rfl (sto3 (at_cell kX (Il_at m xs)) (unfrozen kX))) (S.putR K) ?_; obtain ⟨W54, hW2⟩ : ∃ W', W53.setCell ⟨bt18, m, none⟩ (.int .i64 x) = W' := ⟨_, rfl⟩; rw [hW2] at kn K ⊢; rw [List.setIfInBounds_toArray, Il_set m xs x] at kn; replace E := below_put E ge_bt18 K; replace k2 := keepK K k2 (fun e => ne_tag k2 kX (by decide) e); replace k4 := keepK K k4 (fun e => ne_tag k4 kX (by decide) e); replace k6 := keepK K k6 (fun e => ne_tag k6 kX (by decide) e); replace S := S.putR K
        replace kA := keepK K kA (fun e => neAX e); replace kX := kn; clear kn K; refine ah_done (by kernel_rfl) ?_; clear hQP; subst hQ; clear S d_k2 d_k4 d_k6 d_kA d_kX ; refine wp_seq ?_; refine wq fun Q hQ => ?_; refine vm (.int .i64 (((m + 1 : Nat) : Int) - 1)) 53 rfl rfl rfl rfl ?_; refine vv (.bool false) 54 rfl rfl (ex_bin (u := (.int .i64 (((m + 1 : Nat) : Int) - 1))) (r := (.int .i64 0)) rfl rfl rfl (eg3 _ _ _ _ _ _) (eql3 _ (decide_eq_false (by omega)))) ?_; refine st_end ?_; subst hQ; refine wp_cond_false rfl ?_; refine wp_skip ?_; refine wq fun Q hQ => ?_
        refine vm (.slice (some ⟨bE, oE, none⟩) n cE) 56 rfl rfl rfl rfl ?_; refine vm (.int .i64 (((m + 1 : Nat) : Int) - 1)) 57 rfl rfl rfl rfl ?_; refine vv (.pointer (some ⟨bE, (oE + m * 13), none⟩)) 58 rfl rfl (ix33 (k := m) rfl rfl rfl ((by omega)) ((by omega))) ?_; refine vv (.pointer (some ⟨bE, ((oE + m * 13) + 4), none⟩)) 59 rfl rfl (ex_fa (p := (.pointer (some ⟨bE, (oE + m * 13), none⟩))) rfl rfl (fg49_4 _ _ _)) ?_; refine vv (.pointer (some ⟨bE, ((oE + m * 13) + 4), none⟩)) 60 rfl rfl (ex_fa (p := (.pointer (some ⟨bE, ((oE + m * 13) + 4), none⟩))) rfl rfl (fg45_0 _ _ _)) ?_
        refine vv (.agg (FL e.q)) 61 rfl rfl (ex_load rfl rfl (ld_range (range_sub (range_below (range_at hr he) E)) Try.underlying43 rfl inf43)) ?_; refine vm (.int .i64 a) 62 rfl rfl rfl rfl ?_; refine st_call (some 63) rfl rfl (in_any e.q.b e.q.r a W54 hqb (by omega) (by omega)) (ex_call (f := 76) (vs := [(.agg (FL e.q)), (.int .i64 a)]) rfl (cf76 _) rfl) ?_; rintro e W55 ⟨rfl, B⟩; refine ⟨_, rfl, ?_⟩; simp only [zp]; replace E := below_next E B; replace k2 := keep B k2; replace k4 := keep B k4; replace k6 := keep B k6; replace kA := keep B kA; replace kX := keep B kX
        refine vm (.tuple #[(.int .i64 (inN e.q.b e.q.r a)), (.int .i64 (inE e.q.b e.q.r a))]) 55 rfl rfl rfl rfl ?_; refine vv (.int .i64 (inN e.q.b e.q.r a)) 64 rfl rfl (ex_ext rfl rfl rfl) ?_; refine vv (.int .i64 (inE e.q.b e.q.r a)) 65 rfl rfl (ex_ext rfl rfl rfl) ?_; refine vg (.int .i64 (inN e.q.b e.q.r a)) 10 rfl rfl rfl rfl ?_; refine vg (.int .i64 (inE e.q.b e.q.r a)) 11 rfl rfl rfl rfl ?_; refine st_end ?_; subst hQ; refine wp_seq ?_; refine wq fun Q hQ => ?_; refine vm (.int .i64 (inE e.q.b e.q.r a)) 66 rfl rfl rfl rfl ?_
        refine vv (.bool false) 67 rfl rfl (ex_bin (u := (.int .i64 (inE e.q.b e.q.r a))) (r := (.int .i64 0)) rfl rfl rfl (eg37 _ _ _ _ _ _) (neq37 _ (decide_eq_false (by omega)))) ?_; refine st_end ?_; subst hQ; refine wp_cond_false rfl ?_; refine wp_skip ?_; obtain ⟨W56, hwd⟩ : ∃ wd, W55.drew = wd := ⟨_, rfl⟩; refine wp_region_held (S := fun W => Kept Nil W56 W) (by kernel_rfl) ?_
        show wpAnyH _ _ _ _ _ _ _ _ W55.drew
        rw [hwd]; refine capQ fun Q hQ => ?_
        have hQP : ∀ c (a : Act) (d : Nat) v w, Q (.panic c) (a.put (some d) v) w → Q (.panic c) a w := by
          subst hQ; exact fun _ _ _ _ _ h => h
        have BD : Below W55.heap.size W55 W56 := by rw [← hwd]; exact below_drewB (Below.refl _ _)
        clear hwd; replace E := below_next E BD; replace k2 := keep BD k2; replace k4 := keep BD k4; replace k6 := keep BD k6; replace kA := keep BD kA; replace kX := keep BD kX; clear BD
        have S : Kept Nil W56 W56 := Kept.refl _ _
        have d_k2 := k2; have d_k4 := k4; have d_k6 := k6; have d_kA := kA; have d_kX := kX
        have hcD : W56.cell? ⟨bE, oE + m * 13 + 4 + 2, none⟩ = some (.int .i64 e.q.d) := by
          have := range_below (range_at hr he) E 6 _ rfl
          exact this
        refine tk (.int .i64 (inN e.q.b e.q.r a)) 0 69 rfl rfl rfl (fun W hK => ex_mv rfl rfl) S hQP ?_; refine tk (.int .i64 x) 1 70 rfl rfl rfl (fun W hK => ex_mv rfl rfl) S hQP ?_; refine tk (.slice (some ⟨bE, oE, none⟩) n cE) 2 71 rfl rfl rfl (fun W hK => ex_mv rfl rfl) S hQP ?_; refine tk (.int .i64 (((m + 1 : Nat) : Int) - 1)) 3 72 rfl rfl rfl (fun W hK => ex_mv rfl rfl) S hQP ?_; refine tk (.pointer (some ⟨bE, (oE + m * 13), none⟩)) 4 73 rfl rfl rfl (fun W hK => ix33 (k := m) rfl rfl rfl ((by omega)) ((by omega))) S hQP ?_
        refine tk (.pointer (some ⟨bE, ((oE + m * 13) + 4), none⟩)) 5 74 rfl rfl rfl (fun W hK => ex_fa (p := (.pointer (some ⟨bE, (oE + m * 13), none⟩))) rfl rfl (fg49_4 _ _ _)) S hQP ?_; refine tk (.pointer (some ⟨bE, (((oE + m * 13) + 4) + 2), none⟩)) 6 75 rfl rfl rfl (fun W hK => ex_fa (p := (.pointer (some ⟨bE, ((oE + m * 13) + 4), none⟩))) rfl rfl (fg45_1 _ _ _)) S hQP ?_; refine tk (.int .i64 e.q.d) 7 76 rfl rfl rfl (fun W hK => ex_load rfl rfl (ld3 (cell_kept hK hcD (nilN _)))) S hQP ?_
        refine tk (.int .i64 (x + e.q.d)) 8 77 rfl rfl rfl (fun W hK => ex_bin rfl rfl rfl (eg3 _ _ _ _ _ _) (add3 _ rfl (by omega))) S hQP ?_; refine tk (.int .i64 (inN e.q.b e.q.r a)) 9 7 rfl rfl rfl (fun W hK => ex_asg rfl rfl) S hQP ?_; refine tk (.int .i64 (x + e.q.d)) 10 8 rfl rfl rfl (fun W hK => ex_asg rfl rfl) S hQP ?_; refine ah_done (by kernel_rfl) ?_; clear hQP; subst hQ; clear S d_k2 d_k4 d_k6 d_kA d_kX ; refine wl_in (wl_cap fun Q hQ => ?_); refine vm (.int .i64 (((m + 1 : Nat) : Int) - 1)) 29 rfl rfl rfl rfl ?_
        refine vv (.int .i64 ((m : Int) - 1)) 30 rfl rfl (ex_bin rfl rfl rfl (eg3 _ _ _ _ _ _) (sub3 _ (by omega) (by omega))) ?_; refine vg (.int .i64 ((m : Int) - 1)) 9 rfl rfl rfl rfl ?_; refine st_end ?_; subst hQ; refine then_go ?_
        first | (go_big_round; refine ⟨?rel, ?measure⟩) | (refine ⟨?_, ?measure⟩; (repeat apply Exists.intro); refine ⟨?rel, rfl⟩)
        case rel => exact ⟨m, a :: am, x :: xs, inN e.q.b e.q.r a, x + e.q.d, by omega, by omega, rfl, rfl, rfl, hgo, by rw [hdr]; exact if_pos e3, ⟨by omega, hle⟩, by omega, ham2, E, k2, k4, k6, kA, kX⟩
        case measure => simp [intOf]; omega
      · skip
        obtain ⟨d, hd⟩ : ∃ d, es[m - 1]? = some d := ⟨es[m - 1]'(by omega), List.getElem?_eq_getElem (by omega)⟩; have hdd := drop_cons hd; rw [show m - 1 + 1 = m by omega] at hdd
        have hno : wayN v es = none := way_none (lay_none (m - 1) es (by rw [hdd, hdr]; rw [hdr] at hgo; exact lay_off hgo e3))
        refine wp_seq ?_; refine wq fun Q hQ => ?_; refine vm (.int .i64 (((m + 1 : Nat) : Int) - 1)) 27 rfl rfl rfl rfl ?_; refine vv (.bool true) 28 rfl rfl (ex_bin (u := (.int .i64 (((m + 1 : Nat) : Int) - 1))) (r := (.int .i64 0)) rfl rfl rfl (eg3 _ _ _ _ _ _) (geq3 _ (decide_eq_true (by omega)))) ?_; refine st_end ?_; subst hQ; refine wp_cond_true rfl ?_; refine wp_skip ?_; refine wp_seq ?_; refine wp_block ?_; refine wp_seq ?_; refine wq fun Q hQ => ?_; refine vm (.int .i64 a) 31 rfl rfl rfl rfl ?_; refine vm (.slice (some ⟨bE, oE, none⟩) n cE) 32 rfl rfl rfl rfl ?_
        refine vm (.int .i64 (((m + 1 : Nat) : Int) - 1)) 33 rfl rfl rfl rfl ?_; refine vv (.pointer (some ⟨bE, (oE + m * 13), none⟩)) 34 rfl rfl (ix33 (k := m) rfl rfl rfl ((by omega)) ((by omega))) ?_; refine vv (.pointer (some ⟨bE, ((oE + m * 13) + 3), none⟩)) 35 rfl rfl (ex_fa (p := (.pointer (some ⟨bE, (oE + m * 13), none⟩))) rfl rfl (fg49_3 _ _ _)) ?_; refine vv (.int .i64 e.cap) 36 rfl rfl (ex_load rfl rfl (ld3 (hrb 3 _ rfl))) ?_
        refine vv (.bool false) 37 rfl rfl (ex_bin (u := (.int .i64 a)) (r := (.int .i64 e.cap)) rfl rfl rfl (eg3 _ _ _ _ _ _) (gtr3 _ (decide_eq_false (by omega)))) ?_; refine vm (.bool false) 38 rfl rfl rfl rfl ?_; refine vm (.int .i64 x) 39 rfl rfl rfl rfl ?_; refine vv (.bool false) 40 rfl rfl (ex_bin (u := (.int .i64 x)) (r := (.int .i64 2147483647)) rfl rfl rfl (eg3 _ _ _ _ _ _) (gtr3 _ (decide_eq_false (by omega)))) ?_; refine vv (.bool false) 41 rfl rfl (ex_pkF rfl rfl rfl) ?_; refine st_end ?_; subst hQ; refine wp_cond_false rfl ?_; refine wp_skip ?_; refine wp_seq ?_
        obtain ⟨W57, hwd⟩ : ∃ wd, wr.drew = wd := ⟨_, rfl⟩; refine wp_region_held (S := fun W => Kept (fun k => k = bt15 ∨ k = bt18) W57 W) (by kernel_rfl) ?_
        show wpAnyH _ _ _ _ _ _ _ _ wr.drew
        rw [hwd]; refine capQ fun Q hQ => ?_
        have hQP : ∀ c (a : Act) (d : Nat) v w, Q (.panic c) (a.put (some d) v) w → Q (.panic c) a w := by
          subst hQ; exact fun _ _ _ _ _ h => h
        have BD : Below wr.heap.size wr W57 := by rw [← hwd]; exact below_drewB (Below.refl _ _)
        clear hwd; replace E := below_next E BD; replace k2 := keep BD k2; replace k4 := keep BD k4; replace k6 := keep BD k6; replace kA := keep BD kA; replace kX := keep BD kX; clear BD
        have S : Kept (fun k => k = bt15 ∨ k = bt18) W57 W57 := Kept.refl _ _
        have d_k2 := k2; have d_k4 := k4; have d_k6 := k6; have d_kA := kA; have d_kX := kX; refine tk (Pz bt6 1) 0 43 rfl rfl rfl (fun W hK => ex_fa (p := (Pz bt6 0)) rfl rfl (fa36_1 _ _)) S hQP ?_; refine tk (.slice (some ⟨bt15, 0, none⟩) n n) 1 44 rfl rfl rfl (fun W hK => ex_load (p := (Pz bt6 1)) rfl rfl (ld30 (at_cell (keepK hK d_k6 (fun e => e.elim (fun e => ne_tag d_k6 d_kA (by decide) e) (fun e => ne_tag d_k6 d_kX (by decide) e))) rfl))) S hQP ?_; refine tk (.int .i64 (((m + 1 : Nat) : Int) - 1)) 2 45 rfl rfl rfl (fun W hK => ex_mv rfl rfl) S hQP ?_
        refine tk (Pz bt6 2) 3 46 rfl rfl rfl (fun W hK => ex_fa (p := (Pz bt6 0)) rfl rfl (fa36_2 _ _)) S hQP ?_; refine tk (.slice (some ⟨bt18, 0, none⟩) n n) 4 47 rfl rfl rfl (fun W hK => ex_load (p := (Pz bt6 2)) rfl rfl (ld30 (at_cell (keepK hK d_k6 (fun e => e.elim (fun e => ne_tag d_k6 d_kA (by decide) e) (fun e => ne_tag d_k6 d_kX (by decide) e))) rfl))) S hQP ?_; refine tk (.int .i64 (((m + 1 : Nat) : Int) - 1)) 5 48 rfl rfl rfl (fun W hK => ex_mv rfl rfl) S hQP ?_; refine tk (.int .i64 a) 6 49 rfl rfl rfl (fun W hK => ex_mv rfl rfl) S hQP ?_
        refine tk (.int .i64 x) 7 50 rfl rfl rfl (fun W hK => ex_mv rfl rfl) S hQP ?_; refine tk (Pz bt15 m) 8 51 rfl rfl rfl (fun W hK => ixI0 (i := (((m + 1 : Nat) : Int) - 1)) (n := n) (k := m) rfl rfl rfl (by omega) (by omega)) S hQP ?_; refine ah_or1 (i := 9) (by kernel_rfl) ?_; obtain ⟨kn, K⟩ := put_cell (i := m) (.int .i64 a) kA; refine nx_sk rfl rfl rfl (ex_store rfl rfl rfl (sto3 (at_cell kA (Il_at m am)) (unfrozen kA))) (S.putL K) ?_; obtain ⟨W58, hW2⟩ : ∃ W', W57.setCell ⟨bt15, m, none⟩ (.int .i64 a) = W' := ⟨_, rfl⟩; rw [hW2] at kn K ⊢
        rw [List.setIfInBounds_toArray, Il_set m am a] at kn; replace E := below_put E ge_bt15 K; replace k2 := keepK K k2 (fun e => ne_tag k2 kA (by decide) e); replace k4 := keepK K k4 (fun e => ne_tag k4 kA (by decide) e); replace k6 := keepK K k6 (fun e => ne_tag k6 kA (by decide) e); replace kX := keepK K kX (fun e => neAX e.symm); replace S := S.putL K; replace kA := kn; clear kn K; refine tk (Pz bt18 m) 10 52 rfl rfl rfl (fun W hK => ixI0 (i := (((m + 1 : Nat) : Int) - 1)) (n := n) (k := m) rfl rfl rfl (by omega) (by omega)) S hQP ?_; refine ah_or1 (i := 11) (by kernel_rfl) ?_
        obtain ⟨kn, K⟩ := put_cell (i := m) (.int .i64 x) kX; refine nx_sk rfl rfl rfl (ex_store rfl rfl rfl (sto3 (at_cell kX (Il_at m xs)) (unfrozen kX))) (S.putR K) ?_; obtain ⟨W59, hW2⟩ : ∃ W', W58.setCell ⟨bt18, m, none⟩ (.int .i64 x) = W' := ⟨_, rfl⟩; rw [hW2] at kn K ⊢; rw [List.setIfInBounds_toArray, Il_set m xs x] at kn; replace E := below_put E ge_bt18 K; replace k2 := keepK K k2 (fun e => ne_tag k2 kX (by decide) e); replace k4 := keepK K k4 (fun e => ne_tag k4 kX (by decide) e); replace k6 := keepK K k6 (fun e => ne_tag k6 kX (by decide) e); replace S := S.putR K
        replace kA := keepK K kA (fun e => neAX e); replace kX := kn; clear kn K; refine ah_done (by kernel_rfl) ?_; clear hQP; subst hQ; clear S d_k2 d_k4 d_k6 d_kA d_kX ; refine wp_seq ?_; refine wq fun Q hQ => ?_; refine vm (.int .i64 (((m + 1 : Nat) : Int) - 1)) 53 rfl rfl rfl rfl ?_; refine vv (.bool false) 54 rfl rfl (ex_bin (u := (.int .i64 (((m + 1 : Nat) : Int) - 1))) (r := (.int .i64 0)) rfl rfl rfl (eg3 _ _ _ _ _ _) (eql3 _ (decide_eq_false (by omega)))) ?_; refine st_end ?_; subst hQ; refine wp_cond_false rfl ?_; refine wp_skip ?_; refine wq fun Q hQ => ?_
        refine vm (.slice (some ⟨bE, oE, none⟩) n cE) 56 rfl rfl rfl rfl ?_; refine vm (.int .i64 (((m + 1 : Nat) : Int) - 1)) 57 rfl rfl rfl rfl ?_; refine vv (.pointer (some ⟨bE, (oE + m * 13), none⟩)) 58 rfl rfl (ix33 (k := m) rfl rfl rfl ((by omega)) ((by omega))) ?_; refine vv (.pointer (some ⟨bE, ((oE + m * 13) + 4), none⟩)) 59 rfl rfl (ex_fa (p := (.pointer (some ⟨bE, (oE + m * 13), none⟩))) rfl rfl (fg49_4 _ _ _)) ?_; refine vv (.pointer (some ⟨bE, ((oE + m * 13) + 4), none⟩)) 60 rfl rfl (ex_fa (p := (.pointer (some ⟨bE, ((oE + m * 13) + 4), none⟩))) rfl rfl (fg45_0 _ _ _)) ?_
        refine vv (.agg (FL e.q)) 61 rfl rfl (ex_load rfl rfl (ld_range (range_sub (range_below (range_at hr he) E)) Try.underlying43 rfl inf43)) ?_; refine vm (.int .i64 a) 62 rfl rfl rfl rfl ?_; refine st_call (some 63) rfl rfl (in_any e.q.b e.q.r a W59 hqb (by omega) (by omega)) (ex_call (f := 76) (vs := [(.agg (FL e.q)), (.int .i64 a)]) rfl (cf76 _) rfl) ?_; rintro e W60 ⟨rfl, B⟩; refine ⟨_, rfl, ?_⟩; simp only [zp]; replace E := below_next E B; replace k2 := keep B k2; replace k4 := keep B k4; replace k6 := keep B k6; replace kA := keep B kA; replace kX := keep B kX
        refine vm (.tuple #[(.int .i64 (inN e.q.b e.q.r a)), (.int .i64 (inE e.q.b e.q.r a))]) 55 rfl rfl rfl rfl ?_; refine vv (.int .i64 (inN e.q.b e.q.r a)) 64 rfl rfl (ex_ext rfl rfl rfl) ?_; refine vv (.int .i64 (inE e.q.b e.q.r a)) 65 rfl rfl (ex_ext rfl rfl rfl) ?_; refine vg (.int .i64 (inN e.q.b e.q.r a)) 10 rfl rfl rfl rfl ?_; refine vg (.int .i64 (inE e.q.b e.q.r a)) 11 rfl rfl rfl rfl ?_; refine st_end ?_; subst hQ; refine wp_seq ?_; refine wq fun Q hQ => ?_; refine vm (.int .i64 (inE e.q.b e.q.r a)) 66 rfl rfl rfl rfl ?_
        refine vv (.bool true) 67 rfl rfl (ex_bin (u := (.int .i64 (inE e.q.b e.q.r a))) (r := (.int .i64 0)) rfl rfl rfl (eg37 _ _ _ _ _ _) (neq37 _ (decide_eq_true (by omega)))) ?_; refine st_end ?_; subst hQ; refine wp_cond_true rfl ?_; refine wq fun Q hQ => ?_; refine vv (.agg #[.slice none 0 0, .slice none 0 0, .slice none 0 0, .int .i64 0, .float .f64 0]) 68 rfl rfl (ex_build0  rfl (bWay0 _)) ?_; obtain ⟨W61, hst, kn, K⟩ := put_all (D := #[.slice none 0 0, .slice none 0 0, .slice none 0 0, .int .i64 0, .float .f64 0]) k4 rfl inf36 (by kernel_rfl)
        refine st_sk rfl rfl (ex_store rfl rfl rfl hst) ?_; replace E := below_put E ge_b2 K; replace k2 := keepK K k2 (fun e => ne_tag k2 k4 (by decide) e); replace k6 := keepK K k6 (fun e => ne46 e.symm); replace kA := keepK K kA (fun e => ne_tag kA k4 (by decide) e); replace kX := keepK K kX (fun e => ne_tag kX k4 (by decide) e); replace k4 := kn; clear kn K hst; refine vg (.bool false) 5 rfl rfl rfl rfl ?_; refine st_end ?_; subst hQ; refine wp_ret ?_
        repeat (first | refine ret_out ?_ | refine ret_blk ?_)
        refine bodyPost_ret (res_ct Try.results37 _ _ _ _ rfl k4 Try.underlying36 rfl inf36) rfl ⟨E, ?_⟩; rw [hno]; exact ⟨_, rfl, rfl, one5⟩
end Go.Proofs.Ytgnkcmmpbohafaa
