/- Some texts, in one. -/
import Derived.Test.YtgnkcmmpbohafaaDoe04
/- A set of numbers, as a map; numbers that lie in a row. -/
namespace Go.Proofs.Ytgnkcmmpbohafaa
open Go.RowKit
set_option linter.unusedVariables false
set_option linter.unusedSimpArgs false
set_option maxRecDepth 100000
def kv (m : MapEntry) : Value × Value := (m.key, m.val)
def kS (x : Int) : Value × Value := (.int .i64 x, .agg #[])
/-- a map whose keys are these numbers -/
def Mp (W : World) (r : Nat) (S : List Int) : Prop := ∃ es c, W.heap[r]? = some (.map es c) ∧ es.toList.map kv = S.map kS
theorem Mp.keep {W W' : World} {r : Nat} {S : List Int} (h : Mp W r S) (hB : Below W.heap.size W W') : Mp W' r S := by
  obtain ⟨es, c, h1, h2⟩ := h; exact ⟨es, c, Proofs.Ytgnkcmmpbohafaa.keep hB h1, h2⟩
theorem Mp.keepT {W W' : World} {r k T : Nat} {C : Array Value} {S : List Int} (h : Mp W r S) (hK : Kept (· = k) W W') (hk : W.heap[k]? = some (.cells C T)) : Mp W' r S := by
  obtain ⟨es, c, h1, h2⟩ := h; refine ⟨es, c, keepK hK h1 (fun e => ?_), h2⟩; rw [e, hk] at h1
  cases h1
theorem fnd (x : Int) : ∀ (es : List MapEntry) (S : List Int) (i : Nat), es.map kv = S.map kS →
    (x ∈ S → ∃ j m, es[j]? = some m ∧ m.key = .int .i64 x ∧ Instr.findNow (.int .i64) (.int .i64 x) es i = some (some (i + j, .agg #[]))) ∧ (¬ x ∈ S → Instr.findNow (.int .i64) (.int .i64 x) es i = some none)
  | [], [], i, _ => ⟨fun h => absurd h (by simp), fun _ => rfl⟩
  | [], _ :: _, _, h => by simp at h
  | _ :: _, [], _, h => by simp at h
  | m :: es, y :: S, i, h => by
    simp only [List.map_cons, List.cons.injEq] at h
    have hk : m.key = .int .i64 y := congrArg Prod.fst h.1
    have hv : m.val = .agg #[] := congrArg Prod.snd h.1
    have ih := fnd x es S (i + 1) h.2
    have hs : Instr.sameNow (.int .i64) (.int .i64 x) m.key = some (x == y) := by rw [hk]; simp [Instr.sameNow]
    by_cases e : x = y
    · subst e
      refine ⟨fun _ => ⟨0, m, rfl, hk, ?_⟩, fun q => absurd (by simp) q⟩
      unfold Instr.findNow
      rw [hs]
      simp [hv]
    · have hf : Instr.findNow (.int .i64) (.int .i64 x) (m :: es) i = Instr.findNow (.int .i64) (.int .i64 x) es (i + 1) := by
        have hb : (x == y) = false := by simpa using e
        rw [Instr.findNow, hs, hb]
      rw [hf]; refine ⟨fun q => ?_, fun q => ih.2 (fun q2 => q (by simp [q2]))⟩
      have q2 : x ∈ S := by
        rcases List.mem_cons.1 q with q | q
        · exact absurd q e
        · exact q
      obtain ⟨j, m', h1, h2, h3⟩ := ih.1 q2; exact ⟨j + 1, m', by simpa using h1, h2, by rw [h3]; congr 3; omega⟩
theorem chk3 (d : Nat) (v : Value) (em : Bool) (W : World) : (Instr.checkKey em (d + 1) 3 v).run Try.prog W = .ok () W := by
  unfold Instr.checkKey
  simp only [Sem.run_bind, run_underlying Try.underlying3, Result.andThen_ok]
  cases v <;> rfl
theorem zeroV0 (W : World) : (zeroValue 119).run Try.prog W = .ok (.agg #[]) W := by kernel_rfl
theorem look_set {W : World} {r : Nat} {S : List Int} {x : Int} {c : Bool} (h : Mp W r S) (hc : decide (x ∈ S) = c) : (Instr.lookup 115 (.map (some r)) (.int .i64 x) true).run Try.prog W = .ok (.tuple #[.agg #[], .bool c]) W := by
  obtain ⟨es, cl, h1, h2⟩ := h; have hf := fnd x es.toList S 0 h2; have hk := fun em => chk3 9999 (.int .i64 x) em W
  by_cases hx : x ∈ S
  · obtain ⟨j, m, _, _, h3⟩ := hf.1 hx
    have : c = true := by rw [← hc]; simpa using hx
    subst this
    simp [Instr.lookup, run_underlying Try.underlying115, run_underlying Try.underlying3, MapKept.run_getObj_map h1, hk, Instr.findKey, h3]
  · have h3 := hf.2 hx
    have : c = false := by rw [← hc]; simpa using hx
    subst this
    simp [Instr.lookup, run_underlying Try.underlying115, run_underlying Try.underlying3, MapKept.run_getObj_map h1, hk, Instr.findKey, h3, zeroV0]
theorem map_put {W : World} {r : Nat} {es es' : Array MapEntry} {c c' : Nat} (h : W.heap[r]? = some (.map es c)) : ({ W with heap := W.heap.setIfInBounds r (.map es' c') } : World).heap[r]? = some (.map es' c') ∧ Kept (· = r) W { W with heap := W.heap.setIfInBounds r (.map es' c') } := by
  have hr : r < W.heap.size := (Array.getElem?_eq_some_iff.1 h).1
  refine ⟨by simp [hr], ⟨rfl, rfl, rfl, by simp, fun j hj hn => ?_⟩⟩
  show (W.heap.setIfInBounds r _)[j]? = _
  rw [Array.getElem?_setIfInBounds, if_neg (fun e => hn e.symm)]
theorem put_set {W : World} {r : Nat} {S : List Int} {x : Int} (h : Mp W r S) : ∃ W', (Instr.mapUpdate 115 (.map (some r)) (.int .i64 x) (.agg #[])).run Try.prog W = .ok () W' ∧ Mp W' r (if x ∈ S then S else S ++ [x]) ∧ Kept (· = r) W W' := by
  obtain ⟨es, cl, h1, h2⟩ := h; have hf := fnd x es.toList S 0 h2; have hk := fun em => chk3 9999 (.int .i64 x) em W
  by_cases hx : x ∈ S
  · obtain ⟨j, m, hj, hm, h3⟩ := hf.1 hx
    rw [if_pos hx]
    have hj' : es[j]? = some m := by simpa using hj
    refine ⟨_, ?_, ⟨es.modify j fun e => { e with key := .int .i64 x, val := .agg #[] }, cl, (map_put h1).1, ?_⟩, (map_put h1).2⟩
    · simp [Instr.mapUpdate, run_underlying Try.underlying115, run_underlying Try.underlying3, MapKept.run_getObj_map h1, hk, Instr.findKey, h3, hj', hm, Instr.keyThatStays, Instr.sameBits, MapKept.run_setObj_map _ h1]
    · rw [← h2]
      apply List.ext_getElem?
      intro i; rw [List.getElem?_map, List.getElem?_map, Array.toList_modify, List.getElem?_modify]
      by_cases e : j = i
      · subst e
        rw [hj]
        have hv : m.val = .agg #[] := by
          have := congrArg (fun l => l[j]?) h2
          simp only [List.getElem?_map, hj, Option.map_some] at this
          cases hS : S[j]? with
          | none => rw [hS] at this; cases this
          | some y =>
            rw [hS] at this; exact congrArg Prod.snd (Option.some.inj this)
        simp [kv, hm, hv]
      · simp [e]
  · have h3 := hf.2 hx
    rw [if_neg hx]; refine ⟨_, ?_, ⟨es.push { key := .int .i64 x, val := .agg #[], born := cl }, cl + 1, (map_put h1).1, ?_⟩, (map_put h1).2⟩
    · simp [Instr.mapUpdate, run_underlying Try.underlying115, run_underlying Try.underlying3, MapKept.run_getObj_map h1, hk, Instr.findKey, h3, MapKept.run_setObj_map _ h1]
    · simp [h2, kv, kS]
/-- these numbers lie there -/
def Is (W : World) (ao : Option Addr) (l : List Int) : Prop := l = [] ∨ ∃ b o, ao = some ⟨b, o, none⟩ ∧ W.rangeAt b o (l.map fun x => .int .i64 x)
theorem Is.keep {W W' : World} {ao : Option Addr} {l : List Int} (h : Is W ao l) (hB : Below W.heap.size W W') : Is W' ao l := by
  rcases h with h | ⟨b, o, e, h⟩
  · exact .inl h
  · by_cases hl : l = []
    · exact .inl hl
    · exact .inr ⟨b, o, e, range_cell h (cell_blk (hB.block b (range_lt h (by simpa using hl))))⟩
section
variable {o : Oper} {a : Act} {W W' : World}
theorem ex_mm (ho : o.op = .makeMap 115 none) : (execOp a.eval o).run Try.prog W = .ok (.value (.map (some W.heap.size))) (W.alloc (.map #[] 0)) := by
  unfold execOp
  have hr : (Instr.makeMap 115 none).run Try.prog W = .ok (.map (some W.heap.size)) (W.alloc (.map #[] 0)) := rfl
  simp [ho, hr]
theorem ex_mu {m k v : Operand} {u x z : Value} (ho : o.op = .mapUpdate 115 m k v) (hm : a.eval m = u) (hk : a.eval k = x) (hv : a.eval v = z) (hr : (Instr.mapUpdate 115 u x z).run Try.prog W = .ok () W') : (execOp a.eval o).run Try.prog W = .ok .skip W' := by
  unfold execOp
  simp [ho, hm, hk, hv, hr]
theorem ex_lk {m k : Operand} {u x z : Value} (ho : o.op = .lookup 115 m k true) (hm : a.eval m = u) (hk : a.eval k = x) (hr : (Instr.lookup 115 u x true).run Try.prog W = .ok z W) : (execOp a.eval o).run Try.prog W = .ok (.value z) W := by
  unfold execOp
  simp [ho, hm, hk, hr]
end
theorem b119 (W : World) : (Instr.build 119 #[]).run Try.prog W = .ok (.agg #[]) W := run_build W 119 _ _ (by kernel_rfl)
end Go.Proofs.Ytgnkcmmpbohafaa

/- What is avoided, as a set. -/
namespace Go.Proofs.Ytgnkcmmpbohafaa
open Go.RowKit
set_option linter.unusedVariables false
set_option linter.unusedSimpArgs false
set_option maxRecDepth 100000

theorem mem_take {l : List Int} {i : Nat} {y : Int} (h : l[i]? = some y) (x : Int) : x ∈ l.take (i + 1) ↔ x ∈ l.take i ∨ x = y := by
  rw [List.take_add_one, h]
  simp
set_option maxHeartbeats 8000000 in
theorem channels_any {ao : Option Addr} {n c : Nat} {av : List Int} (w : World) (hA : Is w ao av) (hn : n = av.length) (hn2 : n ≤ 140737488355328) : Calls Try.prog 75 #[.slice ao n c] w fun e w' => ∃ r S, e = .returned (.map (some r)) ∧ Mp w' r S ∧ (∀ x, x ∈ S ↔ x ∈ av ∧ chanB x = true) ∧ Below w.heap.size w w' := by
  have E : Below w.heap.size w w := Below.refl _ _
  go_enter Try.func75, Try.ntmps75; refine wq fun Q hQ => ?_; refine vg (.map none) 2 rfl rfl rfl rfl ?_; refine st_end ?_; subst hQ; refine wq fun Q hQ => ?_; obtain ⟨r, W1, hr, hW2, hM, hge, B⟩ : ∃ r W', w.heap.size = r ∧ w.alloc (.map #[] 0) = W' ∧ Mp W' r [] ∧ w.heap.size ≤ r ∧ Below w.heap.size w W' := ⟨_, _, rfl, rfl, ⟨#[], 0, heap_alloc_last _ _, rfl⟩, E.size, (Below.refl _ _).alloc (Nat.le_refl _) _⟩; refine st_to (v := (.map (some r))) (W' := W1) (some 6) rfl rfl (by rw [← hr, ← hW2]; exact ex_mm rfl) ?_; simp only [zp]; replace E := below_next E B
  refine vg (.map (some r)) 3 rfl rfl rfl rfl ?_; refine st_end ?_; subst hQ; refine wp_seq ?_; refine wq fun Q hQ => ?_; refine vm (.slice ao n c) 7 rfl rfl rfl rfl ?_; refine vv (.int .i64 (n : Nat)) 8 rfl rfl (ex_len rfl rfl (len30 _ _ _ _ _)) ?_; refine vm (.int .i64 0) 9 rfl rfl rfl rfl ?_; refine st_end ?_; subst hQ; refine wp_block ?_
  go_loopw [9] (fun v9 wr => ∃ (i : Nat) (S : List Int), i ≤ n ∧ v9 = .int .i64 i ∧ Below w.heap.size w wr ∧ Mp wr r S ∧ ∀ x, x ∈ S ↔ x ∈ av.take i ∧ chanB x = true) (fun v9 _ => n - (intOf v9).toNat)
  case atStart => exact ⟨0, [], Nat.zero_le _, rfl, E, hM, fun x => by simp⟩
  case round =>
    clear E hM; obtain ⟨i, S, hi, rfl, E, hM, hS⟩ := hrel
    by_cases hlt : i < n
    · obtain ⟨y, hy⟩ : ∃ y, av[i]? = some y := ⟨av[i]'(by omega), List.getElem?_eq_getElem (by omega)⟩
      have hT := mem_take hy
      rcases hA with q | ⟨b, off, rfl, hr⟩
      · rw [q] at hy; simp at hy
      have hcell : w.cell? ⟨b, off + i, none⟩ = some (.int .i64 y) := hr i _ (by simp [hy])
      by_cases hc : chanB y = true
      · skip
        refine wq fun Q hQ => ?_; refine vv (.bool true) 10 rfl rfl (ex_bin (u := (.int .i64 (i : Nat))) (r := (.int .i64 (n : Nat))) rfl rfl rfl (eg3 _ _ _ _ _ _) (lss3 _ (decide_eq_true (by omega)))) ?_; refine st_end ?_; subst hQ; refine wp_seq ?_; refine wp_cond_true rfl ?_; refine wp_skip ?_; refine wp_seq ?_; refine wp_block ?_; refine wq fun Q hQ => ?_; refine vv (.pointer (some ⟨b, (off + i), none⟩)) 11 rfl rfl (ix30 (k := i) rfl rfl rfl (rfl) (hlt)) ?_; refine vv (.int .i64 y) 12 rfl rfl (ex_load rfl rfl (ld3 ((E.cell (block_lt_of_cell hcell)).trans hcell))) ?_
        refine vg (.int .i64 y) 5 rfl rfl rfl rfl ?_; refine st_end ?_; subst hQ; refine wq fun Q hQ => ?_; refine vm (.int .i64 y) 13 rfl rfl rfl rfl ?_; refine st_call (some 14) rfl rfl (chan_any y wr hc) (ex_call (f := 85) (vs := [(.int .i64 y)]) rfl (cf85 _) rfl) ?_; rintro e W2 ⟨rfl, B⟩; refine ⟨_, rfl, ?_⟩; simp only [zp]; replace E := below_next E B; replace hM := hM.keep B; refine st_end ?_; subst hQ; refine wp_cond_true rfl ?_; refine wl_in (wl_cap fun Q hQ => ?_); refine vm (.map (some r)) 15 rfl rfl rfl rfl ?_; refine vm (.int .i64 y) 16 rfl rfl rfl rfl ?_
        refine vv (.agg #[]) 17 rfl rfl (ex_build0  rfl (b119 _)) ?_; obtain ⟨W3, hp, hM2, hK2⟩ := put_set (x := y) hM; refine st_sk rfl rfl (ex_mu rfl rfl rfl rfl hp) ?_; replace E : Below w.heap.size w W3 := below_put E hge hK2; refine st_end ?_; subst hQ; refine wl_in (wl_cap fun Q hQ => ?_); refine vv (.int .i64 ((i + 1 : Nat) : Int)) 18 rfl rfl (ex_bin rfl rfl rfl (eg3 _ _ _ _ _ _) (add3 _ (by omega) (by omega))) ?_; refine vm (.int .i64 ((i + 1 : Nat) : Int)) 9 rfl rfl rfl rfl ?_; refine st_end ?_; subst hQ; refine then_go ?_
        first | (go_big_round; refine ⟨?rel, ?measure⟩) | (refine ⟨?_, ?measure⟩; (repeat apply Exists.intro); refine ⟨?rel, rfl⟩)
        case rel =>
          refine ⟨i + 1, _, by omega, rfl, E, hM2, fun x => ?_⟩; rw [hT]
          by_cases hyS : y ∈ S
          · rw [if_pos hyS, hS]
            constructor
            · exact fun h => ⟨.inl h.1, h.2⟩
            · rintro ⟨h | h, h2⟩
              · exact ⟨h, h2⟩
              · subst h; exact (hS _).1 hyS
          · rw [if_neg hyS, List.mem_append, hS]
            constructor
            · rintro (h | h)
              · exact ⟨.inl h.1, h.2⟩
              · have : x = y := by simpa using h
                subst this; exact ⟨.inr rfl, hc⟩
            · rintro ⟨h | h, h2⟩
              · exact .inl ⟨h, h2⟩
              · exact .inr (by simpa using h)
        case measure => simp [intOf]; omega
      · skip
        replace hc := Bool.eq_false_iff.2 hc; refine wq fun Q hQ => ?_; refine vv (.bool true) 10 rfl rfl (ex_bin (u := (.int .i64 (i : Nat))) (r := (.int .i64 (n : Nat))) rfl rfl rfl (eg3 _ _ _ _ _ _) (lss3 _ (decide_eq_true (by omega)))) ?_; refine st_end ?_; subst hQ; refine wp_seq ?_; refine wp_cond_true rfl ?_; refine wp_skip ?_; refine wp_seq ?_; refine wp_block ?_; refine wq fun Q hQ => ?_; refine vv (.pointer (some ⟨b, (off + i), none⟩)) 11 rfl rfl (ix30 (k := i) rfl rfl rfl (rfl) (hlt)) ?_
        refine vv (.int .i64 y) 12 rfl rfl (ex_load rfl rfl (ld3 ((E.cell (block_lt_of_cell hcell)).trans hcell))) ?_; refine vg (.int .i64 y) 5 rfl rfl rfl rfl ?_; refine st_end ?_; subst hQ; refine wq fun Q hQ => ?_; refine vm (.int .i64 y) 13 rfl rfl rfl rfl ?_; refine st_call (some 14) rfl rfl (chan_any y wr hc) (ex_call (f := 85) (vs := [(.int .i64 y)]) rfl (cf85 _) rfl) ?_; rintro e W4 ⟨rfl, B⟩; refine ⟨_, rfl, ?_⟩; simp only [zp]; replace E := below_next E B; replace hM := hM.keep B; refine st_end ?_; subst hQ; refine wp_cond_false rfl ?_; refine wp_skip ?_
        refine wl_in (wl_cap fun Q hQ => ?_); refine vv (.int .i64 ((i + 1 : Nat) : Int)) 18 rfl rfl (ex_bin rfl rfl rfl (eg3 _ _ _ _ _ _) (add3 _ (by omega) (by omega))) ?_; refine vm (.int .i64 ((i + 1 : Nat) : Int)) 9 rfl rfl rfl rfl ?_; refine st_end ?_; subst hQ; refine then_go ?_
        first | (go_big_round; refine ⟨?rel, ?measure⟩) | (refine ⟨?_, ?measure⟩; (repeat apply Exists.intro); refine ⟨?rel, rfl⟩)
        case rel =>
          refine ⟨i + 1, _, by omega, rfl, E, hM, fun x => ?_⟩; rw [hT, hS]
          constructor
          · exact fun h => ⟨.inl h.1, h.2⟩
          · rintro ⟨h | h, h2⟩
            · exact ⟨h, h2⟩
            · subst h; rw [hc] at h2; cases h2
        case measure => simp [intOf]; omega
    · have hin : i = n := by omega
      subst i; rw [List.take_of_length_le (by omega)] at hS; refine wq fun Q hQ => ?_; refine vv (.bool false) 10 rfl rfl (ex_bin (u := (.int .i64 (n : Nat))) (r := (.int .i64 (n : Nat))) rfl rfl rfl (eg3 _ _ _ _ _ _) (lss3 _ (decide_eq_false (by omega)))) ?_; refine st_end ?_; subst hQ; refine wp_seq ?_; refine wp_cond_false rfl ?_; refine wp_exit ?_; refine ex_then ?_; refine ex_then ?_; refine ex_blk ?_; refine wq fun Q hQ => ?_; refine vm (.map (some r)) 19 rfl rfl rfl rfl ?_; refine vg (.map (some r)) 2 rfl rfl rfl rfl ?_; refine st_end ?_; subst hQ; refine wp_ret ?_
      refine bodyPost_ret (results_tmp Try.results75 _ _ _) rfl ⟨r, S, rfl, hM, hS, E⟩
end Go.Proofs.Ytgnkcmmpbohafaa

/- What a way costs. -/
namespace Go.Proofs.Ytgnkcmmpbohafaa
open Go.RowKit
set_option linter.unusedVariables false
set_option linter.unusedSimpArgs false
set_option maxRecDepth 100000

theorem cell_kept {F : Nat → Prop} {W W' : World} {b o : Nat} {v : Value} (hK : Kept F W W') (h : W.cell? ⟨b, o, none⟩ = some v) (hn : ¬ F b) : W'.cell? ⟨b, o, none⟩ = some v := by
  have hl := block_lt_of_cell h
  unfold World.cell? at h ⊢
  rw [hK.block b hl hn]; exact h
def prv (b : Option Int) (am : List Int) : Nat → Option Int
  | 0 => b
  | k + 1 => am[k]?
theorem cst_at (t : Int) : ∀ (es : List EV) (am : List Int) (b : Option Int) (i : Nat) (e : EV) (a : Int), es[i]? = some e → am[i]? = some a → (cstN t b es am)[i]? = some (costN (match prv b am i with | none => 0 | some c => c - a) (match prv b am i with | none => 0 | some _ => e.q.d) (chN e.p a e.cap t))
  | [], _, _, _, _, _, h, _ => by simp at h
  | _ :: _, [], _, _, _, _, _, h => by simp at h
  | e0 :: es, a0 :: am, b, 0, e, a, h1, h2 => by
    have : e0 = e := by simpa using h1
    subst this
    have : a0 = a := by simpa using h2
    subst this
    rfl
  | e0 :: es, a0 :: am, b, i + 1, e, a, h1, h2 => by
    have ih := cst_at t es am (some a0) i e a (by simpa using h1) (by simpa using h2)
    show (cstN t (some a0) es am)[i]? = _
    rw [ih]
    cases i with
    | zero => rfl
    | succ k => simp [prv]
theorem cst_len (t : Int) : ∀ (es : List EV) (am : List Int) (b : Option Int), es.length = am.length → (cstN t b es am).length = es.length
  | [], [], _, _ => rfl
  | [], _ :: _, _, h => by simp at h
  | _ :: _, [], _, h => by simp at h
  | e :: es, a :: am, b, h => by
    show (cstN t (some a) es am).length + 1 = es.length + 1
    rw [cst_len t es am (some a) (by simpa using h)]
def Fl (l : List Nat) : List Value := l.map fun x => .float .f64 x
theorem bslF (x : Nat) (W : World) : (Instr.buildSlice 50 1 #[(0, .float .f64 x)]).run Try.prog W = .ok (.slice (some ⟨W.heap.size, 0, none⟩) 1 1) (W.alloc (.cells #[.float .f64 x] 34)) := bslice W 50 34 1 _ _ (.float .f64 0) 1 Try.underlying50 (by kernel_rfl) (by decide) (by decide) (by kernel_rfl)
section
variable {o : Oper} {a : Act} {W : World}
theorem ex_mkF {x y : Operand} (ho : o.op = .makeSlice 50 x y) (hx : a.eval x = .int .i64 0) (hy : a.eval y = .int .i64 8) : (execOp a.eval o).run Try.prog W = .ok (.value (.slice (some ⟨W.heap.size, 0, none⟩) 0 8)) (W.alloc (.cells #[.float .f64 0, .float .f64 0, .float .f64 0, .float .f64 0, .float .f64 0, .float .f64 0, .float .f64 0, .float .f64 0] 34)) := by
  obtain ⟨i0, hi, hz0, hz1, hz2⟩ := info_parts Try.inf34b; have h := run_make (P := Try.prog) W 50 34 i0 (.float .f64 0) Try.underlying50 hi hz0 .i64 .i64 0 8 (by omega) (by omega) (by rw [hz2]; omega) (by omega); rw [hz1] at h
  have e : madeCells (Value.float .f64 0).cells ((8 : Int).toNat * 1) = #[.float .f64 0, .float .f64 0, .float .f64 0, .float .f64 0, .float .f64 0, .float .f64 0, .float .f64 0, .float .f64 0] := by kernel_rfl
  rw [e] at h
  unfold execOp
  simp only [ho, hx, hy]
  simp [h]
end
theorem jk_list (l : List Nat) : jk (fun j => l.getD j 0) l.length 0 0 = jn l 0 := by
  rw [jk_jn, ← List.range_eq_range']
  congr 1
  apply List.ext_getElem?
  intro i
  by_cases h : i < l.length
  · simp [h, List.getD_eq_getElem?_getD]
  · simp [h]
/-- what an edge has is within an int -/
structure EB (e : EV) : Prop where
  ok : mayE e = true
  b : e.q.b ≤ 9223372036854775807
  cap : e.cap ≤ 9223372036854775807
  g1 : -9223372036854775808 ≤ e.p.gat
  g2 : e.p.gat ≤ 9223372036854775807
  h1 : -9223372036854775808 ≤ e.p.bat
  h2 : e.p.bat ≤ 9223372036854775807
theorem EB.delta {e : EV} (h : EB e) : 1 ≤ e.q.d ∧ e.q.d ≤ 1000 := by
  have := h.ok
  unfold mayE mayR at this
  simp only [Bool.and_eq_true, decide_eq_true_eq] at this
  omega
set_option maxHeartbeats 16000000 in
theorem cost_any {aE aA aX : Option Addr} {n cE cA cX N co : Nat} {fe t : Int} {es : List EV} {am : List Int} (w : World) (hE : Es w N aE es) (hN : N ≤ w.heap.size) (hA : Is w aA am) (ne : n = es.length) (na : n = am.length) (hn : n ≤ 8) (hb : ∀ e ∈ es, EB e) (ha : ∀ a ∈ am, 0 ≤ a ∧ a ≤ 9223372036854775807) (t1 : -9223372036854775808 ≤ t) (t2 : t ≤ 9223372036854775807) : Calls Try.prog 77 #[.agg #[.slice aE n cE, .slice aA n cA, .slice aX n cX, .int .i64 fe, .float .f64 co], .int .i64 t] w fun e w' => e = .returned (.float .f64 (jn (cstN t none es am) 0)) ∧ Below w.heap.size w w' := by
  obtain ⟨CS, hCS⟩ : ∃ CS, cstN t none es am = CS := ⟨_, rfl⟩; have hCL := cst_len t es am none (by omega); have hCA := cst_at t es am none; rw [hCS] at hCL hCA ⊢
  have E : Below w.heap.size w w := Below.refl _ _
  go_enter Try.func77, Try.ntmps77; refine wq fun Q hQ => ?_; refine st_new (fun b => .pointer (some ⟨b, 0, none⟩)) (some 2) rfl rfl (ex_box rfl rfl) ?_; intro b1 W1 k1 g1 B; simp only [zp]; have ge_b1 := Nat.le_trans E.size g1; replace E := below_next E B; clear B; refine vg (.float .f64 0) 4 rfl rfl rfl rfl ?_; refine st_end ?_; subst hQ; refine wq fun Q hQ => ?_; refine st_new (fun b => .slice (some ⟨b, 0, none⟩) 0 8) (some 11) rfl rfl (ex_mkF rfl rfl rfl) ?_; intro b2 W2 k2 g2 B; simp only [zp]
  have ne_b2_b1 : b2 ≠ b1 := fun e => by have := lt_of k1; omega
  have ge_b2 := Nat.le_trans E.size g2; replace E := below_next E B; replace k1 := keep B k1; clear B; refine vg (.slice (some ⟨b2, 0, none⟩) 0 8) 5 rfl rfl rfl rfl ?_; refine st_end ?_; subst hQ; refine wp_seq ?_; refine wq fun Q hQ => ?_; refine vv (Pz b1 0) 12 rfl rfl (ex_fa (p := (Pz b1 0)) rfl rfl (fa36_0 _ _)) ?_; refine vv (.slice aE n cE) 13 rfl rfl (ex_load (p := (Pz b1 0)) rfl rfl (ld33 (at_cell k1 rfl))) ?_; refine vv (.int .i64 (n : Nat)) 14 rfl rfl (ex_len rfl rfl (len33 _ _ _ _ _)) ?_; refine vm (.int .i64 0) 15 rfl rfl rfl rfl ?_; refine st_end ?_; subst hQ; refine wp_block ?_
  go_loopw [5, 15] (fun v5 v15 wr => ∃ i : Nat, i ≤ n ∧ v15 = .int .i64 i ∧ Below w.heap.size w wr ∧ wr.heap[b1]? = some (.cells #[.slice aE n cE, .slice aA n cA, .slice aX n cX, .int .i64 fe, .float .f64 co] 36) ∧ wr.ownsRow w.heap.size 34 1 v5 i (Fl (CS.take i))) (fun _ v15 _ => n - (intOf v15).toNat)
  case atStart => exact ⟨0, Nat.zero_le _, rfl, E, k1, ⟨by simp [Fl], .inr ⟨b2, 8, _, rfl, ge_b2, k2, by decide, by decide, rfl, rfl⟩⟩⟩
  case round =>
    clear E k1 k2; obtain ⟨i, hi, rfl, E, k2, hw⟩ := hrel; have hq0 := fun q => own_lt (k := q) hw
    by_cases hlt : i < n
    · obtain ⟨e, he⟩ : ∃ e, es[i]? = some e := ⟨es[i]'(by omega), List.getElem?_eq_getElem (by omega)⟩
      obtain ⟨a, hai⟩ : ∃ a, am[i]? = some a := ⟨am[i]'(by omega), List.getElem?_eq_getElem (by omega)⟩; have heb := hb e (List.mem_of_getElem? he); have hab := ha a (List.mem_of_getElem? hai); have hdl := heb.delta; have hcs := hCA i e a he hai
      rcases hE with q | ⟨bE, oE, rfl, hbN, ⟨cur0, hcur0⟩, hr⟩
      · rw [q] at he; simp at he
      rcases hA with q | ⟨bA, oA, rfl, hra⟩
      · rw [q] at hai; simp at hai
      have hrb := range_below (range_at hr he) E
      have hca : w.cell? ⟨bA, oA + i, none⟩ = some (.int .i64 a) := hra i _ (by simp [hai])
      by_cases hz : i = 0
      · skip
        have hcs : CS[i]? = some (costN 0 0 (chN e.p a e.cap t)) := by subst hz; exact hcs
        refine wq fun Q hQ => ?_; refine vv (.bool true) 16 rfl rfl (ex_bin (u := (.int .i64 (i : Nat))) (r := (.int .i64 (n : Nat))) rfl rfl rfl (eg3 _ _ _ _ _ _) (lss3 _ (decide_eq_true (by omega)))) ?_; refine st_end ?_; subst hQ; refine wp_seq ?_; refine wp_cond_true rfl ?_; refine wp_skip ?_; refine wp_seq ?_; refine wp_block ?_; refine wq fun Q hQ => ?_; refine vm (.int .i64 (i : Nat)) 17 rfl rfl rfl rfl ?_; refine vv (.pointer (some ⟨bE, (oE + i * 13), none⟩)) 18 rfl rfl (ix33 (k := i) rfl rfl rfl (rfl) (hlt)) ?_
        refine vv (.agg (EL e)) 19 rfl rfl (ex_load rfl rfl (ld_range hrb Try.underlying49 rfl inf49)) ?_; refine st_new (fun b => .pointer (some ⟨b, 0, none⟩)) (some 7) rfl rfl (ex_alloc rfl zero49) ?_; intro b3 W3 k3 g3 B; simp only [zp]
        have ne_b3_b1 : b3 ≠ b1 := fun e => by have := lt_of k2; omega
        have ge_b3 := Nat.le_trans E.size g3; replace E := below_next E B; replace k2 := keep B k2; replace hw := own_keep hw B; clear B; refine vg (.int .i64 (i : Nat)) 6 rfl rfl rfl rfl ?_; obtain ⟨W4, hst, kn, K⟩ := put_all (D := (EL e)) k3 rfl inf49 (by kernel_rfl); refine st_sk rfl rfl (ex_store rfl rfl rfl hst) ?_; replace E := below_put E ge_b3 K; replace k2 := keepK K k2 (fun e => ne_tag k2 k3 (by decide) e); replace hw := own_keepK hw K (fun q hq e => by have := hq0 q hq; omega); replace k3 := kn; clear kn K hst; refine st_end ?_; subst hQ; refine wq fun Q hQ => ?_
        refine vg (.int .i64 0) 8 rfl rfl rfl rfl ?_; refine vg (.int .i64 0) 9 rfl rfl rfl rfl ?_; refine st_end ?_; subst hQ; refine wp_seq ?_; refine wq fun Q hQ => ?_; refine vm (.int .i64 (i : Nat)) 20 rfl rfl rfl rfl ?_; refine vv (.bool false) 21 rfl rfl (ex_bin (u := (.int .i64 (i : Nat))) (r := (.int .i64 0)) rfl rfl rfl (eg3 _ _ _ _ _ _) (gtr3 _ (decide_eq_false (by omega)))) ?_; refine st_end ?_; subst hQ; refine wp_cond_false rfl ?_; refine wp_skip ?_; refine wp_seq ?_; obtain ⟨W5, hwd⟩ : ∃ wd, W4.drew = wd := ⟨_, rfl⟩
        refine wp_region_held (S := fun W => Kept Nil W5 W) (by kernel_rfl) ?_
        show wpAnyH _ _ _ _ _ _ _ _ W4.drew
        rw [hwd]; refine capQ fun Q hQ => ?_
        have hQP : ∀ c (a : Act) (d : Nat) v w, Q (.panic c) (a.put (some d) v) w → Q (.panic c) a w := by
          subst hQ; exact fun _ _ _ _ _ h => h
        have BD : Below W4.heap.size W4 W5 := by rw [← hwd]; exact below_drewB (Below.refl _ _)
        clear hwd; replace E := below_next E BD; replace k2 := keep BD k2; replace hw := own_keep hw BD; replace k3 := keep BD k3; clear BD
        have S : Kept Nil W5 W5 := Kept.refl _ _
        have d_k2 := k2; have d_k3 := k3; have d_hw := hw
        have hcA : W5.cell? ⟨bA, oA + i, none⟩ = some (.int .i64 a) := (E.cell (block_lt_of_cell hca)).trans hca
        refine tk (Pz b3 9) 0 37 rfl rfl rfl (fun W hK => ex_fa (p := (Pz b3 0)) rfl rfl (fa49_5 _ _)) S hQP ?_; refine tk (.agg (PL e.p)) 1 38 rfl rfl rfl (fun W hK => ex_load (p := (Pz b3 9)) rfl rfl (ldEP (keepK hK d_k3 (nilN _)))) S hQP ?_; refine tk (Pz b1 1) 2 39 rfl rfl rfl (fun W hK => ex_fa (p := (Pz b1 0)) rfl rfl (fa36_1 _ _)) S hQP ?_; refine tk (.slice (some ⟨bA, oA, none⟩) n cA) 3 40 rfl rfl rfl (fun W hK => ex_load (p := (Pz b1 1)) rfl rfl (ld30 (at_cell (keepK hK d_k2 (nilN _)) rfl))) S hQP ?_
        refine tk (.int .i64 (i : Nat)) 4 41 rfl rfl rfl (fun W hK => ex_mv rfl rfl) S hQP ?_; refine tk (.pointer (some ⟨bA, (oA + i), none⟩)) 5 42 rfl rfl rfl (fun W hK => ix30 (k := i) rfl rfl rfl (rfl) (hlt)) S hQP ?_; refine tk (.int .i64 a) 6 43 rfl rfl rfl (fun W hK => ex_load rfl rfl (ld3 (cell_kept hK hcA (nilN _)))) S hQP ?_; refine tk (Pz b3 3) 7 44 rfl rfl rfl (fun W hK => ex_fa (p := (Pz b3 0)) rfl rfl (fa49_3 _ _)) S hQP ?_; refine tk (.int .i64 e.cap) 8 45 rfl rfl rfl (fun W hK => ex_load (p := (Pz b3 3)) rfl rfl (ld3 (at_cell (keepK hK d_k3 (nilN _)) rfl))) S hQP ?_
        refine tk (.int .i64 t) 9 46 rfl rfl rfl (fun W hK => ex_mv rfl rfl) S hQP ?_; refine ah_or1 (i := 10) (by kernel_rfl) ?_; refine nx_call (some 47) rfl rfl rfl (schance_any (p := e.p) (a := a) (c := e.cap) (t := t) W5 heb.cap t1 t2 heb.g1 heb.g2 heb.h1 heb.h2) (ex_call (f := 17) (vs := [(.agg (PL e.p)), (.int .i64 a), (.int .i64 e.cap), (.int .i64 t)]) rfl (cf17 _) rfl) ?_; rintro e W6 ⟨rfl, B⟩; refine ⟨_, rfl, S.next B, ?_⟩; simp only [zp]; replace E := below_next E B; replace k2 := keep B k2; replace hw := own_keep hw B; replace k3 := keep B k3; replace S := S.next B
        refine tk (.float .f64 (chN e.p a e.cap t)) 11 10 rfl rfl rfl (fun W hK => ex_asg rfl rfl) S hQP ?_; refine ah_done (by kernel_rfl) ?_; clear hQP; subst hQ; clear S d_k2 d_k3 d_hw; refine wl_in (wl_cap fun Q hQ => ?_); refine vm u5 48 rfl rfl rfl rfl ?_; refine vm (.int .i64 0) 49 rfl rfl rfl rfl ?_; refine vm (.int .i64 0) 50 rfl rfl rfl rfl ?_; refine vm (.float .f64 (chN e.p a e.cap t)) 51 rfl rfl rfl rfl ?_
        refine st_call (some 52) rfl rfl (scost_any 0 0 (chN e.p a e.cap t) W6 (by have := chN_le e.p a e.cap t heb.cap; have := F1_lt; omega) (by omega) (by omega)) (ex_call (f := 16) (vs := [(.int .i64 0), (.int .i64 0), (.float .f64 (chN e.p a e.cap t))]) rfl (cf16 _) rfl) ?_; rintro e W7 ⟨rfl, B⟩; refine ⟨_, rfl, ?_⟩; simp only [zp]; replace E := below_next E B; replace k2 := keep B k2; replace hw := own_keep hw B; replace k3 := keep B k3
        refine st_new (fun b => .slice (some ⟨b, 0, none⟩) 1 1) (some 53) rfl rfl (ex_bsl1 (u := (.float .f64 (costN 0 0 (chN e.p a e.cap t)))) rfl rfl (bslF (costN 0 0 (chN e.p a e.cap t)) _)) ?_; intro b4 W8 k4 g4 B; simp only [zp]
        have ne_b4_b1 : b4 ≠ b1 := fun e => by have := lt_of k2; omega
        have ne_b4_b3 : b4 ≠ b3 := fun e => by have := lt_of k3; omega
        have ge_b4 := Nat.le_trans E.size g4; replace E := below_next E B; replace k2 := keep B k2; replace hw := own_keep hw B; replace k3 := keep B k3; clear B; obtain ⟨g', cap', W9, hr2, hown2, hK2, hloc2⟩ := own_add (c := 1) (m := 1) (t := 50) hw (show W8.rangeAt b4 0 (#[(.float .f64 (costN 0 0 (chN e.p a e.cap t)))] : Array Value).toList from at_range (o := 0) (n := 1) k4 (by show 0 + 1 ≤ 1; decide)) rfl (by intro u hu; have := List.mem_singleton.1 hu; subst this; rfl) Try.underlying50 Try.inf34b rfl (by decide) (by decide) (by omega) (by simp only [maxLen]; omega) E.size
        replace k2 := keepK hK2 k2 (fun e => absurd e (own_ne hw k2 (by decide))); replace E : Below w.heap.size w W9 := E.trans (hK2.below E.size (fun k e => own_ge hw e)); refine sv (.slice (some ⟨g', 0, none⟩) (i + 1) cap') 54 rfl rfl (ex_app rfl rfl rfl hr2) ?_; simp only [zp]; refine vg (.slice (some ⟨g', 0, none⟩) (i + 1) cap') 5 rfl rfl rfl rfl ?_; refine st_end ?_; subst hQ; refine wl_in (wl_cap fun Q hQ => ?_); refine vv (.int .i64 ((i + 1 : Nat) : Int)) 55 rfl rfl (ex_bin rfl rfl rfl (eg3 _ _ _ _ _ _) (add3 _ (by omega) (by omega))) ?_
        refine vm (.int .i64 ((i + 1 : Nat) : Int)) 15 rfl rfl rfl rfl ?_; refine st_end ?_; subst hQ; refine then_go ?_
        first | (go_big_round; refine ⟨?rel, ?measure⟩) | (refine ⟨?_, ?measure⟩; (repeat apply Exists.intro); refine ⟨?rel, rfl⟩)
        case rel =>
          refine ⟨i + 1, by omega, rfl, E, k2, ?_⟩
          have e1 : CS.take (i + 1) = CS.take i ++ [costN 0 0 (chN e.p a e.cap t)] := by
            rw [List.take_add_one, hcs]
            rfl
          rw [e1]
          unfold Fl at hown2 ⊢
          rw [List.map_append]; exact hown2
        case measure => simp [intOf]; omega
      · skip
        obtain ⟨k, hk⟩ : ∃ k, i = k + 1 := ⟨i - 1, by omega⟩; obtain ⟨a1, ha1⟩ : ∃ a1, am[k]? = some a1 := ⟨am[k]'(by omega), List.getElem?_eq_getElem (by omega)⟩; have hab1 := ha a1 (List.mem_of_getElem? ha1)
        have hcs : CS[i]? = some (costN (a1 - a) e.q.d (chN e.p a e.cap t)) := by rw [hk] at hcs ⊢; simp only [prv, ha1] at hcs; exact hcs
        have hca1 : w.cell? ⟨bA, oA + k, none⟩ = some (.int .i64 a1) := hra k _ (by simp [ha1])
        refine wq fun Q hQ => ?_; refine vv (.bool true) 16 rfl rfl (ex_bin (u := (.int .i64 (i : Nat))) (r := (.int .i64 (n : Nat))) rfl rfl rfl (eg3 _ _ _ _ _ _) (lss3 _ (decide_eq_true (by omega)))) ?_; refine st_end ?_; subst hQ; refine wp_seq ?_; refine wp_cond_true rfl ?_; refine wp_skip ?_; refine wp_seq ?_; refine wp_block ?_; refine wq fun Q hQ => ?_; refine vm (.int .i64 (i : Nat)) 17 rfl rfl rfl rfl ?_; refine vv (.pointer (some ⟨bE, (oE + i * 13), none⟩)) 18 rfl rfl (ix33 (k := i) rfl rfl rfl (rfl) (hlt)) ?_
        refine vv (.agg (EL e)) 19 rfl rfl (ex_load rfl rfl (ld_range hrb Try.underlying49 rfl inf49)) ?_; refine st_new (fun b => .pointer (some ⟨b, 0, none⟩)) (some 7) rfl rfl (ex_alloc rfl zero49) ?_; intro b5 W10 k5 g5 B; simp only [zp]
        have ne_b5_b1 : b5 ≠ b1 := fun e => by have := lt_of k2; omega
        have ge_b5 := Nat.le_trans E.size g5; replace E := below_next E B; replace k2 := keep B k2; replace hw := own_keep hw B; clear B; refine vg (.int .i64 (i : Nat)) 6 rfl rfl rfl rfl ?_; obtain ⟨W11, hst, kn, K⟩ := put_all (D := (EL e)) k5 rfl inf49 (by kernel_rfl); refine st_sk rfl rfl (ex_store rfl rfl rfl hst) ?_; replace E := below_put E ge_b5 K; replace k2 := keepK K k2 (fun e => ne_tag k2 k5 (by decide) e); replace hw := own_keepK hw K (fun q hq e => by have := hq0 q hq; omega); replace k5 := kn; clear kn K hst; refine st_end ?_; subst hQ; refine wq fun Q hQ => ?_
        refine vg (.int .i64 0) 8 rfl rfl rfl rfl ?_; refine vg (.int .i64 0) 9 rfl rfl rfl rfl ?_; refine st_end ?_; subst hQ; refine wp_seq ?_; refine wq fun Q hQ => ?_; refine vm (.int .i64 (i : Nat)) 20 rfl rfl rfl rfl ?_; refine vv (.bool true) 21 rfl rfl (ex_bin (u := (.int .i64 (i : Nat))) (r := (.int .i64 0)) rfl rfl rfl (eg3 _ _ _ _ _ _) (gtr3 _ (decide_eq_true (by omega)))) ?_; refine st_end ?_; subst hQ; refine wp_cond_true rfl ?_; obtain ⟨W12, hwd⟩ : ∃ wd, W11.drew = wd := ⟨_, rfl⟩; refine wp_region_held (S := fun W => Kept Nil W12 W) (by kernel_rfl) ?_
        show wpAnyH _ _ _ _ _ _ _ _ W11.drew
        rw [hwd]; refine capQ fun Q hQ => ?_
        have hQP : ∀ c (a : Act) (d : Nat) v w, Q (.panic c) (a.put (some d) v) w → Q (.panic c) a w := by
          subst hQ; exact fun _ _ _ _ _ h => h
        have BD : Below W11.heap.size W11 W12 := by rw [← hwd]; exact below_drewB (Below.refl _ _)
        clear hwd; replace E := below_next E BD; replace k2 := keep BD k2; replace hw := own_keep hw BD; replace k5 := keep BD k5; clear BD
        have S : Kept Nil W12 W12 := Kept.refl _ _
        have d_k2 := k2; have d_k5 := k5; have d_hw := hw
        have hcA : W12.cell? ⟨bA, oA + i, none⟩ = some (.int .i64 a) := (E.cell (block_lt_of_cell hca)).trans hca
        have hcA1 : W12.cell? ⟨bA, oA + k, none⟩ = some (.int .i64 a1) := (E.cell (block_lt_of_cell hca1)).trans hca1
        refine tk (Pz b1 1) 0 22 rfl rfl rfl (fun W hK => ex_fa (p := (Pz b1 0)) rfl rfl (fa36_1 _ _)) S hQP ?_; refine tk (.slice (some ⟨bA, oA, none⟩) n cA) 1 23 rfl rfl rfl (fun W hK => ex_load (p := (Pz b1 1)) rfl rfl (ld30 (at_cell (keepK hK d_k2 (nilN _)) rfl))) S hQP ?_; refine tk (.int .i64 (i : Nat)) 2 24 rfl rfl rfl (fun W hK => ex_mv rfl rfl) S hQP ?_; refine tk (.int .i64 ((k : Nat) : Int)) 3 25 rfl rfl rfl (fun W hK => ex_bin rfl rfl rfl (eg3 _ _ _ _ _ _) (sub3 _ (by omega) (by omega))) S hQP ?_
        refine tk (.pointer (some ⟨bA, (oA + k), none⟩)) 4 26 rfl rfl rfl (fun W hK => ix30 (k := k) rfl rfl rfl (rfl) ((by omega))) S hQP ?_; refine tk (.int .i64 a1) 5 27 rfl rfl rfl (fun W hK => ex_load rfl rfl (ld3 (cell_kept hK hcA1 (nilN _)))) S hQP ?_; refine tk (Pz b1 1) 6 28 rfl rfl rfl (fun W hK => ex_fa (p := (Pz b1 0)) rfl rfl (fa36_1 _ _)) S hQP ?_; refine tk (.slice (some ⟨bA, oA, none⟩) n cA) 7 29 rfl rfl rfl (fun W hK => ex_load (p := (Pz b1 1)) rfl rfl (ld30 (at_cell (keepK hK d_k2 (nilN _)) rfl))) S hQP ?_
        refine tk (.int .i64 (i : Nat)) 8 30 rfl rfl rfl (fun W hK => ex_mv rfl rfl) S hQP ?_; refine tk (.pointer (some ⟨bA, (oA + i), none⟩)) 9 31 rfl rfl rfl (fun W hK => ix30 (k := i) rfl rfl rfl (rfl) (hlt)) S hQP ?_; refine tk (.int .i64 a) 10 32 rfl rfl rfl (fun W hK => ex_load rfl rfl (ld3 (cell_kept hK hcA (nilN _)))) S hQP ?_; refine tk (.int .i64 (a1 - a)) 11 33 rfl rfl rfl (fun W hK => ex_bin rfl rfl rfl (eg3 _ _ _ _ _ _) (sub3 _ rfl (by omega))) S hQP ?_; refine tk (Pz b5 4) 12 34 rfl rfl rfl (fun W hK => ex_fa (p := (Pz b5 0)) rfl rfl (fa49_4 _ _)) S hQP ?_
        refine tk (Pz b5 6) 13 35 rfl rfl rfl (fun W hK => ex_fa (p := (Pz b5 4)) rfl rfl (fg45_1 _ _ _)) S hQP ?_; refine tk (.int .i64 e.q.d) 14 36 rfl rfl rfl (fun W hK => ex_load (p := (Pz b5 6)) rfl rfl (ld3 (at_cell (keepK hK d_k5 (nilN _)) rfl))) S hQP ?_; refine tk (.int .i64 (a1 - a)) 15 8 rfl rfl rfl (fun W hK => ex_asg rfl rfl) S hQP ?_; refine tk (.int .i64 e.q.d) 16 9 rfl rfl rfl (fun W hK => ex_asg rfl rfl) S hQP ?_; refine ah_done (by kernel_rfl) ?_; clear hQP; subst hQ; clear S d_k2 d_k5 d_hw; refine wp_seq ?_; obtain ⟨W13, hwd⟩ : ∃ wd, W12.drew = wd := ⟨_, rfl⟩
        refine wp_region_held (S := fun W => Kept Nil W13 W) (by kernel_rfl) ?_
        show wpAnyH _ _ _ _ _ _ _ _ W12.drew
        rw [hwd]; refine capQ fun Q hQ => ?_
        have hQP : ∀ c (a : Act) (d : Nat) v w, Q (.panic c) (a.put (some d) v) w → Q (.panic c) a w := by
          subst hQ; exact fun _ _ _ _ _ h => h
        have BD : Below W12.heap.size W12 W13 := by rw [← hwd]; exact below_drewB (Below.refl _ _)
        clear hwd; replace E := below_next E BD; replace k2 := keep BD k2; replace hw := own_keep hw BD; replace k5 := keep BD k5; clear BD
        have S : Kept Nil W13 W13 := Kept.refl _ _
        have d_k2 := k2; have d_k5 := k5; have d_hw := hw
        have hcA : W13.cell? ⟨bA, oA + i, none⟩ = some (.int .i64 a) := (E.cell (block_lt_of_cell hca)).trans hca
        refine tk (Pz b5 9) 0 37 rfl rfl rfl (fun W hK => ex_fa (p := (Pz b5 0)) rfl rfl (fa49_5 _ _)) S hQP ?_; refine tk (.agg (PL e.p)) 1 38 rfl rfl rfl (fun W hK => ex_load (p := (Pz b5 9)) rfl rfl (ldEP (keepK hK d_k5 (nilN _)))) S hQP ?_; refine tk (Pz b1 1) 2 39 rfl rfl rfl (fun W hK => ex_fa (p := (Pz b1 0)) rfl rfl (fa36_1 _ _)) S hQP ?_; refine tk (.slice (some ⟨bA, oA, none⟩) n cA) 3 40 rfl rfl rfl (fun W hK => ex_load (p := (Pz b1 1)) rfl rfl (ld30 (at_cell (keepK hK d_k2 (nilN _)) rfl))) S hQP ?_
        refine tk (.int .i64 (i : Nat)) 4 41 rfl rfl rfl (fun W hK => ex_mv rfl rfl) S hQP ?_; refine tk (.pointer (some ⟨bA, (oA + i), none⟩)) 5 42 rfl rfl rfl (fun W hK => ix30 (k := i) rfl rfl rfl (rfl) (hlt)) S hQP ?_; refine tk (.int .i64 a) 6 43 rfl rfl rfl (fun W hK => ex_load rfl rfl (ld3 (cell_kept hK hcA (nilN _)))) S hQP ?_; refine tk (Pz b5 3) 7 44 rfl rfl rfl (fun W hK => ex_fa (p := (Pz b5 0)) rfl rfl (fa49_3 _ _)) S hQP ?_; refine tk (.int .i64 e.cap) 8 45 rfl rfl rfl (fun W hK => ex_load (p := (Pz b5 3)) rfl rfl (ld3 (at_cell (keepK hK d_k5 (nilN _)) rfl))) S hQP ?_
        refine tk (.int .i64 t) 9 46 rfl rfl rfl (fun W hK => ex_mv rfl rfl) S hQP ?_; refine ah_or1 (i := 10) (by kernel_rfl) ?_; refine nx_call (some 47) rfl rfl rfl (schance_any (p := e.p) (a := a) (c := e.cap) (t := t) W13 heb.cap t1 t2 heb.g1 heb.g2 heb.h1 heb.h2) (ex_call (f := 17) (vs := [(.agg (PL e.p)), (.int .i64 a), (.int .i64 e.cap), (.int .i64 t)]) rfl (cf17 _) rfl) ?_; rintro e W14 ⟨rfl, B⟩; refine ⟨_, rfl, S.next B, ?_⟩; simp only [zp]; replace E := below_next E B; replace k2 := keep B k2; replace hw := own_keep hw B; replace k5 := keep B k5; replace S := S.next B
        refine tk (.float .f64 (chN e.p a e.cap t)) 11 10 rfl rfl rfl (fun W hK => ex_asg rfl rfl) S hQP ?_; refine ah_done (by kernel_rfl) ?_; clear hQP; subst hQ; clear S d_k2 d_k5 d_hw; refine wl_in (wl_cap fun Q hQ => ?_); refine vm u5 48 rfl rfl rfl rfl ?_; refine vm (.int .i64 (a1 - a)) 49 rfl rfl rfl rfl ?_; refine vm (.int .i64 e.q.d) 50 rfl rfl rfl rfl ?_; refine vm (.float .f64 (chN e.p a e.cap t)) 51 rfl rfl rfl rfl ?_
        refine st_call (some 52) rfl rfl (scost_any (a1 - a) e.q.d (chN e.p a e.cap t) W14 (by have := chN_le e.p a e.cap t heb.cap; have := F1_lt; omega) (by omega) (by omega)) (ex_call (f := 16) (vs := [(.int .i64 (a1 - a)), (.int .i64 e.q.d), (.float .f64 (chN e.p a e.cap t))]) rfl (cf16 _) rfl) ?_; rintro e W15 ⟨rfl, B⟩; refine ⟨_, rfl, ?_⟩; simp only [zp]; replace E := below_next E B; replace k2 := keep B k2; replace hw := own_keep hw B; replace k5 := keep B k5
        refine st_new (fun b => .slice (some ⟨b, 0, none⟩) 1 1) (some 53) rfl rfl (ex_bsl1 (u := (.float .f64 (costN (a1 - a) e.q.d (chN e.p a e.cap t)))) rfl rfl (bslF (costN (a1 - a) e.q.d (chN e.p a e.cap t)) _)) ?_; intro b6 W16 k6 g6 B; simp only [zp]
        have ne_b6_b1 : b6 ≠ b1 := fun e => by have := lt_of k2; omega
        have ne_b6_b5 : b6 ≠ b5 := fun e => by have := lt_of k5; omega
        have ge_b6 := Nat.le_trans E.size g6; replace E := below_next E B; replace k2 := keep B k2; replace hw := own_keep hw B; replace k5 := keep B k5; clear B
        obtain ⟨g', cap', W17, hr2, hown2, hK2, hloc2⟩ := own_add (c := 1) (m := 1) (t := 50) hw (show W16.rangeAt b6 0 (#[(.float .f64 (costN (a1 - a) e.q.d (chN e.p a e.cap t)))] : Array Value).toList from at_range (o := 0) (n := 1) k6 (by show 0 + 1 ≤ 1; decide)) rfl (by intro u hu; have := List.mem_singleton.1 hu; subst this; rfl) Try.underlying50 Try.inf34b rfl (by decide) (by decide) (by omega) (by simp only [maxLen]; omega) E.size; replace k2 := keepK hK2 k2 (fun e => absurd e (own_ne hw k2 (by decide)))
        replace E : Below w.heap.size w W17 := E.trans (hK2.below E.size (fun k e => own_ge hw e)); refine sv (.slice (some ⟨g', 0, none⟩) (i + 1) cap') 54 rfl rfl (ex_app rfl rfl rfl hr2) ?_; simp only [zp]; refine vg (.slice (some ⟨g', 0, none⟩) (i + 1) cap') 5 rfl rfl rfl rfl ?_; refine st_end ?_; subst hQ; refine wl_in (wl_cap fun Q hQ => ?_); refine vv (.int .i64 ((i + 1 : Nat) : Int)) 55 rfl rfl (ex_bin rfl rfl rfl (eg3 _ _ _ _ _ _) (add3 _ (by omega) (by omega))) ?_; refine vm (.int .i64 ((i + 1 : Nat) : Int)) 15 rfl rfl rfl rfl ?_; refine st_end ?_; subst hQ; refine then_go ?_
        first | (go_big_round; refine ⟨?rel, ?measure⟩) | (refine ⟨?_, ?measure⟩; (repeat apply Exists.intro); refine ⟨?rel, rfl⟩)
        case rel =>
          refine ⟨i + 1, by omega, rfl, E, k2, ?_⟩
          have e1 : CS.take (i + 1) = CS.take i ++ [costN (a1 - a) e.q.d (chN e.p a e.cap t)] := by
            rw [List.take_add_one, hcs]
            rfl
          rw [e1]
          unfold Fl at hown2 ⊢
          rw [List.map_append]; exact hown2
        case measure => simp [intOf]; omega
    · have hin : i = n := by omega
      subst i; rw [List.take_of_length_le (by omega)] at hw; obtain ⟨ao5, c5, rfl, hc5, hf5⟩ := own_form hw; refine wq fun Q hQ => ?_; refine vv (.bool false) 16 rfl rfl (ex_bin (u := (.int .i64 (n : Nat))) (r := (.int .i64 (n : Nat))) rfl rfl rfl (eg3 _ _ _ _ _ _) (lss3 _ (decide_eq_false (by omega)))) ?_; refine st_end ?_; subst hQ; refine wp_seq ?_; refine wp_cond_false rfl ?_; refine wp_exit ?_; refine ex_then ?_; refine ex_then ?_; refine ex_blk ?_
      have hF : Fs wr ao5 n (fun j => CS.getD j 0) := by
        rcases hf5 with h0 | ⟨g5, cur, rfl, hb5, hh5, hr5⟩
        · exact .inl h0
        · refine .inr ⟨g5, 0, rfl, fun j hj => hr5 j _ ?_⟩
          unfold Fl
          have hj2 : j < CS.length := by omega
          simp [hj2, List.getD_eq_getElem?_getD]
      have hJ : jk (fun j => CS.getD j 0) n 0 0 = jn CS 0 := by rw [show n = CS.length by omega]; exact jk_list CS
      rw [← hJ]
      have hz9 : ∀ j, j < n → (fun j => CS.getD j 0) j < 18446744073709551616 := fun j hj => by
        obtain ⟨e, he⟩ : ∃ e, es[j]? = some e := ⟨es[j]'(by omega), List.getElem?_eq_getElem (by omega)⟩; obtain ⟨a, hai⟩ : ∃ a, am[j]? = some a := ⟨am[j]'(by omega), List.getElem?_eq_getElem (by omega)⟩; have heb := hb e (List.mem_of_getElem? he); have hdl := heb.delta; have hab := ha a (List.mem_of_getElem? hai); have hc := hCA j e a he hai
        show CS.getD j 0 < _
        rw [List.getD_eq_getElem?_getD, hc]
        have hx : chN e.p a e.cap t < 18446744073709551616 := by have := chN_le e.p a e.cap t heb.cap; have := F1_lt; omega
        cases j with
        | zero => exact Nat.lt_of_le_of_lt (costN_le _ _ _ hx (by show (0 : Int) ≤ _; omega) (by show (0 : Int) ≤ _; omega)) (by decide)
        | succ k =>
          obtain ⟨a1, ha1⟩ : ∃ a1, am[k]? = some a1 := ⟨am[k]'(by omega), List.getElem?_eq_getElem (by omega)⟩; have hab1 := ha a1 (List.mem_of_getElem? ha1); simp only [prv, ha1, Option.getD_some]; exact Nat.lt_of_le_of_lt (costN_le _ _ _ hx (by omega) (by omega)) (by decide)
      refine wq fun Q hQ => ?_; refine vm (.slice ao5 n c5) 56 rfl rfl rfl rfl ?_; refine st_call (some 57) rfl rfl (sjoin_any wr hF (by omega) hz9) (ex_call (f := 18) (vs := [(.slice ao5 n c5)]) rfl (cf18 _) rfl) ?_; rintro e W18 ⟨rfl, B⟩; refine ⟨_, rfl, ?_⟩; simp only [zp]; replace E := below_next E B; refine vg (.float .f64 (jk (fun j => CS.getD j 0) n 0 0)) 4 rfl rfl rfl rfl ?_; refine st_end ?_; subst hQ; refine wp_ret ?_
      repeat (first | refine ret_out ?_ | refine ret_blk ?_)
      exact bodyPost_ret (results_tmp Try.results77 _ _ _) rfl ⟨rfl, E⟩
end Go.Proofs.Ytgnkcmmpbohafaa
