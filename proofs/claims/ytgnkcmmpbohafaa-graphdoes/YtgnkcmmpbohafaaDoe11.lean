/- Some texts, in one. -/
import Derived.Test.YtgnkcmmpbohafaaDoe10
import Derived.Laws.CopyRow
import Derived.Lib.SliceRun
import Derived.Lib.Overlaps
/- A store into a row of one's own: an edge, an edge's past. -/
namespace Go.Proofs.Ytgnkcmmpbohafaa
open Go.RowKit
set_option linter.unusedVariables false
set_option linter.unusedSimpArgs false
set_option maxRecDepth 100000
theorem seg_take {α : Type} (A v : List α) (a N : Nat) (h1 : a + v.length ≤ N) (h2 : N ≤ A.length) : (A.take a ++ v ++ A.drop (a + v.length)).take N = (A.take N).take a ++ v ++ (A.take N).drop (a + v.length) := by
  have hl : (A.take a ++ v).length = a + v.length := by rw [List.length_append, List.length_take]; omega
  rw [List.take_append, List.take_of_length_le (by omega), hl, List.take_take, Nat.min_eq_left (by omega), List.drop_take]
/-- a store into a row of one's own -/
theorem own_seg {W : World} {base e t b n c o : Nat} {xs : List Value} {C : Array Value} (h : W.ownsRow base e 13 (.slice (some ⟨b, 0, none⟩) n c) n xs) (ho : o + C.size ≤ n * 13) (hi : (Try.prog.info? t).map (·.size) = some C.size) (h1 : C.all (·.oneCell') = true) :
    ∃ W', (Instr.storeAt t (.pointer (some ⟨b, o, none⟩)) (.agg C)).run Try.prog W = .ok () W' ∧ W'.ownsRow base e 13 (.slice (some ⟨b, 0, none⟩) n c) n (xs.take o ++ C.toList ++ xs.drop (o + C.size)) ∧ Kept (· = b) W W' := by
  rcases h.2 with ⟨q, _⟩ | ⟨g', cap', cur, q, hb, hh, a1, a2, a3, a4⟩
  · cases q
  cases q
  have hN : n * 13 ≤ cur.size := by rw [a3]; exact Nat.mul_le_mul_right 13 a1
  have hst := run_storeCells_at (P := Try.prog) b o e C.toList 0 cur W hh (by simp; omega) (fun v hv => (Array.all_eq_true_iff_forall_mem.1 h1) v (by simpa using hv)); simp only [Nat.add_zero] at hst; refine ⟨W.setRow b (cur.toList.take o ++ C.toList ++ cur.toList.drop (o + C.toList.length)).toArray, ?_, ⟨?_, .inr ⟨b, c, _, rfl, hb, setRow_heap W b cur _ _ _ hh, a1, a2, ?_, ?_⟩⟩, ⟨rfl, rfl, rfl, by simp, fun k _ hk => setRow_other W b k _ hk⟩⟩
  · cases hq : Try.prog.info? t with
    | none => simp [hq] at hi
    | some i =>
      have hs : C.size = i.size := by simp [hq] at hi; omega
      simp only [Instr.storeAt, Instr.sureAddr, Sem.run_bind, Sem.run_pure, Result.andThen_ok]
      simp [storeVar, sizeOf, typeInfo, hq, Value.cells, hs]
      simpa [hs] using hst
  · have := h.1
    simp [List.length_take, List.length_drop, this]
    omega
  · simp [List.length_take, List.length_drop]
    omega
  · have hs := seg_take cur.toList C.toList o (n * 13) (by simpa using ho) (by simpa using hN)
    rw [a4] at hs
    simpa using hs
theorem cE_set (L : List EV) (k : Nat) (e : EV) (hk : k < L.length) : cE (L.set k e) = (cE L).take (k * 13) ++ (EL e).toList ++ (cE L).drop (k * 13 + 13) := by
  rw [List.set_eq_take_append_cons_drop, if_pos hk, cE_app, cE_cons, cE_take L k (by omega), cE_drop L (k + 1) (by omega), Nat.add_mul, List.append_assoc]
/-- an edge is put in another's place -/
theorem own_put {W : World} {base b n c k : Nat} {L : List EV} {e : EV} (h : W.ownsRow base 49 13 (.slice (some ⟨b, 0, none⟩) n c) n (cE L)) (hn : n = L.length) (hk : k < n) :
    ∃ W', (Instr.storeAt 49 (.pointer (some ⟨b, (0 + k * 13), none⟩)) (.agg (EL e))).run Try.prog W = .ok () W' ∧ W'.ownsRow base 49 13 (.slice (some ⟨b, 0, none⟩) n c) n (cE (L.set k e)) ∧ Kept (· = b) W W' := by
  obtain ⟨W', h1, h2, h3⟩ := own_seg (t := 49) (o := 0 + k * 13) (C := EL e) h (by show 0 + k * 13 + 13 ≤ _; omega) inf49 (by kernel_rfl); refine ⟨W', h1, ?_, h3⟩; rw [cE_set L k e (by omega)]; rw [Nat.zero_add] at h2; exact h2
/-- what is known of an edge is put there -/
theorem own_pst {W : World} {base b n c k : Nat} {L : List EV} {e : EV} {p : PV} (h : W.ownsRow base 49 13 (.slice (some ⟨b, 0, none⟩) n c) n (cE L)) (hn : n = L.length) (hk : L[k]? = some e) :
    ∃ W', (Instr.storeAt 47 (.pointer (some ⟨b, (0 + k * 13) + 9, none⟩)) (.agg (PL p))).run Try.prog W = .ok () W' ∧ W'.ownsRow base 49 13 (.slice (some ⟨b, 0, none⟩) n c) n (cE (L.set k { e with p := p })) ∧ Kept (· = b) W W' := by
  have hkl : k < L.length := (List.getElem?_eq_some_iff.1 hk).1
  obtain ⟨W', h1, h2, h3⟩ := own_seg (t := 47) (o := 0 + k * 13 + 9) (C := PL p) h (by show 0 + k * 13 + 9 + 4 ≤ _; omega) inf47 (by kernel_rfl); refine ⟨W', h1, ?_, h3⟩
  have e1 : cE (L.set k { e with p := p }) = (cE L).take (0 + k * 13 + 9) ++ (PL p).toList ++ (cE L).drop (0 + k * 13 + 9 + (PL p).size) := by
    have hL : L = L.take k ++ e :: L.drop (k + 1) := by
      rw [List.getElem?_eq_getElem hkl] at hk
      cases hk
      rw [List.getElem_cons_drop, List.take_append_drop]
    have hc : cE L = cE (L.take k) ++ ((EL e).toList ++ cE (L.drop (k + 1))) := by
      conv => lhs; rw [hL]
      rw [cE_app, cE_cons]
    have hlen : (cE (L.take k)).length = k * 13 := by rw [cE_len, List.length_take, Nat.min_eq_left (by omega)]
    rw [List.set_eq_take_append_cons_drop, if_pos hkl, cE_app, cE_cons, hc, Nat.zero_add, List.take_append, List.drop_append, List.take_of_length_le (l := cE (L.take k)) (by omega), (show (cE (L.take k)).drop (k * 13 + 9 + (PL p).size) = [] from List.drop_eq_nil_of_le (by show _ ≤ k * 13 + 9 + 4; omega)), hlen]; rw [(show k * 13 + 9 - k * 13 = 9 by omega), (show k * 13 + 9 + (PL p).size - k * 13 = 13 from by show k * 13 + 9 + 4 - k * 13 = 13; omega)]
    simp [EL, PL]
  rw [e1]; exact h2
end Go.Proofs.Ytgnkcmmpbohafaa

/- An edge is put in the place of one that is there; what is learnt of one. -/
namespace Go.Proofs.Ytgnkcmmpbohafaa
open Go.RowKit
set_option linter.unusedVariables false
set_option linter.unusedSimpArgs false
set_option maxRecDepth 100000

theorem own_rng {W : World} {base b n c : Nat} {L : List EV} (h : W.ownsRow base 49 13 (.slice (some ⟨b, 0, none⟩) n c) n (cE L)) : W.rangeAt b 0 (cE L) := fun j u hu => by
  have := World.ownsRow.cells h (g := b) rfl j u hu
  rw [Addr.add_mid] at this; exact this
theorem rng_past {W : World} {b j : Nat} {L : List EV} {d : EV} (h : W.rangeAt b 0 (cE L)) (hd : L[j]? = some d) : W.rangeAt b (0 + j * 13 + 9) (PL d.p).toList := fun i v hv => by
  have he : (EL d).toList = [.int .i64 d.ch, .int .i64 d.fr, .int .i64 d.to, .int .i64 d.cap, .int .i64 d.q.b, .int .i64 d.q.r, .int .i64 d.q.d, .int .i64 d.q.g, .int .i64 d.q.f] ++ (PL d.p).toList := rfl
  have h1 := range_at h hd (9 + i) v (by rw [he, List.getElem?_append_right (by simp)]; simpa using hv); rw [Nat.add_assoc]; exact h1
end Go.Proofs.Ytgnkcmmpbohafaa

/- One edge is cut out of a row of one's own. -/
namespace Go.Proofs.Ytgnkcmmpbohafaa
open Go.RowKit
set_option linter.unusedVariables false
set_option linter.unusedSimpArgs false
set_option maxRecDepth 100000
section
variable {o : Oper} {a : Act} {W : World}
theorem ex_cut3 {x y z u : Operand} {b n c k : Nat} {l h t : Int} (ho : o.op = .slice 33 x (some y) (some z) (some u)) (hx : a.eval x = .slice (some ⟨b, 0, none⟩) n c) (hy : a.eval y = .int .i64 l) (hz : a.eval z = .int .i64 h) (hu : a.eval u = .int .i64 t) (hl : l = (k : Int)) (hh : h = ((k + 1 : Nat) : Int)) (ht : t = (n : Int)) (hk : k < n) (hn : n ≤ c) : (execOp a.eval o).run Try.prog W = .ok (.value (.slice (some ⟨b, k * 13, none⟩) 1 (n - k))) W := by
  subst hl hh ht
  have h1 : (k : Int) < (n : Int) := by omega
  have h2 : (n : Int) ≤ (c : Int) := by omega
  have h4 : 0 ≤ (k : Int) + 1 ∧ (k : Int) + 1 ≤ (n : Int) := by omega
  have h5 : ¬ ((k : Int) + 1 < 0) := by omega
  unfold execOp
  simp only [ho, Option.map_some, Option.map_none, hx, hy, hz, hu]
  go_simp
  omega
theorem ex_clr {x : Operand} {t : Nat} {u v : Value} {W' : World} (ho : o.op = .call { callee := .builtin .clear, args := #[x], argTypes := #[t] }) (hx : a.eval x = u) (hr : (Builtin.clear_ #[t] o.type #[u]).run Try.prog W = .ok v W') : (execOp a.eval o).run Try.prog W = .ok (.value v) W' := by
  unfold execOp
  simp [ho, resolve, invoke, builtin, hx, hr, Result.andThen]
theorem ex_cutlh {x y z : Operand} {b n c : Nat} {l h : Int} (ho : o.op = .slice 33 x (some y) (some z) none) (hx : a.eval x = .slice (some ⟨b, 0, none⟩) n c) (hy : a.eval y = .int .i64 l) (hz : a.eval z = .int .i64 h) (hl : l = (n : Int)) (hh : h = ((n + 1 : Nat) : Int)) (hn : n + 1 ≤ c) : (execOp a.eval o).run Try.prog W = .ok (.value (.slice (some ⟨b, n * 13, none⟩) 1 (c - n))) W := by
  subst hl hh
  have h2 : (n : Int) + 1 ≤ (c : Int) := by omega
  have h3 : ¬ c = n := by omega
  have h4 : 0 ≤ (n : Int) + 1 ∧ (n : Int) + 1 ≤ (c : Int) := by omega
  have h5 : ¬ ((n : Int) + 1 < 0) := by omega
  unfold execOp
  simp only [ho, Option.map_some, Option.map_none, hx, hy, hz]
  go_simp
end
section
variable {W : World} {base b n c k : Nat} {L : List EV}
/-- what lies behind one is laid where that one lay -/
theorem del_app (h : W.ownsRow base 49 13 (.slice (some ⟨b, 0, none⟩) n c) n (cE L)) (hn : n = L.length) (hk : k < n) :
    ∃ W', (Builtin.append_ #[33, 33] 33 #[.slice (some ⟨b, 0, none⟩) k c, .slice (some ⟨b, if c = k + 1 then 0 else 0 + (k + 1) * 13, none⟩) (n - (k + 1)) (c - (k + 1))]).run Try.prog W = .ok (.slice (some ⟨b, 0, none⟩) (n - 1) c) W' ∧ W'.ownsRow base 49 13 (.slice (some ⟨b, 0, none⟩) (n - 1) c) (n - 1) (cE (L.eraseIdx k)) ∧ Kept (· = b) W W' := by
  have hrg := own_rng h
  rcases h.2 with ⟨q, _⟩ | ⟨g', cap', cur, q, hb, hh, a1, a2, a3, a4⟩
  · cases q
  cases q
  obtain ⟨i0, hi, hz0, hz1, hz2⟩ := info_parts Try.inf49b
  have hN : n * 13 ≤ cur.size := by rw [a3]; exact Nat.mul_le_mul_right 13 a1
  have hdl : (cE (L.drop (k + 1))).length = (n - (k + 1)) * 13 := by rw [cE_len, List.length_drop, ← hn]
  have hr := run_append_room (P := Try.prog) W 33 33 49 i0 Try.underlying33 hi b k c cur hh ⟨b, if c = k + 1 then 0 else 0 + (k + 1) * 13, none⟩ (n - (k + 1)) (c - (k + 1)) (cE (L.drop (k + 1))) (by rw [hz1]; exact hdl)
    (fun j u hu => by
      have hj : j < (cE (L.drop (k + 1))).length := (List.getElem?_eq_some_iff.1 hu).1
      rw [hdl] at hj; rw [if_neg (by omega), Addr.add_mid]
      exact range_drop hrg (k := k + 1) (by omega) j u hu) (cE_one1 _) (by omega) (by rw [hz1, hdl]; omega)
  rw [hz1, hdl, (show k + (n - (k + 1)) = n - 1 by omega)] at hr
  have hlk : (cur.toList.take (k * 13)).length = k * 13 := by rw [List.length_take, Array.length_toList]; omega
  have hE : cE (L.eraseIdx k) = cE (L.take k) ++ cE (L.drop (k + 1)) := by rw [List.eraseIdx_eq_take_drop_succ, cE_app]
  have hT : cur.toList.take (k * 13) = cE (L.take k) := by
    rw [cE_take L k (by omega), ← a4, List.take_take, Nat.min_eq_left (by omega)]
  refine ⟨_, hr, ⟨?_, .inr ⟨b, c, _, rfl, hb, setRow_heap W b cur _ _ _ hh, by omega, a2, ?_, ?_⟩⟩, ⟨rfl, rfl, rfl, by simp, fun j _ hj => setRow_other W b j _ hj⟩⟩
  · rw [cE_len, List.length_eraseIdx, if_pos (by omega), ← hn]
  · simp only [List.size_toArray, List.length_append, hlk, hdl, List.length_drop, Array.length_toList]
    omega
  · have hl2 : (cur.toList.take (k * 13) ++ cE (L.drop (k + 1))).length = (n - 1) * 13 := by rw [List.length_append, hlk, hdl]; omega
    rw [hE, ← hT]
    show ((cur.toList.take (k * 13) ++ cE (L.drop (k + 1))) ++ _).take ((n - 1) * 13) = _
    rw [← hl2]; exact List.take_left
/-- what lies behind the last one is wiped -/
theorem del_clr {xs : List Value} {cc ty : Nat} (h : W.ownsRow base 49 13 (.slice (some ⟨b, 0, none⟩) n c) n xs) (hn : n + 1 ≤ c) :
    ∃ W', (Builtin.clear_ #[33] ty #[.slice (some ⟨b, n * 13, none⟩) 1 cc]).run Try.prog W = .ok (.tuple #[]) W' ∧ W'.ownsRow base 49 13 (.slice (some ⟨b, 0, none⟩) n c) n xs ∧ Kept (· = b) W W' := by
  rcases h.2 with ⟨q, _⟩ | ⟨g', cap', cur, q, hb, hh, a1, a2, a3, a4⟩
  · cases q
  cases q
  obtain ⟨i0, hi, hz0, hz1, hz2⟩ := info_parts Try.inf49b
  have hN : (n + 1) * 13 ≤ cur.size := by rw [a3]; exact Nat.mul_le_mul_right 13 hn
  have hst := run_storeCells_at (P := Try.prog) b (n * 13) 49 (List.replicate 13 (Value.int .i64 0)) 0 cur W hh (by rw [List.length_replicate]; omega) (fun v hv => by rw [List.eq_of_mem_replicate hv]; rfl); simp only [Nat.add_zero] at hst; refine ⟨_, ?_, ⟨h.1, .inr ⟨b, c, _, rfl, hb, setRow_heap W b cur (cur.toList.take (n * 13) ++ List.replicate 13 (Value.int .i64 0) ++ cur.toList.drop (n * 13 + (List.replicate 13 (Value.int .i64 0)).length)).toArray _ _ hh, a1, a2, ?_, ?_⟩⟩, ⟨rfl, rfl, rfl, by simp, fun j _ hj => setRow_other W b j _ hj⟩⟩
  · have hzc : (Builtin.zeroCells (Value.agg #[.int .i64 0, .int .i64 0, .int .i64 0, .int .i64 0, .int .i64 0, .int .i64 0, .int .i64 0, .int .i64 0, .int .i64 0, .int .i64 0, .int .i64 0, .int .i64 0, .int .i64 0]).cells 1).toList = List.replicate 13 (Value.int .i64 0) := by kernel_rfl
    generalize List.replicate 13 (Value.int .i64 0) = Z at hzc hst ⊢
    simp [Builtin.clear_, run_underlying Try.underlying33, zeroValue, typeInfo, hi, hz0, hzc, hst]
  · simp only [List.size_toArray, List.length_append, List.length_take, List.length_drop, Array.length_toList, List.length_replicate]
    omega
  · have hl2 : (cur.toList.take (n * 13)).length = n * 13 := by rw [List.length_take, Array.length_toList]; omega
    rw [← a4]
    show (cur.toList.take (n * 13) ++ List.replicate 13 (Value.int .i64 0) ++ _).take (n * 13) = _
    rw [List.append_assoc, List.take_left' hl2]
end
end Go.Proofs.Ytgnkcmmpbohafaa

/- One edge is taken away. -/
namespace Go.Proofs.Ytgnkcmmpbohafaa
open Go.RowKit
set_option linter.unusedVariables false
set_option linter.unusedSimpArgs false
set_option maxRecDepth 100000

set_option maxHeartbeats 8000000 in
theorem del_any {base b n c k : Nat} {L : List EV} (w : World) (hO : w.ownsRow base 49 13 (.slice (some ⟨b, 0, none⟩) n c) n (cE L)) (hn : n = L.length) (hn2 : n ≤ 64) (hk : k < n) : Calls Try.prog 65 #[.slice (some ⟨b, 0, none⟩) n c, .int .i64 (k : Nat), .int .i64 ((k + 1 : Nat) : Int)] w fun q w' => q = .returned (.slice (some ⟨b, 0, none⟩) (n - 1) c) ∧ w'.ownsRow base 49 13 (.slice (some ⟨b, 0, none⟩) (n - 1) c) (n - 1) (cE (L.eraseIdx k)) ∧ Kept (· = b) w w' := by
  have hnc : n ≤ c := by
    obtain ⟨ao, cc, q, hc, _⟩ := own_form hO
    cases q
    exact hc
  have k1 : (k : Int) < n := by omega
  have E : Kept (· = b) w w := Kept.refl _ _
  go_enter Try.func65, Try.ntmps65; refine wq fun Q hQ => ?_; refine vg (.slice none 0 0) 6 rfl rfl rfl rfl ?_; refine st_end ?_; subst hQ; refine wq fun Q hQ => ?_; refine vm (.slice (some ⟨b, 0, none⟩) n c) 8 rfl rfl rfl rfl ?_; refine vm (.int .i64 (k : Nat)) 9 rfl rfl rfl rfl ?_; refine vm (.int .i64 ((k + 1 : Nat) : Int)) 10 rfl rfl rfl rfl ?_; refine vm (.slice (some ⟨b, 0, none⟩) n c) 11 rfl rfl rfl rfl ?_; refine vv (.int .i64 (n : Nat)) 12 rfl rfl (ex_len rfl rfl (len33 _ _ _ _ _)) ?_
  refine vv (.slice (some ⟨b, k * 13, none⟩) 1 (n - k)) 13 rfl rfl (ex_cut3 (k := k) rfl rfl rfl rfl rfl rfl rfl rfl hk hnc) ?_; refine st_end ?_; subst hQ; refine wp_seq ?_; refine wq fun Q hQ => ?_; refine vm (.int .i64 (k : Nat)) 14 rfl rfl rfl rfl ?_; refine vm (.int .i64 ((k + 1 : Nat) : Int)) 15 rfl rfl rfl rfl ?_; refine vv (.bool false) 16 rfl rfl (ex_bin (u := (.int .i64 (k : Nat))) (r := (.int .i64 ((k + 1 : Nat) : Int))) rfl rfl rfl (eg3 _ _ _ _ _ _) (eql3 _ (decide_eq_false (by omega)))) ?_; refine st_end ?_; subst hQ; refine wp_cond_false rfl ?_; refine wp_skip ?_
  refine wq fun Q hQ => ?_; refine vm (.slice (some ⟨b, 0, none⟩) n c) 18 rfl rfl rfl rfl ?_; refine vv (.int .i64 (n : Nat)) 19 rfl rfl (ex_len rfl rfl (len33 _ _ _ _ _)) ?_; refine vg (.int .i64 (n : Nat)) 7 rfl rfl rfl rfl ?_; refine st_end ?_; subst hQ; refine wp_seq ?_; obtain ⟨W1, hwd⟩ : ∃ wd, w.drew = wd := ⟨_, rfl⟩
  refine wp_region_held (S := fun W => Kept (· = b) W1 W) (by kernel_rfl) ?_
  show wpAnyH _ _ _ _ _ _ _ _ w.drew
  rw [hwd]; refine capQ fun Q hQ => ?_
  have hQP : ∀ c (a : Act) (d : Nat) v w, Q (.panic c) (a.put (some d) v) w → Q (.panic c) a w := by
    subst hQ; exact fun _ _ _ _ _ h => h
  have BD : Below w.heap.size w W1 := by rw [← hwd]; exact below_drewB (Below.refl _ _)
  clear hwd; replace E := E.next BD; replace hO := own_keep hO BD; clear BD
  have S : Kept (· = b) W1 W1 := Kept.refl _ _
  have d_hO := hO; refine tk (.slice (some ⟨b, 0, none⟩) n c) 0 20 rfl rfl rfl (fun W hK => ex_mv rfl rfl) S hQP ?_; refine tk (.int .i64 (k : Nat)) 1 21 rfl rfl rfl (fun W hK => ex_mv rfl rfl) S hQP ?_; refine tk (.slice (some ⟨b, 0, none⟩) k c) 2 22 rfl rfl rfl (fun W hK => ex_cuth (k := k) rfl rfl rfl rfl (by omega)) S hQP ?_; refine tk (.slice (some ⟨b, 0, none⟩) n c) 3 23 rfl rfl rfl (fun W hK => ex_mv rfl rfl) S hQP ?_; refine tk (.int .i64 ((k + 1 : Nat) : Int)) 4 24 rfl rfl rfl (fun W hK => ex_mv rfl rfl) S hQP ?_
  refine tk (.slice (some ⟨b, if c = k + 1 then 0 else 0 + (k + 1) * 13, none⟩) (n - (k + 1)) (c - (k + 1))) 5 25 rfl rfl rfl (fun W hK => ex_cutl (k := k + 1) rfl rfl rfl rfl (by omega) hnc) S hQP ?_; refine ah_or1 (i := 6) (by kernel_rfl) ?_; obtain ⟨W2, hr2, hO2, hK2⟩ := del_app hO hn hk; refine nx_to (v := (.slice (some ⟨b, 0, none⟩) (n - 1) c)) (some 26) rfl rfl rfl (ex_app rfl rfl rfl hr2) (S.putX hK2) ?_; simp only [zp]; replace E := E.putX hK2; replace S := S.putX hK2; clear hr2 hK2; refine tk (.slice (some ⟨b, 0, none⟩) (n - 1) c) 7 0 rfl rfl rfl (fun W hK => ex_asg rfl rfl) S hQP ?_
  refine ah_done (by kernel_rfl) ?_; clear hQP; subst hQ; clear S  d_hO; refine wq fun Q hQ => ?_; refine vm (.slice (some ⟨b, 0, none⟩) (n - 1) c) 27 rfl rfl rfl rfl ?_; refine vm (.slice (some ⟨b, 0, none⟩) (n - 1) c) 28 rfl rfl rfl rfl ?_; refine vv (.int .i64 ((n - 1) : Nat)) 29 rfl rfl (ex_len rfl rfl (len33 _ _ _ _ _)) ?_; refine vm (.int .i64 (n : Nat)) 30 rfl rfl rfl rfl ?_; refine vv (.slice (some ⟨b, (n - 1) * 13, none⟩) 1 (c - (n - 1))) 31 rfl rfl (ex_cutlh rfl rfl rfl rfl rfl (by omega) (by omega)) ?_
  obtain ⟨W3, hr3, hO3, hK3⟩ := del_clr (cc := c - (n - 1)) (ty := 0) hO2 (by omega); refine st_to (v := .tuple #[]) none rfl rfl (ex_clr rfl rfl hr3) ?_; simp only [zp]; replace E := E.putX hK3; clear hr3 hK3; refine st_end ?_; subst hQ; refine wq fun Q hQ => ?_; refine vm (.slice (some ⟨b, 0, none⟩) (n - 1) c) 32 rfl rfl rfl rfl ?_; refine vg (.slice (some ⟨b, 0, none⟩) (n - 1) c) 6 rfl rfl rfl rfl ?_; refine st_end ?_; subst hQ; refine wp_ret ?_
  repeat (first | refine ret_out ?_ | refine ret_blk ?_)
  exact bodyPost_ret (results_tmp Try.results65 _ _ _) rfl ⟨rfl, hO3, E⟩
end Go.Proofs.Ytgnkcmmpbohafaa

/- Copies into rows of one's own; zeros behind a part of one; what does not overlap. -/
namespace Go.Proofs.Ytgnkcmmpbohafaa
open Go.RowKit
set_option linter.unusedVariables false
set_option linter.unusedSimpArgs false
set_option maxRecDepth 100000
section
variable {o : Oper} {a : Act} {W W' : World}
theorem ex_cpy {x y : Operand} {t : Nat} {u r v : Value} (ho : o.op = .call { callee := .builtin .copy, args := #[x, y], argTypes := #[t, t] }) (hx : a.eval x = u) (hy : a.eval y = r) (hr : (Builtin.copy_ #[t, t] o.type #[u, r]).run Try.prog W = .ok v W') : (execOp a.eval o).run Try.prog W = .ok (.value v) W' := by
  unfold execOp
  simp [ho, resolve, invoke, builtin, hx, hy, hr, Result.andThen]
theorem ex_apz {x y : Operand} {t t' : Nat} {u r v : Value} (ho : o.op = .call { callee := .builtin .append, args := #[x, y], argTypes := #[t, t'] }) (hx : a.eval x = u) (hy : a.eval y = r) (hr : (Builtin.append_ #[t, t'] o.type #[u, r]).run Try.prog W = .ok v W') : (execOp a.eval o).run Try.prog W = .ok (.value v) W' := by
  unfold execOp
  simp [ho, resolve, invoke, builtin, hx, hy, hr, Result.andThen]
theorem ex_cap {x : Operand} {ad : Option Addr} {n c : Nat} (ho : o.op = .call { callee := .builtin .cap, args := #[x], argTypes := #[33] }) (hx : a.eval x = .slice ad n c) : (execOp a.eval o).run Try.prog W = .ok (.value (.int .i64 c)) W := by
  unfold execOp
  simp only [ho, resolve, invoke, builtin, Sem.run_bind, Sem.run_pure, Result.andThen_ok, List.map_toArray, List.map_cons, List.map_nil, hx]
  go_simp
theorem ex_cutn {x y : Operand} {b p n c k : Nat} {l : Int} (ho : o.op = .slice 33 x (some y) none none) (hx : a.eval x = .slice (some ⟨b, p, none⟩) n c) (hy : a.eval y = .int .i64 l) (hl : l = (k : Int)) (hk : k ≤ n) (hn : n ≤ c) (hc : k < c) : (execOp a.eval o).run Try.prog W = .ok (.value (.slice (some ⟨b, p + k * 13, none⟩) (n - k) (c - k))) W := by
  have h := ex_cutl (W := W) ho hx hy hl hk hn; rw [if_neg (by omega)] at h; exact h
theorem ex_ext2 {f : Nat} {x y : Operand} {ts : Array TypeId} {u v r : Value} (ho : o.op = .call { callee := .value (.func f), args := #[x, y], argTypes := ts }) (hx : a.eval x = u) (hy : a.eval y = v) (hf : (callFunc f #[u, v]).run Try.prog W = .ok (.value r) W) : (execOp a.eval o).run Try.prog W = .ok (.value r) W := by
  have hm : #[x, y].map a.eval = #[u, v] := by rw [← hx, ← hy]; simp
  unfold execOp
  simp only [ho, resolve, Sem.run_bind]
  have he : a.eval (.func f) = .func (.func f) #[] #[] := rfl
  rw [he, hm]
  simp [Deferred.ofValue, invoke, hf]
end
theorem sizeE (W : World) : (Go.sizeOf 49).run Try.prog W = .ok 13 W := by
  obtain ⟨i0, hi, hz0, hz1, hz2⟩ := info_parts Try.inf49b
  simp [sizeOf, typeInfo, hi, hz1]
theorem ovl_no {W : World} {xb b o la ca lb cb : Nat} {X C : Array Value} (kx : W.heap[xb]? = some (.cells X 49)) (kb : W.heap[b]? = some (.cells C 49)) (hne : xb ≠ b) (hC : C.size ≠ 0) : (callFunc 88 #[.slice (some ⟨xb, 0, none⟩) la ca, .slice (some ⟨b, o, none⟩) lb cb]).run Try.prog W = .ok (.value (.bool false)) W := by
  rw [run_callFunc_extern (fn := Try.f88) (e := Extern.SlicesOverlaps.overlaps #[33, 33] #[4]) Try.func88 (by kernel_rfl) (by kernel_rfl) (by kernel_rfl) (by kernel_rfl),
    Lib.run_overlaps_apart W 33 4 49 Try.underlying33 13 sizeE ⟨xb, 0, none⟩ ⟨b, o, none⟩ la ca lb cb hne 49 49 X.size C.size (by simp [World.shape?, kx]) (by simp [World.shape?, kb]) hC (unfrozen kx) (unfrozen kx)]
  rfl
/-- an edge is put ahead of the i-th -/
def insE (L : List EV) (i : Nat) (e : EV) : List EV := L.take i ++ e :: L.drop i
theorem insE_len {L : List EV} {i : Nat} {e : EV} (h : i ≤ L.length) : (insE L i e).length = L.length + 1 := by
  simp only [insE, List.length_append, List.length_take, List.length_cons, List.length_drop]
  omega
theorem cE_ins {L : List EV} {i : Nat} {e : EV} : cE (insE L i e) = cE (L.take i) ++ ((EL e).toList ++ cE (L.drop i)) := by
  rw [insE, cE_app, cE_cons]
theorem insE_end (L : List EV) (e : EV) : insE L L.length e = L ++ [e] := by simp [insE]
section
variable {W : World} {base b n c : Nat} {xs : List Value}
/-- a copy into a row of one's own -/
theorem own_copy {o dl dc sl sc ty : Nat} {ad : Addr} {cs : List Value} (h : W.ownsRow base 49 13 (.slice (some ⟨b, 0, none⟩) n c) n xs) (ho : o + cs.length ≤ n * 13) (hn : cs.length = Nat.min sl dl * 13) (hs : ∀ j v, cs[j]? = some v → W.cell? (ad.add j) = some v) (h1 : ∀ u ∈ cs, u.oneCell' = true) :
    ∃ W', (Builtin.copy_ #[33, 33] ty #[.slice (some ⟨b, o, none⟩) dl dc, .slice (some ad) sl sc]).run Try.prog W = .ok (.int .i64 (Nat.min sl dl : Nat)) W' ∧ W'.ownsRow base 49 13 (.slice (some ⟨b, 0, none⟩) n c) n (xs.take o ++ cs ++ xs.drop (o + cs.length)) ∧ Kept (· = b) W W' := by
  rcases h.2 with ⟨q, _⟩ | ⟨g', cap', cur, q, hb, hh, a1, a2, a3, a4⟩
  · cases q
  cases q
  obtain ⟨i0, hi, hz0, hz1, hz2⟩ := info_parts Try.inf49b
  have hN : n * 13 ≤ cur.size := by rw [a3]; exact Nat.mul_le_mul_right 13 a1
  have hl := run_loadCells_list (P := Try.prog) W ad cs hs; have hst := run_storeCells_at (P := Try.prog) b o 49 cs 0 cur W hh (by omega) h1; simp only [Nat.add_zero] at hst; refine ⟨W.setRow b (cur.toList.take o ++ cs ++ cur.toList.drop (o + cs.length)).toArray, ?_, ⟨?_, .inr ⟨b, c, _, rfl, hb, setRow_heap W b cur _ _ _ hh, a1, a2, ?_, ?_⟩⟩, ⟨rfl, rfl, rfl, by simp, fun k _ hk => setRow_other W b k _ hk⟩⟩
  · simp [Builtin.copy_, run_underlying Try.underlying33, Builtin.lenOf, Builtin.firstCells, sizeOf, typeInfo, hi, hz1, ← hn, hl, hst]
    rfl
  · have := h.1
    simp [List.length_take, List.length_drop, this]
    omega
  · simp [List.length_take, List.length_drop]
    omega
  · have hs := seg_take cur.toList cs o (n * 13) ho (by simpa using hN)
    rw [a4] at hs
    simpa using hs
/-- a row that has room has one place more -/
theorem own_ext (h : W.ownsRow base 49 13 (.slice (some ⟨b, 0, none⟩) n c) n xs) (hn : n + 1 ≤ c) : ∃ sp, sp.length = 13 ∧ W.ownsRow base 49 13 (.slice (some ⟨b, 0, none⟩) (n + 1) c) (n + 1) (xs ++ sp) := by
  rcases h.2 with ⟨q, _⟩ | ⟨g', cap', cur, q, hb, hh, a1, a2, a3, a4⟩
  · cases q
  cases q
  have hN : (n + 1) * 13 ≤ cur.size := by rw [a3]; exact Nat.mul_le_mul_right 13 hn
  have hl : ((cur.toList.drop (n * 13)).take 13).length = 13 := by rw [List.length_take, List.length_drop, Array.length_toList]; omega
  refine ⟨(cur.toList.drop (n * 13)).take 13, hl, ⟨?_, .inr ⟨b, c, cur, rfl, hb, hh, hn, a2, a3, ?_⟩⟩⟩
  · rw [List.length_append, h.1, hl]
    omega
  · rw [← a4, Nat.add_mul, Nat.one_mul, List.take_add]
/-- the front part of a row is one's own as well -/
theorem own_front {L : List EV} {i : Nat} (h : W.ownsRow base 49 13 (.slice (some ⟨b, 0, none⟩) n c) n (cE L)) (hn : n = L.length) (hi : i ≤ n) : W.ownsRow base 49 13 (.slice (some ⟨b, 0, none⟩) i c) i (cE (L.take i)) := by
  rcases h.2 with ⟨q, _⟩ | ⟨g', cap', cur, q, hb, hh, a1, a2, a3, a4⟩
  · cases q
  cases q
  refine ⟨?_, .inr ⟨b, c, cur, rfl, hb, hh, by omega, a2, a3, ?_⟩⟩
  · rw [cE_len, List.length_take, Nat.min_eq_left (by omega)]
  · rw [cE_take L i (by omega), ← a4, List.take_take, Nat.min_eq_left (by omega)]
/-- zeros behind a part of a row that has no room for them -/
theorem own_zero {L : List EV} {i m ty : Nat} (h : W.ownsRow base 49 13 (.slice (some ⟨b, 0, none⟩) n c) n (cE L)) (hn : n = L.length) (hi : i ≤ n) (hm : c < i + m) (hs : i + m ≤ 200) (hb : base ≤ W.heap.size) :
    ∃ g' c' Z W', (Builtin.append_ #[33, 3] ty #[.slice (some ⟨b, 0, none⟩) i c, .int .i64 (m : Nat)]).run Try.prog W = .ok (.slice (some ⟨g', 0, none⟩) (i + m) c') W' ∧ Z.length = m * 13 ∧ W'.ownsRow base 49 13 (.slice (some ⟨g', 0, none⟩) (i + m) c') (i + m) (cE (L.take i) ++ Z) ∧ Below W.heap.size W W' ∧ W.heap.size ≤ g' := by
  have hf := own_front h hn hi; obtain ⟨i0, hi0, hz0, hz1, hz2⟩ := info_parts Try.inf49b
  have hol : ∀ j u, (cE (L.take i))[j]? = some u → W.cell? ((⟨b, 0, none⟩ : Addr).add j) = some u := hf.cells (g := b) rfl
  have hlo : (cE (L.take i)).length = i * 13 := hf.1
  have hn1 : ¬ (i + m ≤ c) := by omega
  have h63 : ¬ (9223372036854775807 < ((i : Int) + (m : Int))) := by omega
  have h48 : ¬ (281474976710656 < Builtin.nextslicecap (i + m) c * 104) := by
    have := growslice_fits (bytes := 104) hm (by omega)
    omega
  have hfo := run_firstCells_some (P := Try.prog) W.drew 13 i ⟨b, 0, none⟩ i c (cE (L.take i)) hlo (by simpa using hol)
  have hw : IntKind.i64.wrap (m : Int) = (m : Int) := by rw [IntKind.wrap_i64]; omega
  have hw0 : ¬ ((m : Int) < 0) := by omega
  have hw1 : ¬ ((281474976710656 : Int) < (m : Int) * 104) := by omega
  have hm0 : ¬ (m * 13 = 0) := by
    have := (own_form hf)
    obtain ⟨ao, cc, q, hc, _⟩ := this
    cases q
    omega
  have hge := grownCap_ge W (i + m) c 49
  have hcm : grownCap W (i + m) c 49 ≤ maxLen := grownCap_le_maxLen W (i + m) c 49 (by simp only [maxLen]; omega)
  refine ⟨W.heap.size, grownCap W (i + m) c 49, (Builtin.zeroCells (Value.agg #[.int .i64 0, .int .i64 0, .int .i64 0, .int .i64 0, .int .i64 0, .int .i64 0, .int .i64 0, .int .i64 0, .int .i64 0, .int .i64 0, .int .i64 0, .int .i64 0, .int .i64 0]).cells m).toList, W.drew.alloc (.cells ((cE (L.take i)).toArray ++ (Builtin.zeroCells (Value.agg #[.int .i64 0, .int .i64 0, .int .i64 0, .int .i64 0, .int .i64 0, .int .i64 0, .int .i64 0, .int .i64 0, .int .i64 0, .int .i64 0, .int .i64 0, .int .i64 0, .int .i64 0]).cells m) ++ Builtin.zeroCells (Value.agg #[.int .i64 0, .int .i64 0, .int .i64 0, .int .i64 0, .int .i64 0, .int .i64 0, .int .i64 0, .int .i64 0, .int .i64 0, .int .i64 0, .int .i64 0, .int .i64 0, .int .i64 0]).cells (grownCap W (i + m) c 49 - (i + m))) 49), ?_, ?_, ⟨?_, .inr ⟨W.heap.size, _, _, rfl, hb, heap_alloc_new W.drew _, hge, hcm, ?_, ?_⟩⟩, ⟨rfl, rfl, rfl, by simp, fun k hk => heap_alloc_old W.drew _ hk⟩, Nat.le_refl _⟩
  · generalize hzc : (Value.agg #[.int .i64 0, .int .i64 0, .int .i64 0, .int .i64 0, .int .i64 0, .int .i64 0, .int .i64 0, .int .i64 0, .int .i64 0, .int .i64 0, .int .i64 0, .int .i64 0, .int .i64 0]) = Zv at hz0 ⊢
    simp [Builtin.append_, run_underlying Try.underlying33, run_underlying Try.underlying3, sizeOf, typeInfo, zeroValue, hi0, hz0, hz1, hz2, asInt, asIntOf, hw, hw0, hw1, hm0, hn1, h63, h48, Builtin.lenOf, Question.forced, hfo, newRow, grownCap]
  · rw [Array.length_toList, size_zeroCells]
    rfl
  · rw [List.length_append, hlo, Array.length_toList, size_zeroCells, Nat.add_mul]
    rfl
  · simp only [Array.size_append, List.size_toArray, size_zeroCells, hlo]
    show i * 13 + m * 13 + (grownCap W (i + m) c 49 - (i + m)) * 13 = _
    omega
  · have hl2 : (cE (L.take i) ++ (Builtin.zeroCells (Value.agg #[.int .i64 0, .int .i64 0, .int .i64 0, .int .i64 0, .int .i64 0, .int .i64 0, .int .i64 0, .int .i64 0, .int .i64 0, .int .i64 0, .int .i64 0, .int .i64 0, .int .i64 0]).cells m).toList).length = (i + m) * 13 := by
      rw [List.length_append, hlo, Array.length_toList, size_zeroCells, Nat.add_mul]
      rfl
    simp only [Array.toList_append]; rw [← hl2]; exact List.take_left
end
end Go.Proofs.Ytgnkcmmpbohafaa

/- One edge is put among others in a row of one's own. -/
namespace Go.Proofs.Ytgnkcmmpbohafaa
open Go.RowKit
set_option linter.unusedVariables false
set_option linter.unusedSimpArgs false
set_option maxRecDepth 100000

theorem ins_min {n i : Nat} (hi : i < n) : Nat.min (n + 1 - i) (n + 1 - (i + 1)) = n - i := by simp only [Nat.min_def]; split <;> omega
theorem ins_one {n i : Nat} (hi : i < n) : Nat.min 1 (n + 1 - i) = 1 := by simp only [Nat.min_def]; split <;> omega
theorem ins_one2 {n i : Nat} (hi : i < n) : Nat.min 1 (i + (n + 1 - i) - i) = 1 := by simp only [Nat.min_def]; split <;> omega
theorem ins_min2 {n i : Nat} (hi : i < n) : Nat.min (n - i) (i + (n + 1 - i) - (i + 1)) = n - i := by simp only [Nat.min_def]; split <;> omega
theorem ins_sum {n i : Nat} (hi : i < n) : i + (n + 1 - i) = n + 1 := by omega
theorem ins_sub {n i : Nat} (W : World) (hi : i < n) (hn : n ≤ 63) : (binOp .sub 3 (.int .i64 ((n + 1 : Nat) : Int)) (.int .i64 (i : Nat))).run Try.prog W = .ok (.int .i64 ((n + 1 - i : Nat) : Int)) W := by
  have h : ((n + 1 - i : Nat) : Int) = ((n + 1 : Nat) : Int) - (i : Nat) := by omega
  rw [h]; exact sub3 _ (by omega) (by omega)
theorem own_cur {W : World} {base g n c : Nat} {xs : List Value} {cur : Array Value} (h : W.ownsRow base 49 13 (.slice (some ⟨g, 0, none⟩) n c) n xs) (k : W.heap[g]? = some (.cells cur 49)) (hn : 0 < n) : cur.size ≠ 0 := by
  rcases h.2 with ⟨q, _⟩ | ⟨g', cap', cur', q, hb, hh, a1, a2, a3, a4⟩
  · cases q
  cases q
  rw [hh] at k
  cases k
  omega
theorem ins_eq {n i : Nat} {L : List EV} {e : EV} {sp : List Value} (hn : n = L.length) (hi : i < n) (hsp : sp.length = 13) : (((cE L ++ sp).take (0 + (i + 1) * 13) ++ cE (L.drop i) ++ (cE L ++ sp).drop (0 + (i + 1) * 13 + (cE (L.drop i)).length)).take (0 + i * 13) ++ (EL e).toList ++ ((cE L ++ sp).take (0 + (i + 1) * 13) ++ cE (L.drop i) ++ (cE L ++ sp).drop (0 + (i + 1) * 13 + (cE (L.drop i)).length)).drop (0 + i * 13 + (EL e).toList.length)) = cE (insE L i e) := by
  have hL := cE_len L
  have hd : (cE (L.drop i)).length = (n - i) * 13 := by rw [cE_len, List.length_drop, hn]
  have h1 : (cE L ++ sp).drop (0 + (i + 1) * 13 + (cE (L.drop i)).length) = [] := List.drop_eq_nil_of_le (by rw [List.length_append, hL, hd, hsp, ← hn]; omega)
  have h2 : ((cE L ++ sp).take (0 + (i + 1) * 13)).length = (i + 1) * 13 := by rw [List.length_take, List.length_append, hL, hsp, ← hn]; omega
  have h3 : (EL e).toList.length = 13 := rfl
  rw [h1, List.append_nil, cE_ins, h3, List.take_append_of_le_length (by rw [h2]; omega), List.take_take, Nat.min_eq_left (by omega), List.take_append_of_le_length (by rw [hL, ← hn]; omega), Nat.zero_add, ← cE_take L i (by omega), (show i * 13 + 13 = (i + 1) * 13 by omega), List.drop_left' h2, List.append_assoc]
theorem ins_eq2 {n i : Nat} {L : List EV} {e : EV} {Z : List Value} (hn : n = L.length) (hi : i < n) (hZ : Z.length = (n + 1 - i) * 13) : (((cE (L.take i) ++ Z).take (0 + i * 13) ++ (EL e).toList ++ (cE (L.take i) ++ Z).drop (0 + i * 13 + (EL e).toList.length)).take (0 + (i + 1) * 13) ++ cE (L.drop i) ++ ((cE (L.take i) ++ Z).take (0 + i * 13) ++ (EL e).toList ++ (cE (L.take i) ++ Z).drop (0 + i * 13 + (EL e).toList.length)).drop (0 + (i + 1) * 13 + (cE (L.drop i)).length)) = cE (insE L i e) := by
  have hL : (cE (L.take i)).length = i * 13 := by rw [cE_len, List.length_take, Nat.min_eq_left (by omega)]
  have hd : (cE (L.drop i)).length = (n - i) * 13 := by rw [cE_len, List.length_drop, hn]
  have h3 : (EL e).toList.length = 13 := rfl
  have h1 : (cE (L.take i) ++ Z).take (0 + i * 13) = cE (L.take i) := by rw [Nat.zero_add, List.take_left' hL]
  have h4 : (cE (L.take i) ++ (EL e).toList).length = 0 + (i + 1) * 13 := by rw [List.length_append, hL, h3]; omega
  have h5 : ((cE (L.take i) ++ Z).drop (0 + i * 13 + (EL e).toList.length)).length = (n - i) * 13 := by rw [List.length_drop, List.length_append, hL, hZ, h3]; omega
  have h6 : (cE (L.take i) ++ (EL e).toList ++ (cE (L.take i) ++ Z).drop (0 + i * 13 + (EL e).toList.length)).drop (0 + (i + 1) * 13 + (cE (L.drop i)).length) = [] := List.drop_eq_nil_of_le (by rw [List.length_append, h4, h5, hd]; omega)
  rw [h1, cE_ins, List.take_left' h4, h6, List.append_nil, List.append_assoc]
set_option maxHeartbeats 8000000 in
theorem inq_end {g n c xb i : Nat} {L : List EV} {e : EV} {base : Nat} (w : World) (hO : w.ownsRow base 49 13 (.slice (some ⟨g, 0, none⟩) n c) n (cE L)) (hn : n = L.length) (hn2 : n ≤ 63) (kx : w.heap[xb]? = some (.cells (EL e) 49)) (hxg : xb ≠ g) (hb : base ≤ w.heap.size) (hi : i = n) : Calls Try.prog 64 #[.slice (some ⟨g, 0, none⟩) n c, .int .i64 (i : Nat), .slice (some ⟨xb, 0, none⟩) 1 1] w fun q w' => ∃ g' c', q = .returned (.slice (some ⟨g', 0, none⟩) (n + 1) c') ∧ w'.ownsRow base 49 13 (.slice (some ⟨g', 0, none⟩) (n + 1) c') (n + 1) (cE (insE L i e)) ∧ Kept (· = g) w w' ∧ (g' = g ∨ w.heap.size ≤ g') := by
  have hnc : n ≤ c := by
    obtain ⟨ao, cc, q, hc, _⟩ := own_form hO
    cases q
    exact hc
  subst i
  have E : Kept (· = g) w w := Kept.refl _ _
  go_enter Try.func64, Try.ntmps64; refine wq fun Q hQ => ?_; refine vg (.slice none 0 0) 6 rfl rfl rfl rfl ?_; refine st_end ?_; subst hQ; refine wq fun Q hQ => ?_; refine vm (.slice (some ⟨g, 0, none⟩) n c) 10 rfl rfl rfl rfl ?_; refine vm (.int .i64 (n : Nat)) 11 rfl rfl rfl rfl ?_; refine vv (.slice (some ⟨g, if c = n then 0 else 0 + n * 13, none⟩) (n - n) (c - n)) 12 rfl rfl (ex_cutl (k := n) rfl rfl rfl rfl (Nat.le_refl _) hnc) ?_; refine st_end ?_; subst hQ; refine wq fun Q hQ => ?_; refine vm (.slice (some ⟨xb, 0, none⟩) 1 1) 13 rfl rfl rfl rfl ?_
  refine vv (.int .i64 (1 : Nat)) 14 rfl rfl (ex_len rfl rfl (len33 _ _ _ _ _)) ?_; refine vg (.int .i64 (1 : Nat)) 7 rfl rfl rfl rfl ?_; refine st_end ?_; subst hQ; refine wp_seq ?_; refine wq fun Q hQ => ?_; refine vm (.int .i64 (1 : Nat)) 15 rfl rfl rfl rfl ?_; refine vv (.bool false) 16 rfl rfl (ex_bin (u := (.int .i64 (1 : Nat))) (r := (.int .i64 0)) rfl rfl rfl (eg3 _ _ _ _ _ _) (eql3 _ (decide_eq_false (by omega)))) ?_; refine st_end ?_; subst hQ; refine wp_cond_false rfl ?_; refine wp_skip ?_; refine wq fun Q hQ => ?_; refine vm (.slice (some ⟨g, 0, none⟩) n c) 18 rfl rfl rfl rfl ?_
  refine vv (.int .i64 (n : Nat)) 19 rfl rfl (ex_len rfl rfl (len33 _ _ _ _ _)) ?_; refine vg (.int .i64 (n : Nat)) 8 rfl rfl rfl rfl ?_; refine st_end ?_; subst hQ; refine wp_seq ?_; refine wq fun Q hQ => ?_; refine vm (.int .i64 (n : Nat)) 20 rfl rfl rfl rfl ?_; refine vm (.int .i64 (n : Nat)) 21 rfl rfl rfl rfl ?_; refine vv (.bool true) 22 rfl rfl (ex_bin (u := (.int .i64 (n : Nat))) (r := (.int .i64 (n : Nat))) rfl rfl rfl (eg3 _ _ _ _ _ _) (eql3 _ (decide_eq_true (by omega)))) ?_; refine st_end ?_; subst hQ; refine wp_cond_true rfl ?_; refine wq fun Q hQ => ?_
  refine vm (.slice (some ⟨g, 0, none⟩) n c) 23 rfl rfl rfl rfl ?_; refine vm (.slice (some ⟨xb, 0, none⟩) 1 1) 24 rfl rfl rfl rfl ?_; obtain ⟨g', c', W2, hr2, hO2, hK0, hloc2⟩ := own_add (c := 1) (m := 1) (t := 33) hO (show w.rangeAt xb 0 (EL e).toList from at_range (o := 0) (n := 13) kx (by show 0 + 13 ≤ _; simp [EL])) rfl (by rw [← cE_one]; exact cE_one1 [e]) Try.underlying33 Try.inf49b rfl (by decide) (by decide) (by omega) (by simp only [maxLen]; omega) hb
  have hK2 : Kept (· = g) w W2 := ⟨hK0.os, hK0.tape, hK0.output, hK0.size, fun k hk hn => hK0.block k hk (fun e => hn (Option.some.inj e).symm)⟩
  replace E := hK2; refine sv (.slice (some ⟨g', 0, none⟩) (n + 1) c') 25 rfl rfl (ex_app rfl rfl rfl hr2) ?_; simp only [zp]; refine vg (.slice (some ⟨g', 0, none⟩) (n + 1) c') 6 rfl rfl rfl rfl ?_; refine st_end ?_; subst hQ; refine wp_ret ?_
  repeat (first | refine ret_out ?_ | refine ret_blk ?_)
  exact bodyPost_ret (results_tmp Try.results64 _ _ _) rfl ⟨g', c', rfl, by rw [hn, insE_end, cE_app, cE_one, ← hn]; exact hO2, E, hloc2.elim (fun h => .inl (Option.some.inj h).symm) (fun h => .inr (by omega))⟩
set_option maxHeartbeats 8000000 in
theorem inq_room {g n c xb i : Nat} {L : List EV} {e : EV} {base : Nat} (w : World) (hO : w.ownsRow base 49 13 (.slice (some ⟨g, 0, none⟩) n c) n (cE L)) (hn : n = L.length) (hn2 : n ≤ 63) (kx : w.heap[xb]? = some (.cells (EL e) 49)) (hxg : xb ≠ g) (hb : base ≤ w.heap.size) (hi : i < n) (hr : n + 1 ≤ c) : Calls Try.prog 64 #[.slice (some ⟨g, 0, none⟩) n c, .int .i64 (i : Nat), .slice (some ⟨xb, 0, none⟩) 1 1] w fun q w' => ∃ g' c', q = .returned (.slice (some ⟨g', 0, none⟩) (n + 1) c') ∧ w'.ownsRow base 49 13 (.slice (some ⟨g', 0, none⟩) (n + 1) c') (n + 1) (cE (insE L i e)) ∧ Kept (· = g) w w' ∧ (g' = g ∨ w.heap.size ≤ g') := by
  have hnc : n ≤ c := by
    obtain ⟨ao, cc, q, hc, _⟩ := own_form hO
    cases q
    exact hc
  obtain ⟨curg, kg⟩ := own_blk hO
  have hcg : curg.size ≠ 0 := own_cur hO kg (by omega)
  have E : Kept (· = g) w w := Kept.refl _ _
  go_enter Try.func64, Try.ntmps64; refine wq fun Q hQ => ?_; refine vg (.slice none 0 0) 6 rfl rfl rfl rfl ?_; refine st_end ?_; subst hQ; refine wq fun Q hQ => ?_; refine vm (.slice (some ⟨g, 0, none⟩) n c) 10 rfl rfl rfl rfl ?_; refine vm (.int .i64 (i : Nat)) 11 rfl rfl rfl rfl ?_; refine vv (.slice (some ⟨g, 0 + i * 13, none⟩) (n - i) (c - i)) 12 rfl rfl (ex_cutn (k := i) rfl rfl rfl rfl (by omega) (by omega) (by omega)) ?_; refine st_end ?_; subst hQ; refine wq fun Q hQ => ?_; refine vm (.slice (some ⟨xb, 0, none⟩) 1 1) 13 rfl rfl rfl rfl ?_
  refine vv (.int .i64 (1 : Nat)) 14 rfl rfl (ex_len rfl rfl (len33 _ _ _ _ _)) ?_; refine vg (.int .i64 (1 : Nat)) 7 rfl rfl rfl rfl ?_; refine st_end ?_; subst hQ; refine wp_seq ?_; refine wq fun Q hQ => ?_; refine vm (.int .i64 (1 : Nat)) 15 rfl rfl rfl rfl ?_; refine vv (.bool false) 16 rfl rfl (ex_bin (u := (.int .i64 (1 : Nat))) (r := (.int .i64 0)) rfl rfl rfl (eg3 _ _ _ _ _ _) (eql3 _ (decide_eq_false (by omega)))) ?_; refine st_end ?_; subst hQ; refine wp_cond_false rfl ?_; refine wp_skip ?_; refine wq fun Q hQ => ?_; refine vm (.slice (some ⟨g, 0, none⟩) n c) 18 rfl rfl rfl rfl ?_
  refine vv (.int .i64 (n : Nat)) 19 rfl rfl (ex_len rfl rfl (len33 _ _ _ _ _)) ?_; refine vg (.int .i64 (n : Nat)) 8 rfl rfl rfl rfl ?_; refine st_end ?_; subst hQ; refine wp_seq ?_; refine wq fun Q hQ => ?_; refine vm (.int .i64 (i : Nat)) 20 rfl rfl rfl rfl ?_; refine vm (.int .i64 (n : Nat)) 21 rfl rfl rfl rfl ?_; refine vv (.bool false) 22 rfl rfl (ex_bin (u := (.int .i64 (i : Nat))) (r := (.int .i64 (n : Nat))) rfl rfl rfl (eg3 _ _ _ _ _ _) (eql3 _ (decide_eq_false (by omega)))) ?_; refine st_end ?_; subst hQ; refine wp_cond_false rfl ?_; refine wp_skip ?_; refine wp_seq ?_
  refine wq fun Q hQ => ?_; refine vm (.int .i64 (n : Nat)) 26 rfl rfl rfl rfl ?_; refine vm (.int .i64 (1 : Nat)) 27 rfl rfl rfl rfl ?_; refine vv (.int .i64 ((n + 1 : Nat) : Int)) 28 rfl rfl (ex_bin rfl rfl rfl (eg3 _ _ _ _ _ _) (add3 _ (by omega) (by omega))) ?_; refine vm (.slice (some ⟨g, 0, none⟩) n c) 29 rfl rfl rfl rfl ?_; refine vv (.int .i64 (c : Nat)) 30 rfl rfl (ex_cap rfl rfl) ?_; refine vv (.bool false) 31 rfl rfl (ex_bin (u := (.int .i64 ((n + 1 : Nat) : Int))) (r := (.int .i64 (c : Nat))) rfl rfl rfl (eg3 _ _ _ _ _ _) (gtr3 _ (decide_eq_false (by omega)))) ?_
  refine st_end ?_; subst hQ; refine wp_cond_false rfl ?_; refine wp_skip ?_; refine wq fun Q hQ => ?_; refine vm (.slice (some ⟨g, 0, none⟩) n c) 56 rfl rfl rfl rfl ?_; refine vm (.int .i64 (n : Nat)) 57 rfl rfl rfl rfl ?_; refine vm (.int .i64 (1 : Nat)) 58 rfl rfl rfl rfl ?_; refine vv (.int .i64 ((n + 1 : Nat) : Int)) 59 rfl rfl (ex_bin rfl rfl rfl (eg3 _ _ _ _ _ _) (add3 _ (by omega) (by omega))) ?_; refine vv (.slice (some ⟨g, 0, none⟩) (n + 1) c) 60 rfl rfl (ex_cuth (k := n + 1) rfl rfl rfl rfl (by omega)) ?_; refine vg (.slice (some ⟨g, 0, none⟩) (n + 1) c) 0 rfl rfl rfl rfl ?_
  refine st_end ?_; subst hQ; refine wp_seq ?_; refine wq fun Q hQ => ?_; refine vm (.slice (some ⟨xb, 0, none⟩) 1 1) 61 rfl rfl rfl rfl ?_; refine vm (.slice (some ⟨g, 0, none⟩) (n + 1) c) 62 rfl rfl rfl rfl ?_; refine vm (.int .i64 (i : Nat)) 63 rfl rfl rfl rfl ?_; refine vm (.int .i64 (1 : Nat)) 64 rfl rfl rfl rfl ?_; refine vv (.int .i64 ((i + 1 : Nat) : Int)) 65 rfl rfl (ex_bin rfl rfl rfl (eg3 _ _ _ _ _ _) (add3 _ (by omega) (by omega))) ?_
  refine vv (.slice (some ⟨g, 0 + (i + 1) * 13, none⟩) ((n + 1) - (i + 1)) (c - (i + 1))) 66 rfl rfl (ex_cutn (k := (i + 1)) rfl rfl rfl rfl (by omega) (by omega) (by omega)) ?_; refine vv (.bool false) 67 rfl rfl (ex_ext2 rfl rfl rfl (ovl_no kx kg hxg hcg)) ?_; refine vv (.bool true) 68 rfl rfl (ex_not rfl rfl rfl) ?_; refine st_end ?_; subst hQ; refine wp_cond_true rfl ?_; refine wp_seq ?_; obtain ⟨W1, hwd⟩ : ∃ wd, w.drew = wd := ⟨_, rfl⟩
  refine wp_region_held (S := fun W => Kept (· = g) W1 W) (by kernel_rfl) ?_
  show wpAnyH _ _ _ _ _ _ _ _ w.drew
  rw [hwd]; refine capQ fun Q hQ => ?_
  have hQP : ∀ c (a : Act) (d : Nat) v w, Q (.panic c) (a.put (some d) v) w → Q (.panic c) a w := by
    subst hQ; exact fun _ _ _ _ _ h => h
  have BD : Below w.heap.size w W1 := by rw [← hwd]; exact below_drewB (Below.refl _ _)
  clear hwd; replace E := E.next BD; replace hO := own_keep hO BD; replace kx := keep BD kx; replace kg := keep BD kg; clear BD
  have S : Kept (· = g) W1 W1 := Kept.refl _ _
  have d_hO := hO; have d_kx := kx; have d_kg := kg; refine tk (.slice (some ⟨g, 0, none⟩) (n + 1) c) 0 69 rfl rfl rfl (fun W hK => ex_mv rfl rfl) S hQP ?_; refine tk (.int .i64 (i : Nat)) 1 70 rfl rfl rfl (fun W hK => ex_mv rfl rfl) S hQP ?_; refine tk (.int .i64 (1 : Nat)) 2 71 rfl rfl rfl (fun W hK => ex_mv rfl rfl) S hQP ?_; refine tk (.int .i64 ((i + 1 : Nat) : Int)) 3 72 rfl rfl rfl (fun W hK => ex_bin rfl rfl rfl (eg3 _ _ _ _ _ _) (add3 _ (by omega) (by omega))) S hQP ?_
  refine tk (.slice (some ⟨g, 0 + (i + 1) * 13, none⟩) ((n + 1) - (i + 1)) (c - (i + 1))) 4 73 rfl rfl rfl (fun W hK => ex_cutn (k := (i + 1)) rfl rfl rfl rfl (by omega) (by omega) (by omega)) S hQP ?_; refine tk (.slice (some ⟨g, 0, none⟩) (n + 1) c) 5 74 rfl rfl rfl (fun W hK => ex_mv rfl rfl) S hQP ?_; refine tk (.int .i64 (i : Nat)) 6 75 rfl rfl rfl (fun W hK => ex_mv rfl rfl) S hQP ?_; refine tk (.slice (some ⟨g, 0 + i * 13, none⟩) ((n + 1) - i) (c - i)) 7 76 rfl rfl rfl (fun W hK => ex_cutn (k := i) rfl rfl rfl rfl (by omega) (by omega) (by omega)) S hQP ?_
  refine ah_or1 (i := 8) (by kernel_rfl) ?_; obtain ⟨sp, hsp, hO1⟩ := own_ext hO hr; obtain ⟨W2, hr2, hO2, hK2⟩ := own_copy (ty := 3) (o := 0 + (i + 1) * 13) (dl := n + 1 - (i + 1)) (dc := c - (i + 1)) (sl := n + 1 - i) (sc := c - i) (ad := ⟨g, 0 + i * 13, none⟩) (cs := cE (L.drop i)) hO1 (by rw [cE_len, List.length_drop]; omega) (by rw [cE_len, List.length_drop, ins_min hi, hn]) (fun j v hv => by rw [Addr.add_mid]; exact range_drop (own_rng hO) (k := i) (by omega) j v hv) (cE_one1 _)
  refine nx_to (v := .int .i64 (Nat.min (n + 1 - i) (n + 1 - (i + 1)) : Nat)) (some 77) rfl rfl rfl (ex_cpy rfl rfl rfl hr2) (S.putX hK2) ?_; simp only [zp]; replace E := E.putX hK2; replace S := S.putX hK2; replace kx := keepK hK2 kx hxg; clear hr2 hK2; refine ah_done (by kernel_rfl) ?_; clear hQP; subst hQ; clear S  d_hO d_kx d_kg; refine wq fun Q hQ => ?_; refine vm (.slice (some ⟨g, 0, none⟩) (n + 1) c) 78 rfl rfl rfl rfl ?_; refine vm (.int .i64 (i : Nat)) 79 rfl rfl rfl rfl ?_
  refine vv (.slice (some ⟨g, 0 + i * 13, none⟩) ((n + 1) - i) (c - i)) 80 rfl rfl (ex_cutn (k := i) rfl rfl rfl rfl (by omega) (by omega) (by omega)) ?_; refine vm (.slice (some ⟨xb, 0, none⟩) 1 1) 81 rfl rfl rfl rfl ?_
  obtain ⟨W3, hr3, hO3, hK3⟩ := own_copy (ty := 3) (o := 0 + i * 13) (dl := n + 1 - i) (dc := c - i) (sl := 1) (sc := 1) (ad := ⟨xb, 0, none⟩) (cs := (EL e).toList) hO2 (by show 0 + i * 13 + 13 ≤ _; omega) (by rw [ins_one hi]; rfl) (fun j v hv => by rw [Addr.add_mid]; exact (show W2.rangeAt xb 0 (EL e).toList from at_range (o := 0) (n := 13) kx (by show 0 + 13 ≤ _; simp [EL])) j v hv) (by rw [← cE_one]; exact cE_one1 [e]); refine sv (.int .i64 (Nat.min 1 (n + 1 - i) : Nat)) 82 rfl rfl (ex_cpy rfl rfl rfl hr3) ?_; simp only [zp]; replace E := E.putX hK3; clear hr3 hK3
  refine st_end ?_; subst hQ; refine wq fun Q hQ => ?_; refine vm (.slice (some ⟨g, 0, none⟩) (n + 1) c) 83 rfl rfl rfl rfl ?_; refine vg (.slice (some ⟨g, 0, none⟩) (n + 1) c) 6 rfl rfl rfl rfl ?_; refine st_end ?_; subst hQ; refine wp_ret ?_
  repeat (first | refine ret_out ?_ | refine ret_blk ?_)
  exact bodyPost_ret (results_tmp Try.results64 _ _ _) rfl ⟨g, c, rfl, by rw [← ins_eq hn hi hsp]; exact hO3, E, .inl rfl⟩
set_option maxHeartbeats 8000000 in
theorem inq_grow {g n c xb i : Nat} {L : List EV} {e : EV} {base : Nat} (w : World) (hO : w.ownsRow base 49 13 (.slice (some ⟨g, 0, none⟩) n c) n (cE L)) (hn : n = L.length) (hn2 : n ≤ 63) (kx : w.heap[xb]? = some (.cells (EL e) 49)) (hxg : xb ≠ g) (hb : base ≤ w.heap.size) (hi : i < n) (hr : c < n + 1) : Calls Try.prog 64 #[.slice (some ⟨g, 0, none⟩) n c, .int .i64 (i : Nat), .slice (some ⟨xb, 0, none⟩) 1 1] w fun q w' => ∃ g' c', q = .returned (.slice (some ⟨g', 0, none⟩) (n + 1) c') ∧ w'.ownsRow base 49 13 (.slice (some ⟨g', 0, none⟩) (n + 1) c') (n + 1) (cE (insE L i e)) ∧ Kept (· = g) w w' ∧ (g' = g ∨ w.heap.size ≤ g') := by
  have hnc : n ≤ c := by
    obtain ⟨ao, cc, q, hc, _⟩ := own_form hO
    cases q
    exact hc
  have E : Kept (· = g) w w := Kept.refl _ _
  go_enter Try.func64, Try.ntmps64; refine wq fun Q hQ => ?_; refine vg (.slice none 0 0) 6 rfl rfl rfl rfl ?_; refine st_end ?_; subst hQ; refine wq fun Q hQ => ?_; refine vm (.slice (some ⟨g, 0, none⟩) n c) 10 rfl rfl rfl rfl ?_; refine vm (.int .i64 (i : Nat)) 11 rfl rfl rfl rfl ?_; refine vv (.slice (some ⟨g, 0 + i * 13, none⟩) (n - i) (c - i)) 12 rfl rfl (ex_cutn (k := i) rfl rfl rfl rfl (by omega) (by omega) (by omega)) ?_; refine st_end ?_; subst hQ; refine wq fun Q hQ => ?_; refine vm (.slice (some ⟨xb, 0, none⟩) 1 1) 13 rfl rfl rfl rfl ?_
  refine vv (.int .i64 (1 : Nat)) 14 rfl rfl (ex_len rfl rfl (len33 _ _ _ _ _)) ?_; refine vg (.int .i64 (1 : Nat)) 7 rfl rfl rfl rfl ?_; refine st_end ?_; subst hQ; refine wp_seq ?_; refine wq fun Q hQ => ?_; refine vm (.int .i64 (1 : Nat)) 15 rfl rfl rfl rfl ?_; refine vv (.bool false) 16 rfl rfl (ex_bin (u := (.int .i64 (1 : Nat))) (r := (.int .i64 0)) rfl rfl rfl (eg3 _ _ _ _ _ _) (eql3 _ (decide_eq_false (by omega)))) ?_; refine st_end ?_; subst hQ; refine wp_cond_false rfl ?_; refine wp_skip ?_; refine wq fun Q hQ => ?_; refine vm (.slice (some ⟨g, 0, none⟩) n c) 18 rfl rfl rfl rfl ?_
  refine vv (.int .i64 (n : Nat)) 19 rfl rfl (ex_len rfl rfl (len33 _ _ _ _ _)) ?_; refine vg (.int .i64 (n : Nat)) 8 rfl rfl rfl rfl ?_; refine st_end ?_; subst hQ; refine wp_seq ?_; refine wq fun Q hQ => ?_; refine vm (.int .i64 (i : Nat)) 20 rfl rfl rfl rfl ?_; refine vm (.int .i64 (n : Nat)) 21 rfl rfl rfl rfl ?_; refine vv (.bool false) 22 rfl rfl (ex_bin (u := (.int .i64 (i : Nat))) (r := (.int .i64 (n : Nat))) rfl rfl rfl (eg3 _ _ _ _ _ _) (eql3 _ (decide_eq_false (by omega)))) ?_; refine st_end ?_; subst hQ; refine wp_cond_false rfl ?_; refine wp_skip ?_; refine wp_seq ?_
  refine wq fun Q hQ => ?_; refine vm (.int .i64 (n : Nat)) 26 rfl rfl rfl rfl ?_; refine vm (.int .i64 (1 : Nat)) 27 rfl rfl rfl rfl ?_; refine vv (.int .i64 ((n + 1 : Nat) : Int)) 28 rfl rfl (ex_bin rfl rfl rfl (eg3 _ _ _ _ _ _) (add3 _ (by omega) (by omega))) ?_; refine vm (.slice (some ⟨g, 0, none⟩) n c) 29 rfl rfl rfl rfl ?_; refine vv (.int .i64 (c : Nat)) 30 rfl rfl (ex_cap rfl rfl) ?_; refine vv (.bool true) 31 rfl rfl (ex_bin (u := (.int .i64 ((n + 1 : Nat) : Int))) (r := (.int .i64 (c : Nat))) rfl rfl rfl (eg3 _ _ _ _ _ _) (gtr3 _ (decide_eq_true (by omega)))) ?_
  refine st_end ?_; subst hQ; refine wp_cond_true rfl ?_; refine wq fun Q hQ => ?_; refine vm (.slice (some ⟨g, 0, none⟩) n c) 32 rfl rfl rfl rfl ?_; refine vm (.int .i64 (i : Nat)) 33 rfl rfl rfl rfl ?_; refine vv (.slice (some ⟨g, 0, none⟩) i c) 34 rfl rfl (ex_cuth (k := i) rfl rfl rfl rfl (by omega)) ?_; refine vm (.int .i64 (n : Nat)) 35 rfl rfl rfl rfl ?_; refine vm (.int .i64 (1 : Nat)) 36 rfl rfl rfl rfl ?_; refine vv (.int .i64 ((n + 1 : Nat) : Int)) 37 rfl rfl (ex_bin rfl rfl rfl (eg3 _ _ _ _ _ _) (add3 _ (by omega) (by omega))) ?_
  refine vm (.int .i64 (i : Nat)) 38 rfl rfl rfl rfl ?_; refine vv (.int .i64 ((n + 1 - i : Nat) : Int)) 39 rfl rfl (ex_bin rfl rfl rfl (eg3 _ _ _ _ _ _) (ins_sub _ hi hn2)) ?_; obtain ⟨g', c', Z, W1, hr1, hZ, hO1, hB1, hg'⟩ := own_zero (ty := 33) (i := i) (m := n + 1 - i) hO hn (by omega) (by omega) (by omega) hb
  have hnc' : i + (n + 1 - i) ≤ c' := by
    obtain ⟨ao, cc, q, hc, _⟩ := own_form hO1
    cases q
    exact hc
  have hxg' : xb ≠ g' := fun e => by have := lt_of kx; omega
  have hgg' : g ≠ g' := fun e => by obtain ⟨_, kq⟩ := own_blk hO; have := lt_of kq; omega
  refine sv (.slice (some ⟨g', 0, none⟩) (i + (n + 1 - i)) c') 40 rfl rfl (ex_apz rfl rfl rfl hr1) ?_; simp only [zp]; replace E := E.next hB1; replace hO := own_keep hO hB1; replace kx := keep hB1 kx; clear hr1 hB1; refine vg (.slice (some ⟨g', 0, none⟩) (i + (n + 1 - i)) c') 9 rfl rfl rfl rfl ?_; refine st_end ?_; subst hQ; refine wq fun Q hQ => ?_; refine vm (.slice (some ⟨g', 0, none⟩) (i + (n + 1 - i)) c') 41 rfl rfl rfl rfl ?_; refine vm (.int .i64 (i : Nat)) 42 rfl rfl rfl rfl ?_
  refine vv (.slice (some ⟨g', 0 + i * 13, none⟩) (i + (n + 1 - i) - i) (c' - i)) 43 rfl rfl (ex_cutn (k := i) rfl rfl rfl rfl (by omega) hnc' (by omega)) ?_; refine vm (.slice (some ⟨xb, 0, none⟩) 1 1) 44 rfl rfl rfl rfl ?_
  obtain ⟨W2, hr2, hO2, hK2⟩ := own_copy (ty := 3) (o := 0 + i * 13) (dl := i + (n + 1 - i) - i) (dc := c' - i) (sl := 1) (sc := 1) (ad := ⟨xb, 0, none⟩) (cs := (EL e).toList) hO1 (by show 0 + i * 13 + 13 ≤ _; omega) (by rw [ins_one2 hi]; rfl) (fun j v hv => by rw [Addr.add_mid]; exact (show W1.rangeAt xb 0 (EL e).toList from at_range (o := 0) (n := 13) kx (by show 0 + 13 ≤ _; simp [EL])) j v hv) (by rw [← cE_one]; exact cE_one1 [e]); refine sv (.int .i64 (Nat.min 1 (i + (n + 1 - i) - i) : Nat)) 45 rfl rfl (ex_cpy rfl rfl rfl hr2) ?_; simp only [zp]; replace E := E.putN hK2 hg'
  replace hO := own_keepK hO hK2 (fun q hq e => hgg' ((Option.some.inj hq).trans e)); clear hr2 hK2 hO1; refine st_end ?_; subst hQ; refine wp_seq ?_; obtain ⟨W3, hwd⟩ : ∃ wd, W2.drew = wd := ⟨_, rfl⟩
  refine wp_region_held (S := fun W => Kept (· = g') W3 W) (by kernel_rfl) ?_
  show wpAnyH _ _ _ _ _ _ _ _ W2.drew
  rw [hwd]; refine capQ fun Q hQ => ?_
  have hQP : ∀ c (a : Act) (d : Nat) v w, Q (.panic c) (a.put (some d) v) w → Q (.panic c) a w := by
    subst hQ; exact fun _ _ _ _ _ h => h
  have BD : Below W2.heap.size W2 W3 := by rw [← hwd]; exact below_drewB (Below.refl _ _)
  clear hwd; replace E := E.next BD; replace hO := own_keep hO BD; replace hO2 := own_keep hO2 BD; clear BD
  have S : Kept (· = g') W3 W3 := Kept.refl _ _
  have d_hO := hO; have d_hO2 := hO2; refine tk (.slice (some ⟨g', 0, none⟩) (i + (n + 1 - i)) c') 0 46 rfl rfl rfl (fun W hK => ex_mv rfl rfl) S hQP ?_; refine tk (.int .i64 (i : Nat)) 1 47 rfl rfl rfl (fun W hK => ex_mv rfl rfl) S hQP ?_; refine tk (.int .i64 (1 : Nat)) 2 48 rfl rfl rfl (fun W hK => ex_mv rfl rfl) S hQP ?_; refine tk (.int .i64 ((i + 1 : Nat) : Int)) 3 49 rfl rfl rfl (fun W hK => ex_bin rfl rfl rfl (eg3 _ _ _ _ _ _) (add3 _ (by omega) (by omega))) S hQP ?_
  refine tk (.slice (some ⟨g', 0 + (i + 1) * 13, none⟩) (i + (n + 1 - i) - (i + 1)) (c' - (i + 1))) 4 50 rfl rfl rfl (fun W hK => ex_cutn (k := (i + 1)) rfl rfl rfl rfl (by omega) hnc' (by omega)) S hQP ?_; refine tk (.slice (some ⟨g, 0, none⟩) n c) 5 51 rfl rfl rfl (fun W hK => ex_mv rfl rfl) S hQP ?_; refine tk (.int .i64 (i : Nat)) 6 52 rfl rfl rfl (fun W hK => ex_mv rfl rfl) S hQP ?_; refine tk (.slice (some ⟨g, 0 + i * 13, none⟩) (n - i) (c - i)) 7 53 rfl rfl rfl (fun W hK => ex_cutn (k := i) rfl rfl rfl rfl (by omega) (by omega) (by omega)) S hQP ?_
  refine ah_or1 (i := 8) (by kernel_rfl) ?_; obtain ⟨W4, hr3, hO3, hK3⟩ := own_copy (ty := 3) (o := 0 + (i + 1) * 13) (dl := i + (n + 1 - i) - (i + 1)) (dc := c' - (i + 1)) (sl := n - i) (sc := c - i) (ad := ⟨g, 0 + i * 13, none⟩) (cs := cE (L.drop i)) hO2 (by rw [cE_len, List.length_drop]; omega) (by rw [cE_len, List.length_drop, ins_min2 hi, hn]) (fun j v hv => by rw [Addr.add_mid]; exact range_drop (own_rng hO) (k := i) (by omega) j v hv) (cE_one1 _)
  refine nx_to (v := .int .i64 (Nat.min (n - i) (i + (n + 1 - i) - (i + 1)) : Nat)) (some 54) rfl rfl rfl (ex_cpy rfl rfl rfl hr3) (S.putX hK3) ?_; simp only [zp]; replace E := E.putN hK3 hg'; replace S := S.putX hK3; clear hr3 hK3; refine ah_done (by kernel_rfl) ?_; clear hQP; subst hQ; clear S  d_hO d_hO2; refine wq fun Q hQ => ?_; refine vm (.slice (some ⟨g', 0, none⟩) (i + (n + 1 - i)) c') 55 rfl rfl rfl rfl ?_; refine vg (.slice (some ⟨g', 0, none⟩) (i + (n + 1 - i)) c') 6 rfl rfl rfl rfl ?_; refine st_end ?_; subst hQ; refine wp_ret ?_
  repeat (first | refine ret_out ?_ | refine ret_blk ?_)
  exact bodyPost_ret (results_tmp Try.results64 _ _ _) rfl ⟨g', c', by show Ending.returned (.slice (some ⟨g', 0, none⟩) (i + (n + 1 - i)) c') = _; rw [ins_sum hi], by rw [← ins_eq2 hn hi hZ, ← ins_sum hi]; exact hO3, E, .inr hg'⟩
theorem inq_any {g n c xb i : Nat} {L : List EV} {e : EV} {base : Nat} (w : World) (hO : w.ownsRow base 49 13 (.slice (some ⟨g, 0, none⟩) n c) n (cE L)) (hn : n = L.length) (hn2 : n ≤ 63) (kx : w.heap[xb]? = some (.cells (EL e) 49)) (hxg : xb ≠ g) (hb : base ≤ w.heap.size) (hi : i ≤ n) : Calls Try.prog 64 #[.slice (some ⟨g, 0, none⟩) n c, .int .i64 (i : Nat), .slice (some ⟨xb, 0, none⟩) 1 1] w fun q w' => ∃ g' c', q = .returned (.slice (some ⟨g', 0, none⟩) (n + 1) c') ∧ w'.ownsRow base 49 13 (.slice (some ⟨g', 0, none⟩) (n + 1) c') (n + 1) (cE (insE L i e)) ∧ Kept (· = g) w w' ∧ (g' = g ∨ w.heap.size ≤ g') := by
  by_cases h1 : i = n
  · exact inq_end w hO hn hn2 kx hxg hb h1
  · by_cases h2 : n + 1 ≤ c
    · exact inq_room w hO hn hn2 kx hxg hb (by omega) h2
    · exact inq_grow w hO hn hn2 kx hxg hb (by omega) (by omega)
end Go.Proofs.Ytgnkcmmpbohafaa

/- A graph's edges as a list: where one stands, what is set, taken away, learnt and told; that they stay in order. -/
namespace Go.Proofs.Ytgnkcmmpbohafaa
open Go.RowKit
set_option linter.unusedVariables false
set_option linter.unusedSimpArgs false
set_option maxRecDepth 100000
/-- where an edge of this channel from that node is -/
def atE (ch fr : Int) : List EV → Option Nat
  | [] => none
  | d :: L => if d.ch = ch ∧ d.fr = fr then some 0 else (atE ch fr L).map (· + 1)
/-- how many stand ahead of it -/
def posE (ch fr : Int) : List EV → Nat
  | [] => 0
  | d :: L => if ordN d ch fr < 0 then posE ch fr L + 1 else 0
theorem at_some {ch fr : Int} : ∀ {L : List EV} {j : Nat}, atE ch fr L = some j → ∃ d, L[j]? = some d ∧ (d.ch = ch ∧ d.fr = fr)
  | [], _, h => by cases h
  | d :: L, j, h => by
    unfold atE at h
    split at h
    · rename_i hk
      cases h
      exact ⟨d, rfl, hk⟩
    · obtain ⟨i, hi, rfl⟩ := Option.map_eq_some_iff.1 h
      obtain ⟨x, hx, hk⟩ := at_some hi; exact ⟨x, by simpa using hx, hk⟩
theorem at_none {ch fr : Int} : ∀ {L : List EV}, atE ch fr L = none → noE L ch fr
  | [], _ => fun _ hd => by cases hd
  | d :: L, h => by
    unfold atE at h
    split at h
    · cases h
    · rename_i hk
      intro x hx
      rcases List.mem_cons.1 hx with rfl | hx
      · exact hk
      · exact at_none (Option.map_eq_none_iff.1 h) x hx
theorem pos_le (ch fr : Int) : ∀ L : List EV, posE ch fr L ≤ L.length
  | [] => Nat.le_refl _
  | d :: L => by
    have := pos_le ch fr L
    unfold posE
    split <;> simp only [List.length_cons] <;> omega
theorem pos_eq {ch fr : Int} : ∀ {L : List EV} {i : Nat}, i ≤ L.length → (∀ (k : Nat) (d : EV), k < i → L[k]? = some d → ordN d ch fr < 0) → (∀ (k : Nat) (d : EV), i ≤ k → L[k]? = some d → 0 ≤ ordN d ch fr) → i = posE ch fr L
  | [], i, h, _, _ => by simp at h; subst h; rfl
  | d :: L, 0, _, _, p2 => by
    have := p2 0 d (Nat.le_refl _) rfl
    unfold posE
    rw [if_neg (by omega)]
  | d :: L, i + 1, h, p1, p2 => by
    have h0 := p1 0 d (by omega) rfl
    unfold posE
    rw [if_pos h0]
    exact congrArg (· + 1) (pos_eq (L := L) (i := i) (by simpa using h) (fun k x hk hx => p1 (k + 1) x (by omega) (by simpa using hx)) (fun k x hk hx => p2 (k + 1) x (by omega) (by simpa using hx)))
theorem pos_ahead {ch fr : Int} : ∀ {L : List EV} {k : Nat} {d : EV}, k < posE ch fr L → L[k]? = some d → ordN d ch fr < 0
  | [], k, d, h, _ => by simp [posE] at h
  | x :: L, 0, d, h, hd => by
    cases hd
    unfold posE at h
    split at h
    · assumption
    · omega
  | x :: L, k + 1, d, h, hd => by
    unfold posE at h
    split at h
    · exact pos_ahead (L := L) (k := k) (by omega) (by simpa using hd)
    · omega
/-- behind the place none is less, in a row that is in order -/
theorem pos_behind {ch fr : Int} : ∀ {L : List EV}, srt L → ∀ {k : Nat} {d : EV}, posE ch fr L ≤ k → L[k]? = some d → 0 ≤ ordN d ch fr
  | [], _, k, d, _, hd => by simp at hd
  | x :: L, hs, k, d, h, hd => by
    unfold posE at h
    split at h
    · cases k with
      | zero => omega
      | succ k => exact pos_behind (L := L) (fun i j a b hij ha hb => hs (i + 1) (j + 1) a b (by omega) (by simpa using ha) (by simpa using hb)) (k := k) (by omega) (by simpa using hd)
    · rename_i h0
      cases k with
      | zero => cases hd; omega
      | succ k =>
        have hl := hs 0 (k + 1) x d (by omega) rfl hd; have e1 := ord_lt x ch fr; have e2 := ord_lt d ch fr
        unfold ltE at hl
        omega
/-- numbers that a program's edge has -/
structure EN (e : EV) : Prop where
  b : e.q.b ≤ 9223372036854775807
  cap : e.cap ≤ 9223372036854775807
  g1 : -9223372036854775808 ≤ e.p.gat
  g2 : e.p.gat ≤ 9223372036854775807
  h1 : -9223372036854775808 ≤ e.p.bat
  h2 : e.p.bat ≤ 9223372036854775807
theorem EN.eb {e : EV} (h : EN e) (hm : mayE e = true) : EB e := ⟨hm, h.b, h.cap, h.g1, h.g2, h.h1, h.h2⟩
/-- a graph's edges are so, always -/
structure GI (L : List EV) : Prop where
  s : srt L
  n : L.length ≤ 64
  b : ∀ e ∈ L, EB e
def setN (L : List EV) (e : EV) : Int × List EV :=
  if mayE e = true then match atE e.ch e.fr L with
    | some j => (0, L.set j e)
    | none => if 64 ≤ L.length then (2, L) else (0, insE L (posE e.ch e.fr L) e)
  else (1, L)
def remN (L : List EV) (ch fr : Int) : Int × List EV :=
  match atE ch fr L with
  | some j => (0, L.eraseIdx j)
  | none => (4, L)
def lrnL (L : List EV) (ch fr a t : Int) (g : Bool) : Int × List EV :=
  match atE ch fr L with
  | some j => match L[j]? with
    | some d => (0, L.set j { d with p := lrnN d.p a t g })
    | none => (4, L)
  | none => (4, L)
/-- no edge -/
def NE : EV := ⟨0, 0, 0, 0, ⟨0, 0, 0, 0, 0⟩, ⟨0, 0, 0, 0⟩⟩
def getN (L : List EV) (ch fr : Int) : EV × Bool :=
  match atE ch fr L with
  | some j => match L[j]? with
    | some d => (d, true)
    | none => (NE, false)
  | none => (NE, false)
theorem mem_set_or {L : List EV} {j : Nat} {e x : EV} (h : x ∈ L.set j e) : x = e ∨ x ∈ L := by
  rcases List.mem_or_eq_of_mem_set h with h | h
  · exact .inr h
  · exact .inl h
theorem srt_set {L : List EV} {j : Nat} {d e : EV} (hs : srt L) (hd : L[j]? = some d) (hk : d.ch = e.ch ∧ d.fr = e.fr) : srt (L.set j e) := by
  intro a b x y hab hx hy; have hj := (List.getElem?_eq_some_iff.1 hd).1
  have key : ∀ (k : Nat) (z : EV), (L.set j e)[k]? = some z → ∃ z', L[k]? = some z' ∧ z'.ch = z.ch ∧ z'.fr = z.fr := by
    intro k z hz
    by_cases h : j = k
    · subst h
      rw [List.getElem?_set_self hj] at hz
      cases hz
      exact ⟨d, hd, hk⟩
    · rw [List.getElem?_set_ne h] at hz
      exact ⟨z, hz, rfl, rfl⟩
  obtain ⟨x', hx', e1, e2⟩ := key a x hx; obtain ⟨y', hy', e3, e4⟩ := key b y hy
  have := hs a b x' y' hab hx' hy'
  unfold ltE at this ⊢
  rw [← e1, ← e2, ← e3, ← e4]; exact this
theorem srt_erase {L : List EV} {j : Nat} (hs : srt L) : srt (L.eraseIdx j) := by
  intro a b x y hab hx hy; rw [List.getElem?_eraseIdx] at hx hy
  split at hx <;> split at hy
  · exact hs _ _ x y hab hx hy
  · exact hs _ _ x y (by omega) hx hy
  · omega
  · exact hs _ _ x y (by omega) hx hy
theorem ins_at {L : List EV} {i k : Nat} {e : EV} (hi : i ≤ L.length) : (insE L i e)[k]? = if k < i then L[k]? else if k = i then some e else L[k - 1]? := by
  unfold insE
  have hl : (L.take i).length = i := by rw [List.length_take]; omega
  split
  · rename_i h
    rw [List.getElem?_append_left (by omega), List.getElem?_take_of_lt h]
  · rename_i h
    rw [List.getElem?_append_right (by omega), hl]
    split
    · rename_i h2
      subst h2
      simp
    · rename_i h2
      obtain ⟨m, hm⟩ : ∃ m, k - i = m + 1 := ⟨k - i - 1, by omega⟩; rw [hm, List.getElem?_cons_succ, List.getElem?_drop]
      congr 1
      omega
theorem srt_ins {L : List EV} {e : EV} (hs : srt L) (hno : noE L e.ch e.fr) : srt (insE L (posE e.ch e.fr L) e) := by
  have hi := pos_le e.ch e.fr L
  have hlt : ∀ (k : Nat) (d : EV), k < posE e.ch e.fr L → L[k]? = some d → ltE d e := fun k d hk hd => by
    have := pos_ahead hk hd
    exact (ord_lt d e.ch e.fr).1 this
  have hgt : ∀ (k : Nat) (d : EV), posE e.ch e.fr L ≤ k → L[k]? = some d → ltE e d := fun k d hk hd => by
    have h1 := pos_behind hs hk hd; have h2 := hno d (List.mem_of_getElem? hd); have h3 := ord_lt d e.ch e.fr
    unfold ltE
    omega
  intro a b x y hab hx hy; rw [ins_at hi] at hx hy
  split at hx
  · split at hy
    · exact hs _ _ x y hab hx hy
    · split at hy
      · cases hy
        exact hlt _ x (by assumption) hx
      · exact hs a (b - 1) x y (by omega) hx hy
  · split at hx
    · cases hx
      rw [if_neg (by omega), if_neg (by omega)] at hy; exact hgt _ y (by omega) hy
    · rw [if_neg (by omega), if_neg (by omega)] at hy
      exact hs (a - 1) (b - 1) x y (by omega) hx hy
theorem mem_ins {L : List EV} {i : Nat} {e x : EV} (h : x ∈ insE L i e) : x = e ∨ x ∈ L := by
  unfold insE at h
  rcases List.mem_append.1 h with h | h
  · exact .inr (List.mem_of_mem_take h)
  · rcases List.mem_cons.1 h with h | h
    · exact .inl h
    · exact .inr (List.mem_of_mem_drop h)
theorem GI.set {L : List EV} {e : EV} (h : GI L) (he : EN e) : GI (setN L e).2 := by
  unfold setN
  split
  · rename_i hm
    split
    · rename_i j hj
      obtain ⟨d, hd, hk⟩ := at_some hj; exact ⟨srt_set h.s hd hk, by rw [List.length_set]; exact h.n, fun x hx => (mem_set_or hx).elim (fun e => e ▸ he.eb hm) (h.b x)⟩
    · rename_i hj
      split
      · exact h
      · exact ⟨srt_ins h.s (at_none hj), by show (insE L _ e).length ≤ 64; rw [insE_len (pos_le _ _ _)]; omega, fun x hx => (mem_ins hx).elim (fun q => q ▸ he.eb hm) (h.b x)⟩
  · exact h
theorem GI.rem {L : List EV} {ch fr : Int} (h : GI L) : GI (remN L ch fr).2 := by
  unfold remN
  split
  · exact ⟨srt_erase h.s, Nat.le_trans (List.length_eraseIdx_le L _) h.n, fun x hx => h.b x (List.mem_of_mem_eraseIdx hx)⟩
  · exact h
theorem lrn_eb {d : EV} {a t : Int} {g : Bool} (h : EB d) (t1 : -9223372036854775808 ≤ t) (t2 : t ≤ 9223372036854775807) : EB { d with p := lrnN d.p a t g } := by
  obtain ⟨h0, h1, h2, h3, h4, h5, h6⟩ := h; refine ⟨h0, h1, h2, ?_, ?_, ?_, ?_⟩ <;> (dsimp only; unfold lrnN; repeat' split) <;> (try dsimp only) <;> (first | assumption | decide | omega)
theorem GI.lrn {L : List EV} {ch fr a t : Int} {g : Bool} (h : GI L) (t1 : -9223372036854775808 ≤ t) (t2 : t ≤ 9223372036854775807) : GI (lrnL L ch fr a t g).2 := by
  unfold lrnL
  split
  · rename_i j hj
    split
    · rename_i d hd
      exact ⟨srt_set h.s hd ⟨rfl, rfl⟩, by rw [List.length_set]; exact h.n, fun x hx => (mem_set_or hx).elim (fun q => q ▸ lrn_eb (h.b d (List.mem_of_getElem? hd)) t1 t2) (h.b x)⟩
    · exact h
  · exact h
theorem GI.nil : GI [] := ⟨fun _ _ _ _ _ h _ => by simp at h, by decide, fun _ h => by cases h⟩
/-- a graph: its box, and the row of its edges -/
def Gq (W : World) (g b : Nat) (L : List EV) : Prop := ∃ c, W.heap[g]? = some (.cells #[.slice (some ⟨b, 0, none⟩) L.length c] 105) ∧ W.ownsRow 0 49 13 (.slice (some ⟨b, 0, none⟩) L.length c) L.length (cE L)
theorem Gq.gr {W : World} {g b : Nat} {L : List EV} (h : Gq W g b L) : Gr W 0 g L := by
  obtain ⟨c, h1, h2⟩ := h; exact ⟨b, c, h1, Nat.zero_le _, h2⟩
theorem Gr.gq {W : World} {g base : Nat} {L : List EV} (h : Gr W base g L) : ∃ b, base ≤ b ∧ Gq W g b L := by
  obtain ⟨b, c, h1, h2, h3⟩ := h; exact ⟨b, own_ge h3 rfl, c, h1, own_base h3 (Nat.zero_le _)⟩
theorem Gq.keep {W W' : World} {g b : Nat} {L : List EV} (h : Gq W g b L) (hB : Below W.heap.size W W') : Gq W' g b L := by
  obtain ⟨c, h1, h2⟩ := h; exact ⟨c, Proofs.Ytgnkcmmpbohafaa.keep hB h1, own_keep h2 hB⟩
theorem Gq.keepK {W W' : World} {F : Nat → Prop} {g b : Nat} {L : List EV} (h : Gq W g b L) (hK : Kept F W W') (h1 : ¬ F g) (h2 : ¬ F b) : Gq W' g b L := by
  obtain ⟨c, k1, k2⟩ := h; refine ⟨c, Proofs.Ytgnkcmmpbohafaa.keepK hK k1 h1, own_keepK k2 hK (fun q hq => ?_)⟩
  cases hq
  exact h2
theorem Gq.lt {W : World} {g b : Nat} {L : List EV} (h : Gq W g b L) : g < W.heap.size ∧ b < W.heap.size := by
  obtain ⟨c, k1, k2⟩ := h; obtain ⟨cur, kb⟩ := own_blk k2; exact ⟨lt_of k1, lt_of kb⟩
/-- a block of another type is none of a graph's -/
theorem Gq.ne {W : World} {g b k T : Nat} {L : List EV} {C : Array Value} (h : Gq W g b L) (hk : W.heap[k]? = some (.cells C T)) (h1 : T ≠ 105) (h2 : T ≠ 49) : ¬ (k = g ∨ k = b) := by
  obtain ⟨c, k1, k2⟩ := h; obtain ⟨cur, kb⟩ := own_blk k2; rintro (e | e)
  · exact ne_tag hk k1 h1 e
  · exact ne_tag hk kb h2 e
theorem Kept.ofBelow {F : Nat → Prop} {W W' : World} (h : Below W.heap.size W W') : Kept F W W' := ⟨h.os, h.tape, h.output, h.size, fun k hk _ => h.block k hk⟩
end Go.Proofs.Ytgnkcmmpbohafaa
