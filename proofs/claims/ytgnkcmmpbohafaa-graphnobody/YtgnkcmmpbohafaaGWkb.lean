/- What a search has in memory: the way, what is left, where one was. -/
import Derived.Test.YtgnkcmmpbohafaaGSee
import Derived.Scope
namespace Go.Proofs.Ytgnkcmmpbohafaa
open Go.RowKit
set_option linter.unusedVariables false
set_option linter.unusedSimpArgs false
set_option maxRecDepth 100000
theorem ng_ret {Q : Exit → Act → World → Prop} {a : Act} {w : World} (h : Q .ret a w) : Exit.noGoto Q .ret a w := h
/-- the edge that comes from nowhere -/
def E0 (v : WV) : EV := ⟨0, 0, v.fr, 0, ⟨0, 0, 0, 0, 0⟩, ⟨0, 0, 0, 0⟩⟩
/-- where one was: a flag for each node -/
def goA (l : List Int) : List Value := (List.range 8).map fun j : Nat => .bool (decide ((j : Int) ∈ l))
theorem goA_nil : (goA []).toArray = #[.bool false, .bool false, .bool false, .bool false, .bool false, .bool false, .bool false, .bool false] := rfl
theorem goA_at (l : List Int) (k : Nat) (hk : k < 8) : (goA l).toArray[k]? = some (.bool (decide ((k : Int) ∈ l))) := by simp [goA, hk]
theorem goA_put (l : List Int) (k : Nat) (hk : k < 8) : (goA l).set k (.bool true) = goA ((k : Int) :: l) := by
  apply List.ext_getElem?
  intro j
  rw [List.getElem?_set]
  unfold goA
  by_cases e : k = j
  · subst e
    simp [hk]
  · have e2 : ¬ (j : Int) = k := by omega
    by_cases hj : j < 8
    · simp [e, e2, hj]
    · simp [e, hj]
theorem goA_cut (l : List Int) (k : Nat) (hk : k < 8) (hn : ¬ (k : Int) ∈ l) : (goA ((k : Int) :: l)).set k (.bool false) = goA l := by
  apply List.ext_getElem?
  intro j
  rw [List.getElem?_set]
  unfold goA
  by_cases e : k = j
  · subst e
    simp [hk, hn]
  · have e2 : ¬ (j : Int) = k := by omega
    by_cases hj : j < 8
    · simp [e, e2, hj]
    · simp [e, hj]
/-- the way: a row with room for nine edges -/
def Wy (W : World) (b : Nat) (p : List EV) : Prop := ∃ cur, W.heap[b]? = some (.cells cur 49) ∧ cur.size = 117 ∧ p.length ≤ 9 ∧ cur.toList.take (p.length * 13) = cE p
section
variable {W W' : World} {b : Nat} {p : List EV}
theorem Wy.keep (h : Wy W b p) (hB : Below W.heap.size W W') : Wy W' b p := by
  obtain ⟨cur, h1, h2⟩ := h
  exact ⟨cur, Proofs.Ytgnkcmmpbohafaa.keep hB h1, h2⟩
theorem Wy.keepK {F : Nat → Prop} (h : Wy W b p) (hK : Kept F W W') (hF : ¬ F b) : Wy W' b p := by
  obtain ⟨cur, h1, h2⟩ := h
  exact ⟨cur, Proofs.Ytgnkcmmpbohafaa.keepK hK h1 hF, h2⟩
theorem Wy.ne {k T : Nat} {C : Array Value} (h : Wy W b p) (hk : W.heap[k]? = some (.cells C T)) (hT : T ≠ 49) : ¬ b = k := fun e => by
  obtain ⟨cur, h1, _⟩ := h
  exact ne_tag hk h1 hT e.symm
theorem Wy.range (h : Wy W b p) : W.rangeAt b 0 (cE p) := fun j v hv => by
  obtain ⟨cur, h1, h2, h3, h4⟩ := h
  rw [Nat.zero_add]
  refine at_cell h1 ?_
  rw [← h4, List.getElem?_take] at hv
  split at hv
  · simpa using hv
  · cases hv
theorem Wy.cut {q : List EV} (h : Wy W b (p ++ q)) : Wy W b p := by
  obtain ⟨cur, h1, h2, h3, h4⟩ := h
  refine ⟨cur, h1, h2, by simp at h3; omega, ?_⟩
  rw [cE_app] at h4
  have h5 := congrArg (List.take (p.length * 13)) h4
  rw [List.take_take, List.length_append, Nat.min_eq_left (by omega), List.take_left' (by rw [cE_len])] at h5
  exact h5
/-- one more -/
theorem Wy.add {xb xo : Nat} {e : EV} (h : Wy W b p) (hp : p.length ≤ 8) (hx : W.rangeAt xb xo (EL e).toList) : ∃ W', (Builtin.append_ #[33, 33] 33 #[.slice (some ⟨b, 0, none⟩) p.length 9, .slice (some ⟨xb, xo, none⟩) 1 1]).run Try.prog W = .ok (.slice (some ⟨b, 0, none⟩) (p.length + 1) 9) W' ∧ Wy W' b (p ++ [e]) ∧ Kept (· = b) W W' := by
  obtain ⟨cur, h1, h2, h3, h4⟩ := h
  obtain ⟨i0, hi, hz0, hz1, hz2⟩ := info_parts Try.inf49b
  have hr := run_append_room (P := Try.prog) W 33 33 49 i0 Try.underlying33 hi b p.length 9 cur h1 ⟨xb, xo, none⟩ 1 1 (EL e).toList (by rw [hz1]; rfl) (fun j u hu => by rw [Addr.add_mid]; exact hx j u hu) (by rw [← cE_one]; exact cE_one1 [e]) (by omega) (by rw [hz1, h2]; show p.length * 13 + 13 ≤ 117; omega)
  rw [hz1] at hr
  refine ⟨_, hr, ⟨_, setRow_heap W b cur _ _ _ h1, ?_, by simp; omega, ?_⟩, ⟨rfl, rfl, rfl, by simp, fun k _ hk => setRow_other W b k _ hk⟩⟩
  · have hE : (EL e).size = 13 := rfl
    simp only [List.size_toArray, List.length_append, List.length_take, List.length_drop, Array.length_toList, h2, hE]
    omega
  · simp only [List.length_append, List.length_cons, List.length_nil]
    rw [cE_app, cE_one, ← h4]
    have hl : (cur.toList.take (p.length * 13) ++ (EL e).toList).length = (p.length + (0 + 1)) * 13 := by
      have hcl : cur.toList.length = 117 := by rw [Array.length_toList]; exact h2
      rw [List.length_append, List.length_take, hcl, EL_size]
      omega
    rw [← hl]
    exact List.take_left
end
/-- a place of the stack: the edge that led there, what is left to be looked at, where that lies -/
structure SF where
  e : EV
  l : List EV
  a : Option Addr
  c : Nat
def toSt (s : List SF) : St := s.map fun f => (f.e, f.l)
def lvF (f : SF) : Value := .slice f.a f.l.length f.c
def xsF (s : List SF) : List Value := (s.map lvF).reverse
def wayF (s : List SF) : List EV := (s.map (·.e)).reverse
def SSs (W : World) (N : Nat) (s : List SF) : Prop := ∀ f ∈ s, Es W N f.a f.l ∧ f.l.length ≤ f.c
theorem xsF_len (s : List SF) : (xsF s).length = s.length := by simp [xsF]
theorem wayF_len (s : List SF) : (wayF s).length = s.length := by simp [wayF]
theorem xsF_cons (f : SF) (s : List SF) : xsF (f :: s) = xsF s ++ [lvF f] := by simp [xsF]
theorem wayF_cons (f : SF) (s : List SF) : wayF (f :: s) = wayF s ++ [f.e] := by simp [wayF]
theorem pre_way (s : List SF) : pre (toSt s) = (wayF s).drop 1 := by
  unfold pre toSt wayF
  rw [List.map_map]
  rfl
theorem gon_st (s : List SF) : gon (toSt s) = s.map (·.e.to) := by
  unfold gon toSt
  rw [List.map_map]
  rfl
theorem SSs.blk {W W' : World} {N : Nat} {s : List SF} (h : SSs W N s) (hb : ∀ b cur, b < N → W.heap[b]? = some (.cells cur 49) → W'.heap[b]? = W.heap[b]?) : SSs W' N s := fun f hf => ⟨(h f hf).1.blk hb, (h f hf).2⟩
theorem SSs.keep {W W' : World} {N : Nat} {s : List SF} (h : SSs W N s) (hB : Below W.heap.size W W') : SSs W' N s := h.blk fun b _ _ hc => hB.block b (lt_of hc)
theorem SSs.putT {W W' : World} {N k T : Nat} {C : Array Value} {s : List SF} (h : SSs W N s) (hK : Kept (· = k) W W') (hk : W.heap[k]? = some (.cells C T)) (hT : T ≠ 49) : SSs W' N s := fun f hf => ⟨(h f hf).1.keepT hK hk hT, (h f hf).2⟩
theorem SSs.putW {W W' : World} {N k : Nat} {s : List SF} (h : SSs W N s) (hK : Kept (· = k) W W') (hk : N ≤ k) : SSs W' N s := h.blk fun b _ hl hc => hK.block b (lt_of hc) (by omega)
theorem SSs.tail {W : World} {N : Nat} {f : SF} {s : List SF} (h : SSs W N (f :: s)) : SSs W N s := fun g hg => h g (List.mem_cons_of_mem _ hg)
/-- what stays while ways are gone through -/
structure Sta (W : World) (b3 b4 b7 b6 bw N7 base r nw cw : Nat) (v : WV) (ao : Option Addr) (L : List EV) (A : Nat → Option Addr) (K : Nat → Nat) (S : List Int) (B : Option YV) : Prop where
  k3 : W.heap[b3]? = some (.cells (WL_ v ao nw cw) 32)
  k4 : W.heap[b4]? = some (.cells (WL_ v ao nw cw) 32)
  k7 : W.heap[b7]? = some (.cells (rowL L A K 8).toArray 113)
  ro : ∀ j : Nat, j < 8 → Es W N7 (A j) (nxt L j)
  mp : Mp W r S
  bs : Bst W base b6 B
section
variable {W W' : World} {b3 b4 b7 b6 bw N7 base r nw cw : Nat} {v : WV} {ao : Option Addr} {L : List EV} {A : Nat → Option Addr} {K : Nat → Nat} {S : List Int} {B : Option YV}
theorem Sta.keep (h : Sta W b3 b4 b7 b6 bw N7 base r nw cw v ao L A K S B) (hB : Below W.heap.size W W') : Sta W' b3 b4 b7 b6 bw N7 base r nw cw v ao L A K S B :=
  ⟨Proofs.Ytgnkcmmpbohafaa.keep hB h.k3, Proofs.Ytgnkcmmpbohafaa.keep hB h.k4, Proofs.Ytgnkcmmpbohafaa.keep hB h.k7, fun j hj => (h.ro j hj).keepB hB, h.mp.keep hB, h.bs.keep hB⟩
/-- a block that is none of these is stored into -/
theorem Sta.putT {k T : Nat} {C : Array Value} (h : Sta W b3 b4 b7 b6 bw N7 base r nw cw v ao L A K S B) (hK : Kept (· = k) W W') (hk : W.heap[k]? = some (.cells C T)) (hT : T ≠ 32 ∧ T ≠ 113 ∧ T ≠ 49 ∧ T ≠ 36 ∧ T ≠ 3) : Sta W' b3 b4 b7 b6 bw N7 base r nw cw v ao L A K S B := by
  obtain ⟨C6, h6⟩ := h.bs.box
  exact ⟨keepK hK h.k3 (fun e => ne_tag h.k3 hk hT.1.symm e), keepK hK h.k4 (fun e => ne_tag h.k4 hk hT.1.symm e), keepK hK h.k7 (fun e => ne_tag h.k7 hk hT.2.1.symm e), fun j hj => (h.ro j hj).keepT hK hk hT.2.2.1, h.mp.keepT hK hk,
    h.bs.blk (hK.block b6 (lt_of h6) (fun e => ne_tag h6 hk hT.2.2.2.1.symm e)) (fun q D U _ hq hU => hK.block q (lt_of hq) (fun e => by
      refine ne_tag hq hk ?_ e
      rcases hU with rfl | rfl
      · exact hT.2.2.1.symm
      · exact hT.2.2.2.2.symm))⟩
/-- the way is stored into -/
theorem Sta.putW {C : Array Value} (h : Sta W b3 b4 b7 b6 bw N7 base r nw cw v ao L A K S B) (hK : Kept (· = bw) W W') (hk : W.heap[bw]? = some (.cells C 49)) (hN : N7 ≤ bw) (hb : bw < base) : Sta W' b3 b4 b7 b6 bw N7 base r nw cw v ao L A K S B := by
  obtain ⟨C6, h6⟩ := h.bs.box
  exact ⟨keepK hK h.k3 (fun e => ne_tag h.k3 hk (by decide) e), keepK hK h.k4 (fun e => ne_tag h.k4 hk (by decide) e), keepK hK h.k7 (fun e => ne_tag h.k7 hk (by decide) e), fun j hj => (h.ro j hj).keepK hK (fun k hk => by omega), h.mp.keepT hK hk,
    h.bs.blk (hK.block b6 (lt_of h6) (fun e => ne_tag h6 hk (by decide) e)) (fun q D U hq0 hq hU => hK.block q (lt_of hq) (by omega))⟩
/-- a way was seen -/
theorem Sta.see {B' : Option YV} (h : Sta W b3 b4 b7 b6 bw N7 base r nw cw v ao L A K S B) (hK : Kept (· = b6) W W') (hB : Bst W' base b6 B') : Sta W' b3 b4 b7 b6 bw N7 base r nw cw v ao L A K S B' := by
  obtain ⟨C6, h6⟩ := h.bs.box
  exact ⟨keepK hK h.k3 (fun e => ne_tag h.k3 h6 (by decide) e), keepK hK h.k4 (fun e => ne_tag h.k4 h6 (by decide) e), keepK hK h.k7 (fun e => ne_tag h.k7 h6 (by decide) e), fun j hj => (h.ro j hj).keepT hK h6 (by decide), h.mp.keepT hK h6, hB⟩
end
section
variable {W : World} {base e g n c i m : Nat} {xs : List Value} {u : Value}
theorem own_set (h : W.ownsRow base e 1 (.slice (some ⟨g, 0, none⟩) n c) n xs) (hi : i < n) : (∃ old, W.cell? ⟨g, i, none⟩ = some old) ∧ W.frozen? ⟨g, i, none⟩ = false ∧ (W.setCell ⟨g, i, none⟩ u).ownsRow base e 1 (.slice (some ⟨g, 0, none⟩) n c) n (xs.set i u) ∧ Kept (· = g) W (W.setCell ⟨g, i, none⟩ u) := by
  rcases h.2 with ⟨q, _⟩ | ⟨g', cap', cur, q, hb, hh, h1, h2, h3, h4⟩
  · cases q
  · cases q
    have hs : i < cur.size := by omega
    refine ⟨⟨cur[i], at_cell hh (Array.getElem?_eq_getElem hs)⟩, unfrozen hh, ⟨by rw [List.length_set]; exact h.1, .inr ⟨g, c, _, rfl, hb, (put_cell u hh).1, h1, h2, by rw [Array.size_setIfInBounds]; exact h3, ?_⟩⟩, (put_cell u hh).2⟩
    rw [Array.toList_setIfInBounds, List.take_set, h4]
theorem own_cut (h : W.ownsRow base e 1 (.slice (some ⟨g, 0, none⟩) n c) n xs) (hm : m ≤ n) : W.ownsRow base e 1 (.slice (some ⟨g, 0, none⟩) m c) m (xs.take m) := by
  rcases h.2 with ⟨q, _⟩ | ⟨g', cap', cur, q, hb, hh, h1, h2, h3, h4⟩
  · cases q
  · cases q
    have hx := h.1
    refine ⟨by rw [List.length_take]; omega, .inr ⟨g, c, cur, rfl, hb, hh, by omega, h2, h3, ?_⟩⟩
    rw [← h4, List.take_take, Nat.min_eq_left (by omega), Nat.mul_one]
theorem own_cell (h : W.ownsRow base e 1 (.slice (some ⟨g, 0, none⟩) n c) n xs) (hu : xs[i]? = some u) : W.cell? ⟨g, i, none⟩ = some u := by
  have := World.ownsRow.cells h (g := g) rfl i u hu
  rw [Addr.add_mid, Nat.zero_add] at this
  exact this
end
/-- behind the first one -/
theorem Es_tail {W : World} {N b o c : Nat} {e : EV} {l : List EV} (h : Es W N (some ⟨b, o, none⟩) (e :: l)) (hc : (e :: l).length ≤ c) : Es W N (some ⟨b, if c = 1 then o else o + 1 * 13, none⟩) l := by
  cases l with
  | nil => exact .inl rfl
  | cons d l =>
    rcases h with h | ⟨b', o', q, hl, hcur, hr⟩
    · cases h
    · cases q
      refine .inr ⟨b, o + 1 * 13, ?_, hl, hcur, range_drop hr (k := 1) (by simp)⟩
      rw [if_neg (by simp at hc; omega)]
theorem Try.inf49z : (Try.prog.info? 49).map (fun i => (i.zero, i.size)) = some (some (.agg #[.int .i64 0, .int .i64 0, .int .i64 0, .int .i64 0, .int .i64 0, .int .i64 0, .int .i64 0, .int .i64 0, .int .i64 0, .int .i64 0, .int .i64 0, .int .i64 0, .int .i64 0]), 13) := by kernel_rfl
section
variable {o : Oper} {a : Act} {W : World}
theorem ex_mkW {x y : Operand} (ho : o.op = .makeSlice 33 x y) (hx : a.eval x = .int .i64 0) (hy : a.eval y = .int .i64 9) : (execOp a.eval o).run Try.prog W = .ok (.value (.slice (some ⟨W.heap.size, 0, none⟩) 0 9)) (W.alloc (.cells (List.replicate 117 (Value.int .i64 0)).toArray 49)) := by
  obtain ⟨i0, hi, hz0, hz1, hz2⟩ := info_parts Try.inf49b
  have h := run_make (P := Try.prog) W 33 49 i0 _ Try.underlying33 hi hz0 .i64 .i64 0 9 (by omega) (by omega) (by rw [hz2]; omega) (by omega)
  rw [hz1] at h
  have e : madeCells (Value.agg #[.int .i64 0, .int .i64 0, .int .i64 0, .int .i64 0, .int .i64 0, .int .i64 0, .int .i64 0, .int .i64 0, .int .i64 0, .int .i64 0, .int .i64 0, .int .i64 0, .int .i64 0]).cells ((9 : Int).toNat * 13) = (List.replicate 117 (Value.int .i64 0)).toArray := by kernel_rfl
  rw [e] at h
  unfold execOp
  simp only [ho, hx, hy]
  simp [h]
theorem ex_cutw {x y : Operand} {b n : Nat} (ho : o.op = .slice 33 x (some y) none none) (hx : a.eval x = .slice (some ⟨b, 0, none⟩) (n + 1) 9) (hy : a.eval y = .int .i64 1) (hn : n ≤ 8) : (execOp a.eval o).run Try.prog W = .ok (.value (.slice (some ⟨b, 13, none⟩) n 8)) W := by
  have h := ex_cutl (W := W) (k := 1) ho hx hy rfl (by omega) (by omega)
  rw [h, if_neg (by decide)]
  rfl
end
theorem bE0 (v : WV) (W : World) : (Instr.build 49 #[(2, .int .i64 v.fr)]).run Try.prog W = .ok (.agg (EL (E0 v))) W := run_build W 49 _ _ (by kernel_rfl)
theorem bslS (x : Option Addr) (n c : Nat) (W : World) : (Instr.buildSlice 118 1 #[(0, .slice x n c)]).run Try.prog W = .ok (.slice (some ⟨W.heap.size, 0, none⟩) 1 1) (W.alloc (.cells #[.slice x n c] 33)) := bslice W 118 33 1 _ _ (.slice none 0 0) 1 Try.underlying118 (by kernel_rfl) (by decide) (by decide) (by kernel_rfl)
end Go.Proofs.Ytgnkcmmpbohafaa
