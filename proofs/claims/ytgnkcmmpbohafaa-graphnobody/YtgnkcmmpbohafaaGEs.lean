/- Edges as cells; edges that lie in a row. -/
import Derived.Test.YtgnkcmmpbohafaaGOp2
import Derived.Maps.AppendAt
namespace Go.Proofs.Ytgnkcmmpbohafaa
open Go.RowKit
set_option linter.unusedVariables false
set_option linter.unusedSimpArgs false
set_option maxRecDepth 100000
def RL (q : RV) : Array Value := #[.int .i64 q.b, .int .i64 q.r, .int .i64 q.d, .int .i64 q.g, .int .i64 q.f]
def FL (q : RV) : Array Value := #[.int .i64 q.b, .int .i64 q.r]
def EL (e : EV) : Array Value := #[.int .i64 e.ch, .int .i64 e.fr, .int .i64 e.to, .int .i64 e.cap, .int .i64 e.q.b, .int .i64 e.q.r, .int .i64 e.q.d, .int .i64 e.q.g, .int .i64 e.q.f, .int .i64 e.p.good, .int .i64 e.p.gat, .int .i64 e.p.bad, .int .i64 e.p.bat]
/-- what is wanted, as cells; ao, n, c: what is avoided -/
def WL_ (w : WV) (ao : Option Addr) (n c : Nat) : Array Value := #[.int .i64 w.fr, .int .i64 w.to, .int .i64 w.am, .int .i64 w.la, .int .i64 w.ti, .slice ao n c, .int .i64 w.mo]
def cE (L : List EV) : List Value := L.flatMap fun e => (EL e).toList
theorem EL_size (e : EV) : (EL e).toList.length = 13 := rfl
theorem cE_cons (e : EV) (L : List EV) : cE (e :: L) = (EL e).toList ++ cE L := by simp [cE]
theorem cE_app (L M : List EV) : cE (L ++ M) = cE L ++ cE M := by simp [cE]
theorem cE_one (e : EV) : cE [e] = (EL e).toList := by simp [cE]
theorem cE_len : ∀ L : List EV, (cE L).length = L.length * 13
  | [] => rfl
  | e :: L => by rw [cE_cons, List.length_append, EL_size, cE_len L, List.length_cons]; omega
theorem cE_one1 (L : List EV) : ∀ u ∈ cE L, u.oneCell' = true := fun u hu => by
  obtain ⟨e, _, h⟩ := List.mem_flatMap.1 hu
  have : (EL e).toList.all (·.oneCell') = true := by kernel_rfl
  exact List.all_eq_true.1 this u h
/-- the k-th edge's cells -/
theorem cE_at : ∀ (L : List EV) (k : Nat) (e : EV), L[k]? = some e → ∀ j v, (EL e).toList[j]? = some v → (cE L)[k * 13 + j]? = some v
  | [], _, _, h, _, _, _ => by simp at h
  | d :: L, 0, e, h, j, v, hv => by
    have : d = e := by simpa using h
    subst this
    rw [cE_cons, Nat.zero_mul, Nat.zero_add, List.getElem?_append_left]
    · exact hv
    · exact (List.getElem?_eq_some_iff.1 hv).1
  | d :: L, k + 1, e, h, j, v, hv => by
    rw [cE_cons, List.getElem?_append_right (by rw [EL_size]; omega), EL_size, show (k + 1) * 13 + j - 13 = k * 13 + j by omega]
    exact cE_at L k e (by simpa using h) j v hv
theorem cE_drop (L : List EV) (k : Nat) (h : k ≤ L.length) : cE (L.drop k) = (cE L).drop (k * 13) := by
  have e : cE L = cE (L.take k) ++ cE (L.drop k) := by rw [← cE_app, List.take_append_drop]
  rw [e, List.drop_left' (by rw [cE_len, List.length_take]; rw [Nat.min_eq_left h])]
theorem cE_take (L : List EV) (k : Nat) (h : k ≤ L.length) : cE (L.take k) = (cE L).take (k * 13) := by
  have e : cE L = cE (L.take k) ++ cE (L.drop k) := by rw [← cE_app, List.take_append_drop]
  rw [e, List.take_left' (by rw [cE_len, List.length_take]; rw [Nat.min_eq_left h])]
/-- these edges lie there, in a block below N -/
def Es (W : World) (N : Nat) (ao : Option Addr) (L : List EV) : Prop := L = [] ∨ ∃ b o, ao = some ⟨b, o, none⟩ ∧ b < N ∧ (∃ cur, W.heap[b]? = some (.cells cur 49)) ∧ W.rangeAt b o (cE L)
section
variable {W W' : World} {N M b o : Nat} {ao : Option Addr} {L : List EV}
theorem range_lt {cs : List Value} (h : W.rangeAt b o cs) (hc : cs ≠ []) : b < W.heap.size := by
  cases cs with
  | nil => exact absurd rfl hc
  | cons v r => exact block_lt_of_cell (h 0 v rfl)
theorem cE_ne (h : L ≠ []) : cE L ≠ [] := fun e => by
  have := cE_len L
  rw [e] at this
  cases L with
  | nil => exact h rfl
  | cons a r => simp at this
theorem range_cell {cs : List Value} (h : W.rangeAt b o cs) (hK : ∀ k, W'.cell? ⟨b, k, none⟩ = W.cell? ⟨b, k, none⟩) : W'.rangeAt b o cs := fun j v hv => (hK _).trans (h j v hv)
theorem cell_blk (hb : W'.heap[b]? = W.heap[b]?) (k : Nat) : W'.cell? ⟨b, k, none⟩ = W.cell? ⟨b, k, none⟩ := by
  unfold World.cell?
  rw [hb]
theorem Es.blk (h : Es W N ao L) (hb : ∀ b cur, b < N → W.heap[b]? = some (.cells cur 49) → W'.heap[b]? = W.heap[b]?) : Es W' N ao L := by
  rcases h with h | ⟨b, o, e, hl, ⟨cur, hc⟩, h⟩
  · exact .inl h
  · have := hb b cur hl hc
    exact .inr ⟨b, o, e, hl, ⟨cur, this.trans hc⟩, range_cell h (cell_blk this)⟩
theorem Es.keep (h : Es W N ao L) (hB : Below M W W') (hM : N ≤ M) : Es W' N ao L := h.blk fun b _ hl _ => hB.block b (by omega)
theorem Es.keepB (h : Es W N ao L) (hB : Below W.heap.size W W') : Es W' N ao L := h.blk fun b _ _ hc => hB.block b (lt_of hc)
theorem Es.keepK {F : Nat → Prop} (h : Es W N ao L) (hK : Kept F W W') (hF : ∀ k, k < N → ¬ F k) : Es W' N ao L := h.blk fun b _ hl hc => hK.block b (lt_of hc) (hF b hl)
/-- a block of another type is stored into -/
theorem Es.keepT {k T : Nat} {C : Array Value} (h : Es W N ao L) (hK : Kept (· = k) W W') (hk : W.heap[k]? = some (.cells C T)) (hT : T ≠ 49) : Es W' N ao L := h.blk fun b cur _ hc => hK.block b (lt_of hc) (fun e => ne_tag hk hc hT e.symm)
theorem Es.mono (h : Es W N ao L) (hM : N ≤ M) : Es W M ao L := by
  rcases h with h | ⟨b, o, e, hl, h⟩
  · exact .inl h
  · exact .inr ⟨b, o, e, by omega, h⟩
theorem Es.top (h : Es W N ao L) : Es W W.heap.size ao L := by
  rcases h with h | ⟨b, o, e, hl, ⟨cur, hc⟩, h⟩
  · exact .inl h
  · exact .inr ⟨b, o, e, lt_of hc, ⟨cur, hc⟩, h⟩
/-- the k-th of them -/
theorem range_at (h : W.rangeAt b o (cE L)) {k : Nat} {e : EV} (hk : L[k]? = some e) : W.rangeAt b (o + k * 13) (EL e).toList := fun j v hv => by
  have := h (k * 13 + j) v (cE_at L k e hk j v hv)
  rw [Nat.add_assoc]
  exact this
theorem range_drop (h : W.rangeAt b o (cE L)) {k : Nat} (hk : k ≤ L.length) : W.rangeAt b (o + k * 13) (cE (L.drop k)) := fun j v hv => by
  rw [cE_drop L k hk, List.getElem?_drop] at hv
  rw [Nat.add_assoc]
  exact h _ v hv
theorem range_take (h : W.rangeAt b o (cE L)) {k : Nat} (hk : k ≤ L.length) : W.rangeAt b o (cE (L.take k)) := fun j v hv => by
  rw [cE_take L k hk, List.getElem?_take] at hv
  split at hv
  · exact h _ v hv
  · cases hv
end
theorem Try.inf49b : (Try.prog.info? 49).map (fun i => (i.zero, i.size, i.bytes)) = some (some (.agg #[.int .i64 0, .int .i64 0, .int .i64 0, .int .i64 0, .int .i64 0, .int .i64 0, .int .i64 0, .int .i64 0, .int .i64 0, .int .i64 0, .int .i64 0, .int .i64 0, .int .i64 0]), 13, 104) := by kernel_rfl
theorem Try.inf33b : (Try.prog.info? 33).map (fun i => (i.zero, i.size, i.bytes)) = some (some (.slice none 0 0), 1, 24) := by kernel_rfl
theorem Try.inf34b : (Try.prog.info? 34).map (fun i => (i.zero, i.size, i.bytes)) = some (some (.float .f64 0), 1, 8) := by kernel_rfl
/-- a row of one's own that grows, wherever what is added lies -/
theorem own_add {W : World} {base e size n m c t bytes xb xo : Nat} {v z : Value} {xs D : List Value} (h : W.ownsRow base e size v n xs) (hD : W.rangeAt xb xo D) (hl : D.length = m * size) (h1 : ∀ u ∈ D, u.oneCell' = true) (ht : Try.prog.underlying t = some (.slice e)) (hi : (Try.prog.info? e).map (fun i => (i.zero, i.size, i.bytes)) = some (some z, size, bytes)) (hz : z.cells.size = size) (hsz : 0 < size) (hm : 0 < m) (hn : (n + m) * bytes ≤ 140737488355328) (hn2 : n + m ≤ maxLen) (hbase : base ≤ W.heap.size) :
    ∃ g' cap' W', (Builtin.append_ #[t, t] t #[v, .slice (some ⟨xb, xo, none⟩) m c]).run Try.prog W = .ok (.slice (some ⟨g', 0, none⟩) (n + m) cap') W' ∧ W'.ownsRow base e size (.slice (some ⟨g', 0, none⟩) (n + m) cap') (n + m) (xs ++ D) ∧ Kept (fun k => v.ownBlock = some k) W W' ∧ (v.ownBlock = some g' ∨ g' = W.heap.size) := by
  cases hq : Try.prog.info? e with
  | none => rw [hq] at hi; cases hi
  | some ie =>
    rw [hq] at hi
    simp only [Option.map_some, Option.some.injEq, Prod.mk.injEq] at hi
    obtain ⟨hz0, hz1, hz2⟩ := hi
    obtain ⟨v', w', hrun, hown, hg, hnil, hloc⟩ := run_append_own_at (P := Try.prog) W base t t e ie z size bytes ht hq hz0 hz1 hz2 hz hsz v n xs h ⟨xb, xo, none⟩ m c D hl
      (fun j u hu => by rw [Addr.add_mid]; exact hD j u hu) h1 hn2 hn hbase
    rcases hown.2 with ⟨_, e⟩ | ⟨g', cap', cur, rfl, hb, hh, r⟩
    · omega
    · refine ⟨g', cap', w', hrun, hown, Kept.ofGrown hg, ?_⟩
      rcases hloc with h | h
      · exact .inl (h ▸ rfl)
      · right
        have : some g' = some W.heap.size := h
        exact Option.some.inj this
theorem own_nil (W : World) (base e size : Nat) : W.ownsRow base e size (.slice none 0 0) 0 [] := World.ownsRow_nil W base e size
section
variable {W W' : World} {base e size n : Nat} {v : Value} {xs : List Value}
theorem own_keep (h : W.ownsRow base e size v n xs) (hB : Below W.heap.size W W') : W'.ownsRow base e size v n xs := by
  refine ⟨h.1, ?_⟩
  rcases h.2 with e | ⟨g', cap', cur, e, hb, hh, r⟩
  · exact .inl e
  · exact .inr ⟨g', cap', cur, e, hb, keep hB hh, r⟩
theorem own_keepK {F : Nat → Prop} (h : W.ownsRow base e size v n xs) (hB : Kept F W W') (hn : ∀ g, v.ownBlock = some g → ¬ F g) : W'.ownsRow base e size v n xs := by
  refine ⟨h.1, ?_⟩
  rcases h.2 with e | ⟨g', cap', cur, e, hb, hh, r⟩
  · exact .inl e
  · exact .inr ⟨g', cap', cur, e, hb, keepK hB hh (hn g' (by rw [e]; rfl)), r⟩
/-- as a slice -/
theorem own_form (h : W.ownsRow base e size v n xs) : ∃ ao c, v = .slice ao n c ∧ n ≤ c ∧ (n = 0 ∨ ∃ g cur, ao = some ⟨g, 0, none⟩ ∧ base ≤ g ∧ W.heap[g]? = some (.cells cur e) ∧ W.rangeAt g 0 xs) := by
  rcases h.2 with ⟨e, rfl⟩ | ⟨g, cap, cur, rfl, hb, hh, h1, h2, h3, h4⟩
  · exact ⟨none, 0, e, Nat.le_refl _, .inl rfl⟩
  · refine ⟨_, _, rfl, h1, .inr ⟨g, cur, rfl, hb, hh, ?_⟩⟩
    intro j u hu
    have := World.ownsRow.cells h (g := g) rfl j u hu
    rw [Addr.add_mid] at this
    exact this
theorem own_ne (h : W.ownsRow base e size v n xs) {b U : Nat} {C : Array Value} (k : W.heap[b]? = some (.cells C U)) (hU : e ≠ U) : v.ownBlock ≠ some b := fun q => by
  rcases h.2 with ⟨e, rfl⟩ | ⟨g, cap, cur, rfl, hb, hh, r⟩
  · rw [e] at q; cases q
  · have : g = b := by simpa [Value.ownBlock] using q
    rw [this, k] at hh
    cases hh
    exact hU rfl
end
end Go.Proofs.Ytgnkcmmpbohafaa
