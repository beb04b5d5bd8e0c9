/- Some texts, in one. -/
import Derived.Test.YtgnkcmmpbohafaaDoe00
import Derived.Test.YtgnkcmmpbohafaaDoe02
import Derived.Test.YtgnkcmmpbohafaaDoe03
import Derived.Maps.AppendAt
/- Graphs as numbers: edges, ways, what a way costs; all ways from a node, one behind the other; the best of them. -/
namespace Go.Proofs.Ytgnkcmmpbohafaa
open Go.RowKit
set_option linter.unusedVariables false
set_option linter.unusedSimpArgs false
/-- rules, an edge, what is wanted, a way, as numbers -/
structure RV where
  b : Int
  r : Int
  d : Int
  g : Int
  f : Int
structure EV where
  ch : Int
  fr : Int
  to : Int
  cap : Int
  q : RV
  p : PV
structure WV where
  fr : Int
  to : Int
  am : Int
  la : Int
  mo : Int
  ti : Int
  av : List Int
structure YV where
  es : List EV
  am : List Int
  xs : List Int
  fee : Int
  cost : Nat
def mayR (q : RV) : Bool := rightB q.b q.r && decide (1 ≤ q.d) && decide (q.d ≤ 1000) && decide (0 ≤ q.g) && decide (q.g ≤ 1000) && decide (1 ≤ q.f) && decide (q.f ≤ 2147483647)
def nodeB (n : Int) : Bool := decide (0 ≤ n) && decide (n < 8)
def chanB (n : Int) : Bool := decide (1 ≤ n) && decide (n ≤ 65535)
def mayE (e : EV) : Bool := chanB e.ch && (nodeB e.fr && nodeB e.to && decide (¬ e.fr = e.to)) && decide (0 ≤ e.cap) && mayR e.q
def mayW (w : WV) : Bool := (nodeB w.fr && nodeB w.to && decide (¬ w.fr = w.to)) && decide (1 ≤ w.am) && decide (0 ≤ w.la) && decide (w.la ≤ 2147483647) && decide (0 ≤ w.mo)
/-- what goes into the edge ahead of r, and when it expires there -/
def into (w : WV) : List EV → List Int → List Int → Option (Int × Int)
  | [], _, _ => some (w.am, w.la)
  | e :: _, a :: _, x :: _ => if inE e.q.b e.q.r a = 0 then some (inN e.q.b e.q.r a, x + e.q.d) else none
  | _ :: _, _, _ => none
/-- amounts and expiries of edges, if they may be taken -/
def layN (w : WV) : List EV → Option (List Int × List Int)
  | [] => some ([], [])
  | e :: r => (layN w r).bind fun z => (into w r z.1 z.2).bind fun y => if e.cap < y.1 ∨ 2147483647 < y.2 then none else some (y.1 :: z.1, y.2 :: z.2)
/-- the costs of edges; b: what goes into the one ahead -/
def cstN (t : Int) : Option Int → List EV → List Int → List Nat
  | b, e :: r, a :: am => costN (match b with | none => 0 | some c => c - a) (match b with | none => 0 | some _ => e.q.d) (chN e.p a e.cap t) :: cstN t (some a) r am
  | _, _, _ => []
def wayN (w : WV) (es : List EV) : Option YV :=
  (layN w es).bind fun z =>
    if w.mo < z.1.headD w.am - w.am then none
    else if lsN (jn (cstN w.ti none es z.1) 0) 9218868437227405312 then some ⟨es, z.1, z.2, z.1.headD w.am - w.am, jn (cstN w.ti none es z.1) 0⟩ else none
def betB (x : YV) : Option YV → Bool
  | none => true
  | some b => lsN x.cost b.cost || (!lsN b.cost x.cost && decide (x.es.length < b.es.length))
def seeN (w : WV) (B : Option YV) (es : List EV) : Option YV :=
  match wayN w es with
  | none => B
  | some x => if betB x B then some x else B
/-- the edges from a node -/
def nxt (L : List EV) (n : Int) : List EV := L.filter fun e => decide (e.fr = n)
def skip (w : WV) (gone : List Int) (e : EV) : Bool := decide (e.ch ∈ w.av) || decide (e.to ∈ gone)
/-- all ways on, by the edges l of the node where one stands -/
def wys (L : List EV) (w : WV) : Nat → List Int → List EV → List EV → List (List EV)
  | 0, _, _, _ => []
  | k + 1, gone, pre, l => l.flatMap fun e => if skip w gone e then [] else if e.to = w.to then [pre ++ [e]] else wys L w k (e.to :: gone) (pre ++ [e]) (nxt L e.to)
/-- how many edges are looked at -/
def stp (L : List EV) (w : WV) : Nat → List Int → List EV → Nat
  | 0, _, _ => 0
  | k + 1, gone, l => (l.map fun e => 1 + (if skip w gone e then 0 else if e.to = w.to then 0 else stp L w k (e.to :: gone) (nxt L e.to))).sum
/-- where one stands: the edges that were gone along, the last one first, and what is left at each -/
abbrev St := List (EV × List EV)
def gon (s : St) : List Int := s.map (·.1.to)
/-- the way so far, without the first one, that comes from nowhere -/
def pre (s : St) : List EV := (s.map (·.1)).reverse.drop 1
def rem (L : List EV) (w : WV) : St → List (List EV)
  | [] => []
  | (e, l) :: r => wys L w (9 - r.length) (gon ((e, l) :: r)) (pre ((e, l) :: r)) l ++ rem L w r
def lft (L : List EV) (w : WV) : St → Nat
  | [] => 0
  | (e, l) :: r => stp L w (9 - r.length) (gon ((e, l) :: r)) l + lft L w r
def all (L : List EV) (w : WV) (e0 : EV) : List (List EV) := rem L w [(e0, nxt L w.fr)]
def bst (w : WV) (B : Option YV) (l : List (List EV)) : Option YV := l.foldl (seeN w) B

theorem pre_cons (e : EV) (l l' : List EV) (s : St) (h : s ≠ []) : pre ((e, l) :: s) = pre s ++ [e] := by
  cases s with
  | nil => exact absurd rfl h
  | cons a r =>
    unfold pre
    simp only [List.map_cons, List.reverse_cons, List.append_assoc]; rw [← List.append_assoc, List.drop_append_of_le_length (by simp)]
section
variable {L : List EV} {w : WV}
theorem wys_cons (k : Nat) (gone : List Int) (p : List EV) (e : EV) (l : List EV) : wys L w (k + 1) gone p (e :: l) = (if skip w gone e then [] else if e.to = w.to then [p ++ [e]] else wys L w k (e.to :: gone) (p ++ [e]) (nxt L e.to)) ++ wys L w (k + 1) gone p l := by
  simp [wys]
theorem stp_cons (k : Nat) (gone : List Int) (e : EV) (l : List EV) : stp L w (k + 1) gone (e :: l) = 1 + (if skip w gone e then 0 else if e.to = w.to then 0 else stp L w k (e.to :: gone) (nxt L e.to)) + stp L w (k + 1) gone l := by
  simp [stp]
theorem wys_nil (k : Nat) (gone : List Int) (p : List EV) : wys L w k gone p [] = [] := by cases k <;> simp [wys]
theorem stp_nil (k : Nat) (gone : List Int) : stp L w k gone [] = 0 := by cases k <;> simp [stp]
/-- nothing is left at the last one -/
theorem rem_pop (e : EV) (r : St) : rem L w ((e, []) :: r) = rem L w r := by
  show wys L w _ _ _ [] ++ _ = _
  rw [wys_nil]; rfl
theorem lft_pop (e : EV) (r : St) : lft L w ((e, []) :: r) = lft L w r := by
  show stp L w _ _ [] + _ = _
  rw [stp_nil]; omega
/-- an edge that is not gone along -/
theorem rem_skip {d e : EV} {l : List EV} {r : St} (hr : r.length ≤ 8) (h : skip w (gon ((d, e :: l) :: r)) e = true) : rem L w ((d, e :: l) :: r) = rem L w ((d, l) :: r) := by
  obtain ⟨k, hk⟩ : ∃ k, 9 - r.length = k + 1 := ⟨8 - r.length, by omega⟩
  show wys L w _ _ _ (e :: l) ++ _ = wys L w _ _ _ l ++ _
  rw [hk, wys_cons, h]
  rfl
theorem lft_skip {d e : EV} {l : List EV} {r : St} (hr : r.length ≤ 8) (h : skip w (gon ((d, e :: l) :: r)) e = true) : lft L w ((d, e :: l) :: r) = 1 + lft L w ((d, l) :: r) := by
  obtain ⟨k, hk⟩ : ∃ k, 9 - r.length = k + 1 := ⟨8 - r.length, by omega⟩
  show stp L w _ _ (e :: l) + _ = 1 + (stp L w _ _ l + _)
  rw [hk, stp_cons, h]; simp only [if_pos]
  have : gon ((d, e :: l) :: r) = gon ((d, l) :: r) := rfl
  rw [this]
  omega
/-- an edge that leads there -/
theorem rem_there {d e : EV} {l : List EV} {r : St} (hr : r.length ≤ 8) (h : skip w (gon ((d, e :: l) :: r)) e = false) (ht : e.to = w.to) : rem L w ((d, e :: l) :: r) = (pre ((d, l) :: r) ++ [e]) :: rem L w ((d, l) :: r) := by
  obtain ⟨k, hk⟩ : ∃ k, 9 - r.length = k + 1 := ⟨8 - r.length, by omega⟩
  show wys L w _ _ _ (e :: l) ++ _ = _ :: (wys L w _ _ _ l ++ _)
  rw [hk, wys_cons, h, if_neg (by simp), if_pos ht]
  rfl
theorem lft_there {d e : EV} {l : List EV} {r : St} (hr : r.length ≤ 8) (h : skip w (gon ((d, e :: l) :: r)) e = false) (ht : e.to = w.to) : lft L w ((d, e :: l) :: r) = 1 + lft L w ((d, l) :: r) := by
  obtain ⟨k, hk⟩ : ∃ k, 9 - r.length = k + 1 := ⟨8 - r.length, by omega⟩
  show stp L w _ _ (e :: l) + _ = 1 + (stp L w _ _ l + _)
  rw [hk, stp_cons, h, if_neg (by simp), if_pos ht]
  have : gon ((d, e :: l) :: r) = gon ((d, l) :: r) := rfl
  rw [this]
  omega
/-- an edge that is gone along -/
theorem rem_push {d e : EV} {l : List EV} {r : St} (hr : r.length ≤ 8) (h : skip w (gon ((d, e :: l) :: r)) e = false) (ht : ¬ e.to = w.to) : rem L w ((d, e :: l) :: r) = rem L w ((e, nxt L e.to) :: (d, l) :: r) := by
  obtain ⟨k, hk⟩ : ∃ k, 9 - r.length = k + 1 := ⟨8 - r.length, by omega⟩
  have hk2 : 9 - (r.length + 1) = k := by omega
  show wys L w _ _ _ (e :: l) ++ _ = wys L w (9 - ((d, l) :: r).length) _ _ _ ++ (wys L w _ _ _ l ++ _)
  rw [List.length_cons, hk, hk2, wys_cons, h, if_neg (by simp), if_neg ht, List.append_assoc]; rw [pre_cons e (nxt L e.to) l ((d, l) :: r) (by simp)]
  rfl
theorem lft_push {d e : EV} {l : List EV} {r : St} (hr : r.length ≤ 8) (h : skip w (gon ((d, e :: l) :: r)) e = false) (ht : ¬ e.to = w.to) : lft L w ((d, e :: l) :: r) = 1 + lft L w ((e, nxt L e.to) :: (d, l) :: r) := by
  obtain ⟨k, hk⟩ : ∃ k, 9 - r.length = k + 1 := ⟨8 - r.length, by omega⟩
  have hk2 : 9 - (r.length + 1) = k := by omega
  show stp L w _ _ (e :: l) + _ = 1 + (stp L w (9 - ((d, l) :: r).length) _ _ + (stp L w _ _ l + _))
  rw [List.length_cons, hk, hk2, stp_cons, h, if_neg (by simp), if_neg ht]
  have h1 : gon ((d, e :: l) :: r) = gon ((d, l) :: r) := rfl
  have h2 : gon ((e, nxt L e.to) :: (d, l) :: r) = e.to :: gon ((d, l) :: r) := rfl
  rw [h1, h2]
  omega
/-- what is found stays found -/
theorem see_some {x : YV} {es : List EV} : (seeN w (some x) es).isSome = true := by
  unfold seeN
  split
  · rfl
  · split <;> rfl
theorem bst_some {l : List (List EV)} : ∀ {B : Option YV}, B.isSome = true → (bst w B l).isSome = true := by
  induction l with
  | nil => exact fun h => h
  | cons a l ih =>
    intro B h
    cases B with
    | none => cases h
    | some x => exact ih see_some
end
/-- at most n numbers are below n, where none is there twice -/
theorem few : ∀ (n : Nat) (l : List Int), l.Nodup → (∀ x ∈ l, 0 ≤ x ∧ x < n) → l.length ≤ n
  | 0, l, _, h => by
    cases l with
    | nil => simp
    | cons a r => have := h a (by simp); omega
  | n + 1, l, hn, h => by
    by_cases hm : (n : Int) ∈ l
    · have h1 := few n (l.erase n) (hn.erase _) (fun x hx => by
        have h2 := (List.Nodup.mem_erase_iff hn).1 hx; have h3 := h x h2.2
        omega)
      rw [List.length_erase_of_mem hm] at h1
      omega
    · have h1 := few n l hn (fun x hx => by
        have h3 := h x hx
        have : x ≠ n := fun e => hm (e ▸ hx)
        omega)
      omega
end Go.Proofs.Ytgnkcmmpbohafaa

/- More operations: cuts, rows that are made, rows that grow, maps, what is nil. -/
namespace Go.Proofs.Ytgnkcmmpbohafaa
open Go.RowKit
set_option linter.unusedVariables false
set_option linter.unusedSimpArgs false
set_option maxRecDepth 100000
section
variable {o : Oper} {a : Act} {W : World}
theorem ex_cutl {x y : Operand} {b p n c k : Nat} {l : Int} (ho : o.op = .slice 33 x (some y) none none) (hx : a.eval x = .slice (some ⟨b, p, none⟩) n c) (hy : a.eval y = .int .i64 l) (hl : l = (k : Int)) (hk : k ≤ n) (hn : n ≤ c) : (execOp a.eval o).run Try.prog W = .ok (.value (.slice (some ⟨b, if c = k then p else p + k * 13, none⟩) (n - k) (c - k))) W := by
  subst hl
  have h1 : (k : Int) ≤ (n : Int) := by omega
  have h2 : (n : Int) ≤ (c : Int) := by omega
  unfold execOp
  simp only [ho, Option.map_some, Option.map_none, hx, hy]
  by_cases h : c = k
  · subst h
    go_simp
  · go_simp
theorem ex_cuth {x y : Operand} {b p n c k : Nat} {l : Int} (ho : o.op = .slice 33 x none (some y) none) (hx : a.eval x = .slice (some ⟨b, p, none⟩) n c) (hy : a.eval y = .int .i64 l) (hl : l = (k : Int)) (hk : k ≤ c) : (execOp a.eval o).run Try.prog W = .ok (.value (.slice (some ⟨b, p, none⟩) k c)) W := by
  subst hl
  have h1 : (k : Int) ≤ (c : Int) := by omega
  unfold execOp
  simp only [ho, Option.map_some, Option.map_none, hx, hy]
  by_cases h : c = 0
  · subst h
    obtain rfl : k = 0 := by omega
    go_simp
  · go_simp
theorem ex_cuthS {x y : Operand} {b p n c k : Nat} {l : Int} (ho : o.op = .slice 118 x none (some y) none) (hx : a.eval x = .slice (some ⟨b, p, none⟩) n c) (hy : a.eval y = .int .i64 l) (hl : l = (k : Int)) (hk : k ≤ c) : (execOp a.eval o).run Try.prog W = .ok (.value (.slice (some ⟨b, p, none⟩) k c)) W := by
  subst hl
  have h1 : (k : Int) ≤ (c : Int) := by omega
  unfold execOp
  simp only [ho, Option.map_some, Option.map_none, hx, hy]
  by_cases h : c = 0
  · subst h
    obtain rfl : k = 0 := by omega
    go_simp
  · go_simp
end
end Go.Proofs.Ytgnkcmmpbohafaa

/- Edges as cells; edges that lie in a row. -/
namespace Go.Proofs.Ytgnkcmmpbohafaa
open Go.RowKit
set_option linter.unusedVariables false
set_option linter.unusedSimpArgs false
set_option maxRecDepth 100000
def RL (q : RV) : Array Value := #[.int .i64 q.b, .int .i64 q.r, .int .i64 q.d, .int .i64 q.g, .int .i64 q.f]
def FL (q : RV) : Array Value := #[.int .i64 q.b, .int .i64 q.r]
def EL (e : EV) : Array Value := #[.int .i64 e.ch, .int .i64 e.fr, .int .i64 e.to, .int .i64 e.cap, .int .i64 e.q.b, .int .i64 e.q.r, .int .i64 e.q.d, .int .i64 e.q.g, .int .i64 e.q.f, .int .i64 e.p.good, .int .i64 e.p.gat, .int .i64 e.p.bad, .int .i64 e.p.bat]
/-- what is wanted, as cells; ao, n, c: what is avoided -/
def WL_ (w : WV) (ao : Option Addr) (n c : Nat) : Array Value := #[.int .i64 w.fr, .int .i64 w.to, .int .i64 w.am, .int .i64 w.la, .int .i64 w.ti, .slice ao n c, .int .i64 w.mo]
def cE (L : List EV) : List Value := L.flatMap fun e => (EL e).toList
theorem EL_size (e : EV) : (EL e).toList.length = 13 := rfl
theorem cE_cons (e : EV) (L : List EV) : cE (e :: L) = (EL e).toList ++ cE L := by simp [cE]
theorem cE_app (L M : List EV) : cE (L ++ M) = cE L ++ cE M := by simp [cE]
theorem cE_one (e : EV) : cE [e] = (EL e).toList := by simp [cE]
theorem cE_len : ∀ L : List EV, (cE L).length = L.length * 13
  | [] => rfl
  | e :: L => by rw [cE_cons, List.length_append, EL_size, cE_len L, List.length_cons]; omega
theorem cE_one1 (L : List EV) : ∀ u ∈ cE L, u.oneCell' = true := fun u hu => by
  obtain ⟨e, _, h⟩ := List.mem_flatMap.1 hu
  have : (EL e).toList.all (·.oneCell') = true := by kernel_rfl
  exact List.all_eq_true.1 this u h
/-- the k-th edge's cells -/
theorem cE_at : ∀ (L : List EV) (k : Nat) (e : EV), L[k]? = some e → ∀ j v, (EL e).toList[j]? = some v → (cE L)[k * 13 + j]? = some v
  | [], _, _, h, _, _, _ => by simp at h
  | d :: L, 0, e, h, j, v, hv => by
    have : d = e := by simpa using h
    subst this; rw [cE_cons, Nat.zero_mul, Nat.zero_add, List.getElem?_append_left]
    · exact hv
    · exact (List.getElem?_eq_some_iff.1 hv).1
  | d :: L, k + 1, e, h, j, v, hv => by
    rw [cE_cons, List.getElem?_append_right (by rw [EL_size]; omega), EL_size, show (k + 1) * 13 + j - 13 = k * 13 + j by omega]; exact cE_at L k e (by simpa using h) j v hv
theorem cE_drop (L : List EV) (k : Nat) (h : k ≤ L.length) : cE (L.drop k) = (cE L).drop (k * 13) := by
  have e : cE L = cE (L.take k) ++ cE (L.drop k) := by rw [← cE_app, List.take_append_drop]
  rw [e, List.drop_left' (by rw [cE_len, List.length_take]; rw [Nat.min_eq_left h])]
theorem cE_take (L : List EV) (k : Nat) (h : k ≤ L.length) : cE (L.take k) = (cE L).take (k * 13) := by
  have e : cE L = cE (L.take k) ++ cE (L.drop k) := by rw [← cE_app, List.take_append_drop]
  rw [e, List.take_left' (by rw [cE_len, List.length_take]; rw [Nat.min_eq_left h])]
/-- these edges lie there, in a block below N -/
def Es (W : World) (N : Nat) (ao : Option Addr) (L : List EV) : Prop := L = [] ∨ ∃ b o, ao = some ⟨b, o, none⟩ ∧ b < N ∧ (∃ cur, W.heap[b]? = some (.cells cur 49)) ∧ W.rangeAt b o (cE L)
section
variable {W W' : World} {N M b o : Nat} {ao : Option Addr} {L : List EV}
theorem range_lt {cs : List Value} (h : W.rangeAt b o cs) (hc : cs ≠ []) : b < W.heap.size := by
  cases cs with
  | nil => exact absurd rfl hc
  | cons v r => exact block_lt_of_cell (h 0 v rfl)
theorem range_cell {cs : List Value} (h : W.rangeAt b o cs) (hK : ∀ k, W'.cell? ⟨b, k, none⟩ = W.cell? ⟨b, k, none⟩) : W'.rangeAt b o cs := fun j v hv => (hK _).trans (h j v hv)
theorem cell_blk (hb : W'.heap[b]? = W.heap[b]?) (k : Nat) : W'.cell? ⟨b, k, none⟩ = W.cell? ⟨b, k, none⟩ := by
  unfold World.cell?
  rw [hb]
theorem Es.blk (h : Es W N ao L) (hb : ∀ b cur, b < N → W.heap[b]? = some (.cells cur 49) → W'.heap[b]? = W.heap[b]?) : Es W' N ao L := by
  rcases h with h | ⟨b, o, e, hl, ⟨cur, hc⟩, h⟩
  · exact .inl h
  · have := hb b cur hl hc
    exact .inr ⟨b, o, e, hl, ⟨cur, this.trans hc⟩, range_cell h (cell_blk this)⟩
theorem Es.keep (h : Es W N ao L) (hB : Below M W W') (hM : N ≤ M) : Es W' N ao L := h.blk fun b _ hl _ => hB.block b (by omega)
theorem Es.keepB (h : Es W N ao L) (hB : Below W.heap.size W W') : Es W' N ao L := h.blk fun b _ _ hc => hB.block b (lt_of hc)
theorem Es.keepK {F : Nat → Prop} (h : Es W N ao L) (hK : Kept F W W') (hF : ∀ k, k < N → ¬ F k) : Es W' N ao L := h.blk fun b _ hl hc => hK.block b (lt_of hc) (hF b hl)
/-- a block of another type is stored into -/
theorem Es.keepT {k T : Nat} {C : Array Value} (h : Es W N ao L) (hK : Kept (· = k) W W') (hk : W.heap[k]? = some (.cells C T)) (hT : T ≠ 49) : Es W' N ao L := h.blk fun b cur _ hc => hK.block b (lt_of hc) (fun e => ne_tag hk hc hT e.symm)
theorem Es.mono (h : Es W N ao L) (hM : N ≤ M) : Es W M ao L := by
  rcases h with h | ⟨b, o, e, hl, h⟩
  · exact .inl h
  · exact .inr ⟨b, o, e, by omega, h⟩
/-- the k-th of them -/
theorem range_at (h : W.rangeAt b o (cE L)) {k : Nat} {e : EV} (hk : L[k]? = some e) : W.rangeAt b (o + k * 13) (EL e).toList := fun j v hv => by
  have := h (k * 13 + j) v (cE_at L k e hk j v hv)
  rw [Nat.add_assoc]; exact this
theorem range_drop (h : W.rangeAt b o (cE L)) {k : Nat} (hk : k ≤ L.length) : W.rangeAt b (o + k * 13) (cE (L.drop k)) := fun j v hv => by
  rw [cE_drop L k hk, List.getElem?_drop] at hv; rw [Nat.add_assoc]; exact h _ v hv
theorem range_take (h : W.rangeAt b o (cE L)) {k : Nat} (hk : k ≤ L.length) : W.rangeAt b o (cE (L.take k)) := fun j v hv => by
  rw [cE_take L k hk, List.getElem?_take] at hv
  split at hv
  · exact h _ v hv
  · cases hv
end
theorem Try.inf49b : (Try.prog.info? 49).map (fun i => (i.zero, i.size, i.bytes)) = some (some (.agg #[.int .i64 0, .int .i64 0, .int .i64 0, .int .i64 0, .int .i64 0, .int .i64 0, .int .i64 0, .int .i64 0, .int .i64 0, .int .i64 0, .int .i64 0, .int .i64 0, .int .i64 0]), 13, 104) := by kernel_rfl
theorem Try.inf33b : (Try.prog.info? 33).map (fun i => (i.zero, i.size, i.bytes)) = some (some (.slice none 0 0), 1, 24) := by kernel_rfl
theorem Try.inf34b : (Try.prog.info? 34).map (fun i => (i.zero, i.size, i.bytes)) = some (some (.float .f64 0), 1, 8) := by kernel_rfl
/-- a row of one's own that grows, wherever what is added lies -/
theorem own_add {W : World} {base e size n m c t bytes xb xo : Nat} {v z : Value} {xs D : List Value} (h : W.ownsRow base e size v n xs) (hD : W.rangeAt xb xo D) (hl : D.length = m * size) (h1 : ∀ u ∈ D, u.oneCell' = true) (ht : Try.prog.underlying t = some (.slice e)) (hi : (Try.prog.info? e).map (fun i => (i.zero, i.size, i.bytes)) = some (some z, size, bytes)) (hz : z.cells.size = size) (hsz : 0 < size) (hm : 0 < m) (hn : (n + m) * bytes ≤ 140737488355328) (hn2 : n + m ≤ maxLen) (hbase : base ≤ W.heap.size) :
    ∃ g' cap' W', (Builtin.append_ #[t, t] t #[v, .slice (some ⟨xb, xo, none⟩) m c]).run Try.prog W = .ok (.slice (some ⟨g', 0, none⟩) (n + m) cap') W' ∧ W'.ownsRow base e size (.slice (some ⟨g', 0, none⟩) (n + m) cap') (n + m) (xs ++ D) ∧ Kept (fun k => v.ownBlock = some k) W W' ∧ (v.ownBlock = some g' ∨ g' = W.heap.size) := by
  cases hq : Try.prog.info? e with
  | none => rw [hq] at hi; cases hi
  | some ie =>
    rw [hq] at hi; simp only [Option.map_some, Option.some.injEq, Prod.mk.injEq] at hi; obtain ⟨hz0, hz1, hz2⟩ := hi
    obtain ⟨v', w', hrun, hown, hg, hnil, hloc⟩ := run_append_own_at (P := Try.prog) W base t t e ie z size bytes ht hq hz0 hz1 hz2 hz hsz v n xs h ⟨xb, xo, none⟩ m c D hl
      (fun j u hu => by rw [Addr.add_mid]; exact hD j u hu) h1 hn2 hn hbase
    rcases hown.2 with ⟨_, e⟩ | ⟨g', cap', cur, rfl, hb, hh, r⟩
    · omega
    · refine ⟨g', cap', w', hrun, hown, Kept.ofGrown hg, ?_⟩
      rcases hloc with h | h
      · exact .inl (h ▸ rfl)
      · right
        have : some g' = some W.heap.size := h
        exact Option.some.inj this
theorem own_nil (W : World) (base e size : Nat) : W.ownsRow base e size (.slice none 0 0) 0 [] := World.ownsRow_nil W base e size
section
variable {W W' : World} {base e size n : Nat} {v : Value} {xs : List Value}
theorem own_keep (h : W.ownsRow base e size v n xs) (hB : Below W.heap.size W W') : W'.ownsRow base e size v n xs := by
  refine ⟨h.1, ?_⟩
  rcases h.2 with e | ⟨g', cap', cur, e, hb, hh, r⟩
  · exact .inl e
  · exact .inr ⟨g', cap', cur, e, hb, keep hB hh, r⟩
theorem own_keepK {F : Nat → Prop} (h : W.ownsRow base e size v n xs) (hB : Kept F W W') (hn : ∀ g, v.ownBlock = some g → ¬ F g) : W'.ownsRow base e size v n xs := by
  refine ⟨h.1, ?_⟩
  rcases h.2 with e | ⟨g', cap', cur, e, hb, hh, r⟩
  · exact .inl e
  · exact .inr ⟨g', cap', cur, e, hb, keepK hB hh (hn g' (by rw [e]; rfl)), r⟩
/-- as a slice -/
theorem own_form (h : W.ownsRow base e size v n xs) : ∃ ao c, v = .slice ao n c ∧ n ≤ c ∧ (n = 0 ∨ ∃ g cur, ao = some ⟨g, 0, none⟩ ∧ base ≤ g ∧ W.heap[g]? = some (.cells cur e) ∧ W.rangeAt g 0 xs) := by
  rcases h.2 with ⟨e, rfl⟩ | ⟨g, cap, cur, rfl, hb, hh, h1, h2, h3, h4⟩
  · exact ⟨none, 0, e, Nat.le_refl _, .inl rfl⟩
  · refine ⟨_, _, rfl, h1, .inr ⟨g, cur, rfl, hb, hh, ?_⟩⟩
    intro j u hu
    have := World.ownsRow.cells h (g := g) rfl j u hu
    rw [Addr.add_mid] at this; exact this
theorem own_ne (h : W.ownsRow base e size v n xs) {b U : Nat} {C : Array Value} (k : W.heap[b]? = some (.cells C U)) (hU : e ≠ U) : v.ownBlock ≠ some b := fun q => by
  rcases h.2 with ⟨e, rfl⟩ | ⟨g, cap, cur, rfl, hb, hh, r⟩
  · rw [e] at q; cases q
  · have : g = b := by simpa [Value.ownBlock] using q
    rw [this, k] at hh
    cases hh
    exact hU rfl
end
end Go.Proofs.Ytgnkcmmpbohafaa

/- The small functions of graph; policy.May. -/
namespace Go.Proofs.Ytgnkcmmpbohafaa
open Go.RowKit
set_option linter.unusedVariables false
set_option linter.unusedSimpArgs false
set_option maxRecDepth 100000

theorem ldF {W : World} {bl : Nat} {q : RV} (k : W.heap[bl]? = some (.cells (RL q) 45)) : (Instr.loadAt 43 (.pointer (some ⟨bl, 0, none⟩))).run Try.prog W = .ok (.agg (FL q)) W := ld_part (o := 0) (n := 2) k (by show 0 + 2 ≤ _; simp [RL]) Try.underlying43 rfl inf43
theorem ldER {W : World} {bl : Nat} {e : EV} (k : W.heap[bl]? = some (.cells (EL e) 49)) : (Instr.loadAt 45 (.pointer (some ⟨bl, 4, none⟩))).run Try.prog W = .ok (.agg (RL e.q)) W := ld_part (o := 4) (n := 5) k (by show 4 + 5 ≤ _; simp [EL]) Try.underlying45 rfl inf45
theorem ldEP {W : World} {bl : Nat} {e : EV} (k : W.heap[bl]? = some (.cells (EL e) 49)) : (Instr.loadAt 47 (.pointer (some ⟨bl, 9, none⟩))).run Try.prog W = .ok (.agg (PL e.p)) W := ld_part (o := 9) (n := 4) k (by show 9 + 4 ≤ _; simp [EL]) Try.underlying47 rfl inf47
theorem fee0 (b r : Int) (hb : b ≤ 9223372036854775807) : feeE b r 0 = if rightB b r then 0 else 1 := by
  unfold feeE
  by_cases h : rightB b r = true
  · have hr : 0 ≤ b ∧ 0 ≤ r ∧ r ≤ 1000000 := of_decide_eq_true h
    rw [if_pos ⟨h, by decide⟩, if_pos h]
    unfold addE
    simp
    omega
  · rw [if_neg (fun q => h q.1), if_neg h]
section
variable {o : Oper} {a : Act} {W : World}
theorem ex_nil {x : Operand} {p : Value} {ad : Addr} (ho : o.op = .nilCheck x) (hx : a.eval x = p) (hp : p = .pointer (some ad)) : (execOp a.eval o).run Try.prog W = .ok (.value p) W := by
  subst hp
  unfold execOp
  simp only [ho, hx]
  go_simp
theorem ex_pnil {x y : Operand} {t t2 : Nat} {c : Bool} {p : Option Addr} (ho : o.op = .binOp .eql 23 x y t2) (hx : a.eval x = .pointer p) (hy : a.eval y = .pointer none) (hc : p.isNone = c) : (execOp a.eval o).run Try.prog W = .ok (.value (.bool c)) W := by
  subst hc
  unfold execOp
  simp only [ho, hx, hy]
  cases p <;> go_simp
theorem ex_snil {x y : Operand} {t t2 : Nat} {c : Bool} {p : Option Addr} {n m : Nat} (ho : o.op = .binOp .eql 33 x y t2) (hx : a.eval x = .slice p n m) (hy : a.eval y = .slice none 0 0) (hc : p.isNone = c) : (execOp a.eval o).run Try.prog W = .ok (.value (.bool c)) W := by
  subst hc
  have hq : (eqGuard .eql 33 x y (.slice p n m) (.slice none 0 0)).run Try.prog W = .ok () W := by rfl
  have h : ∀ d, (Op.equalIn (d + 1) 33 (.slice p n m) (.slice none 0 0)).run Try.prog W = .ok p.isNone W := fun d => by cases p <;> simp [Op.equalIn, run_underlying Try.underlying33]
  refine ex_bin ho hx hy hq ?_; simp only [binOp]
  simp [Op.equal, Op.maxDepth, h 9999]
end
set_option maxHeartbeats 4000000 in
theorem node_any (n : Int) (w : World) {c : Bool} (hc : nodeB n = c) : Calls Try.prog 93 #[.int .i64 n] w fun e w' => e = .returned (.bool c) ∧ Below w.heap.size w w' := by
  subst hc
  have E : Below w.heap.size w w := Below.refl _ _
  go_enter Try.func93, Try.ntmps93; refine wq fun Q hQ => ?_; refine vg (.bool false) 2 rfl rfl rfl rfl ?_; refine st_end ?_; subst hQ; refine wq fun Q hQ => ?_; refine vm (.int .i64 n) 3 rfl rfl rfl rfl ?_
  by_cases e0 : 0 ≤ n
  · skip
    refine vv (.bool true) 4 rfl rfl (ex_bin (u := (.int .i64 n)) (r := (.int .i64 0)) rfl rfl rfl (eg3 _ _ _ _ _ _) (geq3 _ (decide_eq_true (by omega)))) ?_; refine vm (.bool true) 5 rfl rfl rfl rfl ?_; refine vm (.int .i64 n) 6 rfl rfl rfl rfl ?_
    by_cases e1 : n < 8
    · skip
      refine vv (.bool true) 7 rfl rfl (ex_bin (u := (.int .i64 n)) (r := (.int .i64 8)) rfl rfl rfl (eg3 _ _ _ _ _ _) (lss3 _ (decide_eq_true (by omega)))) ?_; refine vv (.bool true) 8 rfl rfl (ex_pkT rfl rfl rfl) ?_; refine vg (.bool true) 2 rfl rfl rfl rfl ?_; refine st_end ?_; subst hQ; refine wp_ret ?_
      repeat (first | refine ret_out ?_ | refine ret_blk ?_)
      refine bodyPost_ret (results_tmp Try.results93 _ _ _) rfl ⟨?_, E⟩
      show Ending.returned (.bool true) = _
      simp [nodeB, e0, e1]
    · skip
      refine vv (.bool false) 7 rfl rfl (ex_bin (u := (.int .i64 n)) (r := (.int .i64 8)) rfl rfl rfl (eg3 _ _ _ _ _ _) (lss3 _ (decide_eq_false (by omega)))) ?_; refine vv (.bool false) 8 rfl rfl (ex_pkT rfl rfl rfl) ?_; refine vg (.bool false) 2 rfl rfl rfl rfl ?_; refine st_end ?_; subst hQ; refine wp_ret ?_
      repeat (first | refine ret_out ?_ | refine ret_blk ?_)
      refine bodyPost_ret (results_tmp Try.results93 _ _ _) rfl ⟨?_, E⟩
      show Ending.returned (.bool false) = _
      simp [nodeB, e0, e1]
  · skip
    refine vv (.bool false) 4 rfl rfl (ex_bin (u := (.int .i64 n)) (r := (.int .i64 0)) rfl rfl rfl (eg3 _ _ _ _ _ _) (geq3 _ (decide_eq_false (by omega)))) ?_; refine vm (.bool false) 5 rfl rfl rfl rfl ?_; refine vn 6 rfl rfl ?_; refine vn 7 rfl rfl ?_; refine vv (.bool false) 8 rfl rfl (ex_pkF rfl rfl rfl) ?_; refine vg (.bool false) 2 rfl rfl rfl rfl ?_; refine st_end ?_; subst hQ; refine wp_ret ?_
    repeat (first | refine ret_out ?_ | refine ret_blk ?_)
    refine bodyPost_ret (results_tmp Try.results93 _ _ _) rfl ⟨?_, E⟩
    show Ending.returned (.bool false) = _
    simp [nodeB, e0]
set_option maxHeartbeats 4000000 in
theorem chan_any (n : Int) (w : World) {c : Bool} (hc : chanB n = c) : Calls Try.prog 85 #[.int .i64 n] w fun e w' => e = .returned (.bool c) ∧ Below w.heap.size w w' := by
  subst hc
  have E : Below w.heap.size w w := Below.refl _ _
  go_enter Try.func85, Try.ntmps85; refine wq fun Q hQ => ?_; refine vg (.bool false) 2 rfl rfl rfl rfl ?_; refine st_end ?_; subst hQ; refine wq fun Q hQ => ?_; refine vm (.int .i64 n) 3 rfl rfl rfl rfl ?_
  by_cases e0 : 1 ≤ n
  · skip
    refine vv (.bool true) 4 rfl rfl (ex_bin (u := (.int .i64 n)) (r := (.int .i64 1)) rfl rfl rfl (eg3 _ _ _ _ _ _) (geq3 _ (decide_eq_true (by omega)))) ?_; refine vm (.bool true) 5 rfl rfl rfl rfl ?_; refine vm (.int .i64 n) 6 rfl rfl rfl rfl ?_
    by_cases e1 : n ≤ 65535
    · skip
      refine vv (.bool true) 7 rfl rfl (ex_bin (u := (.int .i64 n)) (r := (.int .i64 65535)) rfl rfl rfl (eg3 _ _ _ _ _ _) (leq3 _ (decide_eq_true (by omega)))) ?_; refine vv (.bool true) 8 rfl rfl (ex_pkT rfl rfl rfl) ?_; refine vg (.bool true) 2 rfl rfl rfl rfl ?_; refine st_end ?_; subst hQ; refine wp_ret ?_
      repeat (first | refine ret_out ?_ | refine ret_blk ?_)
      refine bodyPost_ret (results_tmp Try.results85 _ _ _) rfl ⟨?_, E⟩
      show Ending.returned (.bool true) = _
      simp [chanB, e0, e1]
    · skip
      refine vv (.bool false) 7 rfl rfl (ex_bin (u := (.int .i64 n)) (r := (.int .i64 65535)) rfl rfl rfl (eg3 _ _ _ _ _ _) (leq3 _ (decide_eq_false (by omega)))) ?_; refine vv (.bool false) 8 rfl rfl (ex_pkT rfl rfl rfl) ?_; refine vg (.bool false) 2 rfl rfl rfl rfl ?_; refine st_end ?_; subst hQ; refine wp_ret ?_
      repeat (first | refine ret_out ?_ | refine ret_blk ?_)
      refine bodyPost_ret (results_tmp Try.results85 _ _ _) rfl ⟨?_, E⟩
      show Ending.returned (.bool false) = _
      simp [chanB, e0, e1]
  · skip
    refine vv (.bool false) 4 rfl rfl (ex_bin (u := (.int .i64 n)) (r := (.int .i64 1)) rfl rfl rfl (eg3 _ _ _ _ _ _) (geq3 _ (decide_eq_false (by omega)))) ?_; refine vm (.bool false) 5 rfl rfl rfl rfl ?_; refine vn 6 rfl rfl ?_; refine vn 7 rfl rfl ?_; refine vv (.bool false) 8 rfl rfl (ex_pkF rfl rfl rfl) ?_; refine vg (.bool false) 2 rfl rfl rfl rfl ?_; refine st_end ?_; subst hQ; refine wp_ret ?_
    repeat (first | refine ret_out ?_ | refine ret_blk ?_)
    refine bodyPost_ret (results_tmp Try.results85 _ _ _) rfl ⟨?_, E⟩
    show Ending.returned (.bool false) = _
    simp [chanB, e0]
set_option maxHeartbeats 4000000 in
theorem amt_any (n : Int) (w : World) (hn : n ≤ 9223372036854775807) {c : Bool} (hc : decide (0 ≤ n) = c) : Calls Try.prog 73 #[.int .i64 n] w fun e w' => e = .returned (.bool c) ∧ Below w.heap.size w w' := by
  subst hc
  have E : Below w.heap.size w w := Below.refl _ _
  go_enter Try.func73, Try.ntmps73; refine wq fun Q hQ => ?_; refine vg (.bool false) 2 rfl rfl rfl rfl ?_; refine st_end ?_; subst hQ; refine wq fun Q hQ => ?_; refine vm (.int .i64 n) 3 rfl rfl rfl rfl ?_
  by_cases e0 : 0 ≤ n
  · skip
    refine vv (.bool true) 4 rfl rfl (ex_bin (u := (.int .i64 n)) (r := (.int .i64 0)) rfl rfl rfl (eg3 _ _ _ _ _ _) (geq3 _ (decide_eq_true (by omega)))) ?_; refine vm (.bool true) 5 rfl rfl rfl rfl ?_; refine vm (.int .i64 n) 6 rfl rfl rfl rfl ?_; refine vv (.bool true) 7 rfl rfl (ex_bin (u := (.int .i64 n)) (r := (.int .i64 9223372036854775807)) rfl rfl rfl (eg3 _ _ _ _ _ _) (leq3 _ (decide_eq_true (by omega)))) ?_; refine vv (.bool true) 8 rfl rfl (ex_pkT rfl rfl rfl) ?_; refine vg (.bool true) 2 rfl rfl rfl rfl ?_; refine st_end ?_; subst hQ; refine wp_ret ?_
    repeat (first | refine ret_out ?_ | refine ret_blk ?_)
    refine bodyPost_ret (results_tmp Try.results73 _ _ _) rfl ⟨?_, E⟩
    show Ending.returned (.bool true) = _
    simp [e0]
  · skip
    refine vv (.bool false) 4 rfl rfl (ex_bin (u := (.int .i64 n)) (r := (.int .i64 0)) rfl rfl rfl (eg3 _ _ _ _ _ _) (geq3 _ (decide_eq_false (by omega)))) ?_; refine vm (.bool false) 5 rfl rfl rfl rfl ?_; refine vn 6 rfl rfl ?_; refine vn 7 rfl rfl ?_; refine vv (.bool false) 8 rfl rfl (ex_pkF rfl rfl rfl) ?_; refine vg (.bool false) 2 rfl rfl rfl rfl ?_; refine st_end ?_; subst hQ; refine wp_ret ?_
    repeat (first | refine ret_out ?_ | refine ret_blk ?_)
    refine bodyPost_ret (results_tmp Try.results73 _ _ _) rfl ⟨?_, E⟩
    show Ending.returned (.bool false) = _
    simp [e0]
set_option maxHeartbeats 4000000 in
theorem two_any (x y : Int) (w : World) {c : Bool} (hc : (nodeB x && nodeB y && decide (¬ x = y)) = c) : Calls Try.prog 72 #[.int .i64 x, .int .i64 y] w fun e w' => e = .returned (.bool c) ∧ Below w.heap.size w w' := by
  subst hc
  have E : Below w.heap.size w w := Below.refl _ _
  go_enter Try.func72, Try.ntmps72; refine wq fun Q hQ => ?_; refine vg (.bool false) 4 rfl rfl rfl rfl ?_; refine st_end ?_; subst hQ; refine wq fun Q hQ => ?_; refine vm (.int .i64 x) 5 rfl rfl rfl rfl ?_
  by_cases e0 : nodeB x = true
  · skip
    refine st_call (some 6) rfl rfl (node_any x w e0) (ex_call (f := 93) (vs := [(.int .i64 x)]) rfl (cf93 _) rfl) ?_; rintro e W1 ⟨rfl, B⟩; refine ⟨_, rfl, ?_⟩; simp only [zp]; replace E := below_next E B; refine vm (.bool true) 7 rfl rfl rfl rfl ?_; refine vm (.int .i64 y) 8 rfl rfl rfl rfl ?_
    by_cases e1 : nodeB y = true
    · skip
      refine st_call (some 9) rfl rfl (node_any y W1 e1) (ex_call (f := 93) (vs := [(.int .i64 y)]) rfl (cf93 _) rfl) ?_; rintro e W2 ⟨rfl, B⟩; refine ⟨_, rfl, ?_⟩; simp only [zp]; replace E := below_next E B; refine vv (.bool true) 10 rfl rfl (ex_pkT rfl rfl rfl) ?_; refine vm (.bool true) 11 rfl rfl rfl rfl ?_; refine vm (.int .i64 x) 12 rfl rfl rfl rfl ?_; refine vm (.int .i64 y) 13 rfl rfl rfl rfl ?_
      by_cases e2 : x = y
      · skip
        refine vv (.bool false) 14 rfl rfl (ex_bin (u := (.int .i64 x)) (r := (.int .i64 y)) rfl rfl rfl (eg3 _ _ _ _ _ _) (neq3 _ (decide_eq_false (by omega)))) ?_; refine vv (.bool false) 15 rfl rfl (ex_pkT rfl rfl rfl) ?_; refine vg (.bool false) 4 rfl rfl rfl rfl ?_; refine st_end ?_; subst hQ; refine wp_ret ?_
        repeat (first | refine ret_out ?_ | refine ret_blk ?_)
        refine bodyPost_ret (results_tmp Try.results72 _ _ _) rfl ⟨?_, E⟩
        show Ending.returned (.bool false) = _
        simp [e0, e1, e2]
      · skip
        refine vv (.bool true) 14 rfl rfl (ex_bin (u := (.int .i64 x)) (r := (.int .i64 y)) rfl rfl rfl (eg3 _ _ _ _ _ _) (neq3 _ (decide_eq_true (by omega)))) ?_; refine vv (.bool true) 15 rfl rfl (ex_pkT rfl rfl rfl) ?_; refine vg (.bool true) 4 rfl rfl rfl rfl ?_; refine st_end ?_; subst hQ; refine wp_ret ?_
        repeat (first | refine ret_out ?_ | refine ret_blk ?_)
        refine bodyPost_ret (results_tmp Try.results72 _ _ _) rfl ⟨?_, E⟩
        show Ending.returned (.bool true) = _
        simp [e0, e1, e2]
    · skip
      replace e1 := Bool.eq_false_iff.2 e1; refine st_call (some 9) rfl rfl (node_any y W1 e1) (ex_call (f := 93) (vs := [(.int .i64 y)]) rfl (cf93 _) rfl) ?_; rintro e W2 ⟨rfl, B⟩; refine ⟨_, rfl, ?_⟩; simp only [zp]; replace E := below_next E B; refine vv (.bool false) 10 rfl rfl (ex_pkT rfl rfl rfl) ?_; refine vm (.bool false) 11 rfl rfl rfl rfl ?_; refine vn 12 rfl rfl ?_; refine vn 13 rfl rfl ?_; refine vn 14 rfl rfl ?_; refine vv (.bool false) 15 rfl rfl (ex_pkF rfl rfl rfl) ?_; refine vg (.bool false) 4 rfl rfl rfl rfl ?_; refine st_end ?_; subst hQ; refine wp_ret ?_
      repeat (first | refine ret_out ?_ | refine ret_blk ?_)
      refine bodyPost_ret (results_tmp Try.results72 _ _ _) rfl ⟨?_, E⟩
      show Ending.returned (.bool false) = _
      simp [e0, e1]
  · skip
    replace e0 := Bool.eq_false_iff.2 e0; refine st_call (some 6) rfl rfl (node_any x w e0) (ex_call (f := 93) (vs := [(.int .i64 x)]) rfl (cf93 _) rfl) ?_; rintro e W1 ⟨rfl, B⟩; refine ⟨_, rfl, ?_⟩; simp only [zp]; replace E := below_next E B; refine vm (.bool false) 7 rfl rfl rfl rfl ?_; refine vn 8 rfl rfl ?_; refine vn 9 rfl rfl ?_; refine vv (.bool false) 10 rfl rfl (ex_pkF rfl rfl rfl) ?_; refine vm (.bool false) 11 rfl rfl rfl rfl ?_; refine vn 12 rfl rfl ?_; refine vn 13 rfl rfl ?_; refine vn 14 rfl rfl ?_; refine vv (.bool false) 15 rfl rfl (ex_pkF rfl rfl rfl) ?_
    refine vg (.bool false) 4 rfl rfl rfl rfl ?_; refine st_end ?_; subst hQ; refine wp_ret ?_
    repeat (first | refine ret_out ?_ | refine ret_blk ?_)
    refine bodyPost_ret (results_tmp Try.results72 _ _ _) rfl ⟨?_, E⟩
    show Ending.returned (.bool false) = _
    simp [e0]
set_option maxHeartbeats 4000000 in
theorem may_any {q : RV} (w : World) (hb : q.b ≤ 9223372036854775807) {c : Bool} (hc : mayR q = c) : Calls Try.prog 82 #[.agg (RL q)] w fun e w' => e = .returned (.bool c) ∧ Below w.heap.size w w' := by
  subst hc; have hf := fee0 q.b q.r hb
  have E : Below w.heap.size w w := Below.refl _ _
  go_enter Try.func82, Try.ntmps82; refine wq fun Q hQ => ?_; refine st_new (fun b => .pointer (some ⟨b, 0, none⟩)) (some 1) rfl rfl (ex_box rfl rfl) ?_; intro b1 W1 k1 g1 B; simp only [zp]; have ge_b1 := Nat.le_trans E.size g1; replace E := below_next E B; clear B; refine vg (.bool false) 2 rfl rfl rfl rfl ?_; refine st_end ?_; subst hQ; refine wq fun Q hQ => ?_; refine vv (Pz b1 0) 6 rfl rfl (ex_fa (p := (Pz b1 0)) rfl rfl (fa45_0 _ _)) ?_; refine vv (.agg (FL q)) 7 rfl rfl (ex_load (p := (Pz b1 0)) rfl rfl (ldF k1)) ?_
  refine st_call (some 8) rfl rfl (fee_any q.b q.r 0 W1 hb (by decide)) (ex_call (f := 94) (vs := [(.agg (FL q)), (.int .i64 0)]) rfl (cf94 _) rfl) ?_; rintro e W2 ⟨rfl, B⟩; refine ⟨_, rfl, ?_⟩; simp only [zp]; replace E := below_next E B; replace k1 := keep B k1; refine vm (.tuple #[(.int .i64 (feeN q.b q.r 0)), (.int .i64 (feeE q.b q.r 0))]) 5 rfl rfl rfl rfl ?_; refine vv (.int .i64 (feeN q.b q.r 0)) 9 rfl rfl (ex_ext rfl rfl rfl) ?_; refine vv (.int .i64 (feeE q.b q.r 0)) 10 rfl rfl (ex_ext rfl rfl rfl) ?_; refine vg (.int .i64 (feeN q.b q.r 0)) 3 rfl rfl rfl rfl ?_
  refine vg (.int .i64 (feeE q.b q.r 0)) 4 rfl rfl rfl rfl ?_; refine st_end ?_; subst hQ; refine wq fun Q hQ => ?_; refine vm (.int .i64 (feeE q.b q.r 0)) 11 rfl rfl rfl rfl ?_
  by_cases e0 : rightB q.b q.r = true
  · skip
    refine vv (.bool true) 12 rfl rfl (ex_bin (u := (.int .i64 (feeE q.b q.r 0))) (r := (.int .i64 0)) rfl rfl rfl (eg37 _ _ _ _ _ _) (eql37 _ (decide_eq_true (by rw [hf, e0]; rfl)))) ?_; refine vm (.bool true) 13 rfl rfl rfl rfl ?_; refine vv (Pz b1 2) 14 rfl rfl (ex_fa (p := (Pz b1 0)) rfl rfl (fa45_1 _ _)) ?_; refine vv (.int .i64 q.d) 15 rfl rfl (ex_load (p := (Pz b1 2)) rfl rfl (ld3 (at_cell k1 rfl))) ?_
    by_cases e1 : 1 ≤ q.d
    · skip
      refine vv (.bool true) 16 rfl rfl (ex_bin (u := (.int .i64 q.d)) (r := (.int .i64 1)) rfl rfl rfl (eg3 _ _ _ _ _ _) (geq3 _ (decide_eq_true (by omega)))) ?_; refine vv (.bool true) 17 rfl rfl (ex_pkT rfl rfl rfl) ?_; refine vm (.bool true) 18 rfl rfl rfl rfl ?_; refine vv (Pz b1 2) 19 rfl rfl (ex_fa (p := (Pz b1 0)) rfl rfl (fa45_1 _ _)) ?_; refine vv (.int .i64 q.d) 20 rfl rfl (ex_load (p := (Pz b1 2)) rfl rfl (ld3 (at_cell k1 rfl))) ?_
      by_cases e2 : q.d ≤ 1000
      · skip
        refine vv (.bool true) 21 rfl rfl (ex_bin (u := (.int .i64 q.d)) (r := (.int .i64 1000)) rfl rfl rfl (eg3 _ _ _ _ _ _) (leq3 _ (decide_eq_true (by omega)))) ?_; refine vv (.bool true) 22 rfl rfl (ex_pkT rfl rfl rfl) ?_; refine vm (.bool true) 23 rfl rfl rfl rfl ?_; refine vv (Pz b1 3) 24 rfl rfl (ex_fa (p := (Pz b1 0)) rfl rfl (fa45_2 _ _)) ?_; refine vv (.int .i64 q.g) 25 rfl rfl (ex_load (p := (Pz b1 3)) rfl rfl (ld3 (at_cell k1 rfl))) ?_
        by_cases e3 : 0 ≤ q.g
        · skip
          refine vv (.bool true) 26 rfl rfl (ex_bin (u := (.int .i64 q.g)) (r := (.int .i64 0)) rfl rfl rfl (eg3 _ _ _ _ _ _) (geq3 _ (decide_eq_true (by omega)))) ?_; refine vv (.bool true) 27 rfl rfl (ex_pkT rfl rfl rfl) ?_; refine vm (.bool true) 28 rfl rfl rfl rfl ?_; refine vv (Pz b1 3) 29 rfl rfl (ex_fa (p := (Pz b1 0)) rfl rfl (fa45_2 _ _)) ?_; refine vv (.int .i64 q.g) 30 rfl rfl (ex_load (p := (Pz b1 3)) rfl rfl (ld3 (at_cell k1 rfl))) ?_
          by_cases e4 : q.g ≤ 1000
          · skip
            refine vv (.bool true) 31 rfl rfl (ex_bin (u := (.int .i64 q.g)) (r := (.int .i64 1000)) rfl rfl rfl (eg3 _ _ _ _ _ _) (leq3 _ (decide_eq_true (by omega)))) ?_; refine vv (.bool true) 32 rfl rfl (ex_pkT rfl rfl rfl) ?_; refine vm (.bool true) 33 rfl rfl rfl rfl ?_; refine vv (Pz b1 4) 34 rfl rfl (ex_fa (p := (Pz b1 0)) rfl rfl (fa45_3 _ _)) ?_; refine vv (.int .i64 q.f) 35 rfl rfl (ex_load (p := (Pz b1 4)) rfl rfl (ld3 (at_cell k1 rfl))) ?_
            by_cases e5 : 1 ≤ q.f
            · skip
              refine vv (.bool true) 36 rfl rfl (ex_bin (u := (.int .i64 q.f)) (r := (.int .i64 1)) rfl rfl rfl (eg3 _ _ _ _ _ _) (geq3 _ (decide_eq_true (by omega)))) ?_; refine vv (.bool true) 37 rfl rfl (ex_pkT rfl rfl rfl) ?_; refine vm (.bool true) 38 rfl rfl rfl rfl ?_; refine vv (Pz b1 4) 39 rfl rfl (ex_fa (p := (Pz b1 0)) rfl rfl (fa45_3 _ _)) ?_; refine vv (.int .i64 q.f) 40 rfl rfl (ex_load (p := (Pz b1 4)) rfl rfl (ld3 (at_cell k1 rfl))) ?_
              by_cases e6 : q.f ≤ 2147483647
              · skip
                refine vv (.bool true) 41 rfl rfl (ex_bin (u := (.int .i64 q.f)) (r := (.int .i64 2147483647)) rfl rfl rfl (eg3 _ _ _ _ _ _) (leq3 _ (decide_eq_true (by omega)))) ?_; refine vv (.bool true) 42 rfl rfl (ex_pkT rfl rfl rfl) ?_; refine vg (.bool true) 2 rfl rfl rfl rfl ?_; refine st_end ?_; subst hQ; refine wp_ret ?_
                repeat (first | refine ret_out ?_ | refine ret_blk ?_)
                refine bodyPost_ret (results_tmp Try.results82 _ _ _) rfl ⟨?_, E⟩
                show Ending.returned (.bool true) = _
                simp [mayR, e0, e1, e2, e3, e4, e5, e6]
              · skip
                refine vv (.bool false) 41 rfl rfl (ex_bin (u := (.int .i64 q.f)) (r := (.int .i64 2147483647)) rfl rfl rfl (eg3 _ _ _ _ _ _) (leq3 _ (decide_eq_false (by omega)))) ?_; refine vv (.bool false) 42 rfl rfl (ex_pkT rfl rfl rfl) ?_; refine vg (.bool false) 2 rfl rfl rfl rfl ?_; refine st_end ?_; subst hQ; refine wp_ret ?_
                repeat (first | refine ret_out ?_ | refine ret_blk ?_)
                refine bodyPost_ret (results_tmp Try.results82 _ _ _) rfl ⟨?_, E⟩
                show Ending.returned (.bool false) = _
                simp [mayR, e0, e1, e2, e3, e4, e5, e6]
            · skip
              refine vv (.bool false) 36 rfl rfl (ex_bin (u := (.int .i64 q.f)) (r := (.int .i64 1)) rfl rfl rfl (eg3 _ _ _ _ _ _) (geq3 _ (decide_eq_false (by omega)))) ?_; refine vv (.bool false) 37 rfl rfl (ex_pkT rfl rfl rfl) ?_; refine vm (.bool false) 38 rfl rfl rfl rfl ?_; refine vn 39 rfl rfl ?_; refine vn 40 rfl rfl ?_; refine vn 41 rfl rfl ?_; refine vv (.bool false) 42 rfl rfl (ex_pkF rfl rfl rfl) ?_; refine vg (.bool false) 2 rfl rfl rfl rfl ?_; refine st_end ?_; subst hQ; refine wp_ret ?_
              repeat (first | refine ret_out ?_ | refine ret_blk ?_)
              refine bodyPost_ret (results_tmp Try.results82 _ _ _) rfl ⟨?_, E⟩
              show Ending.returned (.bool false) = _
              simp [mayR, e0, e1, e2, e3, e4, e5]
          · skip
            refine vv (.bool false) 31 rfl rfl (ex_bin (u := (.int .i64 q.g)) (r := (.int .i64 1000)) rfl rfl rfl (eg3 _ _ _ _ _ _) (leq3 _ (decide_eq_false (by omega)))) ?_; refine vv (.bool false) 32 rfl rfl (ex_pkT rfl rfl rfl) ?_; refine vm (.bool false) 33 rfl rfl rfl rfl ?_; refine vn 34 rfl rfl ?_; refine vn 35 rfl rfl ?_; refine vn 36 rfl rfl ?_; refine vv (.bool false) 37 rfl rfl (ex_pkF rfl rfl rfl) ?_; refine vm (.bool false) 38 rfl rfl rfl rfl ?_; refine vn 39 rfl rfl ?_; refine vn 40 rfl rfl ?_; refine vn 41 rfl rfl ?_
            refine vv (.bool false) 42 rfl rfl (ex_pkF rfl rfl rfl) ?_; refine vg (.bool false) 2 rfl rfl rfl rfl ?_; refine st_end ?_; subst hQ; refine wp_ret ?_
            repeat (first | refine ret_out ?_ | refine ret_blk ?_)
            refine bodyPost_ret (results_tmp Try.results82 _ _ _) rfl ⟨?_, E⟩
            show Ending.returned (.bool false) = _
            simp [mayR, e0, e1, e2, e3, e4]
        · skip
          refine vv (.bool false) 26 rfl rfl (ex_bin (u := (.int .i64 q.g)) (r := (.int .i64 0)) rfl rfl rfl (eg3 _ _ _ _ _ _) (geq3 _ (decide_eq_false (by omega)))) ?_; refine vv (.bool false) 27 rfl rfl (ex_pkT rfl rfl rfl) ?_; refine vm (.bool false) 28 rfl rfl rfl rfl ?_; refine vn 29 rfl rfl ?_; refine vn 30 rfl rfl ?_; refine vn 31 rfl rfl ?_; refine vv (.bool false) 32 rfl rfl (ex_pkF rfl rfl rfl) ?_; refine vm (.bool false) 33 rfl rfl rfl rfl ?_; refine vn 34 rfl rfl ?_; refine vn 35 rfl rfl ?_; refine vn 36 rfl rfl ?_
          refine vv (.bool false) 37 rfl rfl (ex_pkF rfl rfl rfl) ?_; refine vm (.bool false) 38 rfl rfl rfl rfl ?_; refine vn 39 rfl rfl ?_; refine vn 40 rfl rfl ?_; refine vn 41 rfl rfl ?_; refine vv (.bool false) 42 rfl rfl (ex_pkF rfl rfl rfl) ?_; refine vg (.bool false) 2 rfl rfl rfl rfl ?_; refine st_end ?_; subst hQ; refine wp_ret ?_
          repeat (first | refine ret_out ?_ | refine ret_blk ?_)
          refine bodyPost_ret (results_tmp Try.results82 _ _ _) rfl ⟨?_, E⟩
          show Ending.returned (.bool false) = _
          simp [mayR, e0, e1, e2, e3]
      · skip
        refine vv (.bool false) 21 rfl rfl (ex_bin (u := (.int .i64 q.d)) (r := (.int .i64 1000)) rfl rfl rfl (eg3 _ _ _ _ _ _) (leq3 _ (decide_eq_false (by omega)))) ?_; refine vv (.bool false) 22 rfl rfl (ex_pkT rfl rfl rfl) ?_; refine vm (.bool false) 23 rfl rfl rfl rfl ?_; refine vn 24 rfl rfl ?_; refine vn 25 rfl rfl ?_; refine vn 26 rfl rfl ?_; refine vv (.bool false) 27 rfl rfl (ex_pkF rfl rfl rfl) ?_; refine vm (.bool false) 28 rfl rfl rfl rfl ?_; refine vn 29 rfl rfl ?_; refine vn 30 rfl rfl ?_; refine vn 31 rfl rfl ?_; refine vv (.bool false) 32 rfl rfl (ex_pkF rfl rfl rfl) ?_
        refine vm (.bool false) 33 rfl rfl rfl rfl ?_; refine vn 34 rfl rfl ?_; refine vn 35 rfl rfl ?_; refine vn 36 rfl rfl ?_; refine vv (.bool false) 37 rfl rfl (ex_pkF rfl rfl rfl) ?_; refine vm (.bool false) 38 rfl rfl rfl rfl ?_; refine vn 39 rfl rfl ?_; refine vn 40 rfl rfl ?_; refine vn 41 rfl rfl ?_; refine vv (.bool false) 42 rfl rfl (ex_pkF rfl rfl rfl) ?_; refine vg (.bool false) 2 rfl rfl rfl rfl ?_; refine st_end ?_; subst hQ; refine wp_ret ?_
        repeat (first | refine ret_out ?_ | refine ret_blk ?_)
        refine bodyPost_ret (results_tmp Try.results82 _ _ _) rfl ⟨?_, E⟩
        show Ending.returned (.bool false) = _
        simp [mayR, e0, e1, e2]
    · skip
      refine vv (.bool false) 16 rfl rfl (ex_bin (u := (.int .i64 q.d)) (r := (.int .i64 1)) rfl rfl rfl (eg3 _ _ _ _ _ _) (geq3 _ (decide_eq_false (by omega)))) ?_; refine vv (.bool false) 17 rfl rfl (ex_pkT rfl rfl rfl) ?_; refine vm (.bool false) 18 rfl rfl rfl rfl ?_; refine vn 19 rfl rfl ?_; refine vn 20 rfl rfl ?_; refine vn 21 rfl rfl ?_; refine vv (.bool false) 22 rfl rfl (ex_pkF rfl rfl rfl) ?_; refine vm (.bool false) 23 rfl rfl rfl rfl ?_; refine vn 24 rfl rfl ?_; refine vn 25 rfl rfl ?_; refine vn 26 rfl rfl ?_; refine vv (.bool false) 27 rfl rfl (ex_pkF rfl rfl rfl) ?_
      refine vm (.bool false) 28 rfl rfl rfl rfl ?_; refine vn 29 rfl rfl ?_; refine vn 30 rfl rfl ?_; refine vn 31 rfl rfl ?_; refine vv (.bool false) 32 rfl rfl (ex_pkF rfl rfl rfl) ?_; refine vm (.bool false) 33 rfl rfl rfl rfl ?_; refine vn 34 rfl rfl ?_; refine vn 35 rfl rfl ?_; refine vn 36 rfl rfl ?_; refine vv (.bool false) 37 rfl rfl (ex_pkF rfl rfl rfl) ?_; refine vm (.bool false) 38 rfl rfl rfl rfl ?_; refine vn 39 rfl rfl ?_; refine vn 40 rfl rfl ?_; refine vn 41 rfl rfl ?_; refine vv (.bool false) 42 rfl rfl (ex_pkF rfl rfl rfl) ?_
      refine vg (.bool false) 2 rfl rfl rfl rfl ?_; refine st_end ?_; subst hQ; refine wp_ret ?_
      repeat (first | refine ret_out ?_ | refine ret_blk ?_)
      refine bodyPost_ret (results_tmp Try.results82 _ _ _) rfl ⟨?_, E⟩
      show Ending.returned (.bool false) = _
      simp [mayR, e0, e1]
  · skip
    replace e0 := Bool.eq_false_iff.2 e0; refine vv (.bool false) 12 rfl rfl (ex_bin (u := (.int .i64 (feeE q.b q.r 0))) (r := (.int .i64 0)) rfl rfl rfl (eg37 _ _ _ _ _ _) (eql37 _ (decide_eq_false (by rw [hf, e0]; decide)))) ?_; refine vm (.bool false) 13 rfl rfl rfl rfl ?_; refine vn 14 rfl rfl ?_; refine vn 15 rfl rfl ?_; refine vn 16 rfl rfl ?_; refine vv (.bool false) 17 rfl rfl (ex_pkF rfl rfl rfl) ?_; refine vm (.bool false) 18 rfl rfl rfl rfl ?_; refine vn 19 rfl rfl ?_; refine vn 20 rfl rfl ?_; refine vn 21 rfl rfl ?_; refine vv (.bool false) 22 rfl rfl (ex_pkF rfl rfl rfl) ?_
    refine vm (.bool false) 23 rfl rfl rfl rfl ?_; refine vn 24 rfl rfl ?_; refine vn 25 rfl rfl ?_; refine vn 26 rfl rfl ?_; refine vv (.bool false) 27 rfl rfl (ex_pkF rfl rfl rfl) ?_; refine vm (.bool false) 28 rfl rfl rfl rfl ?_; refine vn 29 rfl rfl ?_; refine vn 30 rfl rfl ?_; refine vn 31 rfl rfl ?_; refine vv (.bool false) 32 rfl rfl (ex_pkF rfl rfl rfl) ?_; refine vm (.bool false) 33 rfl rfl rfl rfl ?_; refine vn 34 rfl rfl ?_; refine vn 35 rfl rfl ?_; refine vn 36 rfl rfl ?_; refine vv (.bool false) 37 rfl rfl (ex_pkF rfl rfl rfl) ?_; refine vm (.bool false) 38 rfl rfl rfl rfl ?_
    refine vn 39 rfl rfl ?_; refine vn 40 rfl rfl ?_; refine vn 41 rfl rfl ?_; refine vv (.bool false) 42 rfl rfl (ex_pkF rfl rfl rfl) ?_; refine vg (.bool false) 2 rfl rfl rfl rfl ?_; refine st_end ?_; subst hQ; refine wp_ret ?_
    repeat (first | refine ret_out ?_ | refine ret_blk ?_)
    refine bodyPost_ret (results_tmp Try.results82 _ _ _) rfl ⟨?_, E⟩
    show Ending.returned (.bool false) = _
    simp [mayR, e0]
set_option maxHeartbeats 4000000 in
theorem mayE_any {e : EV} (w : World) (hb : e.q.b ≤ 9223372036854775807) (hc2 : e.cap ≤ 9223372036854775807) {c : Bool} (hc : mayE e = c) : Calls Try.prog 62 #[.agg (EL e)] w fun e w' => e = .returned (.bool c) ∧ Below w.heap.size w w' := by
  subst hc
  have E : Below w.heap.size w w := Below.refl _ _
  go_enter Try.func62, Try.ntmps62; refine wq fun Q hQ => ?_; refine st_new (fun b => .pointer (some ⟨b, 0, none⟩)) (some 1) rfl rfl (ex_box rfl rfl) ?_; intro b1 W1 k1 g1 B; simp only [zp]; have ge_b1 := Nat.le_trans E.size g1; replace E := below_next E B; clear B; refine vg (.bool false) 2 rfl rfl rfl rfl ?_; refine st_end ?_; subst hQ; refine wq fun Q hQ => ?_; refine vv (Pz b1 0) 3 rfl rfl (ex_fa (p := (Pz b1 0)) rfl rfl (fa49_0 _ _)) ?_; refine vv (.int .i64 e.ch) 4 rfl rfl (ex_load (p := (Pz b1 0)) rfl rfl (ld3 (at_cell k1 rfl))) ?_
  by_cases e0 : chanB e.ch = true
  · skip
    refine st_call (some 5) rfl rfl (chan_any e.ch W1 e0) (ex_call (f := 85) (vs := [(.int .i64 e.ch)]) rfl (cf85 _) rfl) ?_; rintro e W2 ⟨rfl, B⟩; refine ⟨_, rfl, ?_⟩; simp only [zp]; replace E := below_next E B; replace k1 := keep B k1; refine vm (.bool true) 6 rfl rfl rfl rfl ?_; refine vv (Pz b1 1) 7 rfl rfl (ex_fa (p := (Pz b1 0)) rfl rfl (fa49_1 _ _)) ?_; refine vv (.int .i64 e.fr) 8 rfl rfl (ex_load (p := (Pz b1 1)) rfl rfl (ld3 (at_cell k1 rfl))) ?_; refine vv (Pz b1 2) 9 rfl rfl (ex_fa (p := (Pz b1 0)) rfl rfl (fa49_2 _ _)) ?_
    refine vv (.int .i64 e.to) 10 rfl rfl (ex_load (p := (Pz b1 2)) rfl rfl (ld3 (at_cell k1 rfl))) ?_
    by_cases e1 : (nodeB e.fr && nodeB e.to && decide (¬ e.fr = e.to)) = true
    · skip
      refine st_call (some 11) rfl rfl (two_any e.fr e.to W2 e1) (ex_call (f := 72) (vs := [(.int .i64 e.fr), (.int .i64 e.to)]) rfl (cf72 _) rfl) ?_; rintro e W3 ⟨rfl, B⟩; refine ⟨_, rfl, ?_⟩; simp only [zp]; replace E := below_next E B; replace k1 := keep B k1; refine vv (.bool true) 12 rfl rfl (ex_pkT rfl rfl rfl) ?_; refine vm (.bool true) 13 rfl rfl rfl rfl ?_; refine vv (Pz b1 3) 14 rfl rfl (ex_fa (p := (Pz b1 0)) rfl rfl (fa49_3 _ _)) ?_; refine vv (.int .i64 e.cap) 15 rfl rfl (ex_load (p := (Pz b1 3)) rfl rfl (ld3 (at_cell k1 rfl))) ?_
      by_cases e2 : 0 ≤ e.cap
      · skip
        refine st_call (some 16) rfl rfl (amt_any e.cap W3 hc2 (decide_eq_true (by omega))) (ex_call (f := 73) (vs := [(.int .i64 e.cap)]) rfl (cf73 _) rfl) ?_; rintro e W4 ⟨rfl, B⟩; refine ⟨_, rfl, ?_⟩; simp only [zp]; replace E := below_next E B; replace k1 := keep B k1; refine vv (.bool true) 17 rfl rfl (ex_pkT rfl rfl rfl) ?_; refine vm (.bool true) 18 rfl rfl rfl rfl ?_; refine vv (Pz b1 4) 19 rfl rfl (ex_fa (p := (Pz b1 0)) rfl rfl (fa49_4 _ _)) ?_; refine vv (.agg (RL e.q)) 20 rfl rfl (ex_load (p := (Pz b1 4)) rfl rfl (ldER k1)) ?_
        by_cases e3 : mayR e.q = true
        · skip
          refine st_call (some 21) rfl rfl (may_any W4 hb e3) (ex_call (f := 82) (vs := [(.agg (RL e.q))]) rfl (cf82 _) rfl) ?_; rintro e W5 ⟨rfl, B⟩; refine ⟨_, rfl, ?_⟩; simp only [zp]; replace E := below_next E B; replace k1 := keep B k1; refine vv (.bool true) 22 rfl rfl (ex_pkT rfl rfl rfl) ?_; refine vg (.bool true) 2 rfl rfl rfl rfl ?_; refine st_end ?_; subst hQ; refine wp_ret ?_
          repeat (first | refine ret_out ?_ | refine ret_blk ?_)
          refine bodyPost_ret (results_tmp Try.results62 _ _ _) rfl ⟨?_, E⟩
          unfold mayE
          simp only [e0, e1, e3, decide_eq_true e2]
          rfl
        · skip
          replace e3 := Bool.eq_false_iff.2 e3; refine st_call (some 21) rfl rfl (may_any W4 hb e3) (ex_call (f := 82) (vs := [(.agg (RL e.q))]) rfl (cf82 _) rfl) ?_; rintro e W5 ⟨rfl, B⟩; refine ⟨_, rfl, ?_⟩; simp only [zp]; replace E := below_next E B; replace k1 := keep B k1; refine vv (.bool false) 22 rfl rfl (ex_pkT rfl rfl rfl) ?_; refine vg (.bool false) 2 rfl rfl rfl rfl ?_; refine st_end ?_; subst hQ; refine wp_ret ?_
          repeat (first | refine ret_out ?_ | refine ret_blk ?_)
          refine bodyPost_ret (results_tmp Try.results62 _ _ _) rfl ⟨?_, E⟩
          unfold mayE
          simp only [e0, e1, e3, decide_eq_true e2]
          rfl
      · skip
        refine st_call (some 16) rfl rfl (amt_any e.cap W3 hc2 (decide_eq_false (by omega))) (ex_call (f := 73) (vs := [(.int .i64 e.cap)]) rfl (cf73 _) rfl) ?_; rintro e W4 ⟨rfl, B⟩; refine ⟨_, rfl, ?_⟩; simp only [zp]; replace E := below_next E B; replace k1 := keep B k1; refine vv (.bool false) 17 rfl rfl (ex_pkT rfl rfl rfl) ?_; refine vm (.bool false) 18 rfl rfl rfl rfl ?_; refine vn 19 rfl rfl ?_; refine vn 20 rfl rfl ?_; refine vn 21 rfl rfl ?_; refine vv (.bool false) 22 rfl rfl (ex_pkF rfl rfl rfl) ?_; refine vg (.bool false) 2 rfl rfl rfl rfl ?_; refine st_end ?_; subst hQ
        refine wp_ret ?_
        repeat (first | refine ret_out ?_ | refine ret_blk ?_)
        refine bodyPost_ret (results_tmp Try.results62 _ _ _) rfl ⟨?_, E⟩
        unfold mayE
        simp only [e0, e1, decide_eq_false e2]
        rfl
    · skip
      replace e1 := Bool.eq_false_iff.2 e1; refine st_call (some 11) rfl rfl (two_any e.fr e.to W2 e1) (ex_call (f := 72) (vs := [(.int .i64 e.fr), (.int .i64 e.to)]) rfl (cf72 _) rfl) ?_; rintro e W3 ⟨rfl, B⟩; refine ⟨_, rfl, ?_⟩; simp only [zp]; replace E := below_next E B; replace k1 := keep B k1; refine vv (.bool false) 12 rfl rfl (ex_pkT rfl rfl rfl) ?_; refine vm (.bool false) 13 rfl rfl rfl rfl ?_; refine vn 14 rfl rfl ?_; refine vn 15 rfl rfl ?_; refine vn 16 rfl rfl ?_; refine vv (.bool false) 17 rfl rfl (ex_pkF rfl rfl rfl) ?_; refine vm (.bool false) 18 rfl rfl rfl rfl ?_
      refine vn 19 rfl rfl ?_; refine vn 20 rfl rfl ?_; refine vn 21 rfl rfl ?_; refine vv (.bool false) 22 rfl rfl (ex_pkF rfl rfl rfl) ?_; refine vg (.bool false) 2 rfl rfl rfl rfl ?_; refine st_end ?_; subst hQ; refine wp_ret ?_
      repeat (first | refine ret_out ?_ | refine ret_blk ?_)
      refine bodyPost_ret (results_tmp Try.results62 _ _ _) rfl ⟨?_, E⟩
      unfold mayE
      simp only [e0, e1]
      rfl
  · skip
    replace e0 := Bool.eq_false_iff.2 e0; refine st_call (some 5) rfl rfl (chan_any e.ch W1 e0) (ex_call (f := 85) (vs := [(.int .i64 e.ch)]) rfl (cf85 _) rfl) ?_; rintro e W2 ⟨rfl, B⟩; refine ⟨_, rfl, ?_⟩; simp only [zp]; replace E := below_next E B; replace k1 := keep B k1; refine vm (.bool false) 6 rfl rfl rfl rfl ?_; refine vn 7 rfl rfl ?_; refine vn 8 rfl rfl ?_; refine vn 9 rfl rfl ?_; refine vn 10 rfl rfl ?_; refine vn 11 rfl rfl ?_; refine vv (.bool false) 12 rfl rfl (ex_pkF rfl rfl rfl) ?_; refine vm (.bool false) 13 rfl rfl rfl rfl ?_; refine vn 14 rfl rfl ?_
    refine vn 15 rfl rfl ?_; refine vn 16 rfl rfl ?_; refine vv (.bool false) 17 rfl rfl (ex_pkF rfl rfl rfl) ?_; refine vm (.bool false) 18 rfl rfl rfl rfl ?_; refine vn 19 rfl rfl ?_; refine vn 20 rfl rfl ?_; refine vn 21 rfl rfl ?_; refine vv (.bool false) 22 rfl rfl (ex_pkF rfl rfl rfl) ?_; refine vg (.bool false) 2 rfl rfl rfl rfl ?_; refine st_end ?_; subst hQ; refine wp_ret ?_
    repeat (first | refine ret_out ?_ | refine ret_blk ?_)
    refine bodyPost_ret (results_tmp Try.results62 _ _ _) rfl ⟨?_, E⟩
    unfold mayE
    simp only [e0]
    rfl
set_option maxHeartbeats 4000000 in
theorem mayW_any {v : WV} {ao : Option Addr} {n k : Nat} (w : World) (hm : v.am ≤ 9223372036854775807) {c : Bool} (hc : mayW v = c) : Calls Try.prog 34 #[.agg (WL_ v ao n k)] w fun e w' => e = .returned (.bool c) ∧ Below w.heap.size w w' := by
  subst hc
  have E : Below w.heap.size w w := Below.refl _ _
  go_enter Try.func34, Try.ntmps34; refine wq fun Q hQ => ?_; refine st_new (fun b => .pointer (some ⟨b, 0, none⟩)) (some 1) rfl rfl (ex_box rfl rfl) ?_; intro b1 W1 k1 g1 B; simp only [zp]; have ge_b1 := Nat.le_trans E.size g1; replace E := below_next E B; clear B; refine vg (.bool false) 2 rfl rfl rfl rfl ?_; refine st_end ?_; subst hQ; refine wq fun Q hQ => ?_; refine vv (Pz b1 0) 3 rfl rfl (ex_fa (p := (Pz b1 0)) rfl rfl (fa32_0 _ _)) ?_; refine vv (.int .i64 v.fr) 4 rfl rfl (ex_load (p := (Pz b1 0)) rfl rfl (ld3 (at_cell k1 rfl))) ?_
  refine vv (Pz b1 1) 5 rfl rfl (ex_fa (p := (Pz b1 0)) rfl rfl (fa32_1 _ _)) ?_; refine vv (.int .i64 v.to) 6 rfl rfl (ex_load (p := (Pz b1 1)) rfl rfl (ld3 (at_cell k1 rfl))) ?_
  by_cases e0 : (nodeB v.fr && nodeB v.to && decide (¬ v.fr = v.to)) = true
  · skip
    refine st_call (some 7) rfl rfl (two_any v.fr v.to W1 e0) (ex_call (f := 72) (vs := [(.int .i64 v.fr), (.int .i64 v.to)]) rfl (cf72 _) rfl) ?_; rintro e W2 ⟨rfl, B⟩; refine ⟨_, rfl, ?_⟩; simp only [zp]; replace E := below_next E B; replace k1 := keep B k1; refine vm (.bool true) 8 rfl rfl rfl rfl ?_; refine vv (Pz b1 2) 9 rfl rfl (ex_fa (p := (Pz b1 0)) rfl rfl (fa32_2 _ _)) ?_; refine vv (.int .i64 v.am) 10 rfl rfl (ex_load (p := (Pz b1 2)) rfl rfl (ld3 (at_cell k1 rfl))) ?_
    by_cases e1 : 1 ≤ v.am
    · skip
      refine vv (.bool true) 11 rfl rfl (ex_bin (u := (.int .i64 v.am)) (r := (.int .i64 1)) rfl rfl rfl (eg3 _ _ _ _ _ _) (geq3 _ (decide_eq_true (by omega)))) ?_; refine vv (.bool true) 12 rfl rfl (ex_pkT rfl rfl rfl) ?_; refine vm (.bool true) 13 rfl rfl rfl rfl ?_; refine vv (Pz b1 2) 14 rfl rfl (ex_fa (p := (Pz b1 0)) rfl rfl (fa32_2 _ _)) ?_; refine vv (.int .i64 v.am) 15 rfl rfl (ex_load (p := (Pz b1 2)) rfl rfl (ld3 (at_cell k1 rfl))) ?_
      refine st_call (some 16) rfl rfl (amt_any v.am W2 hm (decide_eq_true (by omega))) (ex_call (f := 73) (vs := [(.int .i64 v.am)]) rfl (cf73 _) rfl) ?_; rintro e W3 ⟨rfl, B⟩; refine ⟨_, rfl, ?_⟩; simp only [zp]; replace E := below_next E B; replace k1 := keep B k1; refine vv (.bool true) 17 rfl rfl (ex_pkT rfl rfl rfl) ?_; refine vm (.bool true) 18 rfl rfl rfl rfl ?_; refine vv (Pz b1 3) 19 rfl rfl (ex_fa (p := (Pz b1 0)) rfl rfl (fa32_3 _ _)) ?_; refine vv (.int .i64 v.la) 20 rfl rfl (ex_load (p := (Pz b1 3)) rfl rfl (ld3 (at_cell k1 rfl))) ?_
      by_cases e2 : 0 ≤ v.la
      · skip
        refine vv (.bool true) 21 rfl rfl (ex_bin (u := (.int .i64 v.la)) (r := (.int .i64 0)) rfl rfl rfl (eg3 _ _ _ _ _ _) (geq3 _ (decide_eq_true (by omega)))) ?_; refine vv (.bool true) 22 rfl rfl (ex_pkT rfl rfl rfl) ?_; refine vm (.bool true) 23 rfl rfl rfl rfl ?_; refine vv (Pz b1 3) 24 rfl rfl (ex_fa (p := (Pz b1 0)) rfl rfl (fa32_3 _ _)) ?_; refine vv (.int .i64 v.la) 25 rfl rfl (ex_load (p := (Pz b1 3)) rfl rfl (ld3 (at_cell k1 rfl))) ?_
        by_cases e3 : v.la ≤ 2147483647
        · skip
          refine vv (.bool true) 26 rfl rfl (ex_bin (u := (.int .i64 v.la)) (r := (.int .i64 2147483647)) rfl rfl rfl (eg3 _ _ _ _ _ _) (leq3 _ (decide_eq_true (by omega)))) ?_; refine vv (.bool true) 27 rfl rfl (ex_pkT rfl rfl rfl) ?_; refine vm (.bool true) 28 rfl rfl rfl rfl ?_; refine vv (Pz b1 6) 29 rfl rfl (ex_fa (p := (Pz b1 0)) rfl rfl (fa32_6 _ _)) ?_; refine vv (.int .i64 v.mo) 30 rfl rfl (ex_load (p := (Pz b1 6)) rfl rfl (ld3 (at_cell k1 rfl))) ?_
          by_cases e4 : 0 ≤ v.mo
          · skip
            refine vv (.bool true) 31 rfl rfl (ex_bin (u := (.int .i64 v.mo)) (r := (.int .i64 0)) rfl rfl rfl (eg3 _ _ _ _ _ _) (geq3 _ (decide_eq_true (by omega)))) ?_; refine vv (.bool true) 32 rfl rfl (ex_pkT rfl rfl rfl) ?_; refine vg (.bool true) 2 rfl rfl rfl rfl ?_; refine st_end ?_; subst hQ; refine wp_ret ?_
            repeat (first | refine ret_out ?_ | refine ret_blk ?_)
            refine bodyPost_ret (results_tmp Try.results34 _ _ _) rfl ⟨?_, E⟩
            unfold mayW
            simp only [e0, decide_eq_true e1, decide_eq_true e2, decide_eq_true e3, decide_eq_true e4]
            rfl
          · skip
            refine vv (.bool false) 31 rfl rfl (ex_bin (u := (.int .i64 v.mo)) (r := (.int .i64 0)) rfl rfl rfl (eg3 _ _ _ _ _ _) (geq3 _ (decide_eq_false (by omega)))) ?_; refine vv (.bool false) 32 rfl rfl (ex_pkT rfl rfl rfl) ?_; refine vg (.bool false) 2 rfl rfl rfl rfl ?_; refine st_end ?_; subst hQ; refine wp_ret ?_
            repeat (first | refine ret_out ?_ | refine ret_blk ?_)
            refine bodyPost_ret (results_tmp Try.results34 _ _ _) rfl ⟨?_, E⟩
            unfold mayW
            simp only [e0, decide_eq_true e1, decide_eq_true e2, decide_eq_true e3, decide_eq_false e4]
            rfl
        · skip
          refine vv (.bool false) 26 rfl rfl (ex_bin (u := (.int .i64 v.la)) (r := (.int .i64 2147483647)) rfl rfl rfl (eg3 _ _ _ _ _ _) (leq3 _ (decide_eq_false (by omega)))) ?_; refine vv (.bool false) 27 rfl rfl (ex_pkT rfl rfl rfl) ?_; refine vm (.bool false) 28 rfl rfl rfl rfl ?_; refine vn 29 rfl rfl ?_; refine vn 30 rfl rfl ?_; refine vn 31 rfl rfl ?_; refine vv (.bool false) 32 rfl rfl (ex_pkF rfl rfl rfl) ?_; refine vg (.bool false) 2 rfl rfl rfl rfl ?_; refine st_end ?_; subst hQ; refine wp_ret ?_
          repeat (first | refine ret_out ?_ | refine ret_blk ?_)
          refine bodyPost_ret (results_tmp Try.results34 _ _ _) rfl ⟨?_, E⟩
          unfold mayW
          simp only [e0, decide_eq_true e1, decide_eq_true e2, decide_eq_false e3]
          rfl
      · skip
        refine vv (.bool false) 21 rfl rfl (ex_bin (u := (.int .i64 v.la)) (r := (.int .i64 0)) rfl rfl rfl (eg3 _ _ _ _ _ _) (geq3 _ (decide_eq_false (by omega)))) ?_; refine vv (.bool false) 22 rfl rfl (ex_pkT rfl rfl rfl) ?_; refine vm (.bool false) 23 rfl rfl rfl rfl ?_; refine vn 24 rfl rfl ?_; refine vn 25 rfl rfl ?_; refine vn 26 rfl rfl ?_; refine vv (.bool false) 27 rfl rfl (ex_pkF rfl rfl rfl) ?_; refine vm (.bool false) 28 rfl rfl rfl rfl ?_; refine vn 29 rfl rfl ?_; refine vn 30 rfl rfl ?_; refine vn 31 rfl rfl ?_; refine vv (.bool false) 32 rfl rfl (ex_pkF rfl rfl rfl) ?_
        refine vg (.bool false) 2 rfl rfl rfl rfl ?_; refine st_end ?_; subst hQ; refine wp_ret ?_
        repeat (first | refine ret_out ?_ | refine ret_blk ?_)
        refine bodyPost_ret (results_tmp Try.results34 _ _ _) rfl ⟨?_, E⟩
        unfold mayW
        simp only [e0, decide_eq_true e1, decide_eq_false e2]
        rfl
    · skip
      refine vv (.bool false) 11 rfl rfl (ex_bin (u := (.int .i64 v.am)) (r := (.int .i64 1)) rfl rfl rfl (eg3 _ _ _ _ _ _) (geq3 _ (decide_eq_false (by omega)))) ?_; refine vv (.bool false) 12 rfl rfl (ex_pkT rfl rfl rfl) ?_; refine vm (.bool false) 13 rfl rfl rfl rfl ?_; refine vn 14 rfl rfl ?_; refine vn 15 rfl rfl ?_; refine vn 16 rfl rfl ?_; refine vv (.bool false) 17 rfl rfl (ex_pkF rfl rfl rfl) ?_; refine vm (.bool false) 18 rfl rfl rfl rfl ?_; refine vn 19 rfl rfl ?_; refine vn 20 rfl rfl ?_; refine vn 21 rfl rfl ?_; refine vv (.bool false) 22 rfl rfl (ex_pkF rfl rfl rfl) ?_
      refine vm (.bool false) 23 rfl rfl rfl rfl ?_; refine vn 24 rfl rfl ?_; refine vn 25 rfl rfl ?_; refine vn 26 rfl rfl ?_; refine vv (.bool false) 27 rfl rfl (ex_pkF rfl rfl rfl) ?_; refine vm (.bool false) 28 rfl rfl rfl rfl ?_; refine vn 29 rfl rfl ?_; refine vn 30 rfl rfl ?_; refine vn 31 rfl rfl ?_; refine vv (.bool false) 32 rfl rfl (ex_pkF rfl rfl rfl) ?_; refine vg (.bool false) 2 rfl rfl rfl rfl ?_; refine st_end ?_; subst hQ; refine wp_ret ?_
      repeat (first | refine ret_out ?_ | refine ret_blk ?_)
      refine bodyPost_ret (results_tmp Try.results34 _ _ _) rfl ⟨?_, E⟩
      unfold mayW
      simp only [e0, decide_eq_false e1]
      rfl
  · skip
    replace e0 := Bool.eq_false_iff.2 e0; refine st_call (some 7) rfl rfl (two_any v.fr v.to W1 e0) (ex_call (f := 72) (vs := [(.int .i64 v.fr), (.int .i64 v.to)]) rfl (cf72 _) rfl) ?_; rintro e W2 ⟨rfl, B⟩; refine ⟨_, rfl, ?_⟩; simp only [zp]; replace E := below_next E B; replace k1 := keep B k1; refine vm (.bool false) 8 rfl rfl rfl rfl ?_; refine vn 9 rfl rfl ?_; refine vn 10 rfl rfl ?_; refine vn 11 rfl rfl ?_; refine vv (.bool false) 12 rfl rfl (ex_pkF rfl rfl rfl) ?_; refine vm (.bool false) 13 rfl rfl rfl rfl ?_; refine vn 14 rfl rfl ?_; refine vn 15 rfl rfl ?_
    refine vn 16 rfl rfl ?_; refine vv (.bool false) 17 rfl rfl (ex_pkF rfl rfl rfl) ?_; refine vm (.bool false) 18 rfl rfl rfl rfl ?_; refine vn 19 rfl rfl ?_; refine vn 20 rfl rfl ?_; refine vn 21 rfl rfl ?_; refine vv (.bool false) 22 rfl rfl (ex_pkF rfl rfl rfl) ?_; refine vm (.bool false) 23 rfl rfl rfl rfl ?_; refine vn 24 rfl rfl ?_; refine vn 25 rfl rfl ?_; refine vn 26 rfl rfl ?_; refine vv (.bool false) 27 rfl rfl (ex_pkF rfl rfl rfl) ?_; refine vm (.bool false) 28 rfl rfl rfl rfl ?_; refine vn 29 rfl rfl ?_; refine vn 30 rfl rfl ?_; refine vn 31 rfl rfl ?_
    refine vv (.bool false) 32 rfl rfl (ex_pkF rfl rfl rfl) ?_; refine vg (.bool false) 2 rfl rfl rfl rfl ?_; refine st_end ?_; subst hQ; refine wp_ret ?_
    repeat (first | refine ret_out ?_ | refine ret_blk ?_)
    refine bodyPost_ret (results_tmp Try.results34 _ _ _) rfl ⟨?_, E⟩
    unfold mayW
    simp only [e0]
    rfl
set_option maxHeartbeats 4000000 in
theorem closed_any {g : Nat} {ad : Addr} {n c : Nat} (w : World) (kg : w.heap[g]? = some (.cells #[.slice (some ad) n c] 105)) : Calls Try.prog 33 #[.pointer (some ⟨g, 0, none⟩)] w fun e w' => e = .returned (.bool false) ∧ Below w.heap.size w w' := by
  have E : Below w.heap.size w w := Below.refl _ _
  go_enter Try.func33, Try.ntmps33; refine wq fun Q hQ => ?_; refine vg (.bool false) 2 rfl rfl rfl rfl ?_; refine st_end ?_; subst hQ; refine wq fun Q hQ => ?_; refine vm (Pz g 0) 3 rfl rfl rfl rfl ?_; refine vv (.bool false) 4 rfl rfl (ex_pnil (t := 0) rfl rfl rfl rfl) ?_; refine vm (.bool false) 5 rfl rfl rfl rfl ?_; refine vm (Pz g 0) 6 rfl rfl rfl rfl ?_; refine vv (Pz g 0) 7 rfl rfl (ex_nil (p := (Pz g 0)) rfl rfl rfl) ?_; refine vv (Pz g 0) 8 rfl rfl (ex_fa (p := (Pz g 0)) rfl rfl (fa105_0 _ _)) ?_
  refine vv (.slice (some ad) n c) 9 rfl rfl (ex_load (p := (Pz g 0)) rfl rfl (ld33 (at_cell kg rfl))) ?_; refine vv (.bool false) 10 rfl rfl (ex_snil (t := 0) rfl rfl rfl rfl) ?_; refine vv (.bool false) 11 rfl rfl (ex_pkF rfl rfl rfl) ?_; refine vg (.bool false) 2 rfl rfl rfl rfl ?_; refine st_end ?_; subst hQ; refine wp_ret ?_
  repeat (first | refine ret_out ?_ | refine ret_blk ?_)
  exact bodyPost_ret (results_tmp Try.results33 _ _ _) rfl ⟨rfl, E⟩
set_option maxHeartbeats 4000000 in
theorem len_any {g : Nat} {ad : Addr} {n c : Nat} (w : World) (kg : w.heap[g]? = some (.cells #[.slice (some ad) n c] 105)) : Calls Try.prog 24 #[.pointer (some ⟨g, 0, none⟩)] w fun e w' => e = .returned (.int .i64 (n : Nat)) ∧ Below w.heap.size w w' := by
  have E : Below w.heap.size w w := Below.refl _ _
  go_enter Try.func24, Try.ntmps24; refine wq fun Q hQ => ?_; refine vg (.int .i64 0) 2 rfl rfl rfl rfl ?_; refine st_end ?_; subst hQ; refine wp_seq ?_; refine wq fun Q hQ => ?_; refine vm (Pz g 0) 3 rfl rfl rfl rfl ?_; refine st_call (some 4) rfl rfl (closed_any w kg) (ex_call (f := 33) (vs := [(Pz g 0)]) rfl (cf33 _) rfl) ?_; rintro e W1 ⟨rfl, B⟩; refine ⟨_, rfl, ?_⟩; simp only [zp]; replace E := below_next E B; replace kg := keep B kg; refine st_end ?_; subst hQ; refine wp_cond_false rfl ?_; refine wp_skip ?_; refine wq fun Q hQ => ?_; refine vm (Pz g 0) 5 rfl rfl rfl rfl ?_
  refine vv (Pz g 0) 6 rfl rfl (ex_nil (p := (Pz g 0)) rfl rfl rfl) ?_; refine vv (Pz g 0) 7 rfl rfl (ex_fa (p := (Pz g 0)) rfl rfl (fa105_0 _ _)) ?_; refine vv (.slice (some ad) n c) 8 rfl rfl (ex_load (p := (Pz g 0)) rfl rfl (ld33 (at_cell kg rfl))) ?_; refine vv (.int .i64 (n : Nat)) 9 rfl rfl (ex_len rfl rfl (len33 _ _ _ _ _)) ?_; refine vg (.int .i64 (n : Nat)) 2 rfl rfl rfl rfl ?_; refine st_end ?_; subst hQ; refine wp_ret ?_
  repeat (first | refine ret_out ?_ | refine ret_blk ?_)
  exact bodyPost_ret (results_tmp Try.results24 _ _ _) rfl ⟨rfl, E⟩
end Go.Proofs.Ytgnkcmmpbohafaa

/- The edges from a node; from each node. -/
namespace Go.Proofs.Ytgnkcmmpbohafaa
open Go.RowKit
set_option linter.unusedVariables false
set_option linter.unusedSimpArgs false
set_option maxRecDepth 100000

theorem bslE (e : EV) (W : World) : (Instr.buildSlice 33 1 #[(0, .agg (EL e))]).run Try.prog W = .ok (.slice (some ⟨W.heap.size, 0, none⟩) 1 1) (W.alloc (.cells (EL e) 49)) := bslice W 33 49 1 _ _ _ 13 Try.underlying33 zero49 (by decide) (by decide) (by kernel_rfl)
theorem own_ge {W : World} {base e size n k : Nat} {v : Value} {xs : List Value} (h : W.ownsRow base e size v n xs) (hk : v.ownBlock = some k) : base ≤ k := by
  rcases h.2 with ⟨e, rfl⟩ | ⟨g, cap, cur, rfl, hb, hh, r⟩
  · rw [e] at hk; cases hk
  · have : g = k := by simpa [Value.ownBlock] using hk
    omega
theorem own_lt {W : World} {base e size n k : Nat} {v : Value} {xs : List Value} (h : W.ownsRow base e size v n xs) (hk : v.ownBlock = some k) : k < W.heap.size := by
  rcases h.2 with ⟨e, rfl⟩ | ⟨g, cap, cur, rfl, hb, hh, r⟩
  · rw [e] at hk; cases hk
  · have : g = k := by simpa [Value.ownBlock] using hk
    have := lt_of hh
    omega
theorem nxt_take {L : List EV} {i : Nat} {e : EV} (x : Int) (h : L[i]? = some e) : nxt (L.take (i + 1)) x = nxt (L.take i) x ++ (if e.fr = x then [e] else []) := by
  rw [List.take_add_one, h]
  unfold nxt
  rw [List.filter_append]
  by_cases hx : e.fr = x <;> simp [hx]
theorem nxt_len (L : List EV) (i : Nat) (x : Int) : (nxt (L.take i) x).length ≤ i := Nat.le_trans (List.length_filter_le _ _) (by rw [List.length_take]; omega)
set_option maxHeartbeats 8000000 in
theorem from_any {g N n c : Nat} {ad : Addr} {L : List EV} {x : Int} (w : World) (kg : w.heap[g]? = some (.cells #[.slice (some ad) n c] 105)) (hL : Es w N (some ad) L) (hn : n = L.length) (hn2 : n ≤ 64) : Calls Try.prog 60 #[.pointer (some ⟨g, 0, none⟩), .int .i64 x] w fun e w' => ∃ ao c, e = .returned (.slice ao (nxt L x).length c) ∧ (nxt L x).length ≤ c ∧ Es w' w'.heap.size ao (nxt L x) ∧ Below w.heap.size w w' := by
  have kw := kg
  have E : Below w.heap.size w w := Below.refl _ _
  go_enter Try.func60, Try.ntmps60; refine wq fun Q hQ => ?_; refine vg (.slice none 0 0) 4 rfl rfl rfl rfl ?_; refine st_end ?_; subst hQ; refine wp_seq ?_; refine wq fun Q hQ => ?_; refine vm (Pz g 0) 8 rfl rfl rfl rfl ?_; refine st_call (some 9) rfl rfl (closed_any w kg) (ex_call (f := 33) (vs := [(Pz g 0)]) rfl (cf33 _) rfl) ?_; rintro e W1 ⟨rfl, B⟩; refine ⟨_, rfl, ?_⟩; simp only [zp]; replace E := below_next E B; replace kg := keep B kg; refine st_end ?_; subst hQ; refine wp_cond_false rfl ?_; refine wp_skip ?_; refine wq fun Q hQ => ?_; refine vg (.slice none 0 0) 5 rfl rfl rfl rfl ?_
  refine st_end ?_; subst hQ; refine wp_seq ?_; refine wq fun Q hQ => ?_; refine vm (Pz g 0) 10 rfl rfl rfl rfl ?_; refine vv (Pz g 0) 11 rfl rfl (ex_nil (p := (Pz g 0)) rfl rfl rfl) ?_; refine vv (Pz g 0) 12 rfl rfl (ex_fa (p := (Pz g 0)) rfl rfl (fa105_0 _ _)) ?_; refine vv (.slice (some ad) n c) 13 rfl rfl (ex_load (p := (Pz g 0)) rfl rfl (ld33 (at_cell kg rfl))) ?_; refine vv (.int .i64 (n : Nat)) 14 rfl rfl (ex_len rfl rfl (len33 _ _ _ _ _)) ?_; refine vm (.int .i64 0) 15 rfl rfl rfl rfl ?_; refine st_end ?_; subst hQ; refine wp_block ?_
  go_loopw [5, 15] (fun v5 v15 wr => ∃ i : Nat, i ≤ n ∧ v15 = .int .i64 i ∧ Below w.heap.size w wr ∧ wr.ownsRow w.heap.size 49 13 v5 (nxt (L.take i) x).length (cE (nxt (L.take i) x))) (fun _ v15 _ => n - (intOf v15).toNat)
  case atStart => exact ⟨0, Nat.zero_le _, rfl, E, own_nil _ _ _ _⟩
  case round =>
    clear E; obtain ⟨i, hi, rfl, E, hw⟩ := hrel; have hq0 := fun q => own_lt (k := q) hw
    by_cases hlt : i < n
    · obtain ⟨e, he⟩ : ∃ e, L[i]? = some e := ⟨L[i]'(by omega), List.getElem?_eq_getElem (by omega)⟩
      have hne : L ≠ [] := fun q => by rw [q] at he; simp at he
      have hnx := nxt_take x he; have hnl := nxt_len L i x
      rcases hL with q | ⟨b, off, q, hbN, ⟨cur0, hcur0⟩, hr⟩
      · exact absurd q hne
      cases q
      have hrb := range_below (range_at hr he) E
      by_cases hx : e.fr = x
      · skip
        rw [if_pos hx] at hnx; refine wq fun Q hQ => ?_; refine vv (.bool true) 16 rfl rfl (ex_bin (u := (.int .i64 (i : Nat))) (r := (.int .i64 (n : Nat))) rfl rfl rfl (eg3 _ _ _ _ _ _) (lss3 _ (decide_eq_true (by omega)))) ?_; refine st_end ?_; subst hQ; refine wp_seq ?_; refine wp_cond_true rfl ?_; refine wp_skip ?_; refine wp_seq ?_; refine wp_block ?_; refine wq fun Q hQ => ?_; refine vv (.pointer (some ⟨b, (off + i * 13), none⟩)) 17 rfl rfl (ix33 (k := i) rfl rfl rfl (rfl) (hlt)) ?_; refine vv (.agg (EL e)) 18 rfl rfl (ex_load rfl rfl (ld_range hrb Try.underlying49 rfl inf49)) ?_
        refine st_new (fun b => .pointer (some ⟨b, 0, none⟩)) (some 7) rfl rfl (ex_alloc rfl zero49) ?_; intro b1 W2 k1 g1 B; simp only [zp]; have ge_b1 := Nat.le_trans E.size g1; replace E := below_next E B; replace hw := own_keep hw B; clear B; obtain ⟨W3, hst, kn, K⟩ := put_all (D := (EL e)) k1 rfl inf49 (by kernel_rfl); refine st_sk rfl rfl (ex_store rfl rfl rfl hst) ?_; replace E := below_put E ge_b1 K; replace hw := own_keepK hw K (fun q hq e => by have := hq0 q hq; omega); replace k1 := kn; clear kn K hst; refine st_end ?_; subst hQ; refine wq fun Q hQ => ?_
        refine vv (Pz b1 1) 19 rfl rfl (ex_fa (p := (Pz b1 0)) rfl rfl (fa49_1 _ _)) ?_; refine vv (.int .i64 e.fr) 20 rfl rfl (ex_load (p := (Pz b1 1)) rfl rfl (ld3 (at_cell k1 rfl))) ?_; refine vm (.int .i64 x) 21 rfl rfl rfl rfl ?_; refine vv (.bool true) 22 rfl rfl (ex_bin (u := (.int .i64 e.fr)) (r := (.int .i64 x)) rfl rfl rfl (eg3 _ _ _ _ _ _) (eql3 _ (decide_eq_true hx))) ?_; refine st_end ?_; subst hQ; refine wp_cond_true rfl ?_; refine wl_in (wl_cap fun Q hQ => ?_); refine vm u5 23 rfl rfl rfl rfl ?_
        refine vv (.agg (EL e)) 24 rfl rfl (ex_load (p := (Pz b1 0)) rfl rfl (ld_all k1 Try.underlying49 rfl inf49)) ?_; refine st_new (fun b => .slice (some ⟨b, 0, none⟩) 1 1) (some 25) rfl rfl (ex_bsl1 (u := (.agg (EL e))) rfl rfl (bslE e _)) ?_; intro b2 W4 k2 g2 B; simp only [zp]
        have ne_b2_b1 : b2 ≠ b1 := fun e => by have := lt_of k1; omega
        have ge_b2 := Nat.le_trans E.size g2; replace E := below_next E B; replace hw := own_keep hw B; replace k1 := keep B k1; clear B; obtain ⟨g', cap', W5, hr2, hown2, hK2, hloc2⟩ := own_add (c := 1) (m := 1) (t := 33) hw (show W4.rangeAt b2 0 (EL e).toList from at_range (o := 0) (n := 13) k2 (by show 0 + 13 ≤ _; simp [EL])) rfl (by rw [← cE_one]; exact cE_one1 [e]) Try.underlying33 Try.inf49b rfl (by decide) (by decide) (by omega) (by simp only [maxLen]; omega) E.size; replace E : Below w.heap.size w W5 := E.trans (hK2.below E.size (fun k e => own_ge hw e))
        refine sv (.slice (some ⟨g', 0, none⟩) ((nxt (L.take i) x).length + 1) cap') 26 rfl rfl (ex_app rfl rfl rfl hr2) ?_; simp only [zp]; refine vg (.slice (some ⟨g', 0, none⟩) ((nxt (L.take i) x).length + 1) cap') 5 rfl rfl rfl rfl ?_; refine st_end ?_; subst hQ; refine wl_in (wl_cap fun Q hQ => ?_); refine vv (.int .i64 ((i + 1 : Nat) : Int)) 27 rfl rfl (ex_bin rfl rfl rfl (eg3 _ _ _ _ _ _) (add3 _ (by omega) (by omega))) ?_; refine vm (.int .i64 ((i + 1 : Nat) : Int)) 15 rfl rfl rfl rfl ?_; refine st_end ?_; subst hQ; refine then_go ?_
        first | (go_big_round; refine ⟨?rel, ?measure⟩) | (refine ⟨?_, ?measure⟩; (repeat apply Exists.intro); refine ⟨?rel, rfl⟩)
        case rel => exact ⟨i + 1, by omega, rfl, E, by rw [hnx, cE_app, cE_one, List.length_append]; exact hown2⟩
        case measure => simp [intOf]; omega
      · skip
        rw [if_neg hx] at hnx; refine wq fun Q hQ => ?_; refine vv (.bool true) 16 rfl rfl (ex_bin (u := (.int .i64 (i : Nat))) (r := (.int .i64 (n : Nat))) rfl rfl rfl (eg3 _ _ _ _ _ _) (lss3 _ (decide_eq_true (by omega)))) ?_; refine st_end ?_; subst hQ; refine wp_seq ?_; refine wp_cond_true rfl ?_; refine wp_skip ?_; refine wp_seq ?_; refine wp_block ?_; refine wq fun Q hQ => ?_; refine vv (.pointer (some ⟨b, (off + i * 13), none⟩)) 17 rfl rfl (ix33 (k := i) rfl rfl rfl (rfl) (hlt)) ?_; refine vv (.agg (EL e)) 18 rfl rfl (ex_load rfl rfl (ld_range hrb Try.underlying49 rfl inf49)) ?_
        refine st_new (fun b => .pointer (some ⟨b, 0, none⟩)) (some 7) rfl rfl (ex_alloc rfl zero49) ?_; intro b3 W6 k3 g3 B; simp only [zp]; have ge_b3 := Nat.le_trans E.size g3; replace E := below_next E B; replace hw := own_keep hw B; clear B; obtain ⟨W7, hst, kn, K⟩ := put_all (D := (EL e)) k3 rfl inf49 (by kernel_rfl); refine st_sk rfl rfl (ex_store rfl rfl rfl hst) ?_; replace E := below_put E ge_b3 K; replace hw := own_keepK hw K (fun q hq e => by have := hq0 q hq; omega); replace k3 := kn; clear kn K hst; refine st_end ?_; subst hQ; refine wq fun Q hQ => ?_
        refine vv (Pz b3 1) 19 rfl rfl (ex_fa (p := (Pz b3 0)) rfl rfl (fa49_1 _ _)) ?_; refine vv (.int .i64 e.fr) 20 rfl rfl (ex_load (p := (Pz b3 1)) rfl rfl (ld3 (at_cell k3 rfl))) ?_; refine vm (.int .i64 x) 21 rfl rfl rfl rfl ?_; refine vv (.bool false) 22 rfl rfl (ex_bin (u := (.int .i64 e.fr)) (r := (.int .i64 x)) rfl rfl rfl (eg3 _ _ _ _ _ _) (eql3 _ (decide_eq_false hx))) ?_; refine st_end ?_; subst hQ; refine wp_cond_false rfl ?_; refine wp_skip ?_; refine wl_in (wl_cap fun Q hQ => ?_)
        refine vv (.int .i64 ((i + 1 : Nat) : Int)) 27 rfl rfl (ex_bin rfl rfl rfl (eg3 _ _ _ _ _ _) (add3 _ (by omega) (by omega))) ?_; refine vm (.int .i64 ((i + 1 : Nat) : Int)) 15 rfl rfl rfl rfl ?_; refine st_end ?_; subst hQ; refine then_go ?_
        first | (go_big_round; refine ⟨?rel, ?measure⟩) | (refine ⟨?_, ?measure⟩; (repeat apply Exists.intro); refine ⟨?rel, rfl⟩)
        case rel => exact ⟨i + 1, by omega, rfl, E, by rw [hnx, List.append_nil]; exact hw⟩
        case measure => simp [intOf]; omega
    · have hin : i = n := by omega
      subst i; rw [List.take_of_length_le (by omega)] at hw; refine wq fun Q hQ => ?_; refine vv (.bool false) 16 rfl rfl (ex_bin (u := (.int .i64 (n : Nat))) (r := (.int .i64 (n : Nat))) rfl rfl rfl (eg3 _ _ _ _ _ _) (lss3 _ (decide_eq_false (by omega)))) ?_; refine st_end ?_; subst hQ; refine wp_seq ?_; refine wp_cond_false rfl ?_; refine wp_exit ?_; refine ex_then ?_; refine ex_then ?_; refine ex_blk ?_; refine wq fun Q hQ => ?_; refine vm u5 28 rfl rfl rfl rfl ?_; refine vg u5 4 rfl rfl rfl rfl ?_; refine st_end ?_; subst hQ; refine wp_ret ?_
      obtain ⟨ao, cc, rfl, hcc, hfm⟩ := own_form hw; refine bodyPost_ret (results_tmp Try.results60 _ _ _) rfl ⟨ao, cc, rfl, hcc, ?_, E⟩
      rcases hfm with h0 | ⟨g', cur, rfl, hb', hh, hr'⟩
      · exact .inl (List.eq_nil_of_length_eq_zero h0)
      · exact .inr ⟨g', 0, rfl, lt_of hh, ⟨cur, hh⟩, hr'⟩
/-- the rows of the first i nodes -/
def rowL (L : List EV) (A : Nat → Option Addr) (K : Nat → Nat) (i : Nat) : List Value := (List.range 8).map fun j => if j < i then Value.slice (A j) (nxt L j).length (K j) else .slice none 0 0
theorem rowL_size (L : List EV) (A : Nat → Option Addr) (K : Nat → Nat) (i : Nat) : (rowL L A K i).toArray.size = 8 := by simp [rowL]
theorem rowL_at (L : List EV) (A : Nat → Option Addr) (K : Nat → Nat) (i j : Nat) (hj : j < 8) : (rowL L A K i).toArray[j]? = some (if j < i then Value.slice (A j) (nxt L j).length (K j) else .slice none 0 0) := by
  simp [rowL, hj]
theorem rowL_set (L : List EV) (A : Nat → Option Addr) (K : Nat → Nat) (i : Nat) (hi : i < 8) (ao : Option Addr) (c : Nat) : (rowL L A K i).set i (Value.slice ao (nxt L i).length c) = rowL L (fun j => if j = i then ao else A j) (fun j => if j = i then c else K j) (i + 1) := by
  apply List.ext_getElem?
  intro j; rw [List.getElem?_set]
  unfold rowL
  by_cases hj : j < 8
  · by_cases e : i = j
    · subst e
      simp [hj]
    · by_cases h1 : j < i
      · have : j < i + 1 := by omega
        have : ¬ j = i := by omega
        simp [hj, e, h1, *]
      · have : ¬ j < i + 1 := by omega
        simp [hj, e, h1, *]
  · simp [hj]
    intro h
    omega
theorem rowL_one (L : List EV) (A : Nat → Option Addr) (K : Nat → Nat) (i : Nat) : (rowL L A K i).toArray.all (·.oneCell') = true := by
  rw [List.all_toArray, List.all_eq_true]; intro v hv; obtain ⟨j, _, rfl⟩ := List.mem_map.1 hv
  split <;> rfl
/-- the rows of the first i nodes lie there -/
def Ros (W : World) (L : List EV) (A : Nat → Option Addr) (K : Nat → Nat) (i : Nat) : Prop := ∀ j : Nat, j < i → (nxt L j).length ≤ K j ∧ Es W W.heap.size (A j) (nxt L j)
theorem Ros.keepB {W W' : World} {L : List EV} {A : Nat → Option Addr} {K : Nat → Nat} {i : Nat} (h : Ros W L A K i) (hB : Below W.heap.size W W') : Ros W' L A K i := fun j hj => ⟨(h j hj).1, ((h j hj).2.keepB hB).mono hB.size⟩
theorem Ros.keepT {W W' : World} {L : List EV} {A : Nat → Option Addr} {K : Nat → Nat} {i k T : Nat} {C : Array Value} (h : Ros W L A K i) (hK : Kept (· = k) W W') (hk : W.heap[k]? = some (.cells C T)) (hT : T ≠ 49) : Ros W' L A K i := fun j hj => ⟨(h j hj).1, ((h j hj).2.keepT hK hk hT).mono hK.size⟩
section
variable {o : Oper} {a : Act} {W : World}
theorem ixA {x y : Operand} {b k : Nat} {i : Int} (ho : o.op = .indexAddr 113 x y) (hx : a.eval x = .pointer (some ⟨b, 0, none⟩)) (hy : a.eval y = .int .i64 i) (hi : i = (k : Int)) (hk : k < 8) : (execOp a.eval o).run Try.prog W = .ok (.value (.pointer (some ⟨b, k, none⟩))) W := by
  subst hi
  have h1 : (k : Int) < 8 := by omega
  unfold execOp
  simp only [ho, hx, hy]
  go_simp
theorem ixB {x y : Operand} {b k : Nat} {i : Int} (ho : o.op = .indexAddr 117 x y) (hx : a.eval x = .pointer (some ⟨b, 0, none⟩)) (hy : a.eval y = .int .i64 i) (hi : i = (k : Int)) (hk : k < 8) : (execOp a.eval o).run Try.prog W = .ok (.value (.pointer (some ⟨b, k, none⟩))) W := by
  subst hi
  have h1 : (k : Int) < 8 := by omega
  unfold execOp
  simp only [ho, hx, hy]
  go_simp
end
set_option maxHeartbeats 8000000 in
theorem byFrom_any {g N n c : Nat} {ad : Addr} {L : List EV} (w : World) (kg : w.heap[g]? = some (.cells #[.slice (some ad) n c] 105)) (hL : Es w N (some ad) L) (hN : N ≤ w.heap.size) (hn : n = L.length) (hn2 : n ≤ 64) : Calls Try.prog 74 #[.pointer (some ⟨g, 0, none⟩)] w fun e w' => ∃ A K, e = .returned (.agg (rowL L A K 8).toArray) ∧ Ros w' L A K 8 ∧ Below w.heap.size w w' := by
  have kw := kg
  have E : Below w.heap.size w w := Below.refl _ _
  go_enter Try.func74, Try.ntmps74; refine wq fun Q hQ => ?_; refine st_new (fun b => .pointer (some ⟨b, 0, none⟩)) (some 2) rfl rfl (ex_alloc rfl zero113) ?_; intro b1 W1 k1 g1 B; simp only [zp]; have ge_b1 := Nat.le_trans E.size g1; replace E := below_next E B; clear B; refine st_end ?_; subst hQ; refine wq fun Q hQ => ?_; refine st_new (fun b => .pointer (some ⟨b, 0, none⟩)) (some 3) rfl rfl (ex_alloc rfl zero113) ?_; intro b2 W2 k2 g2 B; simp only [zp]
  have ne_b2_b1 : b2 ≠ b1 := fun e => by have := lt_of k1; omega
  have ge_b2 := Nat.le_trans E.size g2; replace E := below_next E B; replace k1 := keep B k1; clear B; refine st_end ?_; subst hQ; refine wp_seq ?_; refine wq fun Q hQ => ?_; refine vm (.int .i64 0) 5 rfl rfl rfl rfl ?_; refine st_end ?_; subst hQ; refine wp_block ?_
  have ne23 : ¬ b1 = b2 := by first | exact ne_b1_b2 | exact fun e => ne_b2_b1 e.symm
  go_loopw [5] (fun v5 wr => ∃ (i : Nat) (A : Nat → Option Addr) (K : Nat → Nat), i ≤ 8 ∧ v5 = .int .i64 i ∧ Below w.heap.size w wr ∧ wr.heap[b1]? = some (.cells #[.slice none 0 0, .slice none 0 0, .slice none 0 0, .slice none 0 0, .slice none 0 0, .slice none 0 0, .slice none 0 0, .slice none 0 0] 113) ∧ wr.heap[b2]? = some (.cells (rowL L A K i).toArray 113) ∧ Ros wr L A K i) (fun v5 _ => 8 - (intOf v5).toNat)
  case atStart => exact ⟨0, fun _ => none, fun _ => 0, Nat.zero_le _, rfl, E, k1, k2, fun j hj => absurd hj (Nat.not_lt_zero _)⟩
  case round =>
    clear E k1 k2; obtain ⟨i, A, K0, hi, rfl, E, k2, k3, hA⟩ := hrel
    by_cases hlt : i < 8
    · skip
      refine wq fun Q hQ => ?_; refine vv (.bool true) 6 rfl rfl (ex_bin (u := (.int .i64 (i : Nat))) (r := (.int .i64 8)) rfl rfl rfl (eg3 _ _ _ _ _ _) (lss3 _ (decide_eq_true (by omega)))) ?_; refine st_end ?_; subst hQ; refine wp_seq ?_; refine wp_cond_true rfl ?_; refine wp_skip ?_; refine wp_seq ?_; refine wp_block ?_; refine wq fun Q hQ => ?_; refine vm (.int .i64 (i : Nat)) 7 rfl rfl rfl rfl ?_; refine vg (.int .i64 (i : Nat)) 4 rfl rfl rfl rfl ?_; refine st_end ?_; subst hQ; refine wl_in (wl_cap fun Q hQ => ?_); refine vm (.int .i64 (i : Nat)) 8 rfl rfl rfl rfl ?_
      refine vm (Pz g 0) 9 rfl rfl rfl rfl ?_; refine vm (.int .i64 (i : Nat)) 10 rfl rfl rfl rfl ?_; refine st_call (some 11) rfl rfl (from_any (x := ((i : Nat) : Int)) wr (keep E kw) (hL.keep E hN) hn hn2) (ex_call (f := 60) (vs := [(Pz g 0), (.int .i64 (i : Nat))]) rfl (cf60 _) rfl) ?_; rintro e W3 ⟨ao, cc, rfl, hcc, hEs, B⟩; refine ⟨_, rfl, ?_⟩; simp only [zp]; replace E := below_next E B; replace k2 := keep B k2; replace k3 := keep B k3; replace hA := hA.keepB B; refine vv (Pz b2 i) 12 rfl rfl (ixA rfl rfl rfl rfl hlt) ?_
      obtain ⟨kn, K⟩ := put_cell (i := i) (.slice ao (nxt L ((i : Nat) : Int)).length cc) k3; refine st_sk rfl rfl (ex_store rfl rfl rfl (sto33 (at_cell k3 (rowL_at L A K0 i i hlt)) (unfrozen k3))) ?_; obtain ⟨W4, hW2⟩ : ∃ W', W3.setCell ⟨b2, i, none⟩ (.slice ao (nxt L ((i : Nat) : Int)).length cc) = W' := ⟨_, rfl⟩; rw [hW2] at kn K ⊢; rw [List.setIfInBounds_toArray, rowL_set L A K0 i hlt ao cc] at kn; replace E := below_put E ge_b2 K; replace k2 := keepK K k2 (fun e => ne23 e); replace hA := hA.keepT K k3 (by decide); replace hEs := (hEs.keepT K k3 (by decide)).mono K.size
      replace k3 := kn; clear kn K; refine st_end ?_; subst hQ; refine wl_in (wl_cap fun Q hQ => ?_); refine vv (.int .i64 ((i + 1 : Nat) : Int)) 13 rfl rfl (ex_bin rfl rfl rfl (eg3 _ _ _ _ _ _) (add3 _ (by omega) (by omega))) ?_; refine vm (.int .i64 ((i + 1 : Nat) : Int)) 5 rfl rfl rfl rfl ?_; refine st_end ?_; subst hQ; refine then_go ?_
      first | (go_big_round; refine ⟨?rel, ?measure⟩) | (refine ⟨?_, ?measure⟩; (repeat apply Exists.intro); refine ⟨?rel, rfl⟩)
      case rel =>
        refine ⟨i + 1, _, _, by omega, rfl, E, k2, k3, fun j hj => ?_⟩
        by_cases hj' : j = i
        · subst hj'
          simp only [if_pos]; exact ⟨hcc, hEs⟩
        · simp only [if_neg hj']
          exact hA j (by omega)
      case measure => simp [intOf]; omega
    · have hin : i = 8 := by omega
      subst i; refine wq fun Q hQ => ?_; refine vv (.bool false) 6 rfl rfl (ex_bin (u := (.int .i64 (8 : Nat))) (r := (.int .i64 8)) rfl rfl rfl (eg3 _ _ _ _ _ _) (lss3 _ (decide_eq_false (by omega)))) ?_; refine st_end ?_; subst hQ; refine wp_seq ?_; refine wp_cond_false rfl ?_; refine wp_exit ?_; refine ex_then ?_; refine ex_then ?_; refine ex_blk ?_; refine wq fun Q hQ => ?_; refine vv (.agg (rowL L A K0 8).toArray) 14 rfl rfl (ex_load (p := (Pz b2 0)) rfl rfl (ld_all k3 Try.underlying113 rfl (inf113.trans (congrArg some ((rowL_size L A K0 8)).symm)))) ?_
      obtain ⟨W5, hst, kn, K⟩ := put_all (D := (rowL L A K0 8).toArray) k2 (((show (#[.slice none 0 0, .slice none 0 0, .slice none 0 0, .slice none 0 0, .slice none 0 0, .slice none 0 0, .slice none 0 0, .slice none 0 0] : Array Value).size = 8 from rfl)).trans ((rowL_size L A K0 8)).symm) (inf113.trans (congrArg some ((rowL_size L A K0 8)).symm)) (rowL_one L A K0 8); refine st_sk rfl rfl (ex_store rfl rfl rfl hst) ?_; replace E := below_put E ge_b1 K; replace k3 := keepK K k3 (fun e => ne23 e.symm); replace hA := hA.keepT K k2 (by decide); replace k2 := kn; clear kn K hst
      refine st_end ?_; subst hQ; refine wp_ret ?_; refine bodyPost_ret (results_cell_row Try.results74 _ _ b1 _ _ _ _ rfl k2 Try.underlying113 rfl (inf113.trans (congrArg some ((rowL_size L A K0 8)).symm))) rfl ⟨A, K0, rfl, hA, E⟩
end Go.Proofs.Ytgnkcmmpbohafaa
