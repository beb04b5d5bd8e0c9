/- Graphs as numbers: edges, ways, what a way costs; all ways from a node, one behind the other; the best of them. -/
import Derived.Test.YtgnkcmmpbohafaaAmtFee
import Derived.Test.YtgnkcmmpbohafaaSNum
namespace Go.Proofs.Ytgnkcmmpbohafaa
open Go.RowKit
set_option linter.unusedVariables false
set_option linter.unusedSimpArgs false
/-- rules, an edge, what is wanted, a way, as numbers -/
structure RV where
  b : Int
  r : Int
  d : Int
  g : Int
  f : Int
structure EV where
  ch : Int
  fr : Int
  to : Int
  cap : Int
  q : RV
  p : PV
structure WV where
  fr : Int
  to : Int
  am : Int
  la : Int
  mo : Int
  ti : Int
  av : List Int
structure YV where
  es : List EV
  am : List Int
  xs : List Int
  fee : Int
  cost : Nat
def mayR (q : RV) : Bool := rightB q.b q.r && decide (1 ≤ q.d) && decide (q.d ≤ 1000) && decide (0 ≤ q.g) && decide (q.g ≤ 1000) && decide (1 ≤ q.f) && decide (q.f ≤ 2147483647)
def nodeB (n : Int) : Bool := decide (0 ≤ n) && decide (n < 8)
def chanB (n : Int) : Bool := decide (1 ≤ n) && decide (n ≤ 65535)
def mayE (e : EV) : Bool := chanB e.ch && (nodeB e.fr && nodeB e.to && decide (¬ e.fr = e.to)) && decide (0 ≤ e.cap) && mayR e.q
def mayW (w : WV) : Bool := (nodeB w.fr && nodeB w.to && decide (¬ w.fr = w.to)) && decide (1 ≤ w.am) && decide (0 ≤ w.la) && decide (w.la ≤ 2147483647) && decide (0 ≤ w.mo)
/-- what goes into the edge ahead of r, and when it expires there -/
def into (w : WV) : List EV → List Int → List Int → Option (Int × Int)
  | [], _, _ => some (w.am, w.la)
  | e :: _, a :: _, x :: _ => if inE e.q.b e.q.r a = 0 then some (inN e.q.b e.q.r a, x + e.q.d) else none
  | _ :: _, _, _ => none
/-- amounts and expiries of edges, if they may be taken -/
def layN (w : WV) : List EV → Option (List Int × List Int)
  | [] => some ([], [])
  | e :: r => (layN w r).bind fun z => (into w r z.1 z.2).bind fun y => if e.cap < y.1 ∨ 2147483647 < y.2 then none else some (y.1 :: z.1, y.2 :: z.2)
/-- the costs of edges; b: what goes into the one ahead -/
def cstN (t : Int) : Option Int → List EV → List Int → List Nat
  | b, e :: r, a :: am => costN (match b with | none => 0 | some c => c - a) (match b with | none => 0 | some _ => e.q.d) (chN e.p a e.cap t) :: cstN t (some a) r am
  | _, _, _ => []
def wayN (w : WV) (es : List EV) : Option YV :=
  (layN w es).bind fun z =>
    if w.mo < z.1.headD w.am - w.am then none
    else if lsN (jn (cstN w.ti none es z.1) 0) 9218868437227405312 then some ⟨es, z.1, z.2, z.1.headD w.am - w.am, jn (cstN w.ti none es z.1) 0⟩ else none
def betB (x : YV) : Option YV → Bool
  | none => true
  | some b => lsN x.cost b.cost || (!lsN b.cost x.cost && decide (x.es.length < b.es.length))
def seeN (w : WV) (B : Option YV) (es : List EV) : Option YV :=
  match wayN w es with
  | none => B
  | some x => if betB x B then some x else B
/-- the edges from a node -/
def nxt (L : List EV) (n : Int) : List EV := L.filter fun e => decide (e.fr = n)
def skip (w : WV) (gone : List Int) (e : EV) : Bool := decide (e.ch ∈ w.av) || decide (e.to ∈ gone)
/-- all ways on, by the edges l of the node where one stands -/
def wys (L : List EV) (w : WV) : Nat → List Int → List EV → List EV → List (List EV)
  | 0, _, _, _ => []
  | k + 1, gone, pre, l => l.flatMap fun e => if skip w gone e then [] else if e.to = w.to then [pre ++ [e]] else wys L w k (e.to :: gone) (pre ++ [e]) (nxt L e.to)
/-- how many edges are looked at -/
def stp (L : List EV) (w : WV) : Nat → List Int → List EV → Nat
  | 0, _, _ => 0
  | k + 1, gone, l => (l.map fun e => 1 + (if skip w gone e then 0 else if e.to = w.to then 0 else stp L w k (e.to :: gone) (nxt L e.to))).sum
/-- where one stands: the edges that were gone along, the last one first, and what is left at each -/
abbrev St := List (EV × List EV)
def gon (s : St) : List Int := s.map (·.1.to)
/-- the way so far, without the first one, that comes from nowhere -/
def pre (s : St) : List EV := (s.map (·.1)).reverse.drop 1
def rem (L : List EV) (w : WV) : St → List (List EV)
  | [] => []
  | (e, l) :: r => wys L w (9 - r.length) (gon ((e, l) :: r)) (pre ((e, l) :: r)) l ++ rem L w r
def lft (L : List EV) (w : WV) : St → Nat
  | [] => 0
  | (e, l) :: r => stp L w (9 - r.length) (gon ((e, l) :: r)) l + lft L w r
def all (L : List EV) (w : WV) (e0 : EV) : List (List EV) := rem L w [(e0, nxt L w.fr)]
def bst (w : WV) (B : Option YV) (l : List (List EV)) : Option YV := l.foldl (seeN w) B

theorem pre_cons (e : EV) (l l' : List EV) (s : St) (h : s ≠ []) : pre ((e, l) :: s) = pre s ++ [e] := by
  cases s with
  | nil => exact absurd rfl h
  | cons a r =>
    unfold pre
    simp only [List.map_cons, List.reverse_cons, List.append_assoc]
    rw [← List.append_assoc, List.drop_append_of_le_length (by simp)]
section
variable {L : List EV} {w : WV}
theorem wys_cons (k : Nat) (gone : List Int) (p : List EV) (e : EV) (l : List EV) : wys L w (k + 1) gone p (e :: l) = (if skip w gone e then [] else if e.to = w.to then [p ++ [e]] else wys L w k (e.to :: gone) (p ++ [e]) (nxt L e.to)) ++ wys L w (k + 1) gone p l := by
  simp [wys]
theorem stp_cons (k : Nat) (gone : List Int) (e : EV) (l : List EV) : stp L w (k + 1) gone (e :: l) = 1 + (if skip w gone e then 0 else if e.to = w.to then 0 else stp L w k (e.to :: gone) (nxt L e.to)) + stp L w (k + 1) gone l := by
  simp [stp]
theorem wys_nil (k : Nat) (gone : List Int) (p : List EV) : wys L w k gone p [] = [] := by cases k <;> simp [wys]
theorem stp_nil (k : Nat) (gone : List Int) : stp L w k gone [] = 0 := by cases k <;> simp [stp]
/-- nothing is left at the last one -/
theorem rem_pop (e : EV) (r : St) : rem L w ((e, []) :: r) = rem L w r := by
  show wys L w _ _ _ [] ++ _ = _
  rw [wys_nil]; rfl
theorem lft_pop (e : EV) (r : St) : lft L w ((e, []) :: r) = lft L w r := by
  show stp L w _ _ [] + _ = _
  rw [stp_nil]; omega
theorem gon_left (e : EV) (l l' : List EV) (r : St) : gon ((e, l) :: r) = gon ((e, l') :: r) := rfl
theorem pre_left (e : EV) (l l' : List EV) (r : St) : pre ((e, l) :: r) = pre ((e, l') :: r) := rfl
/-- an edge that is not gone along -/
theorem rem_skip {d e : EV} {l : List EV} {r : St} (hr : r.length ≤ 8) (h : skip w (gon ((d, e :: l) :: r)) e = true) : rem L w ((d, e :: l) :: r) = rem L w ((d, l) :: r) := by
  obtain ⟨k, hk⟩ : ∃ k, 9 - r.length = k + 1 := ⟨8 - r.length, by omega⟩
  show wys L w _ _ _ (e :: l) ++ _ = wys L w _ _ _ l ++ _
  rw [hk, wys_cons, h]
  rfl
theorem lft_skip {d e : EV} {l : List EV} {r : St} (hr : r.length ≤ 8) (h : skip w (gon ((d, e :: l) :: r)) e = true) : lft L w ((d, e :: l) :: r) = 1 + lft L w ((d, l) :: r) := by
  obtain ⟨k, hk⟩ : ∃ k, 9 - r.length = k + 1 := ⟨8 - r.length, by omega⟩
  show stp L w _ _ (e :: l) + _ = 1 + (stp L w _ _ l + _)
  rw [hk, stp_cons, h]
  simp only [if_pos]
  have : gon ((d, e :: l) :: r) = gon ((d, l) :: r) := rfl
  rw [this]
  omega
/-- an edge that leads there -/
theorem rem_there {d e : EV} {l : List EV} {r : St} (hr : r.length ≤ 8) (h : skip w (gon ((d, e :: l) :: r)) e = false) (ht : e.to = w.to) : rem L w ((d, e :: l) :: r) = (pre ((d, l) :: r) ++ [e]) :: rem L w ((d, l) :: r) := by
  obtain ⟨k, hk⟩ : ∃ k, 9 - r.length = k + 1 := ⟨8 - r.length, by omega⟩
  show wys L w _ _ _ (e :: l) ++ _ = _ :: (wys L w _ _ _ l ++ _)
  rw [hk, wys_cons, h, if_neg (by simp), if_pos ht]
  rfl
theorem lft_there {d e : EV} {l : List EV} {r : St} (hr : r.length ≤ 8) (h : skip w (gon ((d, e :: l) :: r)) e = false) (ht : e.to = w.to) : lft L w ((d, e :: l) :: r) = 1 + lft L w ((d, l) :: r) := by
  obtain ⟨k, hk⟩ : ∃ k, 9 - r.length = k + 1 := ⟨8 - r.length, by omega⟩
  show stp L w _ _ (e :: l) + _ = 1 + (stp L w _ _ l + _)
  rw [hk, stp_cons, h, if_neg (by simp), if_pos ht]
  have : gon ((d, e :: l) :: r) = gon ((d, l) :: r) := rfl
  rw [this]
  omega
/-- an edge that is gone along -/
theorem rem_push {d e : EV} {l : List EV} {r : St} (hr : r.length ≤ 8) (h : skip w (gon ((d, e :: l) :: r)) e = false) (ht : ¬ e.to = w.to) : rem L w ((d, e :: l) :: r) = rem L w ((e, nxt L e.to) :: (d, l) :: r) := by
  obtain ⟨k, hk⟩ : ∃ k, 9 - r.length = k + 1 := ⟨8 - r.length, by omega⟩
  have hk2 : 9 - (r.length + 1) = k := by omega
  show wys L w _ _ _ (e :: l) ++ _ = wys L w (9 - ((d, l) :: r).length) _ _ _ ++ (wys L w _ _ _ l ++ _)
  rw [List.length_cons, hk, hk2, wys_cons, h, if_neg (by simp), if_neg ht, List.append_assoc]
  rw [pre_cons e (nxt L e.to) l ((d, l) :: r) (by simp)]
  rfl
theorem lft_push {d e : EV} {l : List EV} {r : St} (hr : r.length ≤ 8) (h : skip w (gon ((d, e :: l) :: r)) e = false) (ht : ¬ e.to = w.to) : lft L w ((d, e :: l) :: r) = 1 + lft L w ((e, nxt L e.to) :: (d, l) :: r) := by
  obtain ⟨k, hk⟩ : ∃ k, 9 - r.length = k + 1 := ⟨8 - r.length, by omega⟩
  have hk2 : 9 - (r.length + 1) = k := by omega
  show stp L w _ _ (e :: l) + _ = 1 + (stp L w (9 - ((d, l) :: r).length) _ _ + (stp L w _ _ l + _))
  rw [List.length_cons, hk, hk2, stp_cons, h, if_neg (by simp), if_neg ht]
  have h1 : gon ((d, e :: l) :: r) = gon ((d, l) :: r) := rfl
  have h2 : gon ((e, nxt L e.to) :: (d, l) :: r) = e.to :: gon ((d, l) :: r) := rfl
  rw [h1, h2]
  omega
/-- what is found stays found -/
theorem see_some {x : YV} {es : List EV} : (seeN w (some x) es).isSome = true := by
  unfold seeN
  split
  · rfl
  · split <;> rfl
theorem bst_some {l : List (List EV)} : ∀ {B : Option YV}, B.isSome = true → (bst w B l).isSome = true := by
  induction l with
  | nil => exact fun h => h
  | cons a l ih =>
    intro B h
    cases B with
    | none => cases h
    | some x => exact ih see_some
end
/-- at most n numbers are below n, where none is there twice -/
theorem few : ∀ (n : Nat) (l : List Int), l.Nodup → (∀ x ∈ l, 0 ≤ x ∧ x < n) → l.length ≤ n
  | 0, l, _, h => by
    cases l with
    | nil => simp
    | cons a r => have := h a (by simp); omega
  | n + 1, l, hn, h => by
    by_cases hm : (n : Int) ∈ l
    · have h1 := few n (l.erase n) (hn.erase _) (fun x hx => by
        have h2 := (List.Nodup.mem_erase_iff hn).1 hx
        have h3 := h x h2.2
        omega)
      rw [List.length_erase_of_mem hm] at h1
      omega
    · have h1 := few n l hn (fun x hx => by
        have h3 := h x hx
        have : x ≠ n := fun e => hm (e ▸ hx)
        omega)
      omega
end Go.Proofs.Ytgnkcmmpbohafaa
