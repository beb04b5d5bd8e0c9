/- Bytes and folders in memory: what is kept, and how a folder's map answers. -/
import Derived.Test.YtdmhcgneafacmaaRows
import Derived.WalkKit
import Derived.WalkSpells
import Derived.WalkLawsBesides
import Derived.Handy
import Derived.Maps.RangeWalk
import Derived.Maps.AppendAt
import Derived.Laws.AppendOwnNone
namespace Go.Proofs.Ytdmhcgneafacmaa
open Go.RowKit
open Go.ChangeMaps (setBlock)
set_option linter.unusedVariables false
set_option linter.unusedSimpArgs false

theorem hide {p : Prop} (h : p) : Hid p := h
theorem Try.info5 : (Try.prog.info? 5).map (fun i => (i.zero, i.size, i.bytes)) = some (some (.int .u8 0), 1, 1) := by kernel_rfl

/-- bytes as values -/
def U8 (zs : List Int) : List Value := zs.map (Value.int .u8)
theorem U8_append (a b : List Int) : U8 (a ++ b) = U8 a ++ U8 b := by simp [U8]
theorem U8_length (a : List Int) : (U8 a).length = a.length := by simp [U8]
theorem one_u8 (zs : List Int) : ∀ u ∈ U8 zs, u.oneCell' = true := by
  intro u hu
  simp [U8] at hu
  obtain ⟨a, _, rfl⟩ := hu
  rfl
theorem U8_inj {a b : List Int} (h : U8 a = U8 b) : a = b := (List.map_inj_right (fun x y hxy => by cases hxy; rfl)).1 h

/-- all is kept but what F tells -/
structure Kept (F : Nat → Prop) (w w' : World) : Prop where
  os : w'.os = w.os
  tape : w'.tape = w.tape
  output : w'.output = w.output
  size : w.heap.size ≤ w'.heap.size
  block : ∀ k, k < w.heap.size → ¬ F k → w'.heap[k]? = w.heap[k]?

def Not : Nat → Prop := fun _ => False
theorem Kept.refl (F : Nat → Prop) (w : World) : Kept F w w := ⟨rfl, rfl, rfl, Nat.le_refl _, fun _ _ _ => rfl⟩
theorem Kept.trans {F G H : Nat → Prop} {a b c : World} (h : Kept F a b) (k : Kept G b c) (h1 : ∀ i, i < a.heap.size → F i → H i) (h2 : ∀ i, i < a.heap.size → G i → H i) : Kept H a c :=
  ⟨k.os.trans h.os, k.tape.trans h.tape, k.output.trans h.output, Nat.le_trans h.size k.size, fun i hi hn =>
    (k.block i (Nat.lt_of_lt_of_le hi h.size) (fun e => hn (h2 i hi e))).trans (h.block i hi (fun e => hn (h1 i hi e)))⟩
theorem Kept.mono {F H : Nat → Prop} {a b : World} (h : Kept F a b) (h1 : ∀ i, i < a.heap.size → F i → H i) : Kept H a b := h.trans (Kept.refl F b) h1 h1
theorem Kept.next {F : Nat → Prop} {a b c : World} (h : Kept F a b) (k : Kept Not b c) : Kept F a c := h.trans k (fun _ _ h => h) (fun _ _ h => h.elim)
theorem Kept.ofBelow {w w' : World} (h : Below w.heap.size w w') : Kept Not w w' := ⟨h.os, h.tape, h.output, h.size, fun k hk _ => h.block k hk⟩
theorem Kept.below {F : Nat → Prop} {w w' : World} {B : Nat} (h : Kept F w w') (hB : B ≤ w.heap.size) (hF : ∀ k, F k → B ≤ k) : Below B w w' :=
  ⟨h.os, h.tape, h.output, h.size, fun k hk => h.block k (by omega) (fun e => by have := hF k e; omega)⟩
theorem Kept.newBelow {w w' : World} (h : Kept Not w w') : Below w.heap.size w w' := h.below (Nat.le_refl _) (fun _ h => h.elim)
theorem Kept.ofGrown {w w' : World} {row : Option Nat} (h : w.grownBy w' row) : Kept (fun k => row = some k) w w' := ⟨h.os, h.tape, h.output, h.size, fun k hk hn => h.block k hk (fun e => hn e.symm)⟩
theorem Kept.alloc (w : World) (o : Obj) : Kept Not w (w.alloc o) := Kept.ofBelow ((Below.refl _ _).alloc (Nat.le_refl _) o)
theorem Kept.cell {F : Nat → Prop} {w w' : World} (h : Kept F w w') {a : Addr} {v : Value} (hc : w.cell? a = some v) (hF : ¬ F a.block) : w'.cell? a = some v := by
  rw [World.cell?_of_block (h.block _ (block_lt_of_cell hc) hF)]
  exact hc

/-- a slice of bytes: nil, or cells -/
def IsB (w : World) (ao : Option Addr) (cap : Nat) (zs : List Int) : Prop :=
  (ao = none ∧ cap = 0 ∧ zs = []) ∨ ∃ x, ao = some x ∧ ∀ j u, (U8 zs)[j]? = some u → w.cell? (x.add j) = some u
theorem IsB.below {w w' : World} {ao : Option Addr} {cap : Nat} {zs : List Int} (h : IsB w ao cap zs) (hb : Below w.heap.size w w') : IsB w' ao cap zs := by
  rcases h with h | ⟨x, rfl, hc⟩
  · exact .inl h
  · refine .inr ⟨x, rfl, fun j u hu => ?_⟩
    have h := hc j u hu
    have hlt := block_lt_of_cell h
    exact (hb.cell hlt).trans h

/-- a row of its own, with these bytes -/
def Row (w : World) (v : Value) (zs : List Int) : Prop := w.ownsRow 0 5 1 v zs.length (U8 zs)
theorem Row.of {w : World} {B : Nat} {v : Value} {zs : List Int} {n : Nat} (h : w.ownsRow B 5 1 v n (U8 zs)) : Row w v zs := by
  have hn : zs.length = n := by have := h.1; rw [U8_length] at this; omega
  subst hn
  refine ⟨h.1, ?_⟩
  rcases h.2 with h | ⟨g, cap, cur, h1, _, h2⟩
  · exact .inl h
  · exact .inr ⟨g, cap, cur, h1, Nat.zero_le _, h2⟩
theorem Row.isB {w : World} {v : Value} {zs : List Int} (h : Row w v zs) : ∃ ao cap, v = .slice ao zs.length cap ∧ IsB w ao cap zs ∧ zs.length ≤ cap ∧ cap ≤ 9223372036854775807 := by
  have hcells := fun (g : Nat) hg => World.ownsRow.cells h (g := g) hg
  rcases h.2 with ⟨rfl, h0⟩ | ⟨g, cap, cur, rfl, _, _, hn, hm, _⟩
  · exact ⟨none, 0, by rw [h0], .inl ⟨rfl, rfl, List.eq_nil_of_length_eq_zero h0⟩, by omega, by omega⟩
  · unfold maxLen at hm
    exact ⟨_, cap, rfl, .inr ⟨_, rfl, hcells g rfl⟩, hn, by omega⟩
theorem Row.lt {w : World} {v : Value} {zs : List Int} (h : Row w v zs) {g : Nat} (hg : v.ownBlock = some g) : g < w.heap.size := by
  rcases h.2 with ⟨rfl, _⟩ | ⟨g', cap, cur, rfl, _, h2, _⟩
  · cases hg
  · cases hg
    exact (Array.getElem?_eq_some_iff.1 h2).1
theorem Row.kept {F : Nat → Prop} {w w' : World} {v : Value} {zs : List Int} (h : Row w v zs) (k : Kept F w w') (hF : ∀ g, v.ownBlock = some g → ¬ F g) : Row w' v zs := by
  have hlt := fun g hg => h.lt (g := g) hg
  refine ⟨h.1, ?_⟩
  rcases h.2 with h | ⟨g, cap, cur, rfl, h0, h2, h3⟩
  · exact .inl h
  · exact .inr ⟨g, cap, cur, rfl, h0, (k.block g (hlt g rfl) (hF g rfl)).trans h2, h3⟩
theorem Row.nil (w : World) : Row w (.slice none 0 0) [] := ⟨rfl, .inl ⟨rfl, rfl⟩⟩
/-- the first n bytes -/
theorem Row.cut {w : World} {ao : Option Addr} {cap m : Nat} {zs : List Int} (h : Row w (.slice ao m cap) zs) {n : Nat} (hn : n ≤ zs.length) : Row w (.slice ao n cap) (zs.take n) := by
  refine ⟨by simp [U8_length], ?_⟩
  rcases h.2 with ⟨h, h0⟩ | ⟨g, cap', cur, hv, h0, h2, h3, h4, h5, h6⟩
  · simp only [Value.slice.injEq] at h
    obtain ⟨rfl, rfl, rfl⟩ := h
    exact .inl ⟨by rw [show n = 0 by omega], by simp; omega⟩
  · simp only [Value.slice.injEq] at hv
    obtain ⟨rfl, rfl, rfl⟩ := hv
    refine .inr ⟨g, cap, cur, by simp [Nat.min_eq_left hn], h0, h2, by simp; omega, h4, h5, ?_⟩
    have : U8 (zs.take n) = (U8 zs).take n := by simp [U8]
    rw [this, ← h6, List.take_take]
    simp

theorem beq_same (a : ByteArray) : (a == a) = true := by
  cases a
  exact beq_self_eq_true (α := Array UInt8) _
theorem beq_eq {a b : ByteArray} (h : (a == b) = true) : a = b := by
  cases a
  cases b
  exact congrArg ByteArray.mk (eq_of_beq (α := Array UInt8) h)
theorem beq_ne {a b : ByteArray} (h : a ≠ b) : (a == b) = false := by
  cases e : a == b
  · rfl
  · exact absurd (beq_eq e) h

/-- one file of a folder: its name, its slice, its bytes -/
abbrev Ent := ByteArray × Value × List Int
/-- the folder's map in block b; its rows' blocks are R's -/
structure Dir (w : World) (R : Nat → Prop) (b : Nat) (L : List Ent) : Prop where
  map : ∃ es clock, w.heap[b]? = some (.map es clock) ∧ es.toList.map (fun e => (e.key, e.val)) = L.map (fun x => (Value.string x.1, x.2.1)) ∧ (∀ e ∈ es.toList, e.born < clock) ∧ (es.toList.map (·.born)).Nodup
  rows : ∀ x ∈ L, Row w x.2.1 x.2.2
  mine : ∀ x ∈ L, ∀ g, x.2.1.ownBlock = some g → R g
  apart : L.Pairwise fun x y => x.1 ≠ y.1 ∧ (x.2.1.ownBlock = none ∨ x.2.1.ownBlock ≠ y.2.1.ownBlock)
  other : ¬ R b

/-- what a file has -/
def look (L : List Ent) (s : ByteArray) : Option (List Int) := (L.find? (fun x => x.1 == s)).map (·.2.2)
/-- how many bytes all have -/
def sum (L : List Ent) : Nat := (L.map (·.2.2.length)).sum

/-- one file more, where there was none -/
def plus : Option (List Int) → Nat
  | some _ => 0
  | none => 1
theorem look_hit {L1 L2 : List Ent} {s : ByteArray} {v : Value} {zs : List Int} (h : ∀ x ∈ L1, x.1 ≠ s) : look (L1 ++ (s, v, zs) :: L2) s = some zs := by
  unfold look
  rw [List.find?_append, List.find?_eq_none.2 (fun x hx => by simp [beq_ne (h x hx)])]
  simp [beq_same]
theorem look_miss {L : List Ent} {s : ByteArray} (h : ∀ x ∈ L, x.1 ≠ s) : look L s = none := by
  unfold look
  rw [List.find?_eq_none.2 (fun x hx => by simp [beq_ne (h x hx)])]
  rfl
/-- a file is there, or not -/
theorem split {L : List Ent} (h : L.Pairwise fun x y => x.1 ≠ y.1 ∧ (x.2.1.ownBlock = none ∨ x.2.1.ownBlock ≠ y.2.1.ownBlock)) (s : ByteArray) :
    (∀ x ∈ L, x.1 ≠ s) ∨ ∃ L1 v zs L2, L = L1 ++ (s, v, zs) :: L2 ∧ (∀ x ∈ L1, x.1 ≠ s) ∧ ∀ x ∈ L2, x.1 ≠ s := by
  induction L with
  | nil => exact .inl (by simp)
  | cons x r ih =>
    obtain ⟨h1, h2⟩ := List.pairwise_cons.1 h
    by_cases hx : x.1 = s
    · refine .inr ⟨[], x.2.1, x.2.2, r, by rw [← hx]; rfl, by simp, fun y hy e => (h1 y hy).1 (hx.trans e.symm)⟩
    · rcases ih h2 with h3 | ⟨L1, v, zs, L2, rfl, h4, h5⟩
      · exact .inl fun y hy => (List.mem_cons.1 hy).elim (fun e => e ▸ hx) (h3 y)
      · exact .inr ⟨x :: L1, v, zs, L2, rfl, fun y hy => (List.mem_cons.1 hy).elim (fun e => e ▸ hx) (h4 y), h5⟩

/-! ### how the map finds a name -/
theorem findNow_miss {s : ByteArray} : ∀ {es : List MapEntry} {L : List Ent} (i : Nat), es.map (fun e => (e.key, e.val)) = L.map (fun x => (Value.string x.1, x.2.1)) → (∀ x ∈ L, x.1 ≠ s) → Instr.findNow .string (.string s) es i = some none
  | [], _, _, _, _ => rfl
  | e :: es, [], _, h, _ => by simp at h
  | e :: es, x :: L, i, h, hn => by
    simp only [List.map_cons, List.cons.injEq, Prod.mk.injEq] at h
    have hk : (s == x.1) = false := beq_ne (fun e => hn x (by simp) e.symm)
    simp only [Instr.findNow, h.1.1, Instr.sameNow, hk]
    exact findNow_miss (i + 1) h.2 (fun y hy => hn y (List.mem_cons_of_mem _ hy))
theorem findNow_hit {s : ByteArray} {v : Value} {zs : List Int} {L2 : List Ent} : ∀ {es : List MapEntry} {L1 : List Ent} (i : Nat), es.map (fun e => (e.key, e.val)) = (L1 ++ (s, v, zs) :: L2).map (fun x => (Value.string x.1, x.2.1)) → (∀ x ∈ L1, x.1 ≠ s) → Instr.findNow .string (.string s) es i = some (some (i + L1.length, v))
  | [], L1, _, h, _ => by simp at h
  | e :: es, [], i, h, _ => by
    simp only [List.nil_append, List.map_cons, List.cons.injEq, Prod.mk.injEq] at h
    simp [Instr.findNow, h.1.1, h.1.2, Instr.sameNow, beq_same]
  | e :: es, x :: L1, i, h, hn => by
    simp only [List.cons_append, List.map_cons, List.cons.injEq, Prod.mk.injEq] at h
    have hk : (s == x.1) = false := beq_ne (fun e => hn x (by simp) e.symm)
    simp only [Instr.findNow, h.1.1, Instr.sameNow, hk]
    rw [findNow_hit (i + 1) h.2 (fun y hy => hn y (List.mem_cons_of_mem _ hy))]
    simp
    omega
theorem run_findKey {s : ByteArray} {es : List MapEntry} {r : Option (Nat × Value)} (w : World) (h : Instr.findNow .string (.string s) es 0 = some r) : (Instr.findKey 9 (.string s) es).run Try.prog w = .ok r w := by
  simp [Instr.findKey, run_underlying Try.underlying9, h, Result.andThen]
theorem run_check (w : World) (e : Bool) (s : ByteArray) : (Instr.checkKey e 10000 9 (.string s)).run Try.prog w = .ok () w := by
  unfold Instr.checkKey
  simp [run_underlying Try.underlying9, Result.andThen]
theorem zero31 (w : World) : (zeroValue 31).run Try.prog w = .ok (.slice none 0 0) w := by kernel_rfl

/-- the slice that the map has at a name -/
def valAt (L : List Ent) (s : ByteArray) : Value := ((L.find? (fun x => x.1 == s)).map (·.2.1)).getD (.slice none 0 0)
theorem valAt_hit {L1 L2 : List Ent} {s : ByteArray} {v : Value} {zs : List Int} (h : ∀ x ∈ L1, x.1 ≠ s) : valAt (L1 ++ (s, v, zs) :: L2) s = v := by
  unfold valAt
  rw [List.find?_append, List.find?_eq_none.2 (fun x hx => by simp [beq_ne (h x hx)])]
  simp [beq_same]
theorem valAt_miss {L : List Ent} {s : ByteArray} (h : ∀ x ∈ L, x.1 ≠ s) : valAt L s = .slice none 0 0 := by
  unfold valAt
  rw [List.find?_eq_none.2 (fun x hx => by simp [beq_ne (h x hx)])]
  rfl
theorem Dir.lookup {w : World} {R : Nat → Prop} {b : Nat} {L : List Ent} (h : Dir w R b L) (s : ByteArray) (ok : Bool) :
    (Instr.lookup 56 (.map (some b)) (.string s) ok).run Try.prog w = .ok (if ok then .tuple #[valAt L s, .bool (look L s).isSome] else valAt L s) w := by
  obtain ⟨es, clock, hb, hm, _, _⟩ := h.map
  have key : ∃ r, Instr.findNow .string (.string s) es.toList 0 = some r ∧ ((r = none ∧ valAt L s = .slice none 0 0 ∧ look L s = none) ∨ ∃ i zs, r = some (i, valAt L s) ∧ look L s = some zs) := by
    rcases split h.apart s with h1 | ⟨L1, v, zs, L2, rfl, h1, h2⟩
    · exact ⟨_, findNow_miss 0 hm h1, .inl ⟨rfl, valAt_miss h1, look_miss h1⟩⟩
    · exact ⟨_, findNow_hit 0 hm h1, .inr ⟨_, zs, by rw [valAt_hit h1], look_hit h1⟩⟩
  obtain ⟨r, hr, hcase⟩ := key
  unfold Instr.lookup
  simp only [Sem.run_bind, run_underlying Try.underlying56, Result.andThen, MapKept.run_getObj_map hb, Sem.run_pure, run_check, run_findKey w hr]
  rcases hcase with ⟨rfl, h2, h3⟩ | ⟨i, zs, rfl, h3⟩
  · simp only [zero31, Result.andThen, Sem.run_bind, Sem.run_pure, h2, h3]
    cases ok <;> simp
  · simp only [Result.andThen, Sem.run_bind, Sem.run_pure, h3]
    cases ok <;> simp

/-- another answer at one name -/
def upd (f : ByteArray → Option (List Int)) (s : ByteArray) (x : Option (List Int)) : ByteArray → Option (List Int) := fun n => if n == s then x else f n
theorem look_append (A B : List Ent) (n : ByteArray) : look (A ++ B) n = (look A n).or (look B n) := by
  unfold look
  rw [List.find?_append]
  cases List.find? (fun x => x.1 == n) A <;> simp
theorem look_one (s : ByteArray) (v : Value) (zs : List Int) (B : List Ent) (n : ByteArray) : look ((s, v, zs) :: B) n = if n == s then some zs else look B n := by
  unfold look
  by_cases h : n = s
  · subst h
    simp [beq_same]
  · simp [beq_ne h, beq_ne (Ne.symm h)]
theorem look_put_hit {L1 L2 : List Ent} {s : ByteArray} {v v' : Value} {zs zs' : List Int} (h : ∀ x ∈ L1, x.1 ≠ s) : look (L1 ++ (s, v', zs') :: L2) = upd (look (L1 ++ (s, v, zs) :: L2)) s (some zs') := by
  funext n
  unfold upd
  rw [look_append, look_append, look_one, look_one]
  by_cases hn : n = s
  · subst hn
    simp [beq_same, look_miss h]
  · simp [beq_ne hn]
theorem look_put_miss {L : List Ent} {s : ByteArray} {v' : Value} {zs' : List Int} (h : ∀ x ∈ L, x.1 ≠ s) : look (L ++ [(s, v', zs')]) = upd (look L) s (some zs') := by
  funext n
  unfold upd
  rw [look_append, look_one]
  by_cases hn : n = s
  · subst hn
    simp [beq_same, look_miss h]
  · simp [beq_ne hn, look]
theorem look_del {L1 L2 : List Ent} {s : ByteArray} {v : Value} {zs : List Int} (h1 : ∀ x ∈ L1, x.1 ≠ s) (h2 : ∀ x ∈ L2, x.1 ≠ s) : look (L1 ++ L2) = upd (look (L1 ++ (s, v, zs) :: L2)) s none := by
  funext n
  unfold upd
  rw [look_append, look_append, look_one]
  by_cases hn : n = s
  · subst hn
    simp [beq_same, look_miss h1, look_miss h2]
  · simp [beq_ne hn]
theorem upd_none {L : List Ent} {s : ByteArray} (h : ∀ x ∈ L, x.1 ≠ s) : look L = upd (look L) s none := by
  funext n
  unfold upd
  by_cases hn : n = s
  · subst hn
    simp [beq_same, look_miss h]
  · simp [beq_ne hn]
theorem sum_split (A B : List Ent) : sum (A ++ B) = sum A + sum B := by simp [sum]
theorem sum_cons (x : Ent) (B : List Ent) : sum (x :: B) = x.2.2.length + sum B := by simp [sum]

theorem map_modify {es : Array MapEntry} {L1 L2 : List Ent} {x y : Ent} (hm : es.toList.map (fun e => (e.key, e.val)) = (L1 ++ x :: L2).map (fun x => (Value.string x.1, x.2.1))) :
    (es.modify L1.length fun e => { e with key := .string y.1, val := y.2.1 }).toList.map (fun e => (e.key, e.val)) = (L1 ++ y :: L2).map (fun x => (Value.string x.1, x.2.1)) := by
  rw [Array.toList_modify]
  apply List.ext_getElem?
  intro k
  have hk := congrArg (fun l => l[k]?) hm
  simp only [List.getElem?_map, List.getElem?_modify] at hk ⊢
  by_cases h1 : L1.length = k
  · subst h1
    simp at hk ⊢
    obtain ⟨e, he, _⟩ := hk
    simp [he]
  · have e1 : (L1 ++ y :: L2)[k]? = (L1 ++ x :: L2)[k]? := by
      rw [List.getElem?_append, List.getElem?_append]
      split
      · rfl
      · have : k - L1.length = (k - L1.length - 1) + 1 := by omega
        rw [this]
        rfl
    rw [e1, ← hk]
    simp [h1]
theorem born_modify {es : Array MapEntry} (i : Nat) (k v : Value) : (es.modify i fun e => { e with key := k, val := v }).toList.map (·.born) = es.toList.map (·.born) := by
  rw [Array.toList_modify]
  apply List.ext_getElem?
  intro j
  simp only [List.getElem?_map, List.getElem?_modify]
  cases es.toList[j]? with
  | none => rfl
  | some e => by_cases h : i = j <;> simp [h]
theorem born_lt_iff {l : List MapEntry} {c : Nat} : (∀ e ∈ l, e.born < c) ↔ ∀ n ∈ l.map (·.born), n < c := by simp

/-- a store at a name -/
theorem Dir.update {w w1 : World} {R R' : Nat → Prop} {b : Nat} {L : List Ent} {s : ByteArray} {v' : Value} {zs' : List Int} (h : Dir w R b L) (hb : w1.heap[b]? = w.heap[b]?) (hrows : ∀ x ∈ L, x.1 ≠ s → Row w1 x.2.1 x.2.2) (hv : Row w1 v' zs')
    (hap : ∀ x ∈ L, x.1 ≠ s → x.2.1.ownBlock = none ∨ x.2.1.ownBlock ≠ v'.ownBlock) (hR : ∀ g, R g → R' g) (hv' : ∀ g, v'.ownBlock = some g → R' g) (hb' : ¬ R' b) :
    ∃ w2 L', (Instr.mapUpdate 56 (.map (some b)) (.string s) v').run Try.prog w1 = .ok () w2 ∧ Dir w2 R' b L' ∧ w1.grownBy w2 (some b) ∧ w2.heap.size = w1.heap.size ∧ look L' = upd (look L) s (some zs') ∧ L'.length = L.length + plus (look L s) ∧ sum L' + ((look L s).getD []).length = sum L + zs'.length := by
  obtain ⟨es, clock, hb0, hm, hlt, hnd⟩ := h.map
  have hb1 : w1.heap[b]? = some (.map es clock) := hb.trans hb0
  have hg : ∀ o, w1.grownBy (setBlock w1 b o) (some b) := fun o => ⟨rfl, rfl, rfl, by simp [setBlock], fun i _ hi => ChangeMaps.heap_setBlock_other hb1 _ (fun e1 => hi (by rw [e1]))⟩
  have hz : ∀ o, (setBlock w1 b o).heap.size = w1.heap.size := fun o => by simp [setBlock]
  have rowk : ∀ o {u : Value} {ys : List Int}, Row w1 u ys → (∀ g, u.ownBlock = some g → R' g) → Row (setBlock w1 b o) u ys := fun o u ys hr hu => hr.kept (Kept.ofGrown (hg o)) (fun g hgu e => hb' (by cases e; exact hu _ hgu))
  rcases split h.apart s with h1 | ⟨L1, v, zs, L2, rfl, h1, h2⟩
  · have hf := findNow_miss 0 hm h1
    refine ⟨setBlock w1 b (.map (es.push { key := .string s, val := v', born := clock }) (clock + 1)), L ++ [(s, v', zs')], ?_, ?_, hg _, hz _, look_put_miss h1, by simp [look_miss h1, plus], by simp [sum_split, sum_cons, look_miss h1, sum]⟩
    · unfold Instr.mapUpdate
      simp only [Sem.run_bind, run_underlying Try.underlying56, Result.andThen, MapKept.run_getObj_map hb1, run_check, run_findKey w1 hf, MapKept.run_setObj_map _ hb1]
      rfl
    · refine ⟨⟨_, _, ChangeMaps.heap_setBlock_same hb1 _, ?_, ?_, ?_⟩, ?_, ?_, ?_, hb'⟩
      · simp [hm]
      · intro e he
        simp at he
        rcases he with he | rfl
        · have := hlt e (by simpa using he)
          omega
        · exact Nat.lt_succ_self _
      · simp only [Array.toList_push, List.map_append, List.map_cons, List.map_nil]
        rw [List.nodup_append]
        refine ⟨hnd, by simp, fun a ha c hc => ?_⟩
        obtain ⟨e, he, rfl⟩ := List.mem_map.1 ha
        simp at hc
        subst hc
        have := hlt e he
        omega
      · intro x hx
        rcases List.mem_append.1 hx with hx | hx
        · exact rowk _ (hrows x hx (h1 x hx)) (fun g hgx => hR g (h.mine x hx g hgx))
        · simp at hx
          subst hx
          exact rowk _ hv hv'
      · intro x hx g hgx
        rcases List.mem_append.1 hx with hx | hx
        · exact hR g (h.mine x hx g hgx)
        · simp at hx
          subst hx
          exact hv' g hgx
      · rw [List.pairwise_append]
        refine ⟨h.apart, by simp, fun x hx y hy => ?_⟩
        simp at hy
        subst hy
        exact ⟨h1 x hx, hap x hx (h1 x hx)⟩
  · have hf := findNow_hit 0 hm h1
    rw [Nat.zero_add] at hf
    have hold : (es[L1.length]?).map (·.key) = some (.string s) := by
      have hk := congrArg (fun l => l[L1.length]?) hm
      simp at hk
      obtain ⟨e, he, h3, _⟩ := hk
      simp [he, h3]
    obtain ⟨h3, h4, h5⟩ := List.pairwise_append.1 h.apart
    obtain ⟨h6, h7⟩ := List.pairwise_cons.1 h4
    have mem1 : ∀ x ∈ L1, x ∈ L1 ++ (s, v, zs) :: L2 := fun x hx => List.mem_append.2 (.inl hx)
    have mem2 : ∀ x ∈ L2, x ∈ L1 ++ (s, v, zs) :: L2 := fun x hx => List.mem_append.2 (.inr (List.mem_cons_of_mem _ hx))
    refine ⟨setBlock w1 b (.map (es.modify L1.length fun e => { e with key := .string s, val := v' }) clock), L1 ++ (s, v', zs') :: L2, ?_, ?_, hg _, hz _, look_put_hit h1, by simp [look_hit h1, plus], by simp only [sum_split, sum_cons, look_hit h1, Option.getD_some]; omega⟩
    · unfold Instr.mapUpdate
      simp only [Sem.run_bind, run_underlying Try.underlying56, Result.andThen, MapKept.run_getObj_map hb1, run_check, run_findKey w1 hf, hold, Option.getD_some, Instr.keyThatStays, Instr.sameBits, beq_same, if_true, Sem.run_pure, MapKept.run_setObj_map _ hb1]
      rfl
    · refine ⟨⟨_, _, ChangeMaps.heap_setBlock_same hb1 _, map_modify (y := (s, v', zs')) hm, ?_, ?_⟩, ?_, ?_, ?_, hb'⟩
      · rw [born_lt_iff, born_modify, ← born_lt_iff]
        exact hlt
      · rw [born_modify]
        exact hnd
      · intro x hx
        rcases List.mem_append.1 hx with hx | hx
        · exact rowk _ (hrows x (mem1 x hx) (h1 x hx)) (fun g hgx => hR g (h.mine x (mem1 x hx) g hgx))
        rcases List.mem_cons.1 hx with rfl | hx
        · exact rowk _ hv hv'
        · exact rowk _ (hrows x (mem2 x hx) (h2 x hx)) (fun g hgx => hR g (h.mine x (mem2 x hx) g hgx))
      · intro x hx g hgx
        rcases List.mem_append.1 hx with hx | hx
        · exact hR g (h.mine x (mem1 x hx) g hgx)
        rcases List.mem_cons.1 hx with rfl | hx
        · exact hv' g hgx
        · exact hR g (h.mine x (mem2 x hx) g hgx)
      · rw [List.pairwise_append]
        refine ⟨h3, List.pairwise_cons.2 ⟨fun y hy => ⟨(h2 y hy).symm, ?_⟩, h7⟩, fun x hx y hy => ?_⟩
        · rcases hap y (mem2 y hy) (h2 y hy) with h8 | h8
          · rw [h8]
            cases v'.ownBlock
            · exact .inl rfl
            · exact .inr (by simp)
          · exact .inr (Ne.symm h8)
        · rcases List.mem_cons.1 hy with rfl | hy
          · exact ⟨h1 x hx, hap x (mem1 x hx) (h1 x hx)⟩
          · exact h5 x hx y (List.mem_cons_of_mem _ hy)

/-- a name is taken out -/
theorem Dir.delete {w : World} {R : Nat → Prop} {b : Nat} {L : List Ent} (ty : TypeId) (h : Dir w R b L) (s : ByteArray) :
    ∃ w2 L', (Builtin.delete_ #[56, 9] ty #[.map (some b), .string s]).run Try.prog w = .ok (.tuple #[]) w2 ∧ Dir w2 R b L' ∧ w.grownBy w2 (some b) ∧ w2.heap.size = w.heap.size ∧ look L' = upd (look L) s none ∧ L'.length + 1 = L.length + plus (look L s) ∧ sum L' + ((look L s).getD []).length = sum L ∧
      ∀ x ∈ L', (valAt L s).ownBlock = none ∨ x.2.1.ownBlock ≠ (valAt L s).ownBlock := by
  obtain ⟨es, clock, hb1, hm, hlt, hnd⟩ := h.map
  have hg : ∀ o, w.grownBy (setBlock w b o) (some b) := fun o => ⟨rfl, rfl, rfl, by simp [setBlock], fun i _ hi => ChangeMaps.heap_setBlock_other hb1 _ (fun e1 => hi (by rw [e1]))⟩
  have hz : ∀ o, (setBlock w b o).heap.size = w.heap.size := fun o => by simp [setBlock]
  have rowk : ∀ o, ∀ x ∈ L, Row (setBlock w b o) x.2.1 x.2.2 := fun o x hx => (h.rows x hx).kept (Kept.ofGrown (hg o)) (fun g hgu e => h.other (by cases e; exact h.mine x hx _ hgu))
  rcases split h.apart s with h1 | ⟨L1, v, zs, L2, rfl, h1, h2⟩
  · have hf := findNow_miss 0 hm h1
    refine ⟨setBlock w b (.map es clock), L, ?_, ⟨⟨_, _, ChangeMaps.heap_setBlock_same hb1 _, hm, hlt, hnd⟩, rowk _, h.mine, h.apart, h.other⟩, hg _, hz _, upd_none h1, by simp [look_miss h1, plus], by simp [look_miss h1], fun x _ => .inl (by rw [valAt_miss h1]; rfl)⟩
    unfold Builtin.delete_
    simp only [List.getElem?_toArray, List.getElem?_cons_zero, List.getElem?_cons_succ, Sem.run_bind, run_underlying Try.underlying56, Result.andThen, MapKept.run_getObj_map hb1, run_check, run_findKey w hf, MapKept.run_setObj_map _ hb1, Sem.run_pure]
    rfl
  · have hf := findNow_hit 0 hm h1
    rw [Nat.zero_add] at hf
    obtain ⟨h3, h4, h5⟩ := List.pairwise_append.1 h.apart
    obtain ⟨h6, h7⟩ := List.pairwise_cons.1 h4
    have hlen : L1.length < es.size := by
      have := congrArg List.length hm
      simp at this
      omega
    have hsub : (es.eraseIdxIfInBounds L1.length).toList = es.toList.eraseIdx L1.length := by
      unfold Array.eraseIdxIfInBounds
      rw [dif_pos hlen]
      simp
    have mem : ∀ x ∈ L1 ++ L2, x ∈ L1 ++ (s, v, zs) :: L2 := fun x hx => by
      rcases List.mem_append.1 hx with hx | hx
      · exact List.mem_append.2 (.inl hx)
      · exact List.mem_append.2 (.inr (List.mem_cons_of_mem _ hx))
    refine ⟨setBlock w b (.map (es.eraseIdxIfInBounds L1.length) clock), L1 ++ L2, ?_, ⟨⟨_, _, ChangeMaps.heap_setBlock_same hb1 _, ?_, ?_, ?_⟩, fun x hx => rowk _ x (mem x hx), fun x hx => h.mine x (mem x hx), ?_, h.other⟩, hg _, hz _, look_del h1 h2, by simp [look_hit h1, plus]; omega, by simp only [sum_split, sum_cons, look_hit h1, Option.getD_some]; omega, ?_⟩
    · unfold Builtin.delete_
      simp only [List.getElem?_toArray, List.getElem?_cons_zero, List.getElem?_cons_succ, Sem.run_bind, run_underlying Try.underlying56, Result.andThen, MapKept.run_getObj_map hb1, run_check, run_findKey w hf, MapKept.run_setObj_map _ hb1, Sem.run_pure]
      rfl
    · rw [hsub, ChangeMaps.map_eraseIdx, hm, ← ChangeMaps.map_eraseIdx, List.eraseIdx_append_of_length_le (Nat.le_refl _)]
      simp
    · rw [hsub]
      exact fun e he => hlt e ((List.eraseIdx_sublist _ _).subset he)
    · rw [hsub, ChangeMaps.map_eraseIdx]
      exact hnd.sublist (List.eraseIdx_sublist _ _)
    · exact List.pairwise_append.2 ⟨h3, h7, fun x hx y hy => h5 x hx y (List.mem_cons_of_mem _ hy)⟩
    · intro x hx
      rw [valAt_hit h1]
      rcases List.mem_append.1 hx with hx | hx
      · rcases (h5 x hx _ (List.mem_cons_self ..)).2 with h8 | h8
        · cases hv : v.ownBlock
          · exact .inl rfl
          · exact .inr (by rw [h8]; simp)
        · exact .inr h8
      · rcases (h6 x hx).2 with h8 | h8
        · exact .inl h8
        · exact .inr (Ne.symm h8)
end Go.Proofs.Ytdmhcgneafacmaa
