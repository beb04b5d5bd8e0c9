/- Paths, outputs and their rows, as an operation makes them. -/
import Derived.Test.YtkhpbjafdamhaaaDAny
import Derived.Great.BuildSlice
namespace Go.Proofs.Ytkhpbjafdamhaaa
open Go.RowKit
set_option linter.unusedVariables false
set_option linter.unusedSimpArgs false
set_option maxRecDepth 100000

theorem Kept.next {F : Nat → Prop} {a b c : World} (h : Kept F a b) (k : Below b.heap.size b c) : Kept F a c :=
  ⟨k.os.trans h.os, k.tape.trans h.tape, k.output.trans h.output, Nat.le_trans h.size k.size, fun i hi hn => (k.block i (Nat.lt_of_lt_of_le hi h.size)).trans (h.block i hi hn)⟩
theorem Kept.putX {X : Nat} {a b c : World} (h : Kept (· = X) a b) (k : Kept (· = X) b c) : Kept (· = X) a c :=
  ⟨k.os.trans h.os, k.tape.trans h.tape, k.output.trans h.output, Nat.le_trans h.size k.size, fun i hi hn => (k.block i (Nat.lt_of_lt_of_le hi h.size) hn).trans (h.block i hi hn)⟩
theorem Kept.putN {F : Nat → Prop} {n : Nat} {a b c : World} (h : Kept F a b) (k : Kept (· = n) b c) (hn : a.heap.size ≤ n) : Kept F a c :=
  ⟨k.os.trans h.os, k.tape.trans h.tape, k.output.trans h.output, Nat.le_trans h.size k.size, fun i hi hf => (k.block i (Nat.lt_of_lt_of_le hi h.size) (fun e => by omega)).trans (h.block i hi hf)⟩
theorem Kept.refl (F : Nat → Prop) (w : World) : Kept F w w := ⟨rfl, rfl, rfl, Nat.le_refl _, fun _ _ _ => rfl⟩
theorem Kept.putL {X Y : Nat} {a b c : World} (h : Kept (fun k => k = X ∨ k = Y) a b) (k : Kept (· = X) b c) : Kept (fun k => k = X ∨ k = Y) a c :=
  ⟨k.os.trans h.os, k.tape.trans h.tape, k.output.trans h.output, Nat.le_trans h.size k.size, fun i hi hn => (k.block i (Nat.lt_of_lt_of_le hi h.size) (fun e => hn (.inl e))).trans (h.block i hi hn)⟩
theorem Kept.putR {X Y : Nat} {a b c : World} (h : Kept (fun k => k = X ∨ k = Y) a b) (k : Kept (· = Y) b c) : Kept (fun k => k = X ∨ k = Y) a c :=
  ⟨k.os.trans h.os, k.tape.trans h.tape, k.output.trans h.output, Nat.le_trans h.size k.size, fun i hi hn => (k.block i (Nat.lt_of_lt_of_le hi h.size) (fun e => hn (.inr e))).trans (h.block i hi hn)⟩
theorem ne_tag {W : World} {b c T U : Nat} {C D : Array Value} (h : W.heap[b]? = some (.cells C T)) (k : W.heap[c]? = some (.cells D U)) (hT : T ≠ U) (e : b = c) : False := by
  rw [e, k] at h
  cases h
  exact hT rfl
theorem ah_L {ops : Array Oper} {a : Act} {w : World} {Q : Exit → Act → World → Prop} {md : Region.Mode} {fuel : Nat} {L L' : Array Bool} {S : World → Prop} (e : L = L') (h : wpAnyH Try.prog md ops Q S fuel L' a w) : wpAnyH Try.prog md ops Q S fuel L a w := e ▸ h
theorem capQ {ops : Array Oper} {a : Act} {w : World} {Q : Exit → Act → World → Prop} {md : Region.Mode} {fuel : Nat} {L : Array Bool} {S : World → Prop} (h : ∀ Q' : Exit → Act → World → Prop, Q' = Q → wpAnyH Try.prog md ops Q' S fuel L a w) : wpAnyH Try.prog md ops Q S fuel L a w := h Q rfl
theorem cap2 {ops : Array Oper} {a : Act} {w : World} {Q : Exit → Act → World → Prop} {md : Region.Mode} {fuel : Nat} {L : Array Bool} {S : World → Prop} (h : ∀ (ops' : Array Oper) (S' : World → Prop), ops' = ops → S' = S → wpAnyH Try.prog md ops' Q S' fuel L a w) : wpAnyH Try.prog md ops Q S fuel L a w := h ops S rfl rfl
def Nil : Nat → Prop := fun _ => False
theorem nilN (b : Nat) : ¬ Nil b := fun h => h

/-- 32 zeros -/
def Z32 : Array Value := (List.replicate 32 (Value.int .u8 0)).toArray
/-- a path's cells -/
def pth (a b : Int) (two : Bool) (h d : Int) (x : Array Value) : Array Value := #[.int .i64 a, .int .i64 b, .bool two, .int .i64 h, .int .i64 d] ++ x
theorem pth_size {a b h d : Int} {two : Bool} {x : Array Value} (hx : x.size = 32) : (pth a b two h d x).size = 37 := by simp [pth, hx]
theorem Z32_size : Z32.size = 32 := rfl

theorem b66_04 (x y : Int)  (W : World) : (Instr.build 66 #[(0, .int .i64 x), (4, .int .i64 y)]).run Try.prog W = .ok (.agg (pth x 0 false 0 y Z32)) W := by
  exact run_build W 66 _ _ (by kernel_rfl)
theorem b66_0 (x : Int)  (W : World) : (Instr.build 66 #[(0, .int .i64 x)]).run Try.prog W = .ok (.agg (pth x 0 false 0 0 Z32)) W := by
  exact run_build W 66 _ _ (by kernel_rfl)
theorem b66_05 (x : Int) (v : Array Value) (hv : v.size = 32) (W : World) : (Instr.build 66 #[(0, .int .i64 x), (5, .agg v)]).run Try.prog W = .ok (.agg (pth x 0 false 0 0 v)) W := by
  obtain ⟨v⟩ := v
  iterate 32
    rcases v with _ | ⟨_, v⟩
    · simp at hv
  rcases v with _ | ⟨_, v⟩
  rotate_left
  · simp at hv
  exact run_build W 66 _ _ (by kernel_rfl)
theorem b66_034 (x h d : Int)  (W : World) : (Instr.build 66 #[(0, .int .i64 x), (3, .int .i64 h), (4, .int .i64 d)]).run Try.prog W = .ok (.agg (pth x 0 false h d Z32)) W := by
  exact run_build W 66 _ _ (by kernel_rfl)
theorem b66_054 (x d : Int) (v : Array Value) (hv : v.size = 32) (W : World) : (Instr.build 66 #[(0, .int .i64 x), (5, .agg v), (4, .int .i64 d)]).run Try.prog W = .ok (.agg (pth x 0 false 0 d v)) W := by
  obtain ⟨v⟩ := v
  iterate 32
    rcases v with _ | ⟨_, v⟩
    · simp at hv
  rcases v with _ | ⟨_, v⟩
  rotate_left
  · simp at hv
  exact run_build W 66 _ _ (by kernel_rfl)
theorem b66_03 (x h : Int)  (W : World) : (Instr.build 66 #[(0, .int .i64 x), (3, .int .i64 h)]).run Try.prog W = .ok (.agg (pth x 0 false h 0 Z32)) W := by
  exact run_build W 66 _ _ (by kernel_rfl)
theorem b46_01 (x : Int) (p : Option Addr) (n c : Nat)  (W : World) : (Instr.build 46 #[(0, .int .i64 x), (1, .slice p n c)]).run Try.prog W = .ok (.agg (#[.int .i64 x, .slice p n c])) W := by
  exact run_build W 46 _ _ (by kernel_rfl)
theorem b34_01 (p q : Option Addr) (n c m d : Nat)  (W : World) : (Instr.build 34 #[(0, .slice p n c), (1, .slice q m d)]).run Try.prog W = .ok (.agg (#[.slice p n c, .slice q m d])) W := by
  exact run_build W 34 _ _ (by kernel_rfl)
theorem b34   (W : World) : (Instr.build 34 #[]).run Try.prog W = .ok (.agg (#[.slice none 0 0, .slice none 0 0])) W := by
  exact run_build W 34 _ _ (by kernel_rfl)
theorem b22   (W : World) : (Instr.build 22 #[]).run Try.prog W = .ok (.agg (Z32)) W := by
  exact run_build W 22 _ _ (by kernel_rfl)
theorem b59 (x y d : Int) (v : Array Value) (hv : v.size = 32) (W : World) : (Instr.build 59 #[(0, .int .i64 x), (1, .int .i64 y), (2, .int .i64 d), (3, .agg v)]).run Try.prog W = .ok (.agg (#[.int .i64 x, .int .i64 y, .int .i64 d] ++ v)) W := by
  obtain ⟨v⟩ := v
  iterate 32
    rcases v with _ | ⟨_, v⟩
    · simp at hv
  rcases v with _ | ⟨_, v⟩
  rotate_left
  · simp at hv
  exact run_build W 59 _ _ (by kernel_rfl)
/-- an input but for its output -/
def inRest : Array Value := #[.int .i64 0] ++ Z32 ++ Z32 ++ Z32
theorem b61_0  (v : Array Value) (hv : v.size = 33) (W : World) : (Instr.build 61 #[(0, .agg v)]).run Try.prog W = .ok (.agg (v ++ inRest)) W := by
  obtain ⟨v⟩ := v
  iterate 33
    rcases v with _ | ⟨_, v⟩
    · simp at hv
  rcases v with _ | ⟨_, v⟩
  rotate_left
  · simp at hv
  exact run_build W 61 _ _ (by kernel_rfl)
theorem zero34 : (Try.prog.info? 34).map (fun i => (i.zero, i.size)) = some (some (.agg (#[.slice none 0 0, .slice none 0 0])), 2) := by kernel_rfl
theorem zero46 : (Try.prog.info? 46).map (fun i => (i.zero, i.size)) = some (some (.agg (#[.int .i64 0, .slice none 0 0])), 2) := by kernel_rfl
theorem zero66 : (Try.prog.info? 66).map (fun i => (i.zero, i.size)) = some (some (.agg (pth 0 0 false 0 0 Z32)), 37) := by kernel_rfl
theorem zero59 : (Try.prog.info? 59).map (fun i => (i.zero, i.size)) = some (some (.agg (#[.int .i64 0, .int .i64 0, .int .i64 0] ++ Z32)), 35) := by kernel_rfl
theorem zero49 : (Try.prog.info? 49).map (fun i => (i.zero, i.size)) = some (some (.agg (#[.int .i64 0, .int .i64 0, .int .i64 0] ++ Z32 ++ #[.int .i64 0])), 36) := by kernel_rfl
theorem bslice (W : World) (t e : TypeId) (len : Nat) (parts : Array (Nat × Value)) (cells : Array Value) (z : Value) (n : Nat) (hu : Try.prog.underlying t = some (.slice e)) (hi : (Try.prog.info? e).map (fun i => (i.zero, i.size)) = some (some z, n)) (h1 : ¬ len * n > 2 ^ 24) (h2 : ¬ len * n = 0)
    (h : Instr.fill (fun i => some (i * n, n)) ((Array.range (len * n)).map (z.cells[· % z.cells.size]!)) parts.toList = some cells) :
    (Instr.buildSlice t len parts).run Try.prog W = .ok (.slice (some ⟨W.heap.size, 0, none⟩) len len) (W.alloc (.cells cells e)) := by
  cases hq : Try.prog.info? e with
  | none => rw [hq] at hi; cases hi
  | some ie =>
    rw [hq] at hi; simp only [Option.map_some, Option.some.injEq, Prod.mk.injEq] at hi; obtain ⟨hz, rfl⟩ := hi; exact run_buildSlice W t e len parts cells ie z hu hq hz h1 h2 h
set_option maxHeartbeats 2000000 in
theorem bs44_1 (p : Array Value) (hp : p.size = 37) (W : World) : (Instr.buildSlice 44 1 #[(0, .agg p)]).run Try.prog W = .ok (.slice (some ⟨W.heap.size, 0, none⟩) 1 1) (W.alloc (.cells (p) 66)) := by
  obtain ⟨p⟩ := p
  iterate 37
    rcases p with _ | ⟨_, p⟩
    · simp at hp
  rcases p with _ | ⟨_, p⟩
  rotate_left
  · simp at hp
  exact bslice W 44 66 1 _ _ _ 37 Try.underlying44 zero66 (by decide) (by decide) (by kernel_rfl)
set_option maxHeartbeats 2000000 in
theorem bs44_2 (p : Array Value) (hp : p.size = 37) (q : Array Value) (hq : q.size = 37) (W : World) : (Instr.buildSlice 44 2 #[(0, .agg p), (1, .agg q)]).run Try.prog W = .ok (.slice (some ⟨W.heap.size, 0, none⟩) 2 2) (W.alloc (.cells (p ++ q) 66)) := by
  obtain ⟨p⟩ := p
  iterate 37
    rcases p with _ | ⟨_, p⟩
    · simp at hp
  rcases p with _ | ⟨_, p⟩
  rotate_left
  · simp at hp
  obtain ⟨q⟩ := q
  iterate 37
    rcases q with _ | ⟨_, q⟩
    · simp at hq
  rcases q with _ | ⟨_, q⟩
  rotate_left
  · simp at hq
  exact bslice W 44 66 2 _ _ _ 37 Try.underlying44 zero66 (by decide) (by decide) (by kernel_rfl)
set_option maxHeartbeats 2000000 in
theorem bs44_3 (p : Array Value) (hp : p.size = 37) (q : Array Value) (hq : q.size = 37) (r : Array Value) (hr : r.size = 37) (W : World) : (Instr.buildSlice 44 3 #[(0, .agg p), (1, .agg q), (2, .agg r)]).run Try.prog W = .ok (.slice (some ⟨W.heap.size, 0, none⟩) 3 3) (W.alloc (.cells (p ++ q ++ r) 66)) := by
  obtain ⟨p⟩ := p
  iterate 37
    rcases p with _ | ⟨_, p⟩
    · simp at hp
  rcases p with _ | ⟨_, p⟩
  rotate_left
  · simp at hp
  obtain ⟨q⟩ := q
  iterate 37
    rcases q with _ | ⟨_, q⟩
    · simp at hq
  rcases q with _ | ⟨_, q⟩
  rotate_left
  · simp at hq
  obtain ⟨r⟩ := r
  iterate 37
    rcases r with _ | ⟨_, r⟩
    · simp at hr
  rcases r with _ | ⟨_, r⟩
  rotate_left
  · simp at hr
  exact bslice W 44 66 3 _ _ _ 37 Try.underlying44 zero66 (by decide) (by decide) (by kernel_rfl)
set_option maxHeartbeats 2000000 in
theorem bs27_1 (p : Array Value) (hp : p.size = 36) (W : World) : (Instr.buildSlice 27 1 #[(0, .agg p)]).run Try.prog W = .ok (.slice (some ⟨W.heap.size, 0, none⟩) 1 1) (W.alloc (.cells (p) 49)) := by
  obtain ⟨p⟩ := p
  iterate 36
    rcases p with _ | ⟨_, p⟩
    · simp at hp
  rcases p with _ | ⟨_, p⟩
  rotate_left
  · simp at hp
  exact bslice W 27 49 1 _ _ _ 36 Try.underlying27 zero49 (by decide) (by decide) (by kernel_rfl)
def Z130 : Array Value := Z32 ++ #[.int .i64 0] ++ inRest
theorem zero61 : (Try.prog.info? 61).map (fun i => (i.zero, i.size)) = some (some (.agg (Z130)), 130) := by kernel_rfl
set_option maxHeartbeats 2000000 in
theorem bs31_1 (p : Array Value) (hp : p.size = 130) (W : World) : (Instr.buildSlice 31 1 #[(0, .agg p)]).run Try.prog W = .ok (.slice (some ⟨W.heap.size, 0, none⟩) 1 1) (W.alloc (.cells (p) 61)) := by
  obtain ⟨p⟩ := p
  iterate 130
    rcases p with _ | ⟨_, p⟩
    · simp at hp
  rcases p with _ | ⟨_, p⟩
  rotate_left
  · simp at hp
  exact bslice W 31 61 1 _ _ _ 130 Try.underlying31 zero61 (by decide) (by decide) (by kernel_rfl)
set_option maxHeartbeats 2000000 in
theorem bs32_1 (p : Array Value) (hp : p.size = 2) (W : World) : (Instr.buildSlice 32 1 #[(0, .agg p)]).run Try.prog W = .ok (.slice (some ⟨W.heap.size, 0, none⟩) 1 1) (W.alloc (.cells (p) 46)) := by
  obtain ⟨p⟩ := p
  iterate 2
    rcases p with _ | ⟨_, p⟩
    · simp at hp
  rcases p with _ | ⟨_, p⟩
  rotate_left
  · simp at hp
  exact bslice W 32 46 1 _ _ _ 2 Try.underlying32 zero46 (by decide) (by decide) (by kernel_rfl)
set_option maxHeartbeats 2000000 in
theorem bs32_2 (p : Array Value) (hp : p.size = 2) (q : Array Value) (hq : q.size = 2) (W : World) : (Instr.buildSlice 32 2 #[(0, .agg p), (1, .agg q)]).run Try.prog W = .ok (.slice (some ⟨W.heap.size, 0, none⟩) 2 2) (W.alloc (.cells (p ++ q) 46)) := by
  obtain ⟨p⟩ := p
  iterate 2
    rcases p with _ | ⟨_, p⟩
    · simp at hp
  rcases p with _ | ⟨_, p⟩
  rotate_left
  · simp at hp
  obtain ⟨q⟩ := q
  iterate 2
    rcases q with _ | ⟨_, q⟩
    · simp at hq
  rcases q with _ | ⟨_, q⟩
  rotate_left
  · simp at hq
  exact bslice W 32 46 2 _ _ _ 2 Try.underlying32 zero46 (by decide) (by decide) (by kernel_rfl)
end Go.Proofs.Ytkhpbjafdamhaaa
