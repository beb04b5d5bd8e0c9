/- The contract of sureBehind over this seat's translation. -/
import Derived.Test.YtdmhcgneafacmaaFApp
import Derived.Laws.EntriesVeiled
namespace Go.Proofs.Ytdmhcgneafacmaa
open Go.RowKit
set_option linter.unusedVariables false
set_option linter.unusedSimpArgs false
set_option maxRecDepth 100000

/-- a disk, whatever its files are by its acts -/
structure Mid (w : World) (c : Nat → Nat) (f : Nat) (size : Int) (nb sb : Nat) (uv : Value) (N S : List Ent) (acts : List AM) : Prop where
  box : w.heap[f]? = some (.cells #[.int .i64 size, .map (some nb), .map (some sb), uv, .int .i64 (-1)] 59 (0, 0))
  cf : c f = 1
  now : Dir w (fun g => c g = 4) nb N
  cn : c nb = 2
  sure : Dir w (fun g => c g = 5) sb S
  cs : c sb = 3
  uns : Uns w c uv acts
  fresh : ∀ g, w.heap.size ≤ g → c g = 0
theorem Disk.mid {w : World} {c : Nat → Nat} {f : Nat} {size : Int} {nb sb : Nat} {uv : Value} {N S : List Ent} {acts : List AM} (h : Disk w c f size nb sb uv N S acts) : Mid w c f size nb sb uv N S acts := ⟨h.box, h.cf, h.now, h.cn, h.sure, h.cs, h.uns, h.fresh⟩
theorem Mid.disk {w : World} {c : Nat → Nat} {f : Nat} {size : Int} {nb sb : Nat} {uv : Value} {N S : List Ent} {acts : List AM} (h : Mid w c f size nb sb uv N S acts) (hs : look N = acts.foldl doF (look S)) : Disk w c f size nb sb uv N S acts := ⟨h.box, h.cf, h.now, h.cn, h.sure, h.cs, h.uns, hs, h.fresh⟩
section
variable {w : World} {c : Nat → Nat} {f : Nat} {size : Int} {nb sb : Nat} {uv : Value} {N S : List Ent} {acts : List AM}
theorem Mid.lt (h : Mid w c f size nb sb uv N S acts) : f < w.heap.size := (Array.getElem?_eq_some_iff.1 h.box).1
theorem Mid.new {w' : World} (h : Mid w c f size nb sb uv N S acts) (k : Kept Not w w') : Mid w' c f size nb sb uv N S acts :=
  ⟨(k.block f h.lt (fun h => h)).trans h.box, h.cf, h.now.new k, h.cn, h.sure.new k, h.cs, h.uns.kept k (fun _ _ h => h) (fun _ _ _ => rfl), fun g hg => h.fresh g (Nat.le_trans k.size hg)⟩
theorem Mid.c1 (h : Mid w c f size nb sb uv N S acts) : w.cell? ⟨f, 1, none⟩ = some (.map (some nb)) := by simp [World.cell?, h.box]
theorem Mid.c2 (h : Mid w c f size nb sb uv N S acts) : w.cell? ⟨f, 2, none⟩ = some (.map (some sb)) := by simp [World.cell?, h.box]
theorem Mid.c3 (h : Mid w c f size nb sb uv N S acts) : w.cell? ⟨f, 3, none⟩ = some uv := by simp [World.cell?, h.box]
theorem Mid.c4 (h : Mid w c f size nb sb uv N S acts) : w.cell? ⟨f, 4, none⟩ = some (.int .i64 (-1)) := by simp [World.cell?, h.box]
theorem Mid.fz (h : Mid w c f size nb sb uv N S acts) (k : Nat) : w.frozen? ⟨f, k, none⟩ = false := by simp [World.frozen?, h.box]
theorem paint_mid {c : Nat → Nat} {a b d k : Nat} (hd : d ≠ 5) (h : paint c a b 5 k = d) : c k = d := by
  unfold paint at h
  split at h
  · omega
  · exact h
/-- an act done again to what is sure -/
theorem Mid.again {w1 w2 : World} {A : AM} (h : Mid w c f size nb sb uv N S acts) (k1 : Kept Not w w1) (hd : Done w1 w2 (fun g => c g = 5) sb S A) :
    ∃ c' S', Mid w2 c' f size nb sb uv N S' acts ∧ look S' = doF (look S) A ∧ sum S' ≤ sum S + addLen A ∧ (∀ k, k < w.heap.size → c' k = c k) ∧ Kept (fun k => c k = 3 ∨ c k = 5) w w2 := by
  obtain ⟨S', d1, d2, d3, d4⟩ := hd
  have z1 := k1.size
  have z2 := d2.size
  have hs := h.sure.lt
  have hn := h.now.lt
  have hf := h.lt
  have d2' : Kept (fun k => c k = 3 ∨ c k = 5) w1 w2 := d2.mono (fun i _ e => e.elim (fun e => .inl (by rw [e]; exact h.cs)) .inr)
  have k2 : Kept (fun k => c k = 3 ∨ c k = 5) w w2 := k1.trans d2' (fun _ _ h => h.elim) (fun _ _ h => h)
  have hcol : ∀ k, k < w.heap.size → paint c w1.heap.size w2.heap.size 5 k = c k := fun k hk => paint_old (by omega)
  refine ⟨paint c w1.heap.size w2.heap.size 5, S', ⟨(k2.block f hf (by rw [h.cf]; omega)).trans h.box, (hcol f hf).trans h.cf, ?_, (hcol nb hn).trans h.cn, d1.grown (by omega), (hcol sb hs).trans h.cs, ?_, ?_⟩, d3, d4, hcol, k2⟩
  · exact (h.now.recolor hcol).kept k2 (by rw [h.cn]; omega) (fun k hk => by have := paint_mid (by decide) hk; omega)
  · exact h.uns.kept k2 (fun g hg => by omega) (fun g hg _ => hcol g hg)
  · intro g hg
    unfold paint
    rw [if_neg (by omega)]
    exact h.fresh g (by omega)
end
/-- how many bytes acts bring -/
def tot (acts : List AM) : Nat := (acts.map addLen).sum
theorem tot_append (a b : List AM) : tot (a ++ b) = tot a + tot b := by simp [tot]
theorem tot_one (A : AM) : tot [A] = addLen A := by simp [tot]
theorem tot_take_succ {acts : List AM} {k : Nat} {A : AM} (h : acts[k]? = some A) : tot (acts.take (k + 1)) = tot (acts.take k) + addLen A := by
  obtain ⟨hk, rfl⟩ := List.getElem?_eq_some_iff.1 h
  rw [List.take_succ_eq_append_getElem hk, tot_append, tot_one]
theorem tot_take_le (acts : List AM) (k : Nat) : tot (acts.take k) ≤ tot acts := by
  have := tot_append (acts.take k) (acts.drop k)
  rw [List.take_append_drop] at this
  omega
theorem tot_le {acts : List AM} {k : Nat} {A : AM} (h : acts[k]? = some A) : tot (acts.take k) + addLen A ≤ tot acts := by
  rw [← tot_take_succ h]
  exact tot_take_le _ _
/-- when the first k acts were done again -/
structure Half2 (w : World) (c : Nat → Nat) (wr : World) (f : Nat) (size : Int) (nb sb : Nat) (uv : Value) (N S : List Ent) (acts : List AM) (k : Nat) : Prop where
  is : ∃ c' S', Mid wr c' f size nb sb uv N S' acts ∧ look S' = (acts.take k).foldl doF (look S) ∧ sum S' ≤ sum S + tot (acts.take k) ∧ (∀ i, i < w.heap.size → c' i = c i) ∧ Kept (fun i => c i = 3 ∨ c i = 5) w wr
theorem Half2.step {w wr w1 w2 : World} {c c' : Nat → Nat} {f : Nat} {size : Int} {nb sb : Nat} {uv : Value} {N S S' : List Ent} {acts : List AM} {k : Nat} {A : AM} (hA : acts[k]? = some A) (h : Mid wr c' f size nb sb uv N S' acts) (h1 : look S' = (acts.take k).foldl doF (look S)) (h2 : sum S' ≤ sum S + tot (acts.take k)) (h3 : ∀ i, i < w.heap.size → c' i = c i) (h4 : Kept (fun i => c i = 3 ∨ c i = 5) w wr)
    (k1 : Kept Not wr w1) (hd : Done w1 w2 (fun g => c' g = 5) sb S' A) : Half2 w c w2 f size nb sb uv N S acts (k + 1) := by
  obtain ⟨c2, S2, a1, a2, a3, a4, a5⟩ := h.again k1 hd
  have hk : k < acts.length := (List.getElem?_eq_some_iff.1 hA).1
  refine ⟨c2, S2, a1, ?_, ?_, fun i hi => (a4 i (Nat.lt_of_lt_of_le hi h4.size)).trans (h3 i hi), h4.trans a5 (fun _ _ h => h) (fun i hi e => by rw [h3 i hi] at e; exact e)⟩
  · rw [a2, h1, List.take_succ_eq_append_getElem hk, List.foldl_append]
    have : acts[k] = A := (List.getElem?_eq_some_iff.1 hA).2
    rw [this]
    rfl
  · rw [tot_take_succ hA]
    omega
theorem flat_at {fs : List (Value × Value)} {k : Nat} {p : Value × Value} (h : fs[k]? = some p) : (flat fs)[k * 2]? = some p.1 ∧ (flat fs)[k * 2 + 1]? = some p.2 := by
  induction fs generalizing k with
  | nil => simp at h
  | cons q r ih =>
    cases k with
    | zero =>
      simp at h
      subst h
      exact ⟨rfl, rfl⟩
    | succ k =>
      have := ih (k := k) (by simpa using h)
      have e1 : (k + 1) * 2 = (k * 2) + 2 := by omega
      rw [e1]
      exact ⟨this.1, this.2⟩
/-- an act of the row, and its two functions -/
theorem Uns.at {w : World} {c : Nat → Nat} {uv : Value} {acts : List AM} (h : Uns w c uv acts) {k : Nat} {A : AM} (hA : acts[k]? = some A) :
    ∃ g cap v1 v2, uv = .slice (some ⟨g, 0, none⟩) acts.length cap ∧ acts.length ≤ cap ∧ cap ≤ 9223372036854775807 ∧ c g = 6 ∧ w.cell? ⟨g, k * 2, none⟩ = some v1 ∧ w.cell? ⟨g, k * 2 + 1, none⟩ = some v2 ∧ ActV w c v1 v2 A := by
  obtain ⟨fs, h1, h2, h3, h4⟩ := h.row
  have hk : k < acts.length := (List.getElem?_eq_some_iff.1 hA).1
  have hp : fs[k]? = some fs[k] := List.getElem?_eq_getElem (by omega)
  have hf := flat_at hp
  have hcell := fun (g : Nat) hg => World.ownsRow.cells h2 (g := g) hg
  rcases h2.2 with ⟨rfl, h0⟩ | ⟨g, cap, cur, rfl, _, hb, h5, h6, _⟩
  · omega
  · unfold maxLen at h6
    have a1 := hcell g rfl _ _ hf.1
    have a2 := hcell g rfl _ _ hf.2
    have ad : ∀ j, (⟨g, 0, none⟩ : Addr).add j = ⟨g, j, none⟩ := fun j => by unfold Addr.add; split <;> simp_all
    rw [ad] at a1 a2
    exact ⟨g, cap, _, _, rfl, h5, by omega, h3 g rfl, a1, a2, h4 k _ A hp hA⟩
theorem run_cut57 {g n m cap : Nat} (hn : n ≤ cap) (w : World) : (Instr.slice 57 (.slice (some ⟨g, 0, none⟩) m cap) none (some (.int .i64 n)) none).run Try.prog w = .ok (.slice (some ⟨g, 0, none⟩) n cap) w := by
  have hb : (Instr.sliceBounds true m cap none (some (.int .i64 n)) none).run Try.prog w = .ok (0, n, cap) w := by
    unfold Instr.sliceBounds
    simp [run_sliceBound, show (n : Int) ≤ cap by omega, Result.andThen]
  have hz : (sizeOf 69).run Try.prog w = .ok 2 w := by go_simp
  unfold Instr.slice
  simp only [Sem.run_bind, run_underlying Try.underlying57, Result.andThen, hb, Sem.run_pure, hz, Nat.sub_zero]
  split
  · rfl
  · simp [Addr.add]
theorem run_cutNil (w : World) : (Instr.slice 57 (.slice none 0 0) none (some (.int .i64 0)) none).run Try.prog w = .ok (.slice none 0 0) w := by
  have hb : (Instr.sliceBounds true 0 0 none (some (.int .i64 0)) none).run Try.prog w = .ok (0, 0, 0) w := by
    unfold Instr.sliceBounds
    simp [run_sliceBound, Result.andThen]
  have hz : (sizeOf 69).run Try.prog w = .ok 2 w := by go_simp
  unfold Instr.slice
  simp only [Sem.run_bind, run_underlying Try.underlying57, Result.andThen, hb, Sem.run_pure, hz, Nat.sub_zero]
  rfl
/-- no act is unsure then -/
def Sured (w w' : World) (c : Nat → Nat) (f : Nat) (size : Int) (nb sb : Nat) (N S : List Ent) (acts : List AM) (n : Nat) : Prop :=
  ∃ c' S', Mid w' c' f size nb sb (.slice none 0 0) N S' [] ∧ look S' = (acts.take n).foldl doF (look S) ∧ sum S' ≤ sum S + tot (acts.take n) ∧ (∀ i, i < w.heap.size → c' i = c i) ∧ Kept (fun i => c i = 1 ∨ c i = 3 ∨ c i = 5) w w'
theorem Half2.fin {w wr : World} {c : Nat → Nat} {f : Nat} {size : Int} {nb sb : Nat} {uv : Value} {N S : List Ent} {acts : List AM} {k : Nat} (hf : c f = 1) (hlt : f < w.heap.size) (h : Half2 w c wr f size nb sb uv N S acts k) : Sured w (wr.setCell ⟨f, 3, none⟩ (.slice none 0 0)) c f size nb sb N S acts k := by
  obtain ⟨c', S', h1, h2, h3, h4, h5⟩ := h.is
  have hst := keptStore wr f 3 (.slice none 0 0)
  refine ⟨c', S', ⟨heap_setCell_same wr f 3 _ 59 _ h1.box, h1.cf, h1.now.kept hst (fun e => by have := h1.cn; rw [e, h1.cf] at this; omega) (fun g hg e => by have e1 : c' g = 4 := hg; rw [e, h1.cf] at e1; omega), h1.cn, h1.sure.kept hst (fun e => by have := h1.cs; rw [e, h1.cf] at this; omega) (fun g hg e => by have e1 : c' g = 5 := hg; rw [e, h1.cf] at e1; omega), h1.cs, ⟨[], rfl, ⟨rfl, .inl ⟨rfl, rfl⟩⟩, by simp [Value.ownBlock], by simp⟩, fun g hg => h1.fresh g (by simpa using hg)⟩, h2, h3, h4, h5.trans hst (fun i _ e => .inr e) (fun i _ e => by rw [e]; exact .inl hf)⟩
set_option maxHeartbeats 4000000 in
theorem sure_some {w : World} {c : Nat → Nat} {f : Nat} {size : Int} {nb sb : Nat} {N S : List Ent} {acts : List AM} {g cap : Nat} (h : Mid w c f size nb sb (.slice (some ⟨g, 0, none⟩) acts.length cap) N S acts) (hl : sum S + tot acts ≤ 140737488355328) (hcap : acts.length ≤ cap) (hcap2 : cap ≤ 9223372036854775807) (n : Nat) (hn : n ≤ acts.length) :
    Calls Try.prog 37 #[ptr f, .int .i64 n] w fun e w' => e = .returned (.tuple #[]) ∧ Hid (Sured w w' c f size nb sb N S acts n) := by
  have c3 := h.c3
  have hsl := run_cut57 (g := g) (n := n) (m := acts.length) (cap := cap) (by omega)
  have HH : Half2 w c w f size nb sb (.slice (some ⟨g, 0, none⟩) acts.length cap) N S acts 0 := ⟨c, S, h, rfl, by simp, fun _ _ => rfl, Kept.refl _ _⟩
  have HS := hide HH
  have HCF := hide h.cf
  have HLT := hide h.lt
  clear HH h
  obtain ⟨len, hlen⟩ : ∃ len, acts.length = len := ⟨_, rfl⟩
  have HLE := hide hlen
  have hn2 : n ≤ len := by omega
  have hcl : len ≤ cap := by omega
  rw [hlen] at c3 hsl
  clear hn hcap hlen
  unfold ptr
  go_enter Try.func37, Try.ntmps37
  go_wp2
  go_loopw [13] (fun i wr => ∃ k : Nat, k ≤ n ∧ i = .int .i64 k ∧ Hid (Half2 w c wr f size nb sb (.slice (some ⟨g, 0, none⟩) acts.length cap) N S acts k)) (fun i _ => n - (intOf i).toNat)
  case atStart => exact ⟨0, Nat.zero_le _, rfl, HS⟩
  case round =>
    obtain ⟨k, hk, rfl, HK⟩ := hrel
    clear c3 hsl
    by_cases hlt : k < n
    · obtain ⟨c', S', m1, m2, m3, m4, m5⟩ := HK.out.is
      have hkl : k < acts.length := by have := HLE.out; omega
      obtain ⟨A, hA⟩ : ∃ A, acts[k]? = some A := ⟨_, List.getElem?_eq_getElem hkl⟩
      obtain ⟨g', cap', v1, v2, huv, _, _, hcg, q1, q2, hact⟩ := m1.uns.at hA
      simp only [Value.slice.injEq, Option.some.injEq, Addr.mk.injEq] at huv
      obtain ⟨⟨rfl, _⟩, _, rfl⟩ := huv
      have k1 : Kept Not wr ((wr.alloc (.cells #[v1, v2] 69)).drew) := Kept.ofBelow ((Below.refl wr.heap.size wr).alloc (Nat.le_refl _) _).drew
      have m1' := m1.new k1
      have htl := tot_le hA
      have hs2 := fun (W : World) (a : Addr) => run_store Try.prog W a v2 .plain hact.one.2
      obtain ⟨j, cp, hv, hj, hcall⟩ := again_any (hact.kept k1 (fun _ _ h => h) (fun _ _ e => e)) m1'.sure (by omega)
      subst hv
      have HC := hide hcall
      have x1 := m1'.c2
      have x0 : ((wr.alloc (.cells #[.func (.func j) #[] cp, v2] 69)).drew).cell? ⟨wr.heap.size, 0, none⟩ = some (.func (.func j) #[] cp) := by simp
      have cb : ¬ touch sb (fun g => c' g = 5) wr.heap.size := fun e => by
        have := m1.fresh _ (Nat.le_refl wr.heap.size)
        have hn := m1.sure.lt
        rcases e with e | e
        · omega
        · have e1 : c' wr.heap.size = 5 := e
          omega
      have cf : ¬ touch sb (fun g => c' g = 5) f := fun e => by
        have h5 := m1.cf
        have h6 := m1.cs
        rcases e with e | e
        · rw [e] at h5
          omega
        · have e1 : c' f = 5 := e
          omega
      have HD := hide (fun (w9 : World) (hd : Done ((wr.alloc (.cells #[.func (.func j) #[] cp, v2] 69)).drew) w9 (fun g => c' g = 5) sb S' A) => show w9.cell? ⟨wr.heap.size, 0, none⟩ = some (.func (.func j) #[] cp) ∧ w9.cell? ⟨f, 2, none⟩ = some (.map (some sb)) ∧ Hid (Half2 w c w9 f size nb sb (.slice (some ⟨g, 0, none⟩) acts.length cap) N S acts (k + 1)) by
        have hd' := hd
        obtain ⟨L', _, kk, _⟩ := hd
        exact ⟨kk.cell x0 cb, kk.cell x1 cf, hide (Half2.step hA m1 m2 m3 m4 m5 k1 hd')⟩)
      have hlk : (k : Int) < (n : Int) := by omega
      have hj' : ∀ args W, (callFunc j args).run Try.prog W = .ok (.enter j args) W := hj
      clear m1 m1' m2 m3 m4 m5 hact k1 hcall htl cb cf hA hkl HK HS hj hcg
      go_wp2
      go_region_held3 (fun w' => w'.cell? ⟨wr.heap.size, 0, none⟩ = some (.func (.func j) #[] cp) ∧ w'.cell? ⟨f, 2, none⟩ = some (.map (some sb))) (exact ⟨by assumption, by assumption⟩)
        (first
          | (refine HC.out.mono ?_; rintro e w9 ⟨rfl, hp⟩; obtain ⟨e0, e1, HDN⟩ := HD.out w9 hp.out; clear hp))
      go_wp2
      go_roundw
      case rel => exact ⟨k + 1, by omega, by go_num, HDN⟩
      case measure => simp [intOf]; omega
    · obtain rfl : k = n := by omega
      obtain ⟨c', S', m1, _⟩ := HK.out.is
      have x3 := m1.c3
      have x4 := m1.fz 3
      have HF := hide (HK.out.fin HCF.out HLT.out)
      rw [HLE.out] at x3
      clear m1 HK HS
      go_wp2
      go_end0
      exact ⟨rfl, HF⟩
end Go.Proofs.Ytdmhcgneafacmaa
