/- The contract of do: an act is done, and is not sure. -/
import Derived.Test.YtdmhcgneafacmaaFAny
namespace Go.Proofs.Ytdmhcgneafacmaa
open Go.RowKit
set_option linter.unusedVariables false
set_option linter.unusedSimpArgs false
set_option maxRecDepth 100000

/-- new blocks get a colour -/
def paint (c : Nat → Nat) (lo hi k : Nat) : Nat → Nat := fun g => if lo ≤ g ∧ g < hi then k else c g
theorem paint_old {c : Nat → Nat} {lo hi k g : Nat} (h : g < lo) : paint c lo hi k g = c g := by unfold paint; rw [if_neg (by omega)]
theorem paint_new {c : Nat → Nat} {lo hi k g : Nat} (h : lo ≤ g) (h' : g < hi) : paint c lo hi k g = k := by unfold paint; rw [if_pos ⟨h, h'⟩]
theorem paint_self {c : Nat → Nat} {lo hi k g : Nat} (h : c g = k) : paint c lo hi k g = k := by
  unfold paint
  split
  · rfl
  · exact h
theorem paint_five {c : Nat → Nat} {a b d e k : Nat} (h : paint (paint c a b 4) d e 6 k = 5) : c k = 5 := by
  unfold paint at h
  split at h
  · omega
  · split at h
    · omega
    · exact h
theorem Dir.recolor {w : World} {c c' : Nat → Nat} {k b : Nat} {L : List Ent} (h : Dir w (fun g => c g = k) b L) (hc : ∀ g, g < w.heap.size → c' g = c g) : Dir w (fun g => c' g = k) b L :=
  ⟨h.map, h.rows, fun x hx g hg => (hc g ((h.rows x hx).lt hg)).trans (h.mine x hx g hg), h.apart, fun e => h.other ((hc b h.lt).symm.trans e)⟩
theorem Dir.grown {w w' : World} {c : Nat → Nat} {k b : Nat} {L : List Ent} (h : Dir w' (grow (fun g => c g = k) w w') b L) (hb : b < w.heap.size) : Dir w' (fun g => paint c w.heap.size w'.heap.size k g = k) b L :=
  ⟨h.map, h.rows, fun x hx g hg => (h.mine x hx g hg).elim paint_self (fun e => paint_new e.1 e.2), h.apart, fun e => h.other (.inl (by
    have e1 : paint c w.heap.size w'.heap.size k b = k := e
    rw [paint_old hb] at e1
    exact e1))⟩
theorem keptStore (w : World) (f i : Nat) (v : Value) : Kept (fun k => k = f) w (w.setCell ⟨f, i, none⟩ v) := ⟨rfl, rfl, rfl, by simp, fun k _ hn => heap_setCell_other w _ k v hn⟩
theorem flat_append (a b : List (Value × Value)) : flat (a ++ b) = flat a ++ flat b := by simp [flat]

/-- the disk behind an act -/
theorem Disk.acted {w w1 w2 w3 w4 : World} {c : Nat → Nat} {f : Nat} {size : Int} {nb sb : Nat} {uv : Value} {N S : List Ent} {acts : List AM} {v1 v2 : Value} {A : AM} {fs : List (Value × Value)} {g cap : Nat}
    (h : Disk w c f size nb sb uv N S acts) (hA : ActV w c v1 v2 A) (hfl : fs.length = acts.length) (hcu : ∀ g, uv.ownBlock = some g → c g = 6) (hfs : ∀ (i : Nat) p A, fs[i]? = some p → acts[i]? = some A → ActV w c p.1 p.2 A)
    (k1 : Kept Not w w1) (hd : Done w1 w2 (fun g => c g = 4) nb N A) (k3 : Kept Not w2 w3) (hg : w3.grownBy w4 uv.ownBlock)
    (hown : w4.ownsRow 0 69 2 (.slice (some ⟨g, 0, none⟩) (acts.length + 1) cap) (acts.length + 1) (flat fs ++ [v1, v2])) (hloc : uv.ownBlock = some g ∨ g = w3.heap.size) (hg4 : g < w4.heap.size) :
    ∃ c' N', Disk (w4.setCell ⟨f, 3, none⟩ (.slice (some ⟨g, 0, none⟩) (acts.length + 1) cap)) c' f size nb sb (.slice (some ⟨g, 0, none⟩) (acts.length + 1) cap) N' S (acts ++ [A]) ∧ sum N' ≤ sum N + addLen A ∧ look N' = doF (look N) A ∧ (∀ k, k < w.heap.size → c' k = c k) ∧
      Kept (fun k => c k = 1 ∨ c k = 2 ∨ c k = 4 ∨ c k = 6) w (w4.setCell ⟨f, 3, none⟩ (.slice (some ⟨g, 0, none⟩) (acts.length + 1) cap)) := by
  obtain ⟨N', d1, d2, d3, d4⟩ := hd
  have z1 := k1.size
  have z2 := d2.size
  have z3 := k3.size
  have z4 := hg.size
  have hf := h.lt
  have hn := h.now.lt
  have hs := h.sure.lt
  have d2' : Kept (fun k => c k = 2 ∨ c k = 4) w1 w2 := d2.mono (fun i _ e => e.elim (fun e => .inl (by rw [e]; exact h.cn)) .inr)
  have k2 : Kept (fun k => c k = 2 ∨ c k = 4) w w2 := k1.trans d2' (fun _ _ h => h.elim) (fun _ _ h => h)
  have k2' : Kept (fun k => c k = 2 ∨ c k = 4) w w3 := k2.next k3
  have hgr : Kept (fun k => c k = 6) w3 w4 := (Kept.ofGrown hg).mono (fun i _ e => hcu i e)
  have k4 : Kept (fun k => c k = 2 ∨ c k = 4 ∨ c k = 6) w w4 := k2'.trans hgr (fun i _ e => by omega) (fun i _ e => by omega)
  have hst := keptStore w4 f 3 (.slice (some ⟨g, 0, none⟩) (acts.length + 1) cap)
  have k5 : Kept (fun k => c k = 1 ∨ c k = 2 ∨ c k = 4 ∨ c k = 6) w (w4.setCell ⟨f, 3, none⟩ (.slice (some ⟨g, 0, none⟩) (acts.length + 1) cap)) :=
    k4.trans hst (fun i _ e => by omega) (fun i _ e => by rw [e]; exact .inl h.cf)
  -- colours
  have hcol : ∀ k, k < w.heap.size → paint (paint c w1.heap.size w2.heap.size 4) w3.heap.size w4.heap.size 6 k = c k := fun k hk => by rw [paint_old (by omega), paint_old (by omega)]
  have hcol2 : ∀ k, k < w2.heap.size → paint (paint c w1.heap.size w2.heap.size 4) w3.heap.size w4.heap.size 6 k = paint c w1.heap.size w2.heap.size 4 k := fun k hk => paint_old (by omega)
  have hbox4 : w4.heap[f]? = some (.cells #[.int .i64 size, .map (some nb), .map (some sb), uv, .int .i64 (-1)] 59 (0, 0)) := (k4.block f hf (by rw [h.cf]; omega)).trans h.box
  have hnow2 : Dir w2 (fun k => paint c w1.heap.size w2.heap.size 4 k = 4) nb N' := d1.grown (by omega)
  have e6 : ∀ k, k < w3.heap.size → uv.ownBlock = some k → paint c w1.heap.size w2.heap.size 4 k ≠ 4 ∧ k ≠ nb := fun k hk e => by
    have h6 := hcu k e
    have hkl : k < w.heap.size := by
      obtain ⟨fs', _, q2, _⟩ := h.uns.row
      rcases q2.2 with ⟨q, _⟩ | ⟨gg, cc, cur, q, _, q5, _⟩
      · rw [q] at e
        cases e
      · rw [q] at e
        cases e
        exact (Array.getElem?_eq_some_iff.1 q5).1
    rw [paint_old (by omega)]
    have := h.cn
    exact ⟨by omega, fun e => by rw [e] at h6; omega⟩
  have hnow4 : Dir w4 (fun k => paint c w1.heap.size w2.heap.size 4 k = 4) nb N' := (hnow2.new k3).kept (F := fun k => k < w3.heap.size ∧ uv.ownBlock = some k) ((Kept.ofGrown hg).mono (fun i hi e => ⟨hi, e⟩)) (fun e => (e6 nb e.1 e.2).2 rfl) (fun k hk e => (e6 k e.1 e.2).1 hk)
  have hnow5 : Dir (w4.setCell ⟨f, 3, none⟩ (.slice (some ⟨g, 0, none⟩) (acts.length + 1) cap)) (fun k => paint c w1.heap.size w2.heap.size 4 k = 4) nb N' := hnow4.kept hst (fun e => by have := h.cn; rw [e, h.cf] at this; omega) (fun k hk e => by
    rw [e] at hk
    rw [paint_old (by omega), h.cf] at hk
    omega)
  refine ⟨paint (paint c w1.heap.size w2.heap.size 4) w3.heap.size w4.heap.size 6, N', ⟨?_, by rw [hcol f hf]; exact h.cf, ?_, by rw [hcol nb hn]; exact h.cn, ?_, by rw [hcol sb hs]; exact h.cs, ?_, ?_, ?_⟩, d4, d3, hcol, k5⟩
  · exact heap_setCell_same w4 f 3 _ 59 _ hbox4
  · refine ⟨hnow5.map, hnow5.rows, fun x hx k hk => ?_, hnow5.apart, fun e => ?_⟩
    · have hlt := (hnow2.rows x hx).lt hk
      rw [hcol2 k hlt]
      exact hnow5.mine x hx k hk
    · rw [hcol nb hn, h.cn] at e
      omega
  · exact (h.sure.recolor hcol).kept k5 (by rw [h.cs]; omega) (fun k hk => by have e := paint_five hk; omega)
  · have hgf : g ≠ f := fun e => by
      rcases hloc with e1 | e1
      · have := hcu g e1
        rw [e, h.cf] at this
        omega
      · omega
    refine ⟨fs ++ [(v1, v2)], by simp [hfl], ?_, fun k hk => ?_, fun i p A' hp hA' => ?_⟩
    · rw [flat_append, List.length_append]
      refine ⟨hown.1, ?_⟩
      rcases hown.2 with ⟨q, _⟩ | ⟨gg, cc, cur, q, q0, q5, q6⟩
      · cases q
      · have q' := q
        simp only [Value.slice.injEq, Option.some.injEq, Addr.mk.injEq] at q
        obtain ⟨⟨rfl, _⟩, _, rfl⟩ := q
        exact .inr ⟨g, cap, cur, rfl, q0, (heap_setCell_other w4 _ g _ hgf).trans q5, q6⟩
    · cases hk
      rcases hloc with e1 | e1
      · have hl : g < w.heap.size := by
          obtain ⟨fs', _, q2, _⟩ := h.uns.row
          rcases q2.2 with ⟨q, _⟩ | ⟨gg, cc, cur, q, _, q5, _⟩
          · rw [q] at e1
            cases e1
          · rw [q] at e1
            cases e1
            exact (Array.getElem?_eq_some_iff.1 q5).1
        rw [hcol g hl]
        exact hcu g e1
      · exact paint_new (Nat.le_of_eq e1.symm) hg4
    · have kk : ∀ {a b : Value} {B : AM}, ActV w c a b B → ActV (w4.setCell ⟨f, 3, none⟩ (.slice (some ⟨g, 0, none⟩) (acts.length + 1) cap)) (paint (paint c w1.heap.size w2.heap.size 4) w3.heap.size w4.heap.size 6) a b B := fun hB => hB.kept k5 (fun k hk => by omega) (fun k hk e => (hcol k hk).trans e)
      by_cases hi : i < acts.length
      · rw [List.getElem?_append_left (by omega)] at hp
        rw [List.getElem?_append_left hi] at hA'
        exact kk (hfs i p A' hp hA')
      · rw [List.getElem?_append_right (by omega)] at hp
        rw [List.getElem?_append_right (by omega)] at hA'
        rw [hfl] at hp
        have : i - acts.length = 0 := by
          have := (List.getElem?_eq_some_iff.1 hp).1
          simp at this
          omega
        rw [this] at hp hA'
        simp at hp hA'
        subst hp hA'
        exact kk hA
  · rw [d3, h.same, List.foldl_append]
    rfl
  · intro k hk
    have hz : (w4.setCell ⟨f, 3, none⟩ (.slice (some ⟨g, 0, none⟩) (acts.length + 1) cap)).heap.size = w4.heap.size := by simp
    rw [hz] at hk
    unfold paint
    rw [if_neg (by omega), if_neg (by omega)]
    exact h.fresh k (by omega)
theorem Try.info69 : (Try.prog.info? 69).map (fun i => (i.zero, i.size, i.bytes)) = some (some (.agg #[.nilFunc, .nilFunc]), 2, 16) := by kernel_rfl
theorem one_func (k : Nat) (cap : Array Value) : (Value.func (.func k) #[] cap).oneCell' = true := rfl
theorem ActV.one {w : World} {c : Nat → Nat} {v1 v2 : Value} {A : AM} (h : ActV w c v1 v2 A) : v1.oneCell' = true ∧ v2.oneCell' = true := by
  obtain ⟨x, y, _, _, _, h2⟩ := h.is
  rcases h2 with ⟨_, rfl, rfl, _⟩ | ⟨_, rfl, rfl, _⟩ | ⟨_, rfl, rfl, _⟩ | ⟨_, rfl, rfl⟩ <;> exact ⟨rfl, rfl⟩
/-- where a disk is behind an act -/
def Acted (w w' : World) (c : Nat → Nat) (f : Nat) (size : Int) (nb sb : Nat) (N S : List Ent) (acts : List AM) (A : AM) : Prop :=
  ∃ c' uv' N', Disk w' c' f size nb sb uv' N' S (acts ++ [A]) ∧ sum N' ≤ sum N + addLen A ∧ look N' = doF (look N) A ∧ (∀ k, k < w.heap.size → c' k = c k) ∧ Kept (fun k => c k = 1 ∨ c k = 2 ∨ c k = 4 ∨ c k = 6) w w'
set_option maxHeartbeats 2000000 in
theorem do_any {w : World} {c : Nat → Nat} {f : Nat} {size : Int} {nb sb : Nat} {uv : Value} {N S : List Ent} {acts : List AM} {v1 v2 : Value} {A : AM} (h : Disk w c f size nb sb uv N S acts) (hA : ActV w c v1 v2 A) (hl : sum N + addLen A ≤ 140737488355328) (hn : acts.length ≤ 1000000000) :
    Calls Try.prog 33 #[ptr f, .agg #[v1, v2]] w fun e w' => e = .returned (.tuple #[]) ∧ Hid (Acted w w' c f size nb sb N S acts A) := by
  obtain ⟨fs, hfl, hrow, hcu, hfs⟩ := h.uns.row
  obtain ⟨o1, o2⟩ := hA.one
  have k1 : Kept Not w ((w.alloc (.cells #[v1, v2] 69)).drew) := Kept.ofBelow ((Below.refl w.heap.size w).alloc (Nat.le_refl _) _).drew
  have h1 := h.new k1
  obtain ⟨k, cap, hv, hk, hcall⟩ := again_any (hA.kept k1 (fun _ _ h => h) (fun _ _ e => e)) h1.now hl
  have HC := hide hcall
  subst hv
  have x1 := h1.c1
  have x3 := h1.c3
  have x4 := h1.fz 3
  have x0 : ((w.alloc (.cells #[.func (.func k) #[] cap, v2] 69)).drew).cell? ⟨w.heap.size, 0, none⟩ = some (.func (.func k) #[] cap) := by simp
  have x2 : ((w.alloc (.cells #[.func (.func k) #[] cap, v2] 69)).drew).heap[w.heap.size]? = some (.cells #[.func (.func k) #[] cap, v2] 69 (0, 0)) := heap_alloc_new w _
  have cb : ¬ touch nb (fun g => c g = 4) w.heap.size := fun e => by
    have := h.fresh _ (Nat.le_refl w.heap.size)
    have hn := h.now.lt
    rcases e with e | e
    · omega
    · have e1 : c w.heap.size = 4 := e
      omega
  have cf : ¬ touch nb (fun g => c g = 4) f := fun e => by
    have h5 := h.cf
    have h6 := h.cn
    rcases e with e | e
    · rw [e] at h5
      omega
    · have e1 : c f = 4 := e
      omega
  have HD := hide (fun (w9 : World) (hd : Done ((w.alloc (.cells #[.func (.func k) #[] cap, v2] 69)).drew) w9 (fun g => c g = 4) nb N A) => show w9.cell? ⟨w.heap.size, 0, none⟩ = some (.func (.func k) #[] cap) ∧ w9.cell? ⟨f, 1, none⟩ = some (.map (some nb)) ∧ w9.heap[w.heap.size]? = some (.cells #[.func (.func k) #[] cap, v2] 69 (0, 0)) ∧ w9.heap[f]? = some (.cells #[.int .i64 size, .map (some nb), .map (some sb), uv, .int .i64 (-1)] 59 (0, 0)) ∧ Hid (Done ((w.alloc (.cells #[.func (.func k) #[] cap, v2] 69)).drew) w9 (fun g => c g = 4) nb N A) by
    have hd' := hd
    obtain ⟨L', _, kk, _⟩ := hd
    exact ⟨kk.cell x0 cb, kk.cell x1 cf, (kk.block _ (by simp) cb).trans x2, (kk.block _ h1.lt cf).trans h1.box, hide hd'⟩)
  unfold Enters at hk
  unfold ptr
  have HH := hide h
  have HAA := hide hA
  have HRW := hide hrow
  have HCU := hide hcu
  have HFS := hide hfs
  have HFL := hide hfl
  have HK1 := hide k1
  clear h hA hrow hcu hfs hfl k1 h1 hcall cb cf x3 x4
  go_enter Try.func33, Try.ntmps33
  go_wp2
  go_region_held3 (fun w' => w'.cell? ⟨w.heap.size, 0, none⟩ = some (.func (.func k) #[] cap) ∧ w'.cell? ⟨f, 1, none⟩ = some (.map (some nb))) (exact ⟨by assumption, by assumption⟩)
    (first
      | (refine HC.out.mono ?_; rintro e w9 ⟨rfl, hp⟩; obtain ⟨e0, e1, e2, e3, HDN⟩ := HD.out w9 hp.out; clear hp))
  have own9 : w9.ownsRow 0 69 2 uv acts.length (flat fs) := by
    have hrow := HRW.out
    refine ⟨hrow.1, ?_⟩
    rcases hrow.2 with hh | ⟨g, cp, cur, rfl, q0, q5, q6⟩
    · exact .inl hh
    · refine .inr ⟨g, cp, cur, rfl, q0, ?_, q6⟩
      obtain ⟨L', _, kk, _⟩ := HDN.out
      have hlt := (Array.getElem?_eq_some_iff.1 q5).1
      have c6 := HCU.out g rfl
      have hcn := HH.out.cn
      exact (kk.block g (Nat.lt_of_lt_of_le hlt HK1.out.size) (fun e => by
        rcases e with e | e
        · rw [e] at c6
          omega
        · have e1 : c g = 4 := e
          omega)).trans ((HK1.out.block g hlt (fun h => h)).trans q5)
  obtain ⟨i0, hi, hz0, hz1, hz2⟩ := info_parts Try.info69
  obtain ⟨ao, cp, huv, hu1, hu2⟩ := HH.out.uns.shape
  have HUV := hide huv
  have y3 : w9.cell? ⟨f, 3, none⟩ = some uv := by simp [World.cell?, e3]
  have y4 : w9.frozen? ⟨f, 3, none⟩ = false := by simp [World.frozen?, e3]
  have y0 : w9.cell? ⟨w.heap.size, 0, none⟩ = some (.func (.func k) #[] cap) := by simp [World.cell?, e2]
  have y2 : w9.cell? ⟨w.heap.size, 1, none⟩ = some v2 := by simp [World.cell?, e2]
  have y3d : w9.drew.cell? ⟨f, 3, none⟩ = some uv := y3
  have y4d : w9.drew.frozen? ⟨f, 3, none⟩ = false := y4
  have y0d : w9.drew.cell? ⟨w.heap.size, 0, none⟩ = some (.func (.func k) #[] cap) := y0
  have y2d : w9.drew.cell? ⟨w.heap.size, 1, none⟩ = some v2 := y2
  have E3 := hide e3
  rw [huv] at y3 y3d own9
  have OWN := hide own9
  have hone : ∀ u ∈ [Value.func (.func k) #[] cap, v2], u.oneCell' = true := fun u hu => by
    simp at hu
    rcases hu with rfl | rfl
    · rfl
    · exact o2
  have l3 : ∀ W : World, W.cell? ⟨f, 3, none⟩ = some (.slice ao acts.length cp) → (Instr.loadAt 57 (.pointer (some ⟨f, 3, none⟩))).run Try.prog W = .ok (.slice ao acts.length cp) W := fun W hc => by go_simp
  have l5 : (Instr.loadAt 69 (.pointer (some ⟨w.heap.size, 0, none⟩))).run Try.prog w9.drew = .ok (.agg #[.func (.func k) #[] cap, v2]) w9.drew := by go_simp
  have b6 : (Instr.buildSlice 57 1 #[(0, .agg #[.func (.func k) #[] cap, v2])]).run Try.prog w9.drew = .ok (.slice (some ⟨w9.heap.size, 0, none⟩) 1 1) ((w9.alloc (.cells #[.func (.func k) #[] cap, v2] 69)).drew) := by go_simp
  have y36 : ((w9.alloc (.cells #[.func (.func k) #[] cap, v2] 69)).drew).cell? ⟨f, 3, none⟩ = some (.slice ao acts.length cp) := by
    have := ((Below.refl w9.heap.size w9).alloc (Nat.le_refl _) (.cells #[.func (.func k) #[] cap, v2] 69)).cell (p := ⟨f, 3, none⟩) (block_lt_of_cell y3)
    exact this.trans y3
  have own10 : ((w9.alloc (.cells #[.func (.func k) #[] cap, v2] 69)).drew).ownsRow 0 69 2 (.slice ao acts.length cp) acts.length (flat fs) := own9.alloc _
  obtain ⟨v11, w11, hrun7, hown7, hg7, hnil7, hloc7⟩ := run_append_own_at (P := Try.prog) ((w9.alloc (.cells #[.func (.func k) #[] cap, v2] 69)).drew) 0 57 57 69 i0 (.agg #[.nilFunc, .nilFunc]) 2 16 Try.underlying57 hi hz0 hz1 hz2 rfl (by decide) _ acts.length (flat fs) own10 ⟨w9.heap.size, 0, none⟩ 1 1 [.func (.func k) #[] cap, v2] rfl
    (World.news_of_block (cs := #[.func (.func k) #[] cap, v2]) (heap_alloc_new w9 _)) hone (by unfold maxLen; omega) (by omega) (Nat.zero_le _)
  obtain ⟨g, c11, rfl, hg11⟩ : ∃ g c11, v11 = .slice (some ⟨g, 0, none⟩) (acts.length + 1) c11 ∧ g < w11.heap.size := by
    rcases hown7.2 with ⟨q, q0⟩ | ⟨g, c11, cur, q, _, q5, _⟩
    · omega
    · exact ⟨g, c11, q, (Array.getElem?_eq_some_iff.1 q5).1⟩
  have k3 : Kept Not w9 ((w9.alloc (.cells #[.func (.func k) #[] cap, v2] 69)).drew) := Kept.ofBelow ((Below.refl w9.heap.size w9).alloc (Nat.le_refl _) _).drew
  have hg7' := hg7
  have ob : (Value.slice ao acts.length cp).ownBlock = uv.ownBlock := by rw [huv]
  rw [ob] at hg7' hloc7
  have FIN := hide (Disk.acted HH.out HAA.out HFL.out HCU.out HFS.out HK1.out HDN.out k3 hg7' hown7 (by
    rcases hloc7 with e | e
    · exact .inl e.symm
    · right
      cases e
      rfl) hg11)
  have hb11 : w11.heap[f]? = some (.cells #[.int .i64 size, .map (some nb), .map (some sb), uv, .int .i64 (-1)] 59 (0, 0)) := by
    have hlt9 : f < w9.heap.size := block_lt_of_cell y3
    refine (hg7.block f (by simp; omega) (fun e => ?_)).trans ((k3.block f hlt9 (fun h => h)).trans e3)
    rw [ob] at e
    have := HCU.out f e.symm
    have h5 := HH.out.cf
    omega
  have y11 : w11.cell? ⟨f, 3, none⟩ = some (.slice ao acts.length cp) := by rw [← huv]; simp [World.cell?, hb11]
  have z11 : w11.frozen? ⟨f, 3, none⟩ = false := by simp [World.frozen?, hb11]
  have s10 : (Instr.storeAt 57 (.pointer (some ⟨f, 3, none⟩)) (.slice (some ⟨g, 0, none⟩) (acts.length + 1) c11)).run Try.prog w11 = .ok () (w11.setCell ⟨f, 3, none⟩ (.slice (some ⟨g, 0, none⟩) (acts.length + 1) c11)) := by go_simp
  obtain ⟨c', N', hF⟩ := FIN.out
  have HF := hide hF
  have HSP := hide (spend_any hF.1)
  have y3d' := l3 _ y3d
  have y36' := l3 _ y36
  clear hF hown7 hg7 hg7' hloc7 hnil7 own9 own10 huv e0 e1 e2 e3 x0 x1 x2 hone hb11 y11 z11 y36 y3 y3d y0 y0d y2 y2d y4 y4d l3 FIN HH HAA HRW HCU HFS HFL HK1 HDN HUV HC HD ob k3 hu1 hu2 hg11 hi hz0 hz1 hz2 hk
  unfold ptr at HSP
  generalize acts.length = n at *
  go_wp2
  refine wp_region_any (by kernel_rfl) ?_
  refine an_take (i := 0) (some 11) rfl rfl (by kernel_rfl) (by kernel_rfl) (by kernel_rfl) rfl (fun W => ex_mv rfl rfl) (fun _ _ _ h => h) ?_
  simp only [Act.put, List.setIfInBounds_toArray, List.set_cons_zero, List.set_cons_succ]
  refine an_take (i := 1) (some 12) rfl rfl (by kernel_rfl) (by kernel_rfl) (by kernel_rfl) rfl (fun W => ex_mv rfl rfl) (fun _ _ _ h => h) ?_
  simp only [Act.put, List.setIfInBounds_toArray, List.set_cons_zero, List.set_cons_succ]
  refine an_take (i := 2) (some 13) rfl rfl (by kernel_rfl) (by kernel_rfl) (by kernel_rfl) rfl (fun W => ex_nck rfl rfl) (fun _ _ _ h => h) ?_
  simp only [Act.put, List.setIfInBounds_toArray, List.set_cons_zero, List.set_cons_succ]
  refine an_take (i := 3) (some 14) rfl rfl (by kernel_rfl) (by kernel_rfl) (by kernel_rfl) rfl (fun W => ex_fa rfl rfl (fa59 f 3 (by decide) W)) (fun _ _ _ h => h) ?_
  simp only [Act.put, List.setIfInBounds_toArray, List.set_cons_zero, List.set_cons_succ]
  refine an_or2 (i := 4) (j := 5) (by kernel_rfl) (ny_to (some 15) rfl rfl rfl (ex_load rfl rfl y3d') ?_) (ny_to (some 16) rfl rfl rfl (ex_load rfl rfl l5) ?_)
  · simp only [Act.put, List.setIfInBounds_toArray, List.set_cons_zero, List.set_cons_succ]
    refine an_or1 (i := 5) (by kernel_rfl) (ny_to (some 16) rfl rfl rfl (ex_load rfl rfl l5) ?_)
    simp only [Act.put, List.setIfInBounds_toArray, List.set_cons_zero, List.set_cons_succ]
    refine an_or1 (i := 6) (by kernel_rfl) (ny_to (some 17) rfl rfl rfl (ex_bsl rfl rfl b6) ?_)
    simp only [Act.put, List.setIfInBounds_toArray, List.set_cons_zero, List.set_cons_succ]
    refine an_or1 (i := 7) (by kernel_rfl) (ny_to (some 18) rfl rfl rfl (ex_app rfl rfl rfl hrun7) ?_)
    simp only [Act.put, List.setIfInBounds_toArray, List.set_cons_zero, List.set_cons_succ]
    refine an_or1 (i := 8) (by kernel_rfl) (ny_to (some 19) rfl rfl rfl (ex_nck rfl rfl) ?_)
    simp only [Act.put, List.setIfInBounds_toArray, List.set_cons_zero, List.set_cons_succ]
    refine an_or1 (i := 9) (by kernel_rfl) (ny_to (some 20) rfl rfl rfl (ex_fa rfl rfl (fa59 f 3 (by decide) _)) ?_)
    simp only [Act.put, List.setIfInBounds_toArray, List.set_cons_zero, List.set_cons_succ]
    refine an_or1 (i := 10) (by kernel_rfl) (ny_skip rfl rfl rfl (ex_store rfl rfl rfl s10) ?_)
    refine an_done (by kernel_rfl) ?_
    go_wp2_with (go_at_call 38; refine HSP.out.mono ?_; rintro e w12 ⟨rfl, rfl⟩)
    go_end0
    exact ⟨rfl, hide ⟨c', _, N', HF.out⟩⟩
  · simp only [Act.put, List.setIfInBounds_toArray, List.set_cons_zero, List.set_cons_succ]
    refine an_or2 (i := 4) (j := 6) (by kernel_rfl) (ny_to (some 15) rfl rfl rfl (ex_load rfl rfl y3d') ?_) (ny_to (some 17) rfl rfl rfl (ex_bsl rfl rfl b6) ?_)
    · simp only [Act.put, List.setIfInBounds_toArray, List.set_cons_zero, List.set_cons_succ]
      refine an_or1 (i := 6) (by kernel_rfl) (ny_to (some 17) rfl rfl rfl (ex_bsl rfl rfl b6) ?_)
      simp only [Act.put, List.setIfInBounds_toArray, List.set_cons_zero, List.set_cons_succ]
      refine an_or1 (i := 7) (by kernel_rfl) (ny_to (some 18) rfl rfl rfl (ex_app rfl rfl rfl hrun7) ?_)
      simp only [Act.put, List.setIfInBounds_toArray, List.set_cons_zero, List.set_cons_succ]
      refine an_or1 (i := 8) (by kernel_rfl) (ny_to (some 19) rfl rfl rfl (ex_nck rfl rfl) ?_)
      simp only [Act.put, List.setIfInBounds_toArray, List.set_cons_zero, List.set_cons_succ]
      refine an_or1 (i := 9) (by kernel_rfl) (ny_to (some 20) rfl rfl rfl (ex_fa rfl rfl (fa59 f 3 (by decide) _)) ?_)
      simp only [Act.put, List.setIfInBounds_toArray, List.set_cons_zero, List.set_cons_succ]
      refine an_or1 (i := 10) (by kernel_rfl) (ny_skip rfl rfl rfl (ex_store rfl rfl rfl s10) ?_)
      refine an_done (by kernel_rfl) ?_
      go_wp2_with (go_at_call 38; refine HSP.out.mono ?_; rintro e w12 ⟨rfl, rfl⟩)
      go_end0
      exact ⟨rfl, hide ⟨c', _, N', HF.out⟩⟩
    · simp only [Act.put, List.setIfInBounds_toArray, List.set_cons_zero, List.set_cons_succ]
      refine an_or1 (i := 4) (by kernel_rfl) (ny_to (some 15) rfl rfl rfl (ex_load rfl rfl y36') ?_)
      simp only [Act.put, List.setIfInBounds_toArray, List.set_cons_zero, List.set_cons_succ]
      refine an_or1 (i := 7) (by kernel_rfl) (ny_to (some 18) rfl rfl rfl (ex_app rfl rfl rfl hrun7) ?_)
      simp only [Act.put, List.setIfInBounds_toArray, List.set_cons_zero, List.set_cons_succ]
      refine an_or1 (i := 8) (by kernel_rfl) (ny_to (some 19) rfl rfl rfl (ex_nck rfl rfl) ?_)
      simp only [Act.put, List.setIfInBounds_toArray, List.set_cons_zero, List.set_cons_succ]
      refine an_or1 (i := 9) (by kernel_rfl) (ny_to (some 20) rfl rfl rfl (ex_fa rfl rfl (fa59 f 3 (by decide) _)) ?_)
      simp only [Act.put, List.setIfInBounds_toArray, List.set_cons_zero, List.set_cons_succ]
      refine an_or1 (i := 10) (by kernel_rfl) (ny_skip rfl rfl rfl (ex_store rfl rfl rfl s10) ?_)
      refine an_done (by kernel_rfl) ?_
      go_wp2_with (go_at_call 38; refine HSP.out.mono ?_; rintro e w12 ⟨rfl, rfl⟩)
      go_end0
      exact ⟨rfl, hide ⟨c', _, N', HF.out⟩⟩
end Go.Proofs.Ytdmhcgneafacmaa
