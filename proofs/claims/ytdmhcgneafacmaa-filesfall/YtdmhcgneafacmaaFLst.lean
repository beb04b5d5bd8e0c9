/- The contract of List over this seat's translation, where sorting has its own. -/
import Derived.Test.YtdmhcgneafacmaaFTru
import Derived.Laws.MakeOwn
namespace Go.Proofs.Ytdmhcgneafacmaa
open Go.RowKit
set_option linter.unusedVariables false
set_option linter.unusedSimpArgs false
set_option maxRecDepth 100000

theorem Try.info47 : (Try.prog.info? 47).map (fun i => (i.zero, i.size, i.bytes)) = some (some (.agg #[.string ⟨#[]⟩, .slice none 0 0]), 2, 40) := by kernel_rfl
/-- a file that is told: its name, where its bytes lie, its bytes -/
abbrev Fl := ByteArray × Option Addr × Nat × List Int
def sv (x : Fl) : Value := .slice x.2.1 x.2.2.2.length x.2.2.1
def encF (x : Fl) : List Value := [.string x.1, sv x]
def fkey (x : Fl) : ByteArray × List Int := (x.1, x.2.2.2)
def ekey (x : Ent) : ByteArray × List Int := (x.1, x.2.2)
theorem encF_len (D : List Fl) : (D.flatMap encF).length = D.length * 2 := by
  induction D with
  | nil => rfl
  | cons x r ih => rw [List.flatMap_cons, List.length_append, ih]; simp [encF]; omega
/-- a row of files, in blocks of R -/
structure FR (R : Nat → Prop) (w : World) (v : Value) (D : List Fl) : Prop where
  row : w.ownsRow 0 47 2 v D.length (D.flatMap encF)
  is : ∃ g cap, v = .slice (some ⟨g, 0, none⟩) D.length cap ∧ R g
  rows : ∀ x ∈ D, Row w (sv x) x.2.2.2
  mine : ∀ x ∈ D, ∀ g, (sv x).ownBlock = some g → R g ∧ v.ownBlock ≠ some g
theorem ownsRow_kept {F : Nat → Prop} {w w' : World} {t : TypeId} {k n : Nat} {v : Value} {xs : List Value} (h : w.ownsRow 0 t k v n xs) (hk : Kept F w w') (hF : ∀ g, v.ownBlock = some g → ¬ F g) : w'.ownsRow 0 t k v n xs := by
  refine ⟨h.1, ?_⟩
  rcases h.2 with h | ⟨g, cap, cur, rfl, h0, h2, h3⟩
  · exact .inl h
  · exact .inr ⟨g, cap, cur, rfl, h0, (hk.block g (Array.getElem?_eq_some_iff.1 h2).1 (hF g rfl)).trans h2, h3⟩
theorem FR.own {R : Nat → Prop} {w : World} {v : Value} {D : List Fl} (h : FR R w v D) : ∀ g, v.ownBlock = some g → R g := fun g hg => by
  obtain ⟨g', cap, rfl, hr⟩ := h.is
  cases hg
  exact hr
theorem FR.lt {R : Nat → Prop} {w : World} {v : Value} {D : List Fl} (h : FR R w v D) {g : Nat} (hg : v.ownBlock = some g) : g < w.heap.size := by
  rcases h.row.2 with ⟨e, _⟩ | ⟨g', cap, cur, rfl, h0, h2, h3⟩
  · rw [e] at hg
    cases hg
  · cases hg
    exact (Array.getElem?_eq_some_iff.1 h2).1
theorem FR.kept {R F : Nat → Prop} {w w' : World} {v : Value} {D : List Fl} (h : FR R w v D) (hk : Kept F w w') (hF : ∀ g, R g → g < w.heap.size → ¬ F g) : FR R w' v D :=
  ⟨ownsRow_kept h.row hk (fun g hg => hF g (h.own g hg) (h.lt hg)), h.is, fun x hx => (h.rows x hx).kept hk (fun g hg => hF g (h.mine x hx g hg).1 ((h.rows x hx).lt hg)), h.mine⟩
theorem FR.mono {R R' : Nat → Prop} {w : World} {v : Value} {D : List Fl} (h : FR R w v D) (hR : ∀ g, R g → R' g) : FR R' w v D := by
  obtain ⟨g, cap, e, hr⟩ := h.is
  exact ⟨h.row, ⟨g, cap, e, hR g hr⟩, h.rows, fun x hx g hg => ⟨hR g (h.mine x hx g hg).1, (h.mine x hx g hg).2⟩⟩
theorem encF_one (x : Fl) : ∀ u ∈ encF x, u.oneCell' = true := by
  intro u hu
  simp [encF, sv] at hu
  rcases hu with rfl | rfl <;> rfl
/-- one file more -/
theorem FR.add {R : Nat → Prop} {w : World} {v : Value} {D : List Fl} (x : Fl) (h : FR R w v D) (hr : Row w (sv x) x.2.2.2) (hx : ∀ g, (sv x).ownBlock = some g → R g ∧ v.ownBlock ≠ some g) (hR : ∀ g, w.heap.size ≤ g → R g) (hn : D.length ≤ 1000000) :
    ∃ v' w', (Builtin.append_ #[42, 42] 42 #[v, .slice (some ⟨w.heap.size, 0, none⟩) 1 1]).run Try.prog (w.alloc (.cells #[.string x.1, sv x] 47)) = .ok v' w' ∧ FR R w' v' (D ++ [x]) ∧ Kept (fun g => v.ownBlock = some g) w w' := by
  obtain ⟨i0, hi, hz0, hz1, hz2⟩ := info_parts Try.info47
  have ka : Kept Not w (w.alloc (.cells #[.string x.1, sv x] 47)) := Kept.alloc w _
  have h1 := h.kept ka (fun _ _ _ h => h)
  obtain ⟨v', w', hrun, hown, hg, hnil, hloc⟩ := run_append_own_at (P := Try.prog) (w.alloc (.cells #[.string x.1, sv x] 47)) 0 42 42 47 i0 (.agg #[.string ⟨#[]⟩, .slice none 0 0]) 2 40 Try.underlying42 hi hz0 hz1 hz2 rfl (by decide) v D.length (D.flatMap encF) h1.row ⟨w.heap.size, 0, none⟩ 1 1 (encF x) rfl
    (World.news_of_block (cs := #[.string x.1, sv x]) (heap_alloc_new w _)) (encF_one x) (by unfold maxLen; omega) (by omega) (Nat.zero_le _)
  have kk : Kept (fun g => v.ownBlock = some g) w w' := ka.trans (Kept.ofGrown hg) (fun _ _ h => h.elim) (fun _ _ h => h)
  have hloc' : ∀ g, v'.ownBlock = some g → v.ownBlock = some g ∨ g = w.heap.size + 1 := fun g hg => by
    rcases hloc with e | e
    · exact .inl (e ▸ hg)
    · rw [hg] at e
      cases e
      exact .inr (by simp)
  refine ⟨v', w', hrun, ⟨?_, ?_, ?_, ?_⟩, kk⟩
  · have e1 : (D ++ [x]).flatMap encF = D.flatMap encF ++ encF x := by simp
    rw [e1, List.length_append]
    exact hown
  · rcases hown.2 with ⟨_, e⟩ | ⟨g, cap, cur, e, _⟩
    · omega
    · refine ⟨g, cap, by rw [e]; simp, ?_⟩
      rcases hloc' g (by rw [e]; rfl) with e2 | e2
      · exact h.own g e2
      · exact hR g (by omega)
  · intro y hy
    rcases List.mem_append.1 hy with hy | hy
    · exact (h.rows y hy).kept kk (fun g hg => (h.mine y hy g hg).2)
    · simp at hy
      subst hy
      exact hr.kept kk (fun g hg => (hx g hg).2)
  · intro y hy g hgy
    have hh : R g ∧ v.ownBlock ≠ some g ∧ g < w.heap.size := by
      rcases List.mem_append.1 hy with hy | hy
      · exact ⟨(h.mine y hy g hgy).1, (h.mine y hy g hgy).2, (h.rows y hy).lt hgy⟩
      · simp at hy
        subst hy
        exact ⟨(hx g hgy).1, (hx g hgy).2, hr.lt hgy⟩
    refine ⟨hh.1, fun e => ?_⟩
    rcases hloc' g e with e2 | e2
    · exact hh.2.1 e2
    · omega
theorem wl_app {w w' : World} {ops : Array Oper} {rest : List Oper} {o : Oper} {a : Act} {Q : Exit → Act → World → Prop} (hgd : o.guard = none) {s x : Operand} (ho : o.op = .call { callee := .builtin .append, args := #[s, x], argTypes := #[42, 42] }) {u n v : Value} (hs : a.eval s = u) (hx : a.eval x = n)
    (hr : (Builtin.append_ #[42, 42] o.type #[u, n]).run Try.prog w = .ok v w') (h : wpList Try.prog ops Q rest (a.put o.dst v) w') : wpList Try.prog ops Q (o :: rest) a w := by
  refine wpList_plain hgd fun K hK => ?_
  unfold Oper.wp
  simp [execOp, ho, resolve, invoke, builtin, hs, hx, hr, Result.andThen]
  exact hK _ _ h
/-- when M are still to come -/
structure Tell (w wr : World) (nb : Nat) (N M : List Ent) (v : Value) (D : List Fl) : Prop where
  iter : Iter wr nb (w.heap.size + 1) N M
  fr : FR (fun g => w.heap.size ≤ g ∧ g ≠ w.heap.size + 1) wr v D
  low : Below w.heap.size w wr
  mem : ∀ x ∈ M, x ∈ N
  perm : (M.map ekey ++ D.map fkey).Perm (N.map ekey)
theorem Tell.len {w wr : World} {nb : Nat} {N M : List Ent} {v : Value} {D : List Fl} (h : Tell w wr nb N M v D) : D.length ≤ N.length := by
  have := h.perm.length_eq
  simp at this
  omega
/-- one file more is told -/
theorem Tell.step {w wr w1 w2 : World} {R : Nat → Prop} {nb : Nat} {N M M' : List Ent} {v v2 : Value} {D : List Fl} {x : Ent} (hD : Dir w R nb N) (h : Tell w wr nb N M v D) (hp : M.Perm (x :: M')) (hI : Iter w1 nb (w.heap.size + 1) N M') (hg : wr.grownBy w1 (some (w.heap.size + 1))) (hz : w1.heap.size = wr.heap.size) (hn : NewRow w1 w2 v2 x.2.2) (hN : N.length ≤ 1000000) :
    ∃ v' w', (Builtin.append_ #[42, 42] 42 #[v, .slice (some ⟨w2.heap.size, 0, none⟩) 1 1]).run Try.prog (w2.alloc (.cells #[.string x.1, v2] 47)) = .ok v' w' ∧ (∃ D', Tell w w' nb N M' v' D') ∧ left w' nb (w.heap.size + 1) < left wr nb (w.heap.size + 1) := by
  obtain ⟨hr, hb, hv⟩ := hn
  have hlen := h.len
  have hil := hI.lt
  have hnb := hD.lt
  obtain ⟨ao, cap, rfl, _⟩ := hr.isB
  have kg : Kept (fun k => k = w.heap.size + 1) wr w1 := (Kept.ofGrown hg).mono (fun i _ e => by cases e; rfl)
  have f1 := h.fr.kept kg (fun g hg _ => hg.2)
  have f2 := f1.kept (Kept.ofBelow hb) (fun _ _ _ h => h)
  obtain ⟨v', w', hrun, hf, hk⟩ := f2.add (x.1, ao, cap, x.2.2) hr (fun g hg => ⟨⟨by have := hv g hg; have := h.low.size; omega, by have := hv g hg; omega⟩, fun e => by have := f1.lt e; have := hv g hg; omega⟩) (fun g hg => ⟨by have := hb.size; have := h.low.size; omega, by have := hb.size; omega⟩) (by omega)
  have hI' : Iter w' nb (w.heap.size + 1) N M' := (hI.kept (Kept.ofBelow hb) (fun h => h) (fun h => h)).kept hk (fun e => by have := (f2.own _ e).1; omega) (fun e => (f2.own _ e).2 rfl)
  refine ⟨v', w', hrun, ⟨D ++ [(x.1, ao, cap, x.2.2)], hI', hf, ?_, fun y hy => h.mem y (hp.mem_iff.2 (List.mem_cons_of_mem _ hy)), ?_⟩, ?_⟩
  · have b1 := h.low.grown hg h.low.size (fun j hj => by cases hj; omega)
    have b2 := b1.trans (hb.mono b1.size)
    exact b2.trans (hk.below b2.size (fun g e => (f2.own g e).1))
  · have e1 : (M.map ekey ++ D.map fkey).Perm (M'.map ekey ++ (D ++ [(x.1, ao, cap, x.2.2)]).map fkey) := by
      have p1 := (hp.map ekey).append_right (D.map fkey)
      refine p1.trans ?_
      simp only [List.map_cons, List.map_append, List.map_nil, List.cons_append]
      have e2 : ekey x = fkey (x.1, ao, cap, x.2.2) := rfl
      rw [e2]
      have p2 : (fkey (x.1, ao, cap, x.2.2) :: (M'.map ekey ++ D.map fkey)).Perm ((M'.map ekey ++ D.map fkey) ++ [fkey (x.1, ao, cap, x.2.2)]) := (List.perm_append_singleton _ _).symm
      rw [List.append_assoc] at p2
      exact p2
    exact e1.symm.trans h.perm
  · rw [hI'.left, h.iter.left, hp.length_eq]
    exact Nat.lt_succ_self _
/-- by rising names -/
def Up (D : List Fl) : Prop := D.Pairwise fun x y => ¬ Lib.compareBytes y.1.data.toList x.1.data.toList < 0
/-- behind the sort -/
def Srt (R : Nat → Prop) (W w' : World) (v : Value) (D : List Fl) : Prop := ∃ D', D'.Perm D ∧ Up D' ∧ FR R w' v D' ∧ Kept (fun g => v.ownBlock = some g) W w'
/-- what List tells -/
def Listed (w w' : World) (v : Value) (N : List Ent) : Prop := Below w.heap.size w w' ∧ ∃ D, FR (fun g => w.heap.size ≤ g) w' v D ∧ (D.map fkey).Perm (N.map ekey) ∧ Up D
theorem Srt.listed {w W w' : World} {nb : Nat} {N : List Ent} {v : Value} {D : List Fl} (h : Tell w W nb N [] v D) (hs : Srt (fun g => w.heap.size ≤ g ∧ g ≠ w.heap.size + 1) W w' v D) : Listed w w' v N := by
  obtain ⟨D', h1, h2, h3, h4⟩ := hs
  refine ⟨h.low.trans (h4.below h.low.size (fun g e => (h.fr.own g e).1)), D', h3.mono (fun g hg => hg.1), (h1.map fkey).trans ?_, h2⟩
  have := h.perm
  simpa using this
def SortOk : Prop := ∀ (R : Nat → Prop) (W : World) (v : Value) (D : List Fl), FR R W v D → D.length ≤ 1000000 → Calls Try.prog 54 #[v, .func (.func 55) #[] #[]] W fun e w' => e = .returned (.tuple #[]) ∧ Hid (Srt R W w' v D)

section
variable {w : World} {c : Nat → Nat} {f : Nat} {size : Int} {nb sb : Nat} {uv : Value} {N S : List Ent} {acts : List AM}
set_option maxHeartbeats 2000000 in
theorem list_if (hso : SortOk) (h : Disk w c f size nb sb uv N S acts) (hN : N.length ≤ 1000000) (hl : sum N ≤ 140737488355328) :
    Calls Try.prog 17 #[ptr f] w fun e w' => ∃ v, e = .returned v ∧ Hid (Listed w w' v N) := by
  have HC := hide (closed_any h)
  have c1 := h.c1
  have hlen := h.now.len
  obtain ⟨i0, hi, hz0, hz1, hz2⟩ := info_parts Try.info47
  have hmk := run_make (P := Try.prog) w 42 47 i0 (.agg #[.string ⟨#[]⟩, .slice none 0 0]) Try.underlying42 hi hz0 .i64 .i64 0 N.length (Int.le_refl _) (by omega) (by rw [hz2]; omega) (by omega)
  have hown1 := World.ownsRow_made w (base := 0) (e := 47) (size := 2) (madeCells (Value.agg #[.string ⟨#[]⟩, .slice none 0 0]).cells (N.length * i0.size)) N.length (Nat.zero_le _) (by unfold maxLen; omega) (by rw [size_madeCells, hz1])
  simp only [Int.toNat_zero, Int.toNat_natCast] at hmk
  generalize madeCells (Value.agg #[.string ⟨#[]⟩, .slice none 0 0]).cells (N.length * i0.size) = mc at *
  have k1 : Kept Not w (w.alloc (.cells mc 47)) := Kept.alloc w _
  have hsz : (w.alloc (.cells mc 47)).heap.size = w.heap.size + 1 := by simp
  generalize w.alloc (.cells mc 47) = w1 at *
  obtain ⟨o, hrun, hI⟩ := (h.now.new k1).range
  rw [hsz] at hrun hI
  have hTT : Tell w (w1.alloc o) nb N N (.slice (some ⟨w.heap.size, 0, none⟩) 0 N.length) [] :=
    ⟨hI, (⟨hown1, ⟨_, _, rfl, ⟨Nat.le_refl _, by omega⟩⟩, by simp, by simp⟩ : FR (fun g => w.heap.size ≤ g ∧ g ≠ w.heap.size + 1) w1 (.slice (some ⟨w.heap.size, 0, none⟩) 0 N.length) []).kept (Kept.alloc w1 o) (fun _ _ _ h => h), k1.newBelow.alloc (by omega) o, fun _ h => h, by simp⟩
  have HT := hide hTT
  have H := hide h.now
  have HSO := hide hso
  have e1 : w1.cell? ⟨f, 1, none⟩ = some (.map (some nb)) := k1.cell c1 (fun h => h)
  clear h hI hTT hown1 k1 hi hz0 hz1 hz2 hso
  unfold ptr at *
  obtain ⟨n, hn⟩ : ∃ n, N.length = n := ⟨_, rfl⟩
  rw [hn] at hlen hmk HT
  have HNN := hide hN
  clear hN hn
  go_enter Try.func17, Try.ntmps17
  go_wp2_with (first
    | (go_at_call 25; refine HC.out.mono ?_; rintro e wc ⟨rfl, hw⟩; obtain rfl := hw.symm)
    | (at_range; refine wl_range rfl rfl rfl hrun ?_))
  go_frame
  clear hrun hmk hlen
  go_loopw [3] (fun u wr => ∃ v M D, v = u ∧ Hid (Tell w wr nb N M v D)) (fun _ wr => left wr nb (w.heap.size + 1))
  case atStart => exact ⟨_, N, [], rfl, HT⟩
  case round =>
    obtain ⟨v, M, D, rfl, HD⟩ := hrel
    rcases HD.out.iter.next 0 with ⟨rfl, hrun⟩ | ⟨x, M', w2, hp, hrun, hI', hg, hz, hen⟩
    · have HS := hide (HSO.out _ _ _ _ HD.out.fr (Nat.le_trans HD.out.len HNN.out))
      go_wp2_with (first
        | (at_next; refine wl_next rfl rfl rfl hrun ?_)
        | (go_at_call 54; refine HS.out.mono ?_; rintro e w9 ⟨rfl, hs⟩; have HZ := hide (hs.out.listed HD.out); clear hs))
      go_ret
      exact ⟨_, rfl, HZ⟩
    · have hxM : x ∈ M := hp.mem_iff.2 (List.mem_cons_self ..)
      have hxL := HD.out.mem x hxM
      obtain ⟨ao, cap, hv, hB, hc1, hc2⟩ := (H.out.rows x hxL).isB
      have hB1 : IsB w2 ao cap x.2.2 := hB.below (HD.out.low.grown hg HD.out.low.size (fun j hj => by cases hj; omega))
      have HCL := hide (clone_any ao cap x.2.2 w2 hB1 (Nat.le_trans (sum_mem hxL) hl))
      have HS := hide (fun (w3 : World) (v2 : Value) (hn : NewRow w2 w3 v2 x.2.2) => (⟨_, _, hn.1.isB.choose_spec.choose_spec.1, HD.out.step H.out hp hI' hg hz hn HNN.out⟩ : ∃ ao2 cap2, v2 = .slice ao2 x.2.2.length cap2 ∧ ∃ v' w', (Builtin.append_ #[42, 42] 42 #[v, .slice (some ⟨w3.heap.size, 0, none⟩) 1 1]).run Try.prog (w3.alloc (.cells #[.string x.1, v2] 47)) = .ok v' w' ∧ (∃ D', Tell w w' nb N M' v' D') ∧ left w' nb (w.heap.size + 1) < left wr nb (w.heap.size + 1)))
      rw [hv] at hrun hen
      generalize x.2.2.length = len at *
      generalize x.1 = s at *
      clear hp hI' hg hz hxM hv hxL hB hB1 HD
      go_wp2_with (first
        | (at_next; refine wl_next rfl rfl rfl hrun ?_)
        | (go_at_call 32; refine HCL.out.mono ?_; rintro e w3 ⟨v2, rfl, hn⟩; obtain ⟨ao2, cap2, rfl, v', w4, hrun4, h3, h4⟩ := HS.out w3 v2 hn.out; have H3 := hide h3; have H4 := hide h4; clear h3 h4 HS hn)
        | (at_builtin; refine wl_app rfl rfl rfl rfl hrun4 ?_; go_frame))
      go_roundw
      case rel =>
        obtain ⟨D', h3⟩ := H3.out
        exact ⟨_, M', D', rfl, h3⟩
      case measure => exact H4.out
end
end Go.Proofs.Ytdmhcgneafacmaa
