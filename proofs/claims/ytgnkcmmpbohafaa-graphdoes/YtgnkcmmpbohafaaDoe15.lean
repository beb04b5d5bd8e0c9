/- Some texts, in one. -/
import Derived.Test.YtgnkcmmpbohafaaDoe14
import Derived.Test.YtgnkcmmpbohafaaDoe10
import Derived.Laws.StructEq
import Derived.RangeFuncNested
import Derived.RangeFuncFrom
import Derived.RangeFuncLeaves
import Derived.RangeFuncCalls
import Derived.LoopN
/- The document's graph: each call, whatever it is given. -/
namespace Go.Proofs.Ytgnkcmmpbohafaa
open Go.RowKit
set_option linter.unusedVariables false
set_option linter.unusedSimpArgs false
set_option maxRecDepth 100000

theorem Kept.wide {F H : Nat → Prop} {W W' : World} (h : Kept F W W') (hF : ∀ k, F k → H k) : Kept H W W' := ⟨h.os, h.tape, h.output, h.size, fun k hk hn => h.block k hk (fun e => hn (hF k e))⟩
theorem rq_some {W : World} {x j : Nat} {v : Value} {L : List EV} {d : EV} (hR : Rq W x v L) (hd : L[j]? = some d) : ∃ b c, v = .slice (some ⟨b, 0, none⟩) L.length c := by
  rcases own_or hR.2 with ⟨_, q⟩ | h
  · have := (List.getElem?_eq_some_iff.1 hd).1
    omega
  · exact h
theorem rq_parts {W : World} {x : Nat} {v : Value} {L : List EV} (hR : Rq W x v L) : ∃ ao c, v = .slice ao L.length c ∧ L.length ≤ c ∧ Es W W.heap.size ao L ∧ (ao = none → c = 0) ∧ (∀ ad, ao = some ad → ad.spot = none) := by
  obtain ⟨ao, c, e, hc, hL⟩ := own_Ev hR.2 rfl; refine ⟨ao, c, e, hc, hL, ?_, ?_⟩
  · rcases own_or hR.2 with ⟨q, _⟩ | ⟨b, c', q⟩
    · rw [q] at e
      injection e with e1 e2 e3
      exact fun _ => e3.symm
    · rw [q] at e
      cases e
      exact fun h => by cases h
  · rcases own_or hR.2 with ⟨q, _⟩ | ⟨b, c', q⟩
    · rw [q] at e
      injection e with e1 e2 e3
      exact fun _ h => by rw [← e1] at h; cases h
    · rw [q] at e
      cases e
      exact fun _ h => by cases h; rfl
theorem rqset_any {x : Nat} {v : Value} {L : List EV} {e : EV} (w : World) (hR : Rq w x v L) (hI : GI L) (he : EN e) : Calls Try.prog 28 #[.pointer (some ⟨x, 0, none⟩), .agg (EL e)] w fun q w' => q = .returned (.int .i64 (setN L e).1) ∧ ∃ v', Rq w' x v' (setN L e).2 ∧ (v'.ownBlock = v.ownBlock ∨ ∀ k, v'.ownBlock = some k → w.heap.size ≤ k) ∧ Kept (fun k => k = x ∨ v.ownBlock = some k) w w' := by
  unfold setN
  by_cases hm : mayE e = true
  · rw [if_pos hm]
    cases hj : atE e.ch e.fr L with
    | some j =>
      obtain ⟨d, hd, hk⟩ := at_some hj; obtain ⟨b, c, rfl⟩ := rq_some hR hd; refine (rset_there w hR.1 hR.2 hI.n hj hd hm).mono fun q w' h => ⟨h.1, _, ⟨h.2.1, ?_⟩, .inl rfl, h.2.2.2.wide (fun k e => .inr (by rw [e]; rfl))⟩
      show World.ownsRow _ _ _ _ _ (L.set j e).length _
      rw [List.length_set]; exact h.2.2.1
    | none =>
      obtain ⟨ao, c, rfl, hc, hL, hv, hsp⟩ := rq_parts hR
      by_cases hf : 64 ≤ L.length
      · simp only [if_pos hf]
        exact (rset_full w hR.1 hL rfl hI.n hj hm hf).mono fun q w' h => ⟨h.1, _, hR.keep h.2, .inl rfl, Kept.ofBelow h.2⟩
      · simp only [if_neg hf]
        refine (rset_new w hR.1 hL rfl hI.n hc hv hsp hj hm (by omega)).mono fun q w' h => ?_; obtain ⟨h1, g', c', h2, h3, h4⟩ := h; have hg := own_ge h3 rfl; refine ⟨h1, _, ⟨h2, ?_⟩, .inr (fun k hk => by cases hk; exact hg), h4.wide (fun k e => .inl e)⟩; rw [insE_len (pos_le _ _ _)]; exact own_base h3 (Nat.zero_le _)
  · rw [if_neg hm]
    obtain ⟨ao, c, rfl, hc, hL, hv, hsp⟩ := rq_parts hR; exact (rset_arg w hR.1 hL rfl hI.n (by simpa using hm)).mono fun q w' h => ⟨h.1, _, hR.keep h.2, .inl rfl, Kept.ofBelow h.2⟩
theorem rqrem_any {x : Nat} {v : Value} {L : List EV} {ch fr : Int} (w : World) (hR : Rq w x v L) (hI : GI L) : Calls Try.prog 29 #[.pointer (some ⟨x, 0, none⟩), .int .i64 ch, .int .i64 fr] w fun q w' => q = .returned (.int .i64 (remN L ch fr).1) ∧ ∃ v', Rq w' x v' (remN L ch fr).2 ∧ (v'.ownBlock = v.ownBlock ∨ ∀ k, v'.ownBlock = some k → w.heap.size ≤ k) ∧ Kept (fun k => k = x ∨ v.ownBlock = some k) w w' := by
  unfold remN
  obtain ⟨ao, c, rfl, hc, hL, hv, hsp⟩ := rq_parts hR
  cases hj : atE ch fr L with
  | some j =>
    obtain ⟨d, hd, hk⟩ := at_some hj; refine (rrem_yes w hR.1 hL rfl hI.n hc hv hsp hj hd).mono fun q w' h => ?_; obtain ⟨h1, g', c', h2, h3, h4⟩ := h; have hg := own_ge h3 rfl; have hjl := (List.getElem?_eq_some_iff.1 hd).1; refine ⟨h1, _, ⟨h2, ?_⟩, .inr (fun k hk => by cases hk; exact hg), h4.wide (fun k e => .inl e)⟩; rw [List.length_eraseIdx, if_pos hjl]; exact own_base h3 (Nat.zero_le _)
  | none => exact (rrem_no w hR.1 hL rfl hI.n hj).mono fun q w' h => ⟨h.1, _, hR.keep h.2, .inl rfl, Kept.ofBelow h.2⟩
theorem rqlrn_any {x : Nat} {v : Value} {L : List EV} {ch fr a t : Int} {gd : Bool} (w : World) (hR : Rq w x v L) (hI : GI L) (a1 : -9223372036854775808 ≤ a) (a2 : a ≤ 9223372036854775807) : Calls Try.prog 30 #[.pointer (some ⟨x, 0, none⟩), .int .i64 ch, .int .i64 fr, .int .i64 a, .int .i64 t, .bool gd] w fun q w' => q = .returned (.int .i64 (lrnL L ch fr a t gd).1) ∧ ∃ v', Rq w' x v' (lrnL L ch fr a t gd).2 ∧ (v'.ownBlock = v.ownBlock ∨ ∀ k, v'.ownBlock = some k → w.heap.size ≤ k) ∧ Kept (fun k => k = x ∨ v.ownBlock = some k) w w' := by
  unfold lrnL
  cases hj : atE ch fr L with
  | some j =>
    obtain ⟨d, hd, hk⟩ := at_some hj; simp only [hd]; obtain ⟨b, c, rfl⟩ := rq_some hR hd; refine (rlrn_yes w hR.1 hR.2 hI.n hj hd a1 a2).mono fun q w' h => ⟨h.1, _, ⟨h.2.1, ?_⟩, .inl rfl, h.2.2.2.wide (fun k e => .inr (by rw [e]; rfl))⟩; rw [List.length_set]; exact h.2.2.1
  | none =>
    obtain ⟨ao, c, rfl, hc, hL, hv, hsp⟩ := rq_parts hR; exact (rlrn_no w hR.1 hL rfl hI.n hj).mono fun q w' h => ⟨h.1, _, hR.keep h.2, .inl rfl, Kept.ofBelow h.2⟩
end Go.Proofs.Ytgnkcmmpbohafaa

/- Two graphs made by the same calls: what is kept of both. -/
namespace Go.Proofs.Ytgnkcmmpbohafaa
open Go.RowKit
set_option linter.unusedVariables false
set_option linter.unusedSimpArgs false
set_option maxRecDepth 100000
theorem Kept.putF {F H : Nat → Prop} {a b c : World} (h : Kept F a b) (k : Kept H b c) (hH : ∀ j, H j → F j ∨ a.heap.size ≤ j) : Kept F a c :=
  ⟨k.os.trans h.os, k.tape.trans h.tape, k.output.trans h.output, Nat.le_trans h.size k.size, fun j hj hn => (k.block j (Nat.lt_of_lt_of_le hj h.size) (fun e => (hH j e).elim hn (fun q => by omega))).trans (h.block j hj hn)⟩
/-- the program's graph and the document's, in a world that the call w began -/
structure GR (w W : World) (g b x : Nat) (v : Value) (L M : List EV) : Prop where
  gl : GI L
  gm : GI M
  G : Gq W g b L
  R : Rq W x v M
  D : v.ownBlock ≠ some b
  lg : w.heap.size ≤ g
  lb : w.heap.size ≤ b
  lx : w.heap.size ≤ x
  lv : ∀ k, v.ownBlock = some k → w.heap.size ≤ k
  E : Below w.heap.size w W
section
variable {w W W' : World} {g b x : Nat} {v : Value} {L M : List EV}
theorem Rq.lt (h : Rq W x v M) : x < W.heap.size ∧ ∀ k, v.ownBlock = some k → k < W.heap.size := ⟨lt_of h.1, fun k hk => (h.2.lt k hk).2⟩
theorem GR.keep (h : GR w W g b x v L M) (hB : Below W.heap.size W W') : GR w W' g b x v L M :=
  ⟨h.gl, h.gm, h.G.keep hB, h.R.keep hB, h.D, h.lg, h.lb, h.lx, h.lv, below_next h.E hB⟩
theorem GR.gx (h : GR w W g b x v L M) : ¬ (g = x ∨ v.ownBlock = some g) := by
  obtain ⟨c, kg, _⟩ := h.G; exact h.R.ne kg (by decide) (by decide)
theorem GR.bx (h : GR w W g b x v L M) : ¬ (b = x ∨ v.ownBlock = some b) := by
  obtain ⟨c, kg, hO⟩ := h.G; obtain ⟨cur, kb⟩ := own_blk hO; rintro (e | e)
  · exact ne_tag kb h.R.1 (by decide) e
  · exact h.D e
theorem GR.xg (h : GR w W g b x v L M) : ¬ (x = g ∨ x = b) := h.G.ne h.R.1 (by decide) (by decide)
theorem GR.vg (h : GR w W g b x v L M) (k : Nat) (hk : v.ownBlock = some k) : ¬ (k = g ∨ k = b) := by
  rintro (rfl | rfl)
  · exact h.gx (.inr hk)
  · exact h.D hk
/-- a block of another type is neither's -/
theorem GR.ne (h : GR w W g b x v L M) {k T : Nat} {C : Array Value} (hk : W.heap[k]? = some (.cells C T)) (h1 : T ≠ 105) (h2 : T ≠ 49) (h3 : T ≠ 74) : ¬ ((k = g ∨ k = b) ∨ (k = x ∨ v.ownBlock = some k)) :=
  fun e => e.elim (h.G.ne hk h1 h2) (h.R.ne hk h3 h2)
/-- a block of another type is stored into -/
theorem GR.put (h : GR w W g b x v L M) {k T : Nat} {C : Array Value} (hK : Kept (· = k) W W') (hk : W.heap[k]? = some (.cells C T)) (h1 : T ≠ 105) (h2 : T ≠ 49) (h3 : T ≠ 74) (hw : w.heap.size ≤ k) : GR w W' g b x v L M := by
  have hn := h.ne hk h1 h2 h3; exact ⟨h.gl, h.gm, h.G.keepK hK (fun e => hn (.inl (.inl e.symm))) (fun e => hn (.inl (.inr e.symm))), h.R.keepK hK (fun e => hn (.inr (.inl e.symm))) (fun j hj e => hn (.inr (.inr (e ▸ hj)))), h.D, h.lg, h.lb, h.lx, h.lv, below_put h.E hw hK⟩
/-- a new block is neither's -/
theorem GR.fresh (h : GR w W g b x v L M) {k : Nat} (hk : W.heap.size ≤ k) : ¬ ((k = g ∨ k = b) ∨ (k = x ∨ v.ownBlock = some k)) := by
  have h1 := h.G.lt; have h2 := h.R.lt; rintro ((e | e) | (e | e))
  · omega
  · omega
  · omega
  · have := h2.2 k e
    omega
theorem GR.putN (h : GR w W g b x v L M) {k : Nat} (hK : Kept (· = k) W W') (hn : ¬ ((k = g ∨ k = b) ∨ (k = x ∨ v.ownBlock = some k))) (hw : w.heap.size ≤ k) : GR w W' g b x v L M :=
  ⟨h.gl, h.gm, h.G.keepK hK (fun e => hn (.inl (.inl e.symm))) (fun e => hn (.inl (.inr e.symm))), h.R.keepK hK (fun e => hn (.inr (.inl e.symm))) (fun j hj e => hn (.inr (.inr (e ▸ hj)))), h.D, h.lg, h.lb, h.lx, h.lv, below_put h.E hw hK⟩
theorem GR.stepG {b' : Nat} {L' : List EV} (h : GR w W g b x v L M) (hI : GI L') (hG : Gq W' g b' L') (hb : b' = b ∨ W.heap.size ≤ b') (hK : Kept (fun k => k = g ∨ k = b) W W') : GR w W' g b' x v L' M := by
  refine ⟨hI, h.gm, hG, h.R.keepK hK h.xg h.vg, ?_, h.lg, ?_, h.lx, h.lv, h.E.trans (hK.below h.E.size (fun k e => e.elim (fun e => e ▸ h.lg) (fun e => e ▸ h.lb)))⟩
  · intro e
    have := h.R.lt.2 b' e
    rcases hb with rfl | hb
    · exact h.D e
    · omega
  · have := h.E.size
    have := h.lb
    omega
theorem GR.stepR {v' : Value} {M' : List EV} (h : GR w W g b x v L M) (hI : GI M') (hR : Rq W' x v' M') (hv : v'.ownBlock = v.ownBlock ∨ ∀ k, v'.ownBlock = some k → W.heap.size ≤ k) (hK : Kept (fun k => k = x ∨ v.ownBlock = some k) W W') : GR w W' g b x v' L M' := by
  refine ⟨h.gl, hI, h.G.keepK hK h.gx h.bx, hR, ?_, h.lg, h.lb, h.lx, ?_, h.E.trans (hK.below h.E.size (fun k e => e.elim (fun e => e ▸ h.lx) (h.lv k)))⟩
  · intro e
    have := h.G.lt.2
    rcases hv with hv | hv
    · exact h.D (hv ▸ e)
    · have := hv b e
      omega
  · intro k hk
    rcases hv with hv | hv
    · exact h.lv k (hv ▸ hk)
    · have := hv k hk
      have := h.E.size
      omega
/-- a copy goes on, whatever becomes of the other one -/
theorem GR.fork {W1 : World} {g' b' : Nat} (h : GR w W g b x v L M) (hB : Below W.heap.size W W1) (hG : Gq W1 g' b' L) (h1 : W.heap.size ≤ g') (h2 : W.heap.size ≤ b') (hK : Kept (fun k => k = g ∨ k = b) W1 W') : GR w W' g' b' x v L M := by
  have hl := h.G.lt; have hs := h.E.size; have h3 := h.keep hB; refine ⟨h.gl, h.gm, hG.keepK hK (by rintro (e | e) <;> omega) (by rintro (e | e) <;> omega), h3.R.keepK hK h3.xg h3.vg, ?_, by omega, by omega, h.lx, h.lv, h3.E.trans (hK.below h3.E.size (fun k e => e.elim (fun e => e ▸ h.lg) (fun e => e ▸ h.lb)))⟩; intro e
  have := h.R.lt.2 b' e
  omega
end
/-- numbers of a call -/
structure ON (p : OV) : Prop where
  e : EN p.e
  n1 : -9223372036854775808 ≤ p.n
  n2 : p.n ≤ 9223372036854775807
  t1 : -9223372036854775808 ≤ p.ti
  t2 : p.ti ≤ 9223372036854775807
/-- calls lie there, one behind the other -/
def OpAt (W : World) (ao : Option Addr) (n : Nat) (p : Nat → OV) : Prop := n = 0 ∨ ∃ b o, ao = some ⟨b, o, none⟩ ∧ ∀ i, i < n → W.rangeAt b (o + i * 17) (OL (p i)).toList
theorem wp_cap {c : Code} {Q : Exit → Act → World → Prop} {a : Act} {W : World} (h : ∀ Q' : Exit → Act → World → Prop, Q' = Q → c.wp Try.prog Q' a W) : c.wp Try.prog Q a W := h Q rfl
theorem egE (x y : Operand) (u v : Array Value) (W : World) : (eqGuard .neq 49 x y (.agg u) (.agg v)).run Try.prog W = .ok () W := run_eqGuard_agg W .neq 49 x y u v (by kernel_rfl)
theorem neqE (e : EV) (W : World) : (binOp .neq 49 (.agg (EL e)) (.agg (EL e))).run Try.prog W = .ok (.bool false) W := by
  unfold EL
  go_simp
theorem bRG (W : World) : (Instr.build 74 #[]).run Try.prog W = .ok (.agg #[.slice none 0 0]) W := run_build W 74 _ _ (by kernel_rfl)
end Go.Proofs.Ytgnkcmmpbohafaa

/- Both graphs of some calls: they are the same. -/
namespace Go.Proofs.Ytgnkcmmpbohafaa
open Go.RowKit
set_option linter.unusedVariables false
set_option linter.unusedSimpArgs false
set_option maxRecDepth 100000

theorem bothPost_nil {w W : World} {g x : Nat} (hG : Gr W w.heap.size g []) (hE : Below w.heap.size w W) (kx : W.heap[x]? = some (.cells #[.slice none 0 0] 74)) (hx : w.heap.size ≤ x) : ∃ b v, GR w W g b x v [] [] := by
  have h1 : w.heap.size ≤ g := by obtain ⟨_, _, _, h, _⟩ := hG; exact h
  obtain ⟨b, hb, hQ⟩ := hG.gq; exact ⟨b, .slice none 0 0, ⟨GI.nil, GI.nil, hQ, ⟨kx, World.ownsRow_nil _ _ _ _⟩, (fun h => by cases h), h1, hb, hx, (fun k hk => by cases hk), hE⟩⟩
set_option maxHeartbeats 64000000 in
theorem both_any {ao : Option Addr} {n c : Nat} {p : Nat → OV} (w : World) (hP : OpAt w ao n p) (hN : ∀ i, i < n → ON (p i)) (hn : n ≤ 140737488355328) : Calls Try.prog 9 #[.slice ao n c] w fun q w' => ∃ g b x v L, q = .returned (.tuple #[.pointer (some ⟨g, 0, none⟩), .pointer (some ⟨x, 0, none⟩), .bool true]) ∧ GR w w' g b x v L L := by
  have E : Below w.heap.size w w := Below.refl _ _
  go_enter Try.func9, Try.ntmps9; refine wq fun Q hQ => ?_; refine vg (.pointer none) 2 rfl rfl rfl rfl ?_; refine vg (.pointer none) 3 rfl rfl rfl rfl ?_; refine vg (.bool false) 4 rfl rfl rfl rfl ?_; refine st_end ?_; subst hQ; refine wq fun Q hQ => ?_; refine st_call (some 15) rfl rfl (new_any w) (ex_call (f := 27) (vs := []) rfl (cf27 _) rfl) ?_; rintro e W1 ⟨g0, rfl, hG0, B⟩; refine ⟨_, rfl, ?_⟩; simp only [zp]; replace E := below_next E B; refine vv (.agg #[.slice none 0 0]) 16 rfl rfl (ex_build0  rfl (bRG _)) ?_
  refine st_new (fun b => .pointer (some ⟨b, 0, none⟩)) (some 17) rfl rfl (ex_box rfl rfl) ?_; intro b21 W2 k21 g21 B; simp only [zp]; have ge_b21 := Nat.le_trans E.size g21; replace E := below_next E B; replace hG0 := hG0.keep B; clear B; refine vg (Pz g0 0) 5 rfl rfl rfl rfl ?_; refine vg (Pz b21 0) 6 rfl rfl rfl rfl ?_; refine st_end ?_; subst hQ; refine wp_seq ?_; refine wq fun Q hQ => ?_; refine vm (Pz g0 0) 18 rfl rfl rfl rfl ?_; refine vv (.bool false) 19 rfl rfl (ex_pnil (t := 0) rfl rfl rfl rfl) ?_; refine st_end ?_; subst hQ; refine wp_cond_false rfl ?_; refine wp_skip ?_
  refine wp_seq ?_; refine wq fun Q hQ => ?_; refine vg (.int .i64 0) 7 rfl rfl rfl rfl ?_; refine st_end ?_; subst hQ; refine wp_block ?_; obtain ⟨b0, v0, hH0⟩ := bothPost_nil hG0 E k21 ge_b21; clear k21
  go_loopw [5, 7] (fun v5 v7 wr => ∃ (i g b : Nat) (v : Value) (L : List EV), i ≤ n ∧ v5 = .pointer (some ⟨g, 0, none⟩) ∧ v7 = .int .i64 i ∧ GR w wr g b b21 v L L) (fun _ v7 _ => n - (intOf v7).toNat)
  case atStart => exact ⟨0, g0, b0, v0, [], Nat.zero_le _, rfl, rfl, hH0⟩
  case round =>
    clear E hH0; obtain ⟨i, g, b, v, L, hi, rfl, rfl, hH⟩ := hrel; have E := hH.E; obtain ⟨x, hxx⟩ : ∃ x, x = b21 := ⟨_, rfl⟩; rw [← hxx] at hH ⊢
    by_cases hlt : i < n
    · rcases hP with h | ⟨ob, oo, rfl, hP⟩
      · omega
      have hon := hN i hlt; have hor := range_below (hP i hlt) E; refine wp_seq ?_; refine wq fun Q hQ => ?_; refine vm (.int .i64 (i : Nat)) 20 rfl rfl rfl rfl ?_; refine vm (.slice (some ⟨ob, oo, none⟩) n c) 21 rfl rfl rfl rfl ?_; refine vv (.int .i64 (n : Nat)) 22 rfl rfl (ex_len rfl rfl (len22 _ _ _ _ _)) ?_; refine vv (.bool true) 23 rfl rfl (ex_bin (u := (.int .i64 (i : Nat))) (r := (.int .i64 (n : Nat))) rfl rfl rfl (eg3 _ _ _ _ _ _) (lss3 _ (decide_eq_true (by omega)))) ?_; refine st_end ?_; subst hQ; refine wp_cond_true rfl ?_; refine wp_skip ?_; refine wp_seq ?_
      refine wp_block ?_; refine wq fun Q hQ => ?_; refine vm (.slice (some ⟨ob, oo, none⟩) n c) 26 rfl rfl rfl rfl ?_; refine vm (.int .i64 (i : Nat)) 27 rfl rfl rfl rfl ?_; refine vv (.pointer (some ⟨ob, (oo + i * 17), none⟩)) 28 rfl rfl (ix22 (k := i) rfl rfl rfl (rfl) (hlt)) ?_; refine vv (.agg (OL (p i))) 29 rfl rfl (ex_load rfl rfl (ld_range hor Try.underlying60 rfl inf60)) ?_; refine st_new (fun b => .pointer (some ⟨b, 0, none⟩)) (some 8) rfl rfl (ex_alloc rfl zero60) ?_; intro b22 W3 k22 g22 B; simp only [zp]; have ge_b22 := Nat.le_trans E.size g22; replace E := below_next E B
      replace hH := hH.keep B; replace hor := range_below hor B; clear B; obtain ⟨W4, hst, kn, K⟩ := put_all (D := (OL (p i))) k22 rfl inf60 (by kernel_rfl); refine st_sk rfl rfl (ex_store rfl rfl rfl hst) ?_; replace E := below_put E ge_b22 K; replace hH := hH.put K k22 (by decide) (by decide) (by decide) ge_b22; replace hor := hor; replace k22 := kn; clear kn K hst; refine st_end ?_; subst hQ; refine wq fun Q hQ => ?_; refine vg (.bool true) 9 rfl rfl rfl rfl ?_; refine st_end ?_; subst hQ; refine wp_seq ?_; refine wq fun Q hQ => ?_
      refine vv (Pz b22 0) 30 rfl rfl (ex_fa (p := (Pz b22 0)) rfl rfl (fa60_0 _ _)) ?_; refine vv (.int .i64 (p i).kd) 31 rfl rfl (ex_load (p := (Pz b22 0)) rfl rfl (ld3 (at_cell k22 rfl))) ?_; refine st_end ?_; subst hQ; clear hor; refine wp_cap fun Qs hQs => ?_
      have hQsP : ∀ c (a : Act) (d : Nat) v w, Qs (.panic c) (a.put (some d) v) w → Qs (.panic c) a w := by
        subst hQs; exact fun _ _ _ _ _ h => h
      suffices JOIN : ∀ (j2 j3 j4 j10 j32 j33 j34 j35 j36 j37 j38 j39 j40 j41 j42 j43 j44 j45 j46 j47 j48 j49 j50 j51 j52 j53 j54 j55 j56 j57 j58 j59 j60 j61 j62 j63 j64 j65 j66 j67 j68 j69 j70 j71 j72 j73 j74 j75 j76 j77 j78 j79 j80 j81 j82 j83 j84 j85 j86 j87 j88 j89 j90 j91 j92 j93 j94 j95 j96 j97 j98 j99 j100 j101 j102 j103 j104 j105 j106 j107 : Value) (Wj : World) (gj bj : Nat) (vj : Value) (Lj : List EV) (hj : GR w Wj gj bj x vj Lj Lj) (kj : Wj.heap[b22]? = some (.cells (OL (p i)) 60)), Qs .normal { tmps := #[(.slice (some ⟨ob, oo, none⟩) n c), undef, j2, j3, j4, (Pz gj 0), (Pz x 0), (.int .i64 (i : Nat)), (Pz b22 0), (.bool true), j10, u11, u12, u13, u14, (Pz g0 0), (.agg #[.slice none 0 0]), (Pz x 0), (Pz g0 0), (.bool false), (.int .i64 (i : Nat)), (.slice (some ⟨ob, oo, none⟩) n c), (.int .i64 (n : Nat)), (.bool true), u24, u25, (.slice (some ⟨ob, oo, none⟩) n c), (.int .i64 (i : Nat)), (.pointer (some ⟨ob, (oo + i * 17), none⟩)), (.agg (OL (p i))), (Pz b22 0), (.int .i64 (p i).kd), j32, j33, j34, j35, j36, j37, j38, j39, j40, j41, j42, j43, j44, j45, j46, j47, j48, j49, j50, j51, j52, j53, j54, j55, j56, j57, j58, j59, j60, j61, j62, j63, j64, j65, j66, j67, j68, j69, j70, j71, j72, j73, j74, j75, j76, j77, j78, j79, j80, j81, j82, j83, j84, j85, j86, j87, j88, j89, j90, j91, j92, j93, j94, j95, j96, j97, j98, j99, j100, j101, j102, j103, j104, j105, j106, j107, u108, u109, u110, u111, u112, u113, u114, u115, u116, u117, u118, u119, u120, u121, u122, u123, u124, u125, u126, u127, u128, u129, u130, u131, u132, u133, u134, u135, u136, u137, u138, u139, u140, u141, u142, u143, u144, u145, u146, u147, u148, u149, u150, u151, undef, undef], defers := [] } Wj by
        by_cases q1 : (p i).kd = 1
        · skip
          refine wp_block ?_; refine wq fun Q hQ => ?_; refine vv (.bool true) 33 rfl rfl (ex_bin (u := (.int .i64 (p i).kd)) (r := (.int .i64 1)) rfl rfl rfl (eg3 _ _ _ _ _ _) (eql3 _ (decide_eq_true q1))) ?_; refine vg (.bool true) 32 rfl rfl rfl rfl ?_; refine st_end ?_; subst hQ; refine wp_cond_true rfl ?_; obtain ⟨W5, hwd⟩ : ∃ wd, W4.drew = wd := ⟨_, rfl⟩; refine wp_region_held (S := fun W => Kept (fun k => (k = g ∨ k = b) ∨ (k = x ∨ v.ownBlock = some k)) W5 W) (by kernel_rfl) ?_
          show wpAnyH _ _ _ _ _ _ _ _ W4.drew
          rw [hwd]; refine capQ fun Q hQ => ?_
          have hQP : ∀ c (a : Act) (d : Nat) v w, Q (.panic c) (a.put (some d) v) w → Q (.panic c) a w := by
            subst hQ; exact fun c a d v w h => hQsP c a d v w h
          have BD : Below W4.heap.size W4 W5 := by rw [← hwd]; exact below_drewB (Below.refl _ _)
          clear hwd; replace E := below_next E BD; replace hH := hH.keep BD; replace k22 := keep BD k22; clear BD
          have S : Kept (fun k => (k = g ∨ k = b) ∨ (k = x ∨ v.ownBlock = some k)) W5 W5 := Kept.refl _ _
          have d_k22 := k22; have d_hH := hH; refine tk (Pz g 0) 0 34 rfl rfl rfl (fun W hK => ex_mv rfl rfl) S hQP ?_; refine tk (Pz b22 1) 1 35 rfl rfl rfl (fun W hK => ex_fa (p := (Pz b22 0)) rfl rfl (fa60_1 _ _)) S hQP ?_; refine tk (.agg (EL (p i).e)) 2 36 rfl rfl rfl (fun W hK => ex_load (p := (Pz b22 1)) rfl rfl (ldOE (keepK hK d_k22 (d_hH.ne d_k22 (by decide) (by decide) (by decide))))) S hQP ?_; refine tk (Pz x 0) 4 38 rfl rfl rfl (fun W hK => ex_mv rfl rfl) S hQP ?_; refine tk (Pz b22 1) 5 39 rfl rfl rfl (fun W hK => ex_fa (p := (Pz b22 0)) rfl rfl (fa60_1 _ _)) S hQP ?_
          refine tk (.agg (EL (p i).e)) 6 40 rfl rfl rfl (fun W hK => ex_load (p := (Pz b22 1)) rfl rfl (ldOE (keepK hK d_k22 (d_hH.ne d_k22 (by decide) (by decide) (by decide))))) S hQP ?_; refine ah_or1 (i := 3) (by kernel_rfl) ?_; refine nx_call (some 37) rfl rfl rfl (qset_any W5 hH.G hH.gl hon.e) (ex_call (f := 21) (vs := [(Pz g 0), (.agg (EL (p i).e))]) rfl (cf21 _) rfl) ?_; rintro e W6 ⟨rfl, b2, hG2, hb2, hK2⟩; refine ⟨_, rfl, S.putF hK2 (fun j e => .inl (.inl e)), ?_⟩; simp only [zp]; replace k22 := keepK hK2 k22 (fun e => hH.ne k22 (by decide) (by decide) (by decide) (.inl e))
          replace S := S.putF hK2 (fun j e => .inl (.inl e)); replace hH := hH.stepG (hH.gl.set hon.e) hG2 hb2 hK2; clear hG2 hb2 hK2; replace E := hH.E; refine ah_or1 (i := 7) (by kernel_rfl) ?_; refine nx_call (some 41) rfl rfl rfl (rqset_any W6 hH.R hH.gm hon.e) (ex_call (f := 28) (vs := [(Pz x 0), (.agg (EL (p i).e))]) rfl (cf28 _) rfl) ?_; rintro e W7 ⟨rfl, v2, hR2, hv2, hK2⟩; refine ⟨_, rfl, S.putF hK2 (fun j e => .inl (.inr e)), ?_⟩; simp only [zp]; replace k22 := keepK hK2 k22 (fun e => hH.ne k22 (by decide) (by decide) (by decide) (.inr e))
          replace S := S.putF hK2 (fun j e => .inl (.inr e)); replace hH := hH.stepR (hH.gm.set hon.e) hR2 hv2 hK2; clear hR2 hv2 hK2; replace E := hH.E; refine tk (.bool true) 8 42 rfl rfl rfl (fun W hK => ex_bin (u := (.int .i64 (setN L (p i).e).1)) (r := (.int .i64 (setN L (p i).e).1)) rfl rfl rfl (eg37 _ _ _ _ _ _) (eql37 _ (decide_eq_true rfl))) S hQP ?_; refine tk (.bool true) 9 9 rfl rfl rfl (fun W hK => ex_asg rfl rfl) S hQP ?_; refine ah_done (by kernel_rfl) ?_; clear hQP; subst hQ; clear S d_k22 d_hH; refine nrm_blk ?_
          exact JOIN _ _ _ _ _ _ _ _ _ _ _ _ _ _ _ _ _ _ _ _ _ _ _ _ _ _ _ _ _ _ _ _ _ _ _ _ _ _ _ _ _ _ _ _ _ _ _ _ _ _ _ _ _ _ _ _ _ _ _ _ _ _ _ _ _ _ _ _ _ _ _ _ _ _ _ _ _ _ _ _ _ _ _ _ _ hH k22
        by_cases q2 : (p i).kd = 2
        · skip
          refine wp_block ?_; refine wq fun Q hQ => ?_; refine vv (.bool false) 33 rfl rfl (ex_bin (u := (.int .i64 (p i).kd)) (r := (.int .i64 1)) rfl rfl rfl (eg3 _ _ _ _ _ _) (eql3 _ (decide_eq_false q1))) ?_; refine vg (.bool false) 32 rfl rfl rfl rfl ?_; refine st_end ?_; subst hQ; refine wp_cond_false rfl ?_; refine wq fun Q hQ => ?_; refine vv (.bool true) 44 rfl rfl (ex_bin (u := (.int .i64 (p i).kd)) (r := (.int .i64 2)) rfl rfl rfl (eg3 _ _ _ _ _ _) (eql3 _ (decide_eq_true q2))) ?_; refine vg (.bool true) 43 rfl rfl rfl rfl ?_; refine st_end ?_; subst hQ
          refine wp_cond_true rfl ?_; obtain ⟨W8, hwd⟩ : ∃ wd, W4.drew = wd := ⟨_, rfl⟩; refine wp_region_held (S := fun W => Kept (fun k => (k = g ∨ k = b) ∨ (k = x ∨ v.ownBlock = some k)) W8 W) (by kernel_rfl) ?_
          show wpAnyH _ _ _ _ _ _ _ _ W4.drew
          rw [hwd]; refine capQ fun Q hQ => ?_
          have hQP : ∀ c (a : Act) (d : Nat) v w, Q (.panic c) (a.put (some d) v) w → Q (.panic c) a w := by
            subst hQ; exact fun c a d v w h => hQsP c a d v w h
          have BD : Below W4.heap.size W4 W8 := by rw [← hwd]; exact below_drewB (Below.refl _ _)
          clear hwd; replace E := below_next E BD; replace hH := hH.keep BD; replace k22 := keep BD k22; clear BD
          have S : Kept (fun k => (k = g ∨ k = b) ∨ (k = x ∨ v.ownBlock = some k)) W8 W8 := Kept.refl _ _
          have d_k22 := k22; have d_hH := hH; refine tk (Pz g 0) 0 45 rfl rfl rfl (fun W hK => ex_mv rfl rfl) S hQP ?_; refine tk (Pz b22 1) 1 46 rfl rfl rfl (fun W hK => ex_fa (p := (Pz b22 0)) rfl rfl (fa60_1 _ _)) S hQP ?_; refine tk (Pz b22 1) 2 47 rfl rfl rfl (fun W hK => ex_fa (p := (Pz b22 1)) rfl rfl (fg49_0 _ _ _)) S hQP ?_; refine tk (.int .i64 (p i).e.ch) 3 48 rfl rfl rfl (fun W hK => ex_load (p := (Pz b22 1)) rfl rfl (ld3 (at_cell (keepK hK d_k22 (d_hH.ne d_k22 (by decide) (by decide) (by decide))) rfl))) S hQP ?_
          refine tk (Pz b22 1) 4 49 rfl rfl rfl (fun W hK => ex_fa (p := (Pz b22 0)) rfl rfl (fa60_1 _ _)) S hQP ?_; refine tk (Pz b22 2) 5 50 rfl rfl rfl (fun W hK => ex_fa (p := (Pz b22 1)) rfl rfl (fg49_1 _ _ _)) S hQP ?_; refine tk (.int .i64 (p i).e.fr) 6 51 rfl rfl rfl (fun W hK => ex_load (p := (Pz b22 2)) rfl rfl (ld3 (at_cell (keepK hK d_k22 (d_hH.ne d_k22 (by decide) (by decide) (by decide))) rfl))) S hQP ?_; refine tk (Pz x 0) 8 53 rfl rfl rfl (fun W hK => ex_mv rfl rfl) S hQP ?_
          refine tk (Pz b22 1) 9 54 rfl rfl rfl (fun W hK => ex_fa (p := (Pz b22 0)) rfl rfl (fa60_1 _ _)) S hQP ?_; refine tk (Pz b22 1) 10 55 rfl rfl rfl (fun W hK => ex_fa (p := (Pz b22 1)) rfl rfl (fg49_0 _ _ _)) S hQP ?_; refine tk (.int .i64 (p i).e.ch) 11 56 rfl rfl rfl (fun W hK => ex_load (p := (Pz b22 1)) rfl rfl (ld3 (at_cell (keepK hK d_k22 (d_hH.ne d_k22 (by decide) (by decide) (by decide))) rfl))) S hQP ?_; refine tk (Pz b22 1) 12 57 rfl rfl rfl (fun W hK => ex_fa (p := (Pz b22 0)) rfl rfl (fa60_1 _ _)) S hQP ?_
          refine tk (Pz b22 2) 13 58 rfl rfl rfl (fun W hK => ex_fa (p := (Pz b22 1)) rfl rfl (fg49_1 _ _ _)) S hQP ?_; refine tk (.int .i64 (p i).e.fr) 14 59 rfl rfl rfl (fun W hK => ex_load (p := (Pz b22 2)) rfl rfl (ld3 (at_cell (keepK hK d_k22 (d_hH.ne d_k22 (by decide) (by decide) (by decide))) rfl))) S hQP ?_; refine ah_or1 (i := 7) (by kernel_rfl) ?_; refine nx_call (some 52) rfl rfl rfl (qrem_any W8 hH.G hH.gl ) (ex_call (f := 22) (vs := [(Pz g 0), (.int .i64 (p i).e.ch), (.int .i64 (p i).e.fr)]) rfl (cf22 _) rfl) ?_; rintro e W9 ⟨rfl, b2, hG2, hb2, hK2⟩
          refine ⟨_, rfl, S.putF hK2 (fun j e => .inl (.inl e)), ?_⟩; simp only [zp]; replace k22 := keepK hK2 k22 (fun e => hH.ne k22 (by decide) (by decide) (by decide) (.inl e)); replace S := S.putF hK2 (fun j e => .inl (.inl e)); replace hH := hH.stepG (hH.gl.rem) hG2 hb2 hK2; clear hG2 hb2 hK2; replace E := hH.E; refine ah_or1 (i := 15) (by kernel_rfl) ?_; refine nx_call (some 60) rfl rfl rfl (rqrem_any W9 hH.R hH.gm ) (ex_call (f := 29) (vs := [(Pz x 0), (.int .i64 (p i).e.ch), (.int .i64 (p i).e.fr)]) rfl (cf29 _) rfl) ?_; rintro e W10 ⟨rfl, v2, hR2, hv2, hK2⟩
          refine ⟨_, rfl, S.putF hK2 (fun j e => .inl (.inr e)), ?_⟩; simp only [zp]; replace k22 := keepK hK2 k22 (fun e => hH.ne k22 (by decide) (by decide) (by decide) (.inr e)); replace S := S.putF hK2 (fun j e => .inl (.inr e)); replace hH := hH.stepR (hH.gm.rem) hR2 hv2 hK2; clear hR2 hv2 hK2; replace E := hH.E; refine tk (.bool true) 16 61 rfl rfl rfl (fun W hK => ex_bin (u := (.int .i64 (remN L (p i).e.ch (p i).e.fr).1)) (r := (.int .i64 (remN L (p i).e.ch (p i).e.fr).1)) rfl rfl rfl (eg37 _ _ _ _ _ _) (eql37 _ (decide_eq_true rfl))) S hQP ?_
          refine tk (.bool true) 17 9 rfl rfl rfl (fun W hK => ex_asg rfl rfl) S hQP ?_; refine ah_done (by kernel_rfl) ?_; clear hQP; subst hQ; clear S d_k22 d_hH; refine nrm_blk ?_; exact JOIN _ _ _ _ _ _ _ _ _ _ _ _ _ _ _ _ _ _ _ _ _ _ _ _ _ _ _ _ _ _ _ _ _ _ _ _ _ _ _ _ _ _ _ _ _ _ _ _ _ _ _ _ _ _ _ _ _ _ _ _ _ _ _ _ _ _ _ _ _ _ _ _ _ _ _ _ _ _ _ _ _ _ _ _ _ hH k22
        by_cases q3 : (p i).kd = 3
        · skip
          refine wp_block ?_; refine wq fun Q hQ => ?_; refine vv (.bool false) 33 rfl rfl (ex_bin (u := (.int .i64 (p i).kd)) (r := (.int .i64 1)) rfl rfl rfl (eg3 _ _ _ _ _ _) (eql3 _ (decide_eq_false q1))) ?_; refine vg (.bool false) 32 rfl rfl rfl rfl ?_; refine st_end ?_; subst hQ; refine wp_cond_false rfl ?_; refine wq fun Q hQ => ?_; refine vv (.bool false) 44 rfl rfl (ex_bin (u := (.int .i64 (p i).kd)) (r := (.int .i64 2)) rfl rfl rfl (eg3 _ _ _ _ _ _) (eql3 _ (decide_eq_false q2))) ?_; refine vg (.bool false) 43 rfl rfl rfl rfl ?_; refine st_end ?_; subst hQ
          refine wp_cond_false rfl ?_; refine wq fun Q hQ => ?_; refine vv (.bool true) 63 rfl rfl (ex_bin (u := (.int .i64 (p i).kd)) (r := (.int .i64 3)) rfl rfl rfl (eg3 _ _ _ _ _ _) (eql3 _ (decide_eq_true q3))) ?_; refine vg (.bool true) 62 rfl rfl rfl rfl ?_; refine st_end ?_; subst hQ; refine wp_cond_true rfl ?_; obtain ⟨W11, hwd⟩ : ∃ wd, W4.drew = wd := ⟨_, rfl⟩; refine wp_region_held (S := fun W => Kept (fun k => (k = g ∨ k = b) ∨ (k = x ∨ v.ownBlock = some k)) W11 W) (by kernel_rfl) ?_
          show wpAnyH _ _ _ _ _ _ _ _ W4.drew
          rw [hwd]; refine capQ fun Q hQ => ?_
          have hQP : ∀ c (a : Act) (d : Nat) v w, Q (.panic c) (a.put (some d) v) w → Q (.panic c) a w := by
            subst hQ; exact fun c a d v w h => hQsP c a d v w h
          have BD : Below W4.heap.size W4 W11 := by rw [← hwd]; exact below_drewB (Below.refl _ _)
          clear hwd; replace E := below_next E BD; replace hH := hH.keep BD; replace k22 := keep BD k22; clear BD
          have S : Kept (fun k => (k = g ∨ k = b) ∨ (k = x ∨ v.ownBlock = some k)) W11 W11 := Kept.refl _ _
          have d_k22 := k22; have d_hH := hH; refine tk (Pz g 0) 0 64 rfl rfl rfl (fun W hK => ex_mv rfl rfl) S hQP ?_; refine tk (Pz b22 1) 1 65 rfl rfl rfl (fun W hK => ex_fa (p := (Pz b22 0)) rfl rfl (fa60_1 _ _)) S hQP ?_; refine tk (Pz b22 1) 2 66 rfl rfl rfl (fun W hK => ex_fa (p := (Pz b22 1)) rfl rfl (fg49_0 _ _ _)) S hQP ?_; refine tk (.int .i64 (p i).e.ch) 3 67 rfl rfl rfl (fun W hK => ex_load (p := (Pz b22 1)) rfl rfl (ld3 (at_cell (keepK hK d_k22 (d_hH.ne d_k22 (by decide) (by decide) (by decide))) rfl))) S hQP ?_
          refine tk (Pz b22 1) 4 68 rfl rfl rfl (fun W hK => ex_fa (p := (Pz b22 0)) rfl rfl (fa60_1 _ _)) S hQP ?_; refine tk (Pz b22 2) 5 69 rfl rfl rfl (fun W hK => ex_fa (p := (Pz b22 1)) rfl rfl (fg49_1 _ _ _)) S hQP ?_; refine tk (.int .i64 (p i).e.fr) 6 70 rfl rfl rfl (fun W hK => ex_load (p := (Pz b22 2)) rfl rfl (ld3 (at_cell (keepK hK d_k22 (d_hH.ne d_k22 (by decide) (by decide) (by decide))) rfl))) S hQP ?_; refine tk (Pz b22 14) 7 71 rfl rfl rfl (fun W hK => ex_fa (p := (Pz b22 0)) rfl rfl (fa60_2 _ _)) S hQP ?_
          refine tk (.int .i64 (p i).n) 8 72 rfl rfl rfl (fun W hK => ex_load (p := (Pz b22 14)) rfl rfl (ld3 (at_cell (keepK hK d_k22 (d_hH.ne d_k22 (by decide) (by decide) (by decide))) rfl))) S hQP ?_; refine tk (Pz b22 15) 9 73 rfl rfl rfl (fun W hK => ex_fa (p := (Pz b22 0)) rfl rfl (fa60_3 _ _)) S hQP ?_; refine tk (.int .i64 (p i).ti) 10 74 rfl rfl rfl (fun W hK => ex_load (p := (Pz b22 15)) rfl rfl (ld3 (at_cell (keepK hK d_k22 (d_hH.ne d_k22 (by decide) (by decide) (by decide))) rfl))) S hQP ?_
          refine tk (Pz b22 16) 11 75 rfl rfl rfl (fun W hK => ex_fa (p := (Pz b22 0)) rfl rfl (fa60_4 _ _)) S hQP ?_; refine tk (.bool (p i).gd) 12 76 rfl rfl rfl (fun W hK => ex_load (p := (Pz b22 16)) rfl rfl (ld4 (at_cell (keepK hK d_k22 (d_hH.ne d_k22 (by decide) (by decide) (by decide))) rfl))) S hQP ?_; refine tk (Pz x 0) 14 78 rfl rfl rfl (fun W hK => ex_mv rfl rfl) S hQP ?_; refine tk (Pz b22 1) 15 79 rfl rfl rfl (fun W hK => ex_fa (p := (Pz b22 0)) rfl rfl (fa60_1 _ _)) S hQP ?_
          refine tk (Pz b22 1) 16 80 rfl rfl rfl (fun W hK => ex_fa (p := (Pz b22 1)) rfl rfl (fg49_0 _ _ _)) S hQP ?_; refine tk (.int .i64 (p i).e.ch) 17 81 rfl rfl rfl (fun W hK => ex_load (p := (Pz b22 1)) rfl rfl (ld3 (at_cell (keepK hK d_k22 (d_hH.ne d_k22 (by decide) (by decide) (by decide))) rfl))) S hQP ?_; refine tk (Pz b22 1) 18 82 rfl rfl rfl (fun W hK => ex_fa (p := (Pz b22 0)) rfl rfl (fa60_1 _ _)) S hQP ?_; refine tk (Pz b22 2) 19 83 rfl rfl rfl (fun W hK => ex_fa (p := (Pz b22 1)) rfl rfl (fg49_1 _ _ _)) S hQP ?_
          refine tk (.int .i64 (p i).e.fr) 20 84 rfl rfl rfl (fun W hK => ex_load (p := (Pz b22 2)) rfl rfl (ld3 (at_cell (keepK hK d_k22 (d_hH.ne d_k22 (by decide) (by decide) (by decide))) rfl))) S hQP ?_; refine tk (Pz b22 14) 21 85 rfl rfl rfl (fun W hK => ex_fa (p := (Pz b22 0)) rfl rfl (fa60_2 _ _)) S hQP ?_; refine tk (.int .i64 (p i).n) 22 86 rfl rfl rfl (fun W hK => ex_load (p := (Pz b22 14)) rfl rfl (ld3 (at_cell (keepK hK d_k22 (d_hH.ne d_k22 (by decide) (by decide) (by decide))) rfl))) S hQP ?_
          refine tk (Pz b22 15) 23 87 rfl rfl rfl (fun W hK => ex_fa (p := (Pz b22 0)) rfl rfl (fa60_3 _ _)) S hQP ?_; refine tk (.int .i64 (p i).ti) 24 88 rfl rfl rfl (fun W hK => ex_load (p := (Pz b22 15)) rfl rfl (ld3 (at_cell (keepK hK d_k22 (d_hH.ne d_k22 (by decide) (by decide) (by decide))) rfl))) S hQP ?_; refine tk (Pz b22 16) 25 89 rfl rfl rfl (fun W hK => ex_fa (p := (Pz b22 0)) rfl rfl (fa60_4 _ _)) S hQP ?_
          refine tk (.bool (p i).gd) 26 90 rfl rfl rfl (fun W hK => ex_load (p := (Pz b22 16)) rfl rfl (ld4 (at_cell (keepK hK d_k22 (d_hH.ne d_k22 (by decide) (by decide) (by decide))) rfl))) S hQP ?_; refine ah_or1 (i := 13) (by kernel_rfl) ?_; refine nx_call (some 77) rfl rfl rfl (qlrn_any W11 hH.G hH.gl hon.n1 hon.n2) (ex_call (f := 23) (vs := [(Pz g 0), (.int .i64 (p i).e.ch), (.int .i64 (p i).e.fr), (.int .i64 (p i).n), (.int .i64 (p i).ti), (.bool (p i).gd)]) rfl (cf23 _) rfl) ?_; rintro e W12 ⟨rfl, b2, hG2, hb2, hK2⟩; refine ⟨_, rfl, S.putF hK2 (fun j e => .inl (.inl e)), ?_⟩
          simp only [zp]; replace k22 := keepK hK2 k22 (fun e => hH.ne k22 (by decide) (by decide) (by decide) (.inl e)); replace S := S.putF hK2 (fun j e => .inl (.inl e)); replace hH := hH.stepG (hH.gl.lrn hon.t1 hon.t2) hG2 hb2 hK2; clear hG2 hb2 hK2; replace E := hH.E; refine ah_or1 (i := 27) (by kernel_rfl) ?_; refine nx_call (some 91) rfl rfl rfl (rqlrn_any W12 hH.R hH.gm hon.n1 hon.n2) (ex_call (f := 30) (vs := [(Pz x 0), (.int .i64 (p i).e.ch), (.int .i64 (p i).e.fr), (.int .i64 (p i).n), (.int .i64 (p i).ti), (.bool (p i).gd)]) rfl (cf30 _) rfl) ?_
          rintro e W13 ⟨rfl, v2, hR2, hv2, hK2⟩; refine ⟨_, rfl, S.putF hK2 (fun j e => .inl (.inr e)), ?_⟩; simp only [zp]; replace k22 := keepK hK2 k22 (fun e => hH.ne k22 (by decide) (by decide) (by decide) (.inr e)); replace S := S.putF hK2 (fun j e => .inl (.inr e)); replace hH := hH.stepR (hH.gm.lrn hon.t1 hon.t2) hR2 hv2 hK2; clear hR2 hv2 hK2; replace E := hH.E
          refine tk (.bool true) 28 92 rfl rfl rfl (fun W hK => ex_bin (u := (.int .i64 (lrnL L (p i).e.ch (p i).e.fr (p i).n (p i).ti (p i).gd).1)) (r := (.int .i64 (lrnL L (p i).e.ch (p i).e.fr (p i).n (p i).ti (p i).gd).1)) rfl rfl rfl (eg37 _ _ _ _ _ _) (eql37 _ (decide_eq_true rfl))) S hQP ?_; refine tk (.bool true) 29 9 rfl rfl rfl (fun W hK => ex_asg rfl rfl) S hQP ?_; refine ah_done (by kernel_rfl) ?_; clear hQP; subst hQ; clear S d_k22 d_hH; refine nrm_blk ?_
          exact JOIN _ _ _ _ _ _ _ _ _ _ _ _ _ _ _ _ _ _ _ _ _ _ _ _ _ _ _ _ _ _ _ _ _ _ _ _ _ _ _ _ _ _ _ _ _ _ _ _ _ _ _ _ _ _ _ _ _ _ _ _ _ _ _ _ _ _ _ _ _ _ _ _ _ _ _ _ _ _ _ _ _ _ _ _ _ hH k22
        by_cases q4 : (p i).kd = 4
        · skip
          refine wp_block ?_; refine wq fun Q hQ => ?_; refine vv (.bool false) 33 rfl rfl (ex_bin (u := (.int .i64 (p i).kd)) (r := (.int .i64 1)) rfl rfl rfl (eg3 _ _ _ _ _ _) (eql3 _ (decide_eq_false q1))) ?_; refine vg (.bool false) 32 rfl rfl rfl rfl ?_; refine st_end ?_; subst hQ; refine wp_cond_false rfl ?_; refine wq fun Q hQ => ?_; refine vv (.bool false) 44 rfl rfl (ex_bin (u := (.int .i64 (p i).kd)) (r := (.int .i64 2)) rfl rfl rfl (eg3 _ _ _ _ _ _) (eql3 _ (decide_eq_false q2))) ?_; refine vg (.bool false) 43 rfl rfl rfl rfl ?_; refine st_end ?_; subst hQ
          refine wp_cond_false rfl ?_; refine wq fun Q hQ => ?_; refine vv (.bool false) 63 rfl rfl (ex_bin (u := (.int .i64 (p i).kd)) (r := (.int .i64 3)) rfl rfl rfl (eg3 _ _ _ _ _ _) (eql3 _ (decide_eq_false q3))) ?_; refine vg (.bool false) 62 rfl rfl rfl rfl ?_; refine st_end ?_; subst hQ; refine wp_cond_false rfl ?_; refine wq fun Q hQ => ?_; refine vv (.bool true) 94 rfl rfl (ex_bin (u := (.int .i64 (p i).kd)) (r := (.int .i64 4)) rfl rfl rfl (eg3 _ _ _ _ _ _) (eql3 _ (decide_eq_true q4))) ?_; refine vg (.bool true) 93 rfl rfl rfl rfl ?_; refine st_end ?_; subst hQ
          refine wp_cond_true rfl ?_; refine wq fun Q hQ => ?_; refine vm (Pz g 0) 95 rfl rfl rfl rfl ?_; refine st_call (some 96) rfl rfl (qfork_any W4 hH.G hH.gl) (ex_call (f := 25) (vs := [(Pz g 0)]) rfl (cf25 _) rfl) ?_; rintro e W14 ⟨g2, b2, rfl, hGf, hgf, hbf, B⟩; have hHf := hH; have Bf := B; refine ⟨_, rfl, ?_⟩; simp only [zp]; replace E := below_next E B; replace hH := hH.keep B; replace k22 := keep B k22; refine vg (Pz g2 0) 10 rfl rfl rfl rfl ?_; refine st_end ?_; subst hQ; refine wp_seq ?_; refine wq fun Q hQ => ?_; refine vm (Pz g2 0) 97 rfl rfl rfl rfl ?_
          refine vv (.bool false) 98 rfl rfl (ex_pnil (t := 0) rfl rfl rfl rfl) ?_; refine st_end ?_; subst hQ; refine wp_cond_false rfl ?_; refine wp_skip ?_; refine wq fun Q hQ => ?_; refine vm (Pz g 0) 99 rfl rfl rfl rfl ?_; refine vv (Pz b22 1) 100 rfl rfl (ex_fa (p := (Pz b22 0)) rfl rfl (fa60_1 _ _)) ?_; refine vv (Pz b22 1) 101 rfl rfl (ex_fa (p := (Pz b22 1)) rfl rfl (fg49_0 _ _ _)) ?_; refine vv (.int .i64 (p i).e.ch) 102 rfl rfl (ex_load (p := (Pz b22 1)) rfl rfl (ld3 (at_cell k22 rfl))) ?_; refine vv (Pz b22 1) 103 rfl rfl (ex_fa (p := (Pz b22 0)) rfl rfl (fa60_1 _ _)) ?_
          refine vv (Pz b22 2) 104 rfl rfl (ex_fa (p := (Pz b22 1)) rfl rfl (fg49_1 _ _ _)) ?_; refine vv (.int .i64 (p i).e.fr) 105 rfl rfl (ex_load (p := (Pz b22 2)) rfl rfl (ld3 (at_cell k22 rfl))) ?_; refine st_call (some 106) rfl rfl (qrem_any (ch := (p i).e.ch) (fr := (p i).e.fr) W14 hH.G hH.gl) (ex_call (f := 22) (vs := [(Pz g 0), (.int .i64 (p i).e.ch), (.int .i64 (p i).e.fr)]) rfl (cf22 _) rfl) ?_; rintro e W15 ⟨rfl, b3, hG2, hb2, hK2⟩; refine ⟨_, rfl, ?_⟩; simp only [zp]; replace k22 := keepK hK2 k22 (fun e => hH.ne k22 (by decide) (by decide) (by decide) (.inl e))
          replace hH := hHf.fork Bf hGf hgf hbf hK2; replace E := hH.E; clear hHf Bf hGf hgf hbf hG2 hb2 hK2; refine st_end ?_; subst hQ; refine wl_in (wl_cap fun Q hQ => ?_); refine vm (Pz g2 0) 107 rfl rfl rfl rfl ?_; refine vg (Pz g2 0) 5 rfl rfl rfl rfl ?_; refine st_end ?_; subst hQ; refine nrm_blk ?_; exact JOIN _ _ _ _ _ _ _ _ _ _ _ _ _ _ _ _ _ _ _ _ _ _ _ _ _ _ _ _ _ _ _ _ _ _ _ _ _ _ _ _ _ _ _ _ _ _ _ _ _ _ _ _ _ _ _ _ _ _ _ _ _ _ _ _ _ _ _ _ _ _ _ _ _ _ _ _ _ _ _ _ _ _ _ _ _ hH k22
        refine wp_block ?_; refine wq fun Q hQ => ?_; refine vv (.bool false) 33 rfl rfl (ex_bin (u := (.int .i64 (p i).kd)) (r := (.int .i64 1)) rfl rfl rfl (eg3 _ _ _ _ _ _) (eql3 _ (decide_eq_false q1))) ?_; refine vg (.bool false) 32 rfl rfl rfl rfl ?_; refine st_end ?_; subst hQ; refine wp_cond_false rfl ?_; refine wq fun Q hQ => ?_; refine vv (.bool false) 44 rfl rfl (ex_bin (u := (.int .i64 (p i).kd)) (r := (.int .i64 2)) rfl rfl rfl (eg3 _ _ _ _ _ _) (eql3 _ (decide_eq_false q2))) ?_; refine vg (.bool false) 43 rfl rfl rfl rfl ?_; refine st_end ?_; subst hQ
        refine wp_cond_false rfl ?_; refine wq fun Q hQ => ?_; refine vv (.bool false) 63 rfl rfl (ex_bin (u := (.int .i64 (p i).kd)) (r := (.int .i64 3)) rfl rfl rfl (eg3 _ _ _ _ _ _) (eql3 _ (decide_eq_false q3))) ?_; refine vg (.bool false) 62 rfl rfl rfl rfl ?_; refine st_end ?_; subst hQ; refine wp_cond_false rfl ?_; refine wq fun Q hQ => ?_; refine vv (.bool false) 94 rfl rfl (ex_bin (u := (.int .i64 (p i).kd)) (r := (.int .i64 4)) rfl rfl rfl (eg3 _ _ _ _ _ _) (eql3 _ (decide_eq_false q4))) ?_; refine vg (.bool false) 93 rfl rfl rfl rfl ?_; refine st_end ?_; subst hQ
        refine wp_cond_false rfl ?_; refine wp_skip ?_; refine nrm_blk ?_; exact JOIN _ _ _ _ _ _ _ _ _ _ _ _ _ _ _ _ _ _ _ _ _ _ _ _ _ _ _ _ _ _ _ _ _ _ _ _ _ _ _ _ _ _ _ _ _ _ _ _ _ _ _ _ _ _ _ _ _ _ _ _ _ _ _ _ _ _ _ _ _ _ _ _ _ _ _ _ _ _ _ _ _ _ _ _ _ hH k22
      intro j2 j3 j4 j10 j32 j33 j34 j35 j36 j37 j38 j39 j40 j41 j42 j43 j44 j45 j46 j47 j48 j49 j50 j51 j52 j53 j54 j55 j56 j57 j58 j59 j60 j61 j62 j63 j64 j65 j66 j67 j68 j69 j70 j71 j72 j73 j74 j75 j76 j77 j78 j79 j80 j81 j82 j83 j84 j85 j86 j87 j88 j89 j90 j91 j92 j93 j94 j95 j96 j97 j98 j99 j100 j101 j102 j103 j104 j105 j106 j107 Wj gj bj vj Lj hj kj; clear hQsP; subst hQs; clear hH E k22; have hH := hj; have E := hH.E; clear hj; obtain ⟨aj, cj, rfl, hcj, hLj, hvj, hsj⟩ := rq_parts hH.R; have kxj := hH.R.1; refine wq fun Q hQ => ?_; refine vm (Pz gj 0) 109 rfl rfl rfl rfl ?_
      refine vv (Pz b22 1) 110 rfl rfl (ex_fa (p := (Pz b22 0)) rfl rfl (fa60_1 _ _)) ?_; refine vv (Pz b22 1) 111 rfl rfl (ex_fa (p := (Pz b22 1)) rfl rfl (fg49_0 _ _ _)) ?_; refine vv (.int .i64 (p i).e.ch) 112 rfl rfl (ex_load (p := (Pz b22 1)) rfl rfl (ld3 (at_cell kj rfl))) ?_; refine vv (Pz b22 1) 113 rfl rfl (ex_fa (p := (Pz b22 0)) rfl rfl (fa60_1 _ _)) ?_; refine vv (Pz b22 2) 114 rfl rfl (ex_fa (p := (Pz b22 1)) rfl rfl (fg49_1 _ _ _)) ?_; refine vv (.int .i64 (p i).e.fr) 115 rfl rfl (ex_load (p := (Pz b22 2)) rfl rfl (ld3 (at_cell kj rfl))) ?_
      refine st_call (some 116) rfl rfl (qget_any (ch := (p i).e.ch) (fr := (p i).e.fr) Wj hH.G hH.gl) (ex_call (f := 20) (vs := [(Pz gj 0), (.int .i64 (p i).e.ch), (.int .i64 (p i).e.fr)]) rfl (cf20 _) rfl) ?_; rintro e W16 ⟨rfl, B⟩; refine ⟨_, rfl, ?_⟩; simp only [zp]; replace E := below_next E B; replace hH := hH.keep B; replace kj := keep B kj; replace kxj := keep B kxj; refine vm (.tuple #[(.agg (EL (getN Lj (p i).e.ch (p i).e.fr).1)), (.bool (getN Lj (p i).e.ch (p i).e.fr).2)]) 108 rfl rfl rfl rfl ?_
      refine vv (.agg (EL (getN Lj (p i).e.ch (p i).e.fr).1)) 117 rfl rfl (ex_ext rfl rfl rfl) ?_; refine vv (.bool (getN Lj (p i).e.ch (p i).e.fr).2) 118 rfl rfl (ex_ext rfl rfl rfl) ?_; refine st_new (fun b => .pointer (some ⟨b, 0, none⟩)) (some 11) rfl rfl (ex_alloc rfl zero49) ?_; intro b23 W17 k23 g23 B; simp only [zp]; have nf_b23 := hH.fresh g23
      have ne_b23_b22 : b23 ≠ b22 := fun e => by have := lt_of kj; omega
      have ne_b23_x : b23 ≠ x := fun e => by have := lt_of kxj; omega
      have ge_b23 := Nat.le_trans E.size g23; replace E := below_next E B; replace hH := hH.keep B; replace kj := keep B kj; replace kxj := keep B kxj; clear B; obtain ⟨W18, hst, kn, K⟩ := put_all (D := (EL (getN Lj (p i).e.ch (p i).e.fr).1)) k23 rfl inf49 (by kernel_rfl); refine st_sk rfl rfl (ex_store rfl rfl rfl hst) ?_; replace E := below_put E ge_b23 K; replace hH := hH.putN K nf_b23 ge_b23; replace kj := keepK K kj (fun e => ne_tag kj k23 (by decide) e); replace kxj := keepK K kxj (fun e => ne_tag kxj k23 (by decide) e); replace k23 := kn; clear kn K hst
      refine vg (.bool (getN Lj (p i).e.ch (p i).e.fr).2) 12 rfl rfl rfl rfl ?_; refine st_end ?_; subst hQ; refine wq fun Q hQ => ?_; refine vm (Pz x 0) 120 rfl rfl rfl rfl ?_; refine vv (Pz b22 1) 121 rfl rfl (ex_fa (p := (Pz b22 0)) rfl rfl (fa60_1 _ _)) ?_; refine vv (Pz b22 1) 122 rfl rfl (ex_fa (p := (Pz b22 1)) rfl rfl (fg49_0 _ _ _)) ?_; refine vv (.int .i64 (p i).e.ch) 123 rfl rfl (ex_load (p := (Pz b22 1)) rfl rfl (ld3 (at_cell kj rfl))) ?_; refine vv (Pz b22 1) 124 rfl rfl (ex_fa (p := (Pz b22 0)) rfl rfl (fa60_1 _ _)) ?_
      refine vv (Pz b22 2) 125 rfl rfl (ex_fa (p := (Pz b22 1)) rfl rfl (fg49_1 _ _ _)) ?_; refine vv (.int .i64 (p i).e.fr) 126 rfl rfl (ex_load (p := (Pz b22 2)) rfl rfl (ld3 (at_cell kj rfl))) ?_; refine st_call (some 127) rfl rfl (rqget_any (ch := (p i).e.ch) (fr := (p i).e.fr) W18 hH.R hH.gm) (ex_call (f := 31) (vs := [(Pz x 0), (.int .i64 (p i).e.ch), (.int .i64 (p i).e.fr)]) rfl (cf31 _) rfl) ?_; rintro e W19 ⟨rfl, B⟩; refine ⟨_, rfl, ?_⟩; simp only [zp]; replace E := below_next E B; replace hH := hH.keep B; replace kj := keep B kj; replace kxj := keep B kxj
      replace k23 := keep B k23; refine vm (.tuple #[(.agg (EL (getN Lj (p i).e.ch (p i).e.fr).1)), (.bool (getN Lj (p i).e.ch (p i).e.fr).2)]) 119 rfl rfl rfl rfl ?_; refine vv (.agg (EL (getN Lj (p i).e.ch (p i).e.fr).1)) 128 rfl rfl (ex_ext rfl rfl rfl) ?_; refine vv (.bool (getN Lj (p i).e.ch (p i).e.fr).2) 129 rfl rfl (ex_ext rfl rfl rfl) ?_; refine st_new (fun b => .pointer (some ⟨b, 0, none⟩)) (some 13) rfl rfl (ex_alloc rfl zero49) ?_; intro b24 W20 k24 g24 B; simp only [zp]; have nf_b24 := hH.fresh g24
      have ne_b24_b22 : b24 ≠ b22 := fun e => by have := lt_of kj; omega
      have ne_b24_x : b24 ≠ x := fun e => by have := lt_of kxj; omega
      have ne_b24_b23 : b24 ≠ b23 := fun e => by have := lt_of k23; omega
      have ge_b24 := Nat.le_trans E.size g24; replace E := below_next E B; replace hH := hH.keep B; replace kj := keep B kj; replace kxj := keep B kxj; replace k23 := keep B k23; clear B; obtain ⟨W21, hst, kn, K⟩ := put_all (D := (EL (getN Lj (p i).e.ch (p i).e.fr).1)) k24 rfl inf49 (by kernel_rfl); refine st_sk rfl rfl (ex_store rfl rfl rfl hst) ?_; replace E := below_put E ge_b24 K; replace hH := hH.putN K nf_b24 ge_b24; replace kj := keepK K kj (fun e => ne_tag kj k24 (by decide) e); replace kxj := keepK K kxj (fun e => ne_tag kxj k24 (by decide) e)
      replace k23 := keepK K k23 (fun e => by first | exact ne_b23_b24 e | exact ne_b24_b23 e.symm); replace k24 := kn; clear kn K hst; refine vg (.bool (getN Lj (p i).e.ch (p i).e.fr).2) 14 rfl rfl rfl rfl ?_; refine st_end ?_; subst hQ; refine wp_seq ?_; obtain ⟨W22, hwd⟩ : ∃ wd, W21.drew = wd := ⟨_, rfl⟩; refine wp_region_held (S := fun W => Kept Nil W22 W) (by kernel_rfl) ?_
      show wpAnyH _ _ _ _ _ _ _ _ W21.drew
      rw [hwd]; refine capQ fun Q hQ => ?_
      have hQP : ∀ c (a : Act) (d : Nat) v w, Q (.panic c) (a.put (some d) v) w → Q (.panic c) a w := by
        subst hQ; exact fun _ _ _ _ _ h => h
      have BD : Below W21.heap.size W21 W22 := by rw [← hwd]; exact below_drewB (Below.refl _ _)
      clear hwd; replace E := below_next E BD; replace hH := hH.keep BD; replace kj := keep BD kj; replace kxj := keep BD kxj; replace k23 := keep BD k23; replace k24 := keep BD k24; clear BD
      have S : Kept Nil W22 W22 := Kept.refl _ _
      have d_kj := kj; have d_kxj := kxj; have d_k23 := k23; have d_k24 := k24; have d_hH := hH; refine tk (.bool true) 0 130 rfl rfl rfl (fun W hK => ex_mv rfl rfl) S hQP ?_; refine tk (.bool false) 1 131 rfl rfl rfl (fun W hK => ex_not rfl rfl rfl) S hQP ?_; refine tk (.bool false) 2 132 rfl rfl rfl (fun W hK => ex_mv rfl rfl) S hQP ?_; refine tk (.agg (EL (getN Lj (p i).e.ch (p i).e.fr).1)) 3 133 rfl rfl rfl (fun W hK => ex_load (p := (Pz b23 0)) rfl rfl (ld_all (keepK hK d_k23 (nilN _)) Try.underlying49 rfl inf49)) S hQP ?_
      refine tk (.agg (EL (getN Lj (p i).e.ch (p i).e.fr).1)) 4 134 rfl rfl rfl (fun W hK => ex_load (p := (Pz b24 0)) rfl rfl (ld_all (keepK hK d_k24 (nilN _)) Try.underlying49 rfl inf49)) S hQP ?_; refine tk (.bool false) 5 135 rfl rfl rfl (fun W hK => ex_bin rfl rfl rfl (egE _ _ _ _ _) (neqE _ _)) S hQP ?_; refine tk (.bool false) 6 136 rfl rfl rfl (fun W hK => ex_pkF rfl rfl rfl) S hQP ?_; refine tk (.bool false) 7 137 rfl rfl rfl (fun W hK => ex_mv rfl rfl) S hQP ?_; refine tk (.bool (getN Lj (p i).e.ch (p i).e.fr).2) 8 138 rfl rfl rfl (fun W hK => ex_mv rfl rfl) S hQP ?_
      refine tk (.bool (getN Lj (p i).e.ch (p i).e.fr).2) 9 139 rfl rfl rfl (fun W hK => ex_mv rfl rfl) S hQP ?_; refine tk (.bool false) 10 140 rfl rfl rfl (fun W hK => ex_bin rfl rfl rfl (eg4 _ _ _ _ _ _) (neq4 _ (by simp))) S hQP ?_; refine tk (.bool false) 11 141 rfl rfl rfl (fun W hK => ex_pkF rfl rfl rfl) S hQP ?_; refine tk (.bool false) 12 142 rfl rfl rfl (fun W hK => ex_mv rfl rfl) S hQP ?_; refine tk (Pz gj 0) 13 143 rfl rfl rfl (fun W hK => ex_mv rfl rfl) S hQP ?_; refine tk (Pz x 0) 15 145 rfl rfl rfl (fun W hK => ex_mv rfl rfl) S hQP ?_
      refine tk (Pz x 0) 16 146 rfl rfl rfl (fun W hK => ex_nil (p := (Pz x 0)) rfl rfl rfl) S hQP ?_; refine tk (Pz x 0) 17 147 rfl rfl rfl (fun W hK => ex_fa (p := (Pz x 0)) rfl rfl (fa74_0 _ _)) S hQP ?_; refine tk (.slice aj Lj.length cj) 18 148 rfl rfl rfl (fun W hK => ex_load (p := (Pz x 0)) rfl rfl (ld33 (at_cell (keepK hK d_kxj (nilN _)) rfl))) S hQP ?_; refine tk (.int .i64 (Lj.length : Nat)) 19 149 rfl rfl rfl (fun W hK => ex_len rfl rfl (len33 _ _ _ _ _)) S hQP ?_; refine ah_or1 (i := 14) (by kernel_rfl) ?_
      refine nx_call (some 144) rfl rfl rfl (qlen_any W22 hH.G) (ex_call (f := 24) (vs := [(Pz gj 0)]) rfl (cf24 _) rfl) ?_; rintro e W23 ⟨rfl, B⟩; refine ⟨_, rfl, S.next B, ?_⟩; simp only [zp]; replace E := below_next E B; replace hH := hH.keep B; replace kj := keep B kj; replace kxj := keep B kxj; replace k23 := keep B k23; replace k24 := keep B k24; replace S := S.next B
      refine tk (.bool false) 20 150 rfl rfl rfl (fun W hK => ex_bin (u := (.int .i64 (Lj.length : Nat))) (r := (.int .i64 (Lj.length : Nat))) rfl rfl rfl (eg3 _ _ _ _ _ _) (neq3 _ (decide_eq_false (fun h => h rfl)))) S hQP ?_; refine tk (.bool false) 21 151 rfl rfl rfl (fun W hK => ex_pkF rfl rfl rfl) S hQP ?_; refine ah_done (by kernel_rfl) ?_; clear hQP; subst hQ; clear S d_kj d_kxj d_k23 d_k24 d_hH; refine wp_cond_false rfl ?_; refine wp_skip ?_; refine wl_in (wl_cap fun Q hQ => ?_); refine vm (.int .i64 (i : Nat)) 24 rfl rfl rfl rfl ?_
      refine vv (.int .i64 ((i + 1 : Nat) : Int)) 25 rfl rfl (ex_bin rfl rfl rfl (eg3 _ _ _ _ _ _) (add3 _ (by omega) (by omega))) ?_; refine vg (.int .i64 ((i + 1 : Nat) : Int)) 7 rfl rfl rfl rfl ?_; refine st_end ?_; subst hQ; refine then_go ?_
      first | (go_big_round; refine ⟨?rel, ?measure⟩) | (refine ⟨?_, ?measure⟩; (repeat apply Exists.intro); refine ⟨?rel, rfl⟩)
      case rel => exact ⟨i + 1, gj, bj, _, Lj, by omega, rfl, rfl, hH⟩
      case measure => simp [intOf]; omega
    · have hin : i = n := by omega
      subst i; refine wp_seq ?_; refine wq fun Q hQ => ?_; refine vm (.int .i64 (n : Nat)) 20 rfl rfl rfl rfl ?_; refine vm (.slice ao n c) 21 rfl rfl rfl rfl ?_; refine vv (.int .i64 (n : Nat)) 22 rfl rfl (ex_len rfl rfl (len22 _ _ _ _ _)) ?_; refine vv (.bool false) 23 rfl rfl (ex_bin (u := (.int .i64 (n : Nat))) (r := (.int .i64 (n : Nat))) rfl rfl rfl (eg3 _ _ _ _ _ _) (lss3 _ (decide_eq_false (by omega)))) ?_; refine st_end ?_; subst hQ; refine wp_cond_false rfl ?_; refine wp_exit ?_; refine ex_then ?_; refine ex_then ?_; refine ex_blk ?_; refine wq fun Q hQ => ?_
      refine vm (Pz g 0) 152 rfl rfl rfl rfl ?_; refine vm (Pz x 0) 153 rfl rfl rfl rfl ?_; refine vg (Pz g 0) 2 rfl rfl rfl rfl ?_; refine vg (Pz x 0) 3 rfl rfl rfl rfl ?_; refine vg (.bool true) 4 rfl rfl rfl rfl ?_; refine st_end ?_; subst hQ; refine wp_ret ?_; exact bodyPost_ret (results_tmp3 Try.results9 _ _ _) rfl ⟨g, b, x, v, L, rfl, hH⟩
end Go.Proofs.Ytgnkcmmpbohafaa

/- With more that fees may be, a way costs no more. -/
namespace Go.Proofs.Ytgnkcmmpbohafaa
open Go.RowKit
set_option linter.unusedVariables false
set_option linter.unusedSimpArgs false
set_option maxRecDepth 100000

end Go.Proofs.Ytgnkcmmpbohafaa

/- Calls in a row and what is wanted, with its list, as they came in. -/
namespace Go.Proofs.Ytgnkcmmpbohafaa
open Go.RowKit Go.ChangeShapes Go.WideShapes Go.ChangeAt
set_option linter.unusedVariables false
set_option linter.unusedSimpArgs false
set_option maxRecDepth 100000
theorem bytesOf60 : Try.prog.bytesOf 60 = 136 := by kernel_rfl
section
variable {H : Type} {enc : TypeId × Value → H} {w : World} {fuel : Nat} {cs : List Value} {x : DataW H × List MemPlace}
theorem open_opN (h : DataW.trod enc Try.prog w 0 (fun _ => true) true fuel 60 cs = some x) : ∃ p : OV, cs = (OL p).toList ∧ ON p := by
  obtain ⟨xs, m, _, rfl, hlen, hxl, hall⟩ := DataW.trod_struct Try.underlying60 h; rw [cellsOf60] at hlen
  have hxl' : xs.length = 5 := hxl
  have at_ : ∀ i, i < 5 → xs[i]? = some (xs.getD i (.nil, [])) := fun i hi => by rw [List.getD_eq_getElem?_getD, List.getElem?_eq_getElem (by omega)]; rfl
  obtain ⟨a, e0, r0⟩ := open_num ((hall 0 _ rfl).trans (at_ 0 (by omega))); obtain ⟨e, e1, r1⟩ := open_edge ((hall 1 _ rfl).trans (at_ 1 (by omega))); obtain ⟨b, e2, r2⟩ := open_num ((hall 2 _ rfl).trans (at_ 2 (by omega))); obtain ⟨c, e3, r3⟩ := open_num ((hall 3 _ rfl).trans (at_ 3 (by omega))); obtain ⟨d, e4⟩ := open_bl ((hall 4 _ rfl).trans (at_ 4 (by omega))); replace e0 := (show (cs.drop 0).take (Try.prog.cellsOf 3) = _ from e0); rw [cellsOf3] at e0; replace e1 := (show (cs.drop 1).take (Try.prog.cellsOf 49) = _ from e1); rw [cellsOf49] at e1
  replace e2 := (show (cs.drop 14).take (Try.prog.cellsOf 3) = _ from e2); rw [cellsOf3] at e2; replace e3 := (show (cs.drop 15).take (Try.prog.cellsOf 3) = _ from e3); rw [cellsOf3] at e3; replace e4 := (show (cs.drop 16).take (Try.prog.cellsOf 4) = _ from e4); rw [cellsOf4] at e4; have d0 := cut_at cs 0 1 _ e0; rw [cut_at cs 1 13 _ e1, cut_at cs 14 1 _ e2, cut_at cs 15 1 _ e3, cut_at cs 16 1 _ e4, (show cs.drop (16 + 1) = [] from List.drop_eq_nil_of_le (by omega)), List.drop_zero] at d0
  exact ⟨⟨a, e, b, c, d⟩, d0, ⟨⟨r1.2.2.2.2.1.1.2, r1.2.2.2.1.2, r1.2.2.2.2.2.2.1.1, r1.2.2.2.2.2.2.1.2, r1.2.2.2.2.2.2.2.2.1, r1.2.2.2.2.2.2.2.2.2⟩, r2.1, r2.2, r3.1, r3.2⟩⟩
def O0 : OV := ⟨0, NE, 0, 0, false⟩
theorem open_ops {ao : Option Addr} {n c : Nat} (h : DataW.trod enc Try.prog w 0 (fun _ => true) true fuel 22 [.slice ao n c] = some x) (hs : ∀ m ∈ x.1.weights Try.prog 22, m ≤ reachBytes) : n ≤ 140737488355328 ∧ ∃ p, OpAt w ao n p ∧ ∀ i, i < n → ON (p i) := by
  rcases Go.Deep.open_slice Try.underlying22 h with ⟨hcs, _⟩ | ⟨a, len, cap, m, k, D, Pl, hcs, _, hl, hm, hmm, rfl, hx⟩
  · simp at hcs
    obtain ⟨rfl, rfl, rfl⟩ := hcs; exact ⟨by omega, fun _ => O0, .inl rfl, fun i hi => by omega⟩
  · simp at hcs
    obtain ⟨rfl, rfl, rfl⟩ := hcs
    have hm' : m = c := by simpa using hmm
    subst hm'; have hr := hs _ (by simp only [DataW.weights, Try.underlying22]; exact List.mem_cons_self ..); rw [bytesOf60] at hr; simp only [List.length_map, List.length_range, reachBytes] at hr
    have each : ∀ i, i < n → ∃ q : OV, ON q ∧ ∀ j, j < 17 → w.cell? ((a.add (i * 17)).add j) = (OL q).toList[j]? := fun i hi => by
      obtain ⟨cs', h1, h2⟩ := hx i (by omega); rw [cellsOf60] at h1; obtain ⟨_, hlen, hcell⟩ := World.cells?_some h1; obtain ⟨q, hq, hqa⟩ := open_opN h2; exact ⟨q, hqa, fun j hj => by rw [← hq]; exact hcell j hj⟩
    have : Inhabited OV := ⟨O0⟩
    obtain ⟨q, hq⟩ := Go.Deep.choose_lt each; refine ⟨by omega, q, ?_, fun i hi => (hq i hi).1⟩
    by_cases h0 : n = 0
    · exact .inl h0
    obtain ⟨b, off, spot⟩ := a
    have hsp : spot = none := by
      have h := (hq 0 (by omega)).2 0 (by omega)
      simpa [Addr.add] using World.cell?_spot (h.trans (show (OL (q 0)).toList[0]? = some (.int .i64 (q 0).kd) from rfl))
    subst hsp; refine .inr ⟨b, off, rfl, fun i hi j v hv => ?_⟩
    have hj : j < 17 := (List.getElem?_eq_some_iff.1 hv).1
    have := (hq i hi).2 j hj
    rw [hv, Addr.add_mid, Addr.add_mid] at this; exact this
end
end Go.Proofs.Ytgnkcmmpbohafaa

/- Steps behind the fence: in the round of a range over a function, and at a call of its body. -/
namespace Go.Proofs.Ytgnkcmmpbohafaa
open Go.RowKit
set_option linter.unusedVariables false
set_option linter.unusedSimpArgs false
set_option maxRecDepth 100000

section
variable {F : Fence} {n : Nat} {ops : Array Oper} {Q : Exit → Act → World → Prop} {rest : List Oper} {o : Oper} {a : Act} {W W' : World} {v : Value}
structure WI (F : Fence) (n : Nat) (ops : Array Oper) (Q : Exit → Act → World → Prop) (l : List Oper) (a : Act) (W : World) : Prop where
  out : wpListIn F n Try.prog ops Q l a W
theorem wi_in {id : Nat} {l : List Oper} (h : WI F n l.toArray Q l a W) : (Code.region id l.toArray false).wpIn F n Try.prog Q a W := wpIn_region_lit h.out
theorem wi_cap {l : List Oper} (h : ∀ Q' : Exit → Act → World → Prop, Q' = Q → WI F n ops Q' l a W) : WI F n ops Q l a W := h Q rfl
theorem wi_end (h : Q .normal a W) : WI F n ops Q [] a W := ⟨h⟩
theorem it_to (d : Option Tmp) (hd : o.dst = d) (hw : Region.wanted o (yielded ops a.tmps) = true) (hr : (execOp a.eval o).run Try.prog W = .ok (.value v) W') (h : WI F n ops Q rest (a.put d v) W') (hF : ∀ f, F.fn f := by intro _; trivial) (hs : ∀ c, o.op ≠ .defer c := by intro _ h; cases h) : WI F n ops Q (o :: rest) a W :=
  ⟨wpListIn_step fun K hK => by
    rw [if_pos hw]
    unfold Oper.wpIn
    rw [Oper.semAt_eq _ _ _ hs, hr]
    exact ⟨fun f _ => hF f, hK _ _ (by rw [hd]; exact h.out)⟩⟩
theorem it_sk (hd : o.dst = none) (hw : Region.wanted o (yielded ops a.tmps) = true) (hr : (execOp a.eval o).run Try.prog W = .ok .skip W') (h : WI F n ops Q rest a W') (hF : ∀ f, F.fn f := by intro _; trivial) (hs : ∀ c, o.op ≠ .defer c := by intro _ h; cases h) : WI F n ops Q (o :: rest) a W :=
  ⟨wpListIn_step fun K hK => by
    rw [if_pos hw]
    unfold Oper.wpIn
    rw [Oper.semAt_eq _ _ _ hs, hr]
    exact ⟨fun f _ => hF f, hK _ _ (by rw [hd]; exact h.out)⟩⟩
theorem it_no (d : Option Tmp) (hd : o.dst = d) (hw : Region.wanted o (yielded ops a.tmps) = false) (h : WI F n ops Q rest (a.put d undef) W) (hF : ∀ f, F.fn f := by intro _; trivial) : WI F n ops Q (o :: rest) a W :=
  ⟨wpListIn_step fun K hK => by
    rw [if_neg (by simp [hw])]
    exact ⟨fun f _ => hF f, hK _ _ (by rw [hd]; exact h.out)⟩⟩
theorem it_new (V : Nat → Value) (d : Option Tmp) (hd : o.dst = d) (hw : Region.wanted o (yielded ops a.tmps) = true) {ob : Obj} (hr : (execOp a.eval o).run Try.prog W = .ok (.value (V W.heap.size)) (W.alloc ob))
    (h : ∀ b W', W'.heap[b]? = some ob → W.heap.size ≤ b → Below W.heap.size W W' → W' = W.alloc ob → WI F n ops Q rest (a.put d (V b)) W') (hF : ∀ f, F.fn f := by intro _; trivial) (hs : ∀ c, o.op ≠ .defer c := by intro _ h; cases h) : WI F n ops Q (o :: rest) a W :=
  it_to d hd hw hr (h _ _ (heap_alloc_last W ob) (Nat.le_refl _) ((Below.refl _ _).alloc (Nat.le_refl _) ob) rfl) hF hs
theorem it_round (d : Option Tmp) (hd : o.dst = d) (hw : Region.wanted o (yielded ops a.tmps) = true) {l : Nat} {f : FuncId} {tmps : Array Value} {assign body : Code} {R : Ending → World → Prop} (hx : (execOp a.eval o).run Try.prog W = .ok (.round l f tmps assign body) W) (hR : RoundIn F (n - 1) Try.prog l f tmps assign body W R)
    (h : ∀ e w', R e w' → ∃ v, e = .returned v ∧ WI F n ops Q rest (a.put d v) w') (hn : F.depth.isSome = true → 1 ≤ n) (hF : ∀ f, F.fn f := by intro _; trivial) (hs : ∀ c, o.op ≠ .defer c := by intro _ h; cases h) : WI F n ops Q (o :: rest) a W :=
  ⟨wpListIn_step fun K hK => by
    subst hd; rw [if_pos hw]
    unfold Oper.wpIn
    rw [Oper.semAt_eq _ _ _ hs, hx]; refine ⟨fun f _ => hF f, hn, hR.mono fun e w' hp => ?_⟩; obtain ⟨v, rfl, h'⟩ := h e w' hp
    exact hK _ _ h'.out⟩
theorem ex_yield {l : Nat} {x : Operand} {xs : Array Operand} {ts : Array TypeId} {f : FuncId} {tmps : Array Value} {assign body : Code} (ho : o.op = .call { callee := .value x, args := xs, argTypes := ts }) (hx : a.eval x = .func (.yield l) #[] #[]) {vs : List Value} (hv : xs.toList.map a.eval = vs) (hy : (Instr.yield l vs.toArray).run Try.prog W = .ok (.round l f tmps assign body) W) : (execOp a.eval o).run Try.prog W = .ok (.round l f tmps assign body) W := by
  have hm : xs.map a.eval = vs.toArray := by rw [← hv, ← Array.toList_map]
  unfold execOp
  simp only [ho, resolve, Sem.run_bind]; rw [hx]
  simp [Deferred.ofValue, invoke, hm, hy]
end
end Go.Proofs.Ytgnkcmmpbohafaa

/- What From hands back, gone over, for whatever body. -/
namespace Go.Proofs.Ytgnkcmmpbohafaa
open Go.RowKit
set_option linter.unusedVariables false
set_option linter.unusedSimpArgs false
set_option maxRecDepth 100000

/-- up to where a body that fills the slice in the box b keeps what lies -/
def mk9 (b : Nat) (W : World) : Nat := match W.cell? ⟨b, 0, none⟩ with
  | some (.slice none _ _) => W.heap.size
  | some (.slice (some ad) _ _) => ad.block
  | _ => 0
structure Kp9 (b : Nat) (A B : World) : Prop where
  os : B.os = A.os
  tape : B.tape = A.tape
  output : B.output = A.output
  size : A.heap.size ≤ B.heap.size
  up : mk9 b A ≤ mk9 b B
  cells : ∀ k C t, k < mk9 b A → k ≠ b → A.heap[k]? = some (.cells C t) → B.heap[k]? = some (.cells C t)
theorem Kp9.trans {b : Nat} {A B C : World} (h : Kp9 b A B) (k : Kp9 b B C) : Kp9 b A C :=
  ⟨k.os.trans h.os, k.tape.trans h.tape, k.output.trans h.output, Nat.le_trans h.size k.size, Nat.le_trans h.up k.up, fun j C t hj hb hc => k.cells j C t (Nat.lt_of_lt_of_le hj h.up) hb (h.cells j C t hj hb hc)⟩
theorem Kp9.refl (b : Nat) (A : World) : Kp9 b A A := ⟨rfl, rfl, rfl, Nat.le_refl _, Nat.le_refl _, fun _ _ _ _ _ h => h⟩
theorem mk9_le {b : Nat} {A B : World} (h : A.heap.size ≤ B.heap.size) (hc : A.cell? ⟨b, 0, none⟩ = B.cell? ⟨b, 0, none⟩) : mk9 b A ≤ mk9 b B := by
  unfold mk9
  rw [← hc]
  split
  · exact h
  · exact Nat.le_refl _
  · exact Nat.le_refl _
theorem Kp9.ofBelow {b : Nat} {A B : World} (h : Below A.heap.size A B) (hb : b < A.heap.size) : Kp9 b A B :=
  ⟨h.os, h.tape, h.output, h.size, mk9_le h.size (h.cell (p := ⟨b, 0, none⟩) hb).symm, fun k C t _ _ hc => keep h hc⟩
theorem mk9_put {b l : Nat} {W : World} {o o' : Obj} (hl : W.heap[l]? = some o) (ho : o.isCells = false) : mk9 b W ≤ mk9 b (W.putObj l o') := by
  have hg := grownBy_putObj' W l o'
  by_cases e : b = l
  · subst e
    have : W.cell? ⟨b, 0, none⟩ = none := by
      cases o <;> simp [World.cell?, hl, Obj.isCells] at ho ⊢
    unfold mk9
    rw [this]; exact Nat.zero_le _
  · refine mk9_le hg.size ?_
    by_cases hs : b < W.heap.size
    · exact (World.cell?_of_block (hg.block b hs (fun q => e (Option.some.inj q)))).symm
    · have h1 : W.heap[b]? = none := Array.getElem?_eq_none (Nat.le_of_not_lt hs)
      have h2 : (W.putObj l o').heap[b]? = none := by simp [World.putObj]; exact Nat.le_of_not_lt hs
      exact World.cell?_of_block (h1.trans h2.symm)
theorem Kp9.put {b l : Nat} {W : World} {o o' : Obj} (hl : W.heap[l]? = some o) (ho : o.isCells = false) : Kp9 b W (W.putObj l o') := by
  have hg := grownBy_putObj' W l o'; exact ⟨hg.os, hg.tape, hg.output, hg.size, mk9_put hl ho, fun k C t _ _ hc => (hg.block k (lt_of hc) (fun q => by cases q; rw [hl] at hc; cases hc; cases ho)).trans hc⟩
theorem grown_none {A B : World} (h : Below A.heap.size A B) : A.grownBy B none := ⟨h.os, h.tape, h.output, h.size, fun k hk _ => h.block k hk⟩
set_option maxHeartbeats 8000000 in
theorem fr1_any {l c1 c2 g n c N b9 m : Nat} {ad : Addr} {L : List EV} {x : Int} {J Jx : List EV → World → Prop} (w : World) (k1 : w.heap[c1]? = some (.cells #[.pointer (some ⟨g, 0, none⟩)] 23)) (k2 : w.heap[c2]? = some (.cells #[.int .i64 x] 3)) (kg : w.heap[g]? = some (.cells #[.slice (some ad) n c] 105)) (hL : Es w N (some ad) L) (hn : n = L.length) (hn2 : n ≤ 64) (k9 : w.heap[b9]? = some (.cells #[.slice none 0 0] 33)) (hJ : AbidesFrom w.heap.size J)
    (hY : ∀ pre e W1, J pre W1 → pre.length < (nxt L x).length → YieldAt Fence.wide m Try.prog l #[.agg (EL e)] W1 fun q W' => (q = .returned (.bool true) ∧ J (pre ++ [e]) W' ∧ Kp9 b9 W1 W') ∨ (q = .returned (.bool false) ∧ Jx (pre ++ [e]) W')) (h0 : J [] w) : Calls Try.prog 59 #[.func (.yield l) #[] #[], .pointer (some ⟨c1, 0, none⟩), .pointer (some ⟨c2, 0, none⟩)] w fun q w' => (∃ v, q = .returned v) ∧ (J (nxt L x) w' ∨ ∃ pre, pre <+: nxt L x ∧ Jx pre w') := by
  have E : Below w.heap.size w w := Below.refl _ _
  go_enter Try.func59, Try.ntmps59; refine wq fun Q hQ => ?_; refine vv (Pz g 0) 6 rfl rfl (ex_load (p := (Pz c1 0)) rfl rfl (ld23 (at_cell k1 rfl))) ?_; refine vv (.int .i64 x) 7 rfl rfl (ex_load (p := (Pz c2 0)) rfl rfl (ld3 (at_cell k2 rfl))) ?_; refine st_call (some 8) rfl rfl (from_any (x := x) w kg hL hn hn2) (ex_call (f := 60) (vs := [(Pz g 0), (.int .i64 x)]) rfl (cf60 _) rfl) ?_; rintro e W1 ⟨ao, cc, rfl, hcc, hS, B⟩
  have hM : (nxt L x).length ≤ 64 := Nat.le_trans (List.length_filter_le _ _) (by omega)
  refine ⟨_, rfl, ?_⟩; simp only [zp]; replace E := below_next E B; replace k1 := keep B k1; replace k2 := keep B k2; refine vv (.int .i64 ((nxt L x).length : Nat)) 9 rfl rfl (ex_len rfl rfl (len33 _ _ _ _ _)) ?_; refine vm (.int .i64 0) 10 rfl rfl rfl rfl ?_; refine st_end ?_; subst hQ; refine wp_block ?_
  have hb9 : b9 < W1.heap.size := Nat.lt_of_lt_of_le (lt_of k9) E.size
  have h91 : mk9 b9 W1 = W1.heap.size := by
    unfold mk9
    rw [at_cell (k := 0) (v := .slice none 0 0) (keep E k9) rfl]
  have hJ1 := hJ _ _ _ none h0 (grown_none E) (fun r e => by cases e)
  go_loopw [10] (fun v10 wz => ∃ k : Nat, k ≤ (nxt L x).length ∧ v10 = .int .i64 k ∧ J ((nxt L x).take k) wz ∧ Kp9 b9 W1 wz) (fun v10 _ => (nxt L x).length - (intOf v10).toNat)
  case atStart => exact ⟨0, Nat.zero_le _, rfl, hJ1, Kp9.refl _ _⟩
  case round =>
    obtain ⟨k, hk, rfl, hJk, hKk⟩ := hrel; replace hb9 : b9 < wr.heap.size := Nat.lt_of_lt_of_le hb9 hKk.size
    by_cases hlt : k < (nxt L x).length
    · obtain ⟨e, he⟩ : ∃ e, (nxt L x)[k]? = some e := ⟨(nxt L x)[k], List.getElem?_eq_getElem hlt⟩
      rcases hS with q | ⟨gS, oS, rfl, hbN, ⟨cur0, hc0⟩, hr⟩
      · rw [q] at hlt; exact absurd hlt (by simp)
      have hg9 : gS ≠ b9 := fun e => ne_tag hc0 (keep E k9) (by decide) e
      have hc1 := hKk.cells gS _ _ (by rw [h91]; exact lt_of hc0) hg9 hc0
      have hr1 : wr.rangeAt gS oS (cE (nxt L x)) := fun j v hv => (World.cell?_of_block (hc1.trans hc0.symm)).trans (hr j v hv)
      have hrb := range_at hr1 he
      have htk : (nxt L x).take k ++ [e] <+: nxt L x := by
        have e1 : (nxt L x).take (k + 1) = (nxt L x).take k ++ [e] := by rw [List.take_add_one, he]; rfl
        rw [← e1]; exact List.take_prefix _ _
      clear E k1 k2
      have E : Below wr.heap.size wr wr := Below.refl _ _
      refine wq fun Q hQ => ?_; refine vv (.bool true) 11 rfl rfl (ex_bin (u := (.int .i64 (k : Nat))) (r := (.int .i64 ((nxt L x).length : Nat))) rfl rfl rfl (eg3 _ _ _ _ _ _) (lss3 _ (decide_eq_true (by omega)))) ?_; refine st_end ?_; subst hQ; refine wp_seq ?_; refine wp_cond_true rfl ?_; refine wp_skip ?_; refine wp_seq ?_; refine wp_block ?_; refine wq fun Q hQ => ?_; refine vv (.pointer (some ⟨gS, (oS + k * 13), none⟩)) 12 rfl rfl (ix33 (k := k) rfl rfl rfl (rfl) (hlt)) ?_; refine vv (.agg (EL e)) 13 rfl rfl (ex_load rfl rfl (ld_range hrb Try.underlying49 rfl inf49)) ?_
      refine st_new (fun b => .pointer (some ⟨b, 0, none⟩)) (some 5) rfl rfl (ex_alloc rfl zero49) ?_; intro b21 W2 k21 g21 B; simp only [zp]; have ge_b21 := Nat.le_trans E.size g21; replace E := below_next E B; clear B; obtain ⟨W3, hst, kn, K⟩ := put_all (D := (EL e)) k21 rfl inf49 (by kernel_rfl); refine st_sk rfl rfl (ex_store rfl rfl rfl hst) ?_; replace E := below_put E ge_b21 K; replace k21 := kn; clear kn K hst; refine st_end ?_; subst hQ; refine wp_seq ?_; have hJc := hJ _ _ _ none hJk (grown_none E) (fun r e => by cases e); have hKc := hKk.trans (Kp9.ofBelow E hb9)
      obtain ⟨fn, tmps, assign, body, hy, hR⟩ := hY _ e _ hJc (by rw [List.length_take]; omega); refine (wpIn_wide (n := m + 1)).1 ?_; refine wi_in (wi_cap fun Q hQ => ?_); refine it_to (v := (.func (.yield l) #[] #[])) (some 14) rfl rfl (ex_mv rfl rfl) ?_; simp only [zp]; refine it_to (v := (.agg (EL e))) (some 15) rfl rfl (ex_load (p := (Pz b21 0)) rfl rfl (ld_all k21 Try.underlying49 rfl inf49)) ?_; simp only [zp]; refine it_round (some 16) rfl rfl (ex_yield rfl rfl rfl hy) hR ?_ (fun h => by cases h); rintro q9 W4 (⟨rfl, hJ9, hK9⟩ | ⟨rfl, hX9⟩)
      rotate_left
      · skip
        refine ⟨_, rfl, ?_⟩; simp only [zp]; refine it_to (v := (.bool true)) (some 17) rfl rfl (ex_not rfl rfl rfl) ?_; simp only [zp]; refine wi_end ?_; subst hQ; refine wp_cond_true rfl ?_; refine wp_ret ?_
        repeat (first | refine ret_out ?_ | refine ret_blk ?_)
        exact bodyPost_ret (results_none Try.results59 _ _ _) rfl ⟨⟨_, rfl⟩, .inr ⟨_, htk, hX9⟩⟩
      refine ⟨_, rfl, ?_⟩; simp only [zp]; refine it_to (v := (.bool false)) (some 17) rfl rfl (ex_not rfl rfl rfl) ?_; simp only [zp]; refine wi_end ?_; subst hQ; refine wp_cond_false rfl ?_; refine wp_skip ?_; refine wl_in (wl_cap fun Q hQ => ?_); refine vv (.int .i64 ((k + 1 : Nat) : Int)) 18 rfl rfl (ex_bin rfl rfl rfl (eg3 _ _ _ _ _ _) (add3 _ (by omega) (by omega))) ?_; refine vm (.int .i64 ((k + 1 : Nat) : Int)) 10 rfl rfl rfl rfl ?_; refine st_end ?_; subst hQ; refine then_go ?_
      first | (go_big_round; refine ⟨?rel, ?measure⟩) | (refine ⟨?_, ?measure⟩; (repeat apply Exists.intro); refine ⟨?rel, rfl⟩)
      case rel =>
        refine ⟨k + 1, by omega, rfl, ?_, hKc.trans hK9⟩; rw [List.take_add_one, he]; exact hJ9
      case measure => simp [intOf]; omega
    · have hke : k = (nxt L x).length := by omega
      subst k; rw [List.take_of_length_le (Nat.le_refl _)] at hJk; refine wq fun Q hQ => ?_; refine vv (.bool false) 11 rfl rfl (ex_bin (u := (.int .i64 ((nxt L x).length : Nat))) (r := (.int .i64 ((nxt L x).length : Nat))) rfl rfl rfl (eg3 _ _ _ _ _ _) (lss3 _ (decide_eq_false (by omega)))) ?_; refine st_end ?_; subst hQ; refine wp_seq ?_; refine wp_cond_false rfl ?_; refine wp_exit ?_; refine ex_then ?_; refine ex_then ?_; refine ex_blk ?_; exact bodyPost_end (results_none Try.results59 _ _ _) rfl ⟨⟨_, rfl⟩, .inl hJk⟩
end Go.Proofs.Ytgnkcmmpbohafaa

/- What is got by a range over what From hands back. -/
namespace Go.Proofs.Ytgnkcmmpbohafaa
open Go.RowKit
set_option linter.unusedVariables false
set_option linter.unusedSimpArgs false
set_option maxRecDepth 100000

def Got (b7 b9 : Nat) (r : Int) (w : World) (pre : List EV) (W : World) : Prop := ∃ v, W.heap[b9]? = some (.cells #[v] 33) ∧ W.ownsRow w.heap.size 49 13 v pre.length (cE pre) ∧ W.heap[b7]? = some (.cells #[.int .i64 r] 3) ∧ Kept (· = b9) w W
theorem no_cell {A : World} {B : Nat} {row : Option Nat} (hrow : ∀ r, row = some r → B ≤ r ∧ ∃ o : Obj, A.heap[r]? = some o ∧ o.isCells = false) {k t : Nat} {C : Array Value} (hk : A.heap[k]? = some (.cells C t)) : ¬ row = some k := fun e => by
  obtain ⟨_, o, ho, hc⟩ := hrow k e; rw [hk] at ho
  cases ho
  cases hc
theorem own_cells {W : World} {base e size n g : Nat} {v : Value} {xs : List Value} (h : W.ownsRow base e size v n xs) (hg : v.ownBlock = some g) : ∃ cur, W.heap[g]? = some (.cells cur e) := by
  rcases h.2 with ⟨rfl, _⟩ | ⟨g1, cap, cur, rfl, _, hgb, _⟩
  · cases hg
  · have : g1 = g := by simpa [Value.ownBlock] using hg
    subst this; exact ⟨cur, hgb⟩
theorem got_own {b7 b9 : Nat} {r : Int} {w : World} : OwnFrom w.heap.size (Got b7 b9 r w) := by
  rintro s A B row ⟨v, h9, hr, h7, hK⟩ hg hrow; have hKg := Kept.ofGrown hg; refine ⟨v, keepK hKg h9 (no_cell hrow h9), own_keepK hr hKg (fun g hg' => ?_), keepK hKg h7 (no_cell hrow h7), hK.putF hKg (fun j e => .inr (hrow j e).1)⟩; obtain ⟨cur, hgb⟩ := own_cells hr hg'; exact no_cell hrow hgb
theorem Got.below {b7 b9 : Nat} {r : Int} {w W W' : World} {pre : List EV} (h : Got b7 b9 r w pre W) (hB : Below W.heap.size W W') : Got b7 b9 r w pre W' := by
  obtain ⟨v, h9, hr, h7, hK⟩ := h; exact ⟨v, keep hB h9, own_keep hr hB, keep hB h7, hK.next hB⟩
/-- the first range over a function -/
def firstRF : Code → Option Code
  | .rangeFunc g ps a b => some (.rangeFunc g ps a b)
  | .loop c => firstRF c
  | .seq a b => match firstRF a with
    | some c => some c
    | none => firstRF b
  | .block _ c => firstRF c
  | .scope c => firstRF c
  | .cond _ a b => match firstRF a with
    | some c => some c
    | none => firstRF b
  | _ => none
theorem asg_frame {ps : Array Tmp} {T : Array Value} {v : Value} (h : ps = #[23]) : (ps.zip #[v]).foldl (fun t (p, v) => t.setIfInBounds p v) T = T.setIfInBounds 23 v := by
  subst h
  simp
theorem take_one {l pre : List EV} (h : pre <+: l) (h1 : pre.length = 1) : pre = l.take 1 := by
  obtain ⟨t, rfl⟩ := h; rw [← h1, List.take_left]
theorem mk9_some {b9 g n c : Nat} {W : World} (h : W.heap[b9]? = some (.cells #[.slice (some ⟨g, 0, none⟩) n c] 33)) : mk9 b9 W = g := by
  unfold mk9
  rw [at_cell (k := 0) (v := .slice (some ⟨g, 0, none⟩) n c) h rfl]
theorem mk9_nil {b9 : Nat} {W : World} (h : W.heap[b9]? = some (.cells #[.slice none 0 0] 33)) : mk9 b9 W = W.heap.size := by
  unfold mk9
  rw [at_cell (k := 0) (v := .slice none 0 0) h rfl]
set_option maxHeartbeats 16000000 in
theorem over_rng {c1 c2 g n c N b7 b9 : Nat} {ad : Addr} {L : List EV} {x r : Int} {ds : List Deferred} {s0 s1 s2 s3 s4 s5 s6 s8 s10 s11 s12 s13 s14 s15 s16 s17 s18 s19 s20 s21 s23 s24 s25 s26 s27 s28 s29 s30 s31 s32 s33 s34 s35 s36 s37 s38 s39 s40 s41 s42 s43 s44 s45 s46 s47 s48 s49 s50 s51 s52 s53 s54 s55 s56 s57 s58 s59 s60 s61 s62 s63 s64 s65 s66 s67 s68 s69 s70 s71 s72 s73 s74 s75 s76 s77 s78 s79 s80 s81 s82 s83 s84 s85 s86 s87 : Value} {Q : Exit → Act → World → Prop} (w : World) (k1 : w.heap[c1]? = some (.cells #[.pointer (some ⟨g, 0, none⟩)] 23)) (k2 : w.heap[c2]? = some (.cells #[.int .i64 x] 3)) (kg : w.heap[g]? = some (.cells #[.slice (some ad) n c] 105)) (hL : Es w N (some ad) L) (hn : n = L.length) (hn2 : n ≤ 64) (k9 : w.heap[b9]? = some (.cells #[.slice none 0 0] 33)) (k7 : w.heap[b7]? = some (.cells #[.int .i64 r] 3)) (hr : r = 0 ∨ r = 1)
    (hd : ∀ (D : Nat) (W : World), w.heap.size ≤ D → Got b7 b9 r w (if r = 0 then (nxt L x).take 1 else nxt L x) W → W.heap[D]? = some (.deferred (some [])) → Q .normal { tmps := #[s0, s1, s2, s3, s4, s5, s6, (.pointer (some ⟨b7, 0, none⟩)), s8, (.pointer (some ⟨b9, 0, none⟩)), s10, s11, s12, s13, s14, s15, s16, s17, s18, s19, s20, s21, (.func (.func 59) #[] #[.pointer (some ⟨c1, 0, none⟩), .pointer (some ⟨c2, 0, none⟩)]), s23, s24, s25, s26, s27, s28, s29, s30, s31, s32, s33, s34, s35, s36, s37, s38, s39, s40, s41, s42, s43, s44, s45, s46, s47, s48, s49, s50, s51, s52, s53, s54, s55, s56, s57, s58, s59, s60, s61, s62, s63, s64, s65, s66, s67, s68, s69, s70, s71, s72, s73, s74, s75, s76, s77, s78, s79, s80, s81, s82, s83, s84, s85, s86, s87], defers := { target := .collected D, args := #[] } :: ds } W ∧ Q (.exit 2) { tmps := #[s0, s1, s2, s3, s4, s5, s6, (.pointer (some ⟨b7, 0, none⟩)), s8, (.pointer (some ⟨b9, 0, none⟩)), s10, s11, s12, s13, s14, s15, s16, s17, s18, s19, s20, s21, (.func (.func 59) #[] #[.pointer (some ⟨c1, 0, none⟩), .pointer (some ⟨c2, 0, none⟩)]), s23, s24, s25, s26, s27, s28, s29, s30, s31, s32, s33, s34, s35, s36, s37, s38, s39, s40, s41, s42, s43, s44, s45, s46, s47, s48, s49, s50, s51, s52, s53, s54, s55, s56, s57, s58, s59, s60, s61, s62, s63, s64, s65, s66, s67, s68, s69, s70, s71, s72, s73, s74, s75, s76, s77, s78, s79, s80, s81, s82, s83, s84, s85, s86, s87], defers := { target := .collected D, args := #[] } :: ds } W) : ((Try.f11.body.bind firstRF).getD .skip).wp Try.prog Q { tmps := #[s0, s1, s2, s3, s4, s5, s6, (.pointer (some ⟨b7, 0, none⟩)), s8, (.pointer (some ⟨b9, 0, none⟩)), s10, s11, s12, s13, s14, s15, s16, s17, s18, s19, s20, s21, (.func (.func 59) #[] #[.pointer (some ⟨c1, 0, none⟩), .pointer (some ⟨c2, 0, none⟩)]), s23, s24, s25, s26, s27, s28, s29, s30, s31, s32, s33, s34, s35, s36, s37, s38, s39, s40, s41, s42, s43, s44, s45, s46, s47, s48, s49, s50, s51, s52, s53, s54, s55, s56, s57, s58, s59, s60, s61, s62, s63, s64, s65, s66, s67, s68, s69, s70, s71, s72, s73, s74, s75, s76, s77, s78, s79, s80, s81, s82, s83, s84, s85, s86, s87], defers := ds } w := by
  conv => arg 2; whnf
  have hM : (nxt L x).length ≤ 64 := Nat.le_trans (List.length_filter_le _ _) (by omega)
  have hlt9 := lt_of k9; have hlt7 := lt_of k7; refine (wpIn_wide (n := 3)).1 ?_
  refine wpIn_rangeFunc_ownH (F := Fence.wide) (α := EV) (encs := fun e => #[.agg (EL e)]) (Kp := Kp9 b9) (S := fun xs => xs = nxt L x) (Sp := fun pre => pre <+: nxt L x) (N := (nxt L x).length) (w0 := w) rfl (by decide) rfl trivial (fun args w => cf59 w args) ?seq (fun h k => h.trans k) (fun W l o o' _ hl ho _ => Kp9.put hl ho) (Below.refl _ _) (fun _ => rfl)
    (fun pre W => Got b7 b9 r w pre W ∧ (r = 0 → pre = [])) (fun c pre W => Got b7 b9 r w pre W ∧ c = .exit 2 ∧ r = 0 ∧ pre.length = 1) (got_own.and (fun _ _ _ _ h _ _ => h)) (fun c => got_own.and (fun _ _ _ _ h _ _ => h)) ⟨⟨_, k9, own_nil _ _ _ _, k7, Kept.refl _ _⟩, fun _ => rfl⟩
    (fun e a' W => ∃ bx, W.heap[bx]? = some (.cells (EL e) 49) ∧ a' = { tmps := #[s0, s1, s2, s3, s4, s5, s6, (.pointer (some ⟨b7, 0, none⟩)), s8, (.pointer (some ⟨b9, 0, none⟩)), .pointer (some ⟨bx, 0, none⟩), s11, s12, s13, s14, s15, s16, s17, s18, s19, s20, s21, (.func (.func 59) #[] #[.pointer (some ⟨c1, 0, none⟩), .pointer (some ⟨c2, 0, none⟩)]), .agg (EL e), s24, s25, s26, s27, s28, s29, s30, s31, s32, s33, s34, s35, s36, s37, s38, s39, s40, s41, s42, s43, s44, s45, s46, s47, s48, s49, s50, s51, s52, s53, s54, s55, s56, s57, s58, s59, s60, s61, s62, s63, s64, s65, s66, s67, s68, s69, s70, s71, s72, s73, s74, s75, s76, s77, s78, s79, s80, s81, s82, s83, s84, s85, s86, s87], defers := [] }) (fun e a' _ A B row h hg hrow => by
      obtain ⟨bx, hb, ha⟩ := h
      exact ⟨bx, keepK (Kept.ofGrown hg) hb (no_cell hrow hb), ha⟩) ?assign ?body ?done ?stop
  case seq =>
    intro l J Jx W hW hJ hJx hY h0; exact callsIn_wide.2 ((fr1_any (m := 3 - 1 - 1) W (keep hW k1) (keep hW k2) (keep hW kg) (hL.keepB hW) hn hn2 (keep hW k9) hJ hY h0).mono fun e W' hh => ⟨hh.1, hh.2.imp (fun h => ⟨_, rfl, h⟩) (fun h => h)⟩)
  case done =>
    rintro D xs W hD rfl ⟨hG, h0⟩ hK; refine (hd D W hD ?_ hK).1
    split
    · rename_i q
      rw [h0 q] at hG ⊢; exact hG
    · exact hG
  case stop =>
    rintro D c pre W hD hp ⟨hG, rfl, h0, h1⟩ hK; refine wpIn_exit ?_; refine (hd D W hD ?_ hK).2; rw [if_pos h0, ← take_one hp h1]; exact hG
  case assign =>
    rintro l pre e W K ⟨hG, h0⟩ hK; refine Eq.mpr (congrArg (fun t => Code.wpIn _ _ _ _ _ { tmps := t, defers := [] } _) (asg_frame rfl)) ?_; simp only [zp]; refine wi_in (wi_cap fun Q hQ => ?_); refine it_new (fun b => .pointer (some ⟨b, 0, none⟩)) (some 10) rfl rfl (ex_alloc rfl zero49) ?_; intro bx W2 kx gx B _; simp only [zp]; have E := B; obtain ⟨W3, hst, kn, KK⟩ := put_all (D := (EL e)) kx rfl inf49 (by kernel_rfl); refine it_sk rfl rfl (ex_store rfl rfl rfl hst) ?_; replace E := below_put E gx KK; refine wi_end ?_; subst hQ
    exact hK _ _ (KeepsFrom.of_grownBy (grown_none E) (fun j e => by cases e)) (Kp9.ofBelow E (by obtain ⟨v, h9, _⟩ := hG; exact lt_of h9)) ⟨hG.below E, h0⟩ ⟨bx, kn, rfl⟩
  case body =>
    rintro l pre e a' W hl hlp ⟨hG, h0⟩ ⟨bx, kx, rfl⟩ hlen; obtain ⟨v, h9, hrow, h7, hKw⟩ := hG; obtain ⟨ao, cc, rfl, hcc, hform⟩ := own_form hrow; refine wpIn_block ?_; refine wpIn_seq ?_; refine wi_in (wi_cap fun Q hQ => ?_); refine it_to (v := (.slice ao pre.length cc)) (some 24) rfl rfl (ex_load (p := (.pointer (some ⟨b9, 0, none⟩))) rfl rfl (ld33 (at_cell h9 rfl))) ?_; simp only [zp]; refine it_to (v := (.agg (EL e))) (some 25) rfl rfl (ex_load (p := (.pointer (some ⟨bx, 0, none⟩))) rfl rfl (ld_all kx Try.underlying49 rfl inf49)) ?_; simp only [zp]
    refine it_new (fun b => .slice (some ⟨b, 0, none⟩) 1 1) (some 26) rfl rfl (ex_bsl1 (u := (.agg (EL e))) rfl rfl (bslE e _)) ?_; intro bs W2 ks gs B _; simp only [zp]; have hrow2 := own_keep hrow B; have hKw2 := hKw.next B
    have hsz2 : w.heap.size ≤ W2.heap.size := Nat.le_trans hKw.size B.size
    obtain ⟨g', cap', W3, hr3, hown3, hK3, hloc3⟩ := own_add (c := 1) (m := 1) (t := 33) hrow2 (show W2.rangeAt bs 0 (EL e).toList from at_range (o := 0) (n := 13) ks (by show 0 + 13 ≤ _; simp [EL])) rfl (by rw [← cE_one]; exact cE_one1 [e]) Try.underlying33 Try.inf49b rfl (by decide) (by decide) (by omega) (by simp only [maxLen]; omega) hsz2; refine it_to (v := (.slice (some ⟨g', 0, none⟩) (pre.length + 1) cap')) (some 27) rfl rfl (ex_app rfl rfl rfl hr3) ?_; simp only [zp]
    have hn9 : ¬ (Value.slice ao pre.length cc).ownBlock = some b9 := own_ne hrow h9 (by decide)
    have hn7 : ¬ (Value.slice ao pre.length cc).ownBlock = some b7 := own_ne hrow h7 (by decide)
    have h93 := keepK hK3 (keep B h9) hn9; have h73 := keepK hK3 (keep B h7) hn7; obtain ⟨k94, K4⟩ := put_cell (i := 0) (.slice (some ⟨g', 0, none⟩) (pre.length + 1) cap') h93; refine it_sk rfl rfl (ex_store rfl rfl rfl (sto33 (at_cell h93 rfl) (unfrozen h93))) ?_; obtain ⟨W4, hW4⟩ : ∃ W', W3.setCell ⟨b9, 0, none⟩ (.slice (some ⟨g', 0, none⟩) (pre.length + 1) cap') = W' := ⟨_, rfl⟩; rw [hW4] at k94 K4 ⊢; have h74 := keepK K4 h73 (fun q => ne_tag h73 h93 (by decide) q)
    have hown4 : W4.ownsRow w.heap.size 49 13 (.slice (some ⟨g', 0, none⟩) (pre.length + 1) cap') (pre.length + 1) (cE pre ++ (EL e).toList) := own_keepK hown3 K4 (fun q hq => fun q2 => by
      subst q2
      exact own_ne hown3 h93 (by decide) hq)
    have hgot : Got b7 b9 r w (pre ++ [e]) W4 := by
      refine ⟨_, k94, ?_, h74, ?_⟩
      · rw [List.length_append, cE_app, cE_one]
        exact hown4
      · exact (hKw2.putF hK3 (fun j q => .inr (own_ge hrow2 q))).putF K4 (fun j q => .inl q)
    have hkf : KeepsFrom w.heap.size W W4 := by
      refine ⟨Nat.le_trans B.size (Nat.le_trans hK3.size K4.size), fun k ob _ hk hob => ?_⟩; have a1 := keep B hk
      have a2 := (hK3.block k (lt_of a1) (fun q => by
        obtain ⟨cur, hc⟩ := own_cells hrow2 q
        rw [a1] at hc; cases hc; cases hob)).trans a1
      exact (K4.block k (lt_of a2) (fun q => by
        subst q
        rw [a2] at h93; cases h93; cases hob)).trans a2
    have hkp : Kp9 b9 W W4 := by
      have hup : mk9 b9 W ≤ g' := by
        rcases hrow.2 with ⟨q, _⟩ | ⟨g1, cap1, cur1, q, _, hgb, _⟩
        · rw [q] at h9 hloc3
          rw [mk9_nil h9]
          rcases hloc3 with q2 | q2
          · cases q2
          · rw [q2]; exact B.size
        · rw [q] at h9 hloc3
          rw [mk9_some h9]
          rcases hloc3 with q2 | q2
          · have : g1 = g' := by simpa [Value.ownBlock] using q2
            omega
          · have := lt_of hgb
            have := B.size
            omega
      refine ⟨K4.os.trans (hK3.os.trans B.os), K4.tape.trans (hK3.tape.trans B.tape), K4.output.trans (hK3.output.trans B.output), Nat.le_trans B.size (Nat.le_trans hK3.size K4.size), ?_, fun k C t hk hb hc => ?_⟩
      · rw [mk9_some k94]; exact hup
      · have a1 := keep B hc
        have hno : ¬ (Value.slice ao pre.length cc).ownBlock = some k := fun q => by
          rcases hrow.2 with ⟨q1, _⟩ | ⟨g1, cap1, cur1, q1, _, hgb, _⟩
          · rw [q1] at q; cases q
          · rw [q1] at h9 q
            rw [mk9_some h9] at hk
            have : g1 = k := by simpa [Value.ownBlock] using q
            omega
        exact keepK K4 (keepK hK3 a1 hno) hb
    refine wi_end ?_; subst hQ; refine wpIn_seq ?_; refine wi_in (wi_cap fun Q hQ => ?_); refine it_to (v := (.int .i64 r)) (some 28) rfl rfl (ex_load (p := (.pointer (some ⟨b7, 0, none⟩))) rfl rfl (ld3 (at_cell h74 rfl))) ?_; simp only [zp]
    rcases hr with rfl | rfl
    · have hpre := h0 rfl
      subst hpre; refine it_to (v := (.bool true)) (some 29) rfl rfl (ex_bin (u := (.int .i64 0)) (r := (.int .i64 0)) rfl rfl rfl (eg3 _ _ _ _ _ _) (eql3 _ (decide_eq_true rfl))) ?_; simp only [zp]; refine it_to (v := (.bool true)) (some 30) rfl rfl (ex_mv rfl rfl) ?_; simp only [zp]; refine it_to (v := (.slice (some ⟨g', 0, none⟩) (([] : List EV).length + 1) cap')) (some 31) rfl rfl (ex_load (p := (.pointer (some ⟨b9, 0, none⟩))) rfl rfl (ld33 (at_cell k94 rfl))) ?_; simp only [zp]
      refine it_to (v := (.int .i64 ((([] : List EV).length + 1 : Nat) : Int))) (some 32) rfl rfl (ex_len rfl rfl (len33 _ _ _ _ _)) ?_; simp only [zp]; refine it_to (v := (.bool true)) (some 33) rfl rfl (ex_bin (u := (.int .i64 ((([] : List EV).length + 1 : Nat) : Int))) (r := (.int .i64 1)) rfl rfl rfl (eg3 _ _ _ _ _ _) (eql3 _ (decide_eq_true rfl))) ?_; simp only [zp]; refine it_to (v := (.bool true)) (some 34) rfl rfl (ex_pkT rfl rfl rfl) ?_; simp only [zp]; refine wi_end ?_; subst hQ; refine wpIn_cond_true rfl ?_; refine wpIn_exit ?_; exact ⟨hkf, hgot, rfl, rfl, rfl⟩
    · refine it_to (v := (.bool false)) (some 29) rfl rfl (ex_bin (u := (.int .i64 1)) (r := (.int .i64 0)) rfl rfl rfl (eg3 _ _ _ _ _ _) (eql3 _ (decide_eq_false (by decide)))) ?_
      simp only [zp]; refine it_to (v := (.bool false)) (some 30) rfl rfl (ex_mv rfl rfl) ?_; simp only [zp]; refine it_no (some 31) rfl rfl ?_; simp only [zp]; refine it_no (some 32) rfl rfl ?_; simp only [zp]; refine it_no (some 33) rfl rfl ?_; simp only [zp]; refine it_to (v := (.bool false)) (some 34) rfl rfl (ex_pkF rfl rfl rfl) ?_; simp only [zp]; refine wi_end ?_; subst hQ; refine wpIn_cond_false rfl ?_; refine wpIn_skip ?_; exact ⟨hkf, hkp, hgot, fun q => by cases q⟩
end Go.Proofs.Ytgnkcmmpbohafaa
