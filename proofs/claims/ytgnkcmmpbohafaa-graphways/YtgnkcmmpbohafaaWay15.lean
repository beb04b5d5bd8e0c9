/- Some texts, in one. -/
import Derived.Test.YtgnkcmmpbohafaaWay14
import Derived.Test.YtgnkcmmpbohafaaWay10
import Derived.Laws.StructEq
/- The document's graph: each call, whatever it is given. -/
namespace Go.Proofs.Ytgnkcmmpbohafaa
open Go.RowKit
set_option linter.unusedVariables false
set_option linter.unusedSimpArgs false
set_option maxRecDepth 100000

theorem Kept.wide {F H : Nat → Prop} {W W' : World} (h : Kept F W W') (hF : ∀ k, F k → H k) : Kept H W W' := ⟨h.os, h.tape, h.output, h.size, fun k hk hn => h.block k hk (fun e => hn (hF k e))⟩
theorem rq_some {W : World} {x j : Nat} {v : Value} {L : List EV} {d : EV} (hR : Rq W x v L) (hd : L[j]? = some d) : ∃ b c, v = .slice (some ⟨b, 0, none⟩) L.length c := by
  rcases own_or hR.2 with ⟨_, q⟩ | h
  · have := (List.getElem?_eq_some_iff.1 hd).1
    omega
  · exact h
theorem rq_parts {W : World} {x : Nat} {v : Value} {L : List EV} (hR : Rq W x v L) : ∃ ao c, v = .slice ao L.length c ∧ L.length ≤ c ∧ Es W W.heap.size ao L ∧ (ao = none → c = 0) ∧ (∀ ad, ao = some ad → ad.spot = none) := by
  obtain ⟨ao, c, e, hc, hL⟩ := own_Ev hR.2 rfl; refine ⟨ao, c, e, hc, hL, ?_, ?_⟩
  · rcases own_or hR.2 with ⟨q, _⟩ | ⟨b, c', q⟩
    · rw [q] at e
      injection e with e1 e2 e3
      exact fun _ => e3.symm
    · rw [q] at e
      cases e
      exact fun h => by cases h
  · rcases own_or hR.2 with ⟨q, _⟩ | ⟨b, c', q⟩
    · rw [q] at e
      injection e with e1 e2 e3
      exact fun _ h => by rw [← e1] at h; cases h
    · rw [q] at e
      cases e
      exact fun _ h => by cases h; rfl
theorem rqset_any {x : Nat} {v : Value} {L : List EV} {e : EV} (w : World) (hR : Rq w x v L) (hI : GI L) (he : EN e) : Calls Try.prog 28 #[.pointer (some ⟨x, 0, none⟩), .agg (EL e)] w fun q w' => q = .returned (.int .i64 (setN L e).1) ∧ ∃ v', Rq w' x v' (setN L e).2 ∧ (v'.ownBlock = v.ownBlock ∨ ∀ k, v'.ownBlock = some k → w.heap.size ≤ k) ∧ Kept (fun k => k = x ∨ v.ownBlock = some k) w w' := by
  unfold setN
  by_cases hm : mayE e = true
  · rw [if_pos hm]
    cases hj : atE e.ch e.fr L with
    | some j =>
      obtain ⟨d, hd, hk⟩ := at_some hj; obtain ⟨b, c, rfl⟩ := rq_some hR hd; refine (rset_there w hR.1 hR.2 hI.n hj hd hm).mono fun q w' h => ⟨h.1, _, ⟨h.2.1, ?_⟩, .inl rfl, h.2.2.2.wide (fun k e => .inr (by rw [e]; rfl))⟩
      show World.ownsRow _ _ _ _ _ (L.set j e).length _
      rw [List.length_set]; exact h.2.2.1
    | none =>
      obtain ⟨ao, c, rfl, hc, hL, hv, hsp⟩ := rq_parts hR
      by_cases hf : 64 ≤ L.length
      · simp only [if_pos hf]
        exact (rset_full w hR.1 hL rfl hI.n hj hm hf).mono fun q w' h => ⟨h.1, _, hR.keep h.2, .inl rfl, Kept.ofBelow h.2⟩
      · simp only [if_neg hf]
        refine (rset_new w hR.1 hL rfl hI.n hc hv hsp hj hm (by omega)).mono fun q w' h => ?_; obtain ⟨h1, g', c', h2, h3, h4⟩ := h; have hg := own_ge h3 rfl; refine ⟨h1, _, ⟨h2, ?_⟩, .inr (fun k hk => by cases hk; exact hg), h4.wide (fun k e => .inl e)⟩; rw [insE_len (pos_le _ _ _)]; exact own_base h3 (Nat.zero_le _)
  · rw [if_neg hm]
    obtain ⟨ao, c, rfl, hc, hL, hv, hsp⟩ := rq_parts hR; exact (rset_arg w hR.1 hL rfl hI.n (by simpa using hm)).mono fun q w' h => ⟨h.1, _, hR.keep h.2, .inl rfl, Kept.ofBelow h.2⟩
theorem rqrem_any {x : Nat} {v : Value} {L : List EV} {ch fr : Int} (w : World) (hR : Rq w x v L) (hI : GI L) : Calls Try.prog 29 #[.pointer (some ⟨x, 0, none⟩), .int .i64 ch, .int .i64 fr] w fun q w' => q = .returned (.int .i64 (remN L ch fr).1) ∧ ∃ v', Rq w' x v' (remN L ch fr).2 ∧ (v'.ownBlock = v.ownBlock ∨ ∀ k, v'.ownBlock = some k → w.heap.size ≤ k) ∧ Kept (fun k => k = x ∨ v.ownBlock = some k) w w' := by
  unfold remN
  obtain ⟨ao, c, rfl, hc, hL, hv, hsp⟩ := rq_parts hR
  cases hj : atE ch fr L with
  | some j =>
    obtain ⟨d, hd, hk⟩ := at_some hj; refine (rrem_yes w hR.1 hL rfl hI.n hc hv hsp hj hd).mono fun q w' h => ?_; obtain ⟨h1, g', c', h2, h3, h4⟩ := h; have hg := own_ge h3 rfl; have hjl := (List.getElem?_eq_some_iff.1 hd).1; refine ⟨h1, _, ⟨h2, ?_⟩, .inr (fun k hk => by cases hk; exact hg), h4.wide (fun k e => .inl e)⟩; rw [List.length_eraseIdx, if_pos hjl]; exact own_base h3 (Nat.zero_le _)
  | none => exact (rrem_no w hR.1 hL rfl hI.n hj).mono fun q w' h => ⟨h.1, _, hR.keep h.2, .inl rfl, Kept.ofBelow h.2⟩
theorem rqlrn_any {x : Nat} {v : Value} {L : List EV} {ch fr a t : Int} {gd : Bool} (w : World) (hR : Rq w x v L) (hI : GI L) (a1 : -9223372036854775808 ≤ a) (a2 : a ≤ 9223372036854775807) : Calls Try.prog 30 #[.pointer (some ⟨x, 0, none⟩), .int .i64 ch, .int .i64 fr, .int .i64 a, .int .i64 t, .bool gd] w fun q w' => q = .returned (.int .i64 (lrnL L ch fr a t gd).1) ∧ ∃ v', Rq w' x v' (lrnL L ch fr a t gd).2 ∧ (v'.ownBlock = v.ownBlock ∨ ∀ k, v'.ownBlock = some k → w.heap.size ≤ k) ∧ Kept (fun k => k = x ∨ v.ownBlock = some k) w w' := by
  unfold lrnL
  cases hj : atE ch fr L with
  | some j =>
    obtain ⟨d, hd, hk⟩ := at_some hj; simp only [hd]; obtain ⟨b, c, rfl⟩ := rq_some hR hd; refine (rlrn_yes w hR.1 hR.2 hI.n hj hd a1 a2).mono fun q w' h => ⟨h.1, _, ⟨h.2.1, ?_⟩, .inl rfl, h.2.2.2.wide (fun k e => .inr (by rw [e]; rfl))⟩; rw [List.length_set]; exact h.2.2.1
  | none =>
    obtain ⟨ao, c, rfl, hc, hL, hv, hsp⟩ := rq_parts hR; exact (rlrn_no w hR.1 hL rfl hI.n hj).mono fun q w' h => ⟨h.1, _, hR.keep h.2, .inl rfl, Kept.ofBelow h.2⟩
end Go.Proofs.Ytgnkcmmpbohafaa

/- Two graphs made by the same calls: what is kept of both. -/
namespace Go.Proofs.Ytgnkcmmpbohafaa
open Go.RowKit
set_option linter.unusedVariables false
set_option linter.unusedSimpArgs false
set_option maxRecDepth 100000
theorem Kept.putF {F H : Nat → Prop} {a b c : World} (h : Kept F a b) (k : Kept H b c) (hH : ∀ j, H j → F j ∨ a.heap.size ≤ j) : Kept F a c :=
  ⟨k.os.trans h.os, k.tape.trans h.tape, k.output.trans h.output, Nat.le_trans h.size k.size, fun j hj hn => (k.block j (Nat.lt_of_lt_of_le hj h.size) (fun e => (hH j e).elim hn (fun q => by omega))).trans (h.block j hj hn)⟩
/-- the program's graph and the document's, in a world that the call w began -/
structure GR (w W : World) (g b x : Nat) (v : Value) (L M : List EV) : Prop where
  gl : GI L
  gm : GI M
  G : Gq W g b L
  R : Rq W x v M
  D : v.ownBlock ≠ some b
  lg : w.heap.size ≤ g
  lb : w.heap.size ≤ b
  lx : w.heap.size ≤ x
  lv : ∀ k, v.ownBlock = some k → w.heap.size ≤ k
  E : Below w.heap.size w W
section
variable {w W W' : World} {g b x : Nat} {v : Value} {L M : List EV}
theorem Rq.lt (h : Rq W x v M) : x < W.heap.size ∧ ∀ k, v.ownBlock = some k → k < W.heap.size := ⟨lt_of h.1, fun k hk => (h.2.lt k hk).2⟩
theorem GR.keep (h : GR w W g b x v L M) (hB : Below W.heap.size W W') : GR w W' g b x v L M :=
  ⟨h.gl, h.gm, h.G.keep hB, h.R.keep hB, h.D, h.lg, h.lb, h.lx, h.lv, below_next h.E hB⟩
theorem GR.gx (h : GR w W g b x v L M) : ¬ (g = x ∨ v.ownBlock = some g) := by
  obtain ⟨c, kg, _⟩ := h.G; exact h.R.ne kg (by decide) (by decide)
theorem GR.bx (h : GR w W g b x v L M) : ¬ (b = x ∨ v.ownBlock = some b) := by
  obtain ⟨c, kg, hO⟩ := h.G; obtain ⟨cur, kb⟩ := own_blk hO; rintro (e | e)
  · exact ne_tag kb h.R.1 (by decide) e
  · exact h.D e
theorem GR.xg (h : GR w W g b x v L M) : ¬ (x = g ∨ x = b) := h.G.ne h.R.1 (by decide) (by decide)
theorem GR.vg (h : GR w W g b x v L M) (k : Nat) (hk : v.ownBlock = some k) : ¬ (k = g ∨ k = b) := by
  rintro (rfl | rfl)
  · exact h.gx (.inr hk)
  · exact h.D hk
/-- a block of another type is neither's -/
theorem GR.ne (h : GR w W g b x v L M) {k T : Nat} {C : Array Value} (hk : W.heap[k]? = some (.cells C T)) (h1 : T ≠ 105) (h2 : T ≠ 49) (h3 : T ≠ 74) : ¬ ((k = g ∨ k = b) ∨ (k = x ∨ v.ownBlock = some k)) :=
  fun e => e.elim (h.G.ne hk h1 h2) (h.R.ne hk h3 h2)
/-- a block of another type is stored into -/
theorem GR.put (h : GR w W g b x v L M) {k T : Nat} {C : Array Value} (hK : Kept (· = k) W W') (hk : W.heap[k]? = some (.cells C T)) (h1 : T ≠ 105) (h2 : T ≠ 49) (h3 : T ≠ 74) (hw : w.heap.size ≤ k) : GR w W' g b x v L M := by
  have hn := h.ne hk h1 h2 h3; exact ⟨h.gl, h.gm, h.G.keepK hK (fun e => hn (.inl (.inl e.symm))) (fun e => hn (.inl (.inr e.symm))), h.R.keepK hK (fun e => hn (.inr (.inl e.symm))) (fun j hj e => hn (.inr (.inr (e ▸ hj)))), h.D, h.lg, h.lb, h.lx, h.lv, below_put h.E hw hK⟩
/-- a new block is neither's -/
theorem GR.fresh (h : GR w W g b x v L M) {k : Nat} (hk : W.heap.size ≤ k) : ¬ ((k = g ∨ k = b) ∨ (k = x ∨ v.ownBlock = some k)) := by
  have h1 := h.G.lt; have h2 := h.R.lt; rintro ((e | e) | (e | e))
  · omega
  · omega
  · omega
  · have := h2.2 k e
    omega
theorem GR.putN (h : GR w W g b x v L M) {k : Nat} (hK : Kept (· = k) W W') (hn : ¬ ((k = g ∨ k = b) ∨ (k = x ∨ v.ownBlock = some k))) (hw : w.heap.size ≤ k) : GR w W' g b x v L M :=
  ⟨h.gl, h.gm, h.G.keepK hK (fun e => hn (.inl (.inl e.symm))) (fun e => hn (.inl (.inr e.symm))), h.R.keepK hK (fun e => hn (.inr (.inl e.symm))) (fun j hj e => hn (.inr (.inr (e ▸ hj)))), h.D, h.lg, h.lb, h.lx, h.lv, below_put h.E hw hK⟩
theorem GR.stepG {b' : Nat} {L' : List EV} (h : GR w W g b x v L M) (hI : GI L') (hG : Gq W' g b' L') (hb : b' = b ∨ W.heap.size ≤ b') (hK : Kept (fun k => k = g ∨ k = b) W W') : GR w W' g b' x v L' M := by
  refine ⟨hI, h.gm, hG, h.R.keepK hK h.xg h.vg, ?_, h.lg, ?_, h.lx, h.lv, h.E.trans (hK.below h.E.size (fun k e => e.elim (fun e => e ▸ h.lg) (fun e => e ▸ h.lb)))⟩
  · intro e
    have := h.R.lt.2 b' e
    rcases hb with rfl | hb
    · exact h.D e
    · omega
  · have := h.E.size
    have := h.lb
    omega
theorem GR.stepR {v' : Value} {M' : List EV} (h : GR w W g b x v L M) (hI : GI M') (hR : Rq W' x v' M') (hv : v'.ownBlock = v.ownBlock ∨ ∀ k, v'.ownBlock = some k → W.heap.size ≤ k) (hK : Kept (fun k => k = x ∨ v.ownBlock = some k) W W') : GR w W' g b x v' L M' := by
  refine ⟨h.gl, hI, h.G.keepK hK h.gx h.bx, hR, ?_, h.lg, h.lb, h.lx, ?_, h.E.trans (hK.below h.E.size (fun k e => e.elim (fun e => e ▸ h.lx) (h.lv k)))⟩
  · intro e
    have := h.G.lt.2
    rcases hv with hv | hv
    · exact h.D (hv ▸ e)
    · have := hv b e
      omega
  · intro k hk
    rcases hv with hv | hv
    · exact h.lv k (hv ▸ hk)
    · have := hv k hk
      have := h.E.size
      omega
/-- a copy goes on, whatever becomes of the other one -/
theorem GR.fork {W1 : World} {g' b' : Nat} (h : GR w W g b x v L M) (hB : Below W.heap.size W W1) (hG : Gq W1 g' b' L) (h1 : W.heap.size ≤ g') (h2 : W.heap.size ≤ b') (hK : Kept (fun k => k = g ∨ k = b) W1 W') : GR w W' g' b' x v L M := by
  have hl := h.G.lt; have hs := h.E.size; have h3 := h.keep hB; refine ⟨h.gl, h.gm, hG.keepK hK (by rintro (e | e) <;> omega) (by rintro (e | e) <;> omega), h3.R.keepK hK h3.xg h3.vg, ?_, by omega, by omega, h.lx, h.lv, h3.E.trans (hK.below h3.E.size (fun k e => e.elim (fun e => e ▸ h.lg) (fun e => e ▸ h.lb)))⟩; intro e
  have := h.R.lt.2 b' e
  omega
end
/-- numbers of a call -/
structure ON (p : OV) : Prop where
  e : EN p.e
  n1 : -9223372036854775808 ≤ p.n
  n2 : p.n ≤ 9223372036854775807
  t1 : -9223372036854775808 ≤ p.ti
  t2 : p.ti ≤ 9223372036854775807
/-- calls lie there, one behind the other -/
def OpAt (W : World) (ao : Option Addr) (n : Nat) (p : Nat → OV) : Prop := n = 0 ∨ ∃ b o, ao = some ⟨b, o, none⟩ ∧ ∀ i, i < n → W.rangeAt b (o + i * 17) (OL (p i)).toList
theorem wp_cap {c : Code} {Q : Exit → Act → World → Prop} {a : Act} {W : World} (h : ∀ Q' : Exit → Act → World → Prop, Q' = Q → c.wp Try.prog Q' a W) : c.wp Try.prog Q a W := h Q rfl
theorem egE (x y : Operand) (u v : Array Value) (W : World) : (eqGuard .neq 49 x y (.agg u) (.agg v)).run Try.prog W = .ok () W := run_eqGuard_agg W .neq 49 x y u v (by kernel_rfl)
theorem neqE (e : EV) (W : World) : (binOp .neq 49 (.agg (EL e)) (.agg (EL e))).run Try.prog W = .ok (.bool false) W := by
  unfold EL
  go_simp
theorem bRG (W : World) : (Instr.build 74 #[]).run Try.prog W = .ok (.agg #[.slice none 0 0]) W := run_build W 74 _ _ (by kernel_rfl)
end Go.Proofs.Ytgnkcmmpbohafaa

/- Both graphs of some calls: they are the same. -/
namespace Go.Proofs.Ytgnkcmmpbohafaa
open Go.RowKit
set_option linter.unusedVariables false
set_option linter.unusedSimpArgs false
set_option maxRecDepth 100000

theorem bothPost_nil {w W : World} {g x : Nat} (hG : Gr W w.heap.size g []) (hE : Below w.heap.size w W) (kx : W.heap[x]? = some (.cells #[.slice none 0 0] 74)) (hx : w.heap.size ≤ x) : ∃ b v, GR w W g b x v [] [] := by
  have h1 : w.heap.size ≤ g := by obtain ⟨_, _, _, h, _⟩ := hG; exact h
  obtain ⟨b, hb, hQ⟩ := hG.gq; exact ⟨b, .slice none 0 0, ⟨GI.nil, GI.nil, hQ, ⟨kx, World.ownsRow_nil _ _ _ _⟩, (fun h => by cases h), h1, hb, hx, (fun k hk => by cases hk), hE⟩⟩
set_option maxHeartbeats 64000000 in
theorem both_any {ao : Option Addr} {n c : Nat} {p : Nat → OV} (w : World) (hP : OpAt w ao n p) (hN : ∀ i, i < n → ON (p i)) (hn : n ≤ 140737488355328) : Calls Try.prog 9 #[.slice ao n c] w fun q w' => ∃ g b x v L, q = .returned (.tuple #[.pointer (some ⟨g, 0, none⟩), .pointer (some ⟨x, 0, none⟩), .bool true]) ∧ GR w w' g b x v L L := by
  have E : Below w.heap.size w w := Below.refl _ _
  go_enter Try.func9, Try.ntmps9; refine wq fun Q hQ => ?_; refine vg (.pointer none) 2 rfl rfl rfl rfl ?_; refine vg (.pointer none) 3 rfl rfl rfl rfl ?_; refine vg (.bool false) 4 rfl rfl rfl rfl ?_; refine st_end ?_; subst hQ; refine wq fun Q hQ => ?_; refine st_call (some 15) rfl rfl (new_any w) (ex_call (f := 27) (vs := []) rfl (cf27 _) rfl) ?_; rintro e W1 ⟨g0, rfl, hG0, B⟩; refine ⟨_, rfl, ?_⟩; simp only [zp]; replace E := below_next E B; refine vv (.agg #[.slice none 0 0]) 16 rfl rfl (ex_build0  rfl (bRG _)) ?_
  refine st_new (fun b => .pointer (some ⟨b, 0, none⟩)) (some 17) rfl rfl (ex_box rfl rfl) ?_; intro b21 W2 k21 g21 B; simp only [zp]; have ge_b21 := Nat.le_trans E.size g21; replace E := below_next E B; replace hG0 := hG0.keep B; clear B; refine vg (Pz g0 0) 5 rfl rfl rfl rfl ?_; refine vg (Pz b21 0) 6 rfl rfl rfl rfl ?_; refine st_end ?_; subst hQ; refine wp_seq ?_; refine wq fun Q hQ => ?_; refine vm (Pz g0 0) 18 rfl rfl rfl rfl ?_; refine vv (.bool false) 19 rfl rfl (ex_pnil (t := 0) rfl rfl rfl rfl) ?_; refine st_end ?_; subst hQ; refine wp_cond_false rfl ?_; refine wp_skip ?_
  refine wp_seq ?_; refine wq fun Q hQ => ?_; refine vg (.int .i64 0) 7 rfl rfl rfl rfl ?_; refine st_end ?_; subst hQ; refine wp_block ?_; obtain ⟨b0, v0, hH0⟩ := bothPost_nil hG0 E k21 ge_b21; clear k21
  go_loopw [5, 7] (fun v5 v7 wr => ∃ (i g b : Nat) (v : Value) (L : List EV), i ≤ n ∧ v5 = .pointer (some ⟨g, 0, none⟩) ∧ v7 = .int .i64 i ∧ GR w wr g b b21 v L L) (fun _ v7 _ => n - (intOf v7).toNat)
  case atStart => exact ⟨0, g0, b0, v0, [], Nat.zero_le _, rfl, rfl, hH0⟩
  case round =>
    clear E hH0; obtain ⟨i, g, b, v, L, hi, rfl, rfl, hH⟩ := hrel; have E := hH.E; obtain ⟨x, hxx⟩ : ∃ x, x = b21 := ⟨_, rfl⟩; rw [← hxx] at hH ⊢
    by_cases hlt : i < n
    · rcases hP with h | ⟨ob, oo, rfl, hP⟩
      · omega
      have hon := hN i hlt; have hor := range_below (hP i hlt) E; refine wp_seq ?_; refine wq fun Q hQ => ?_; refine vm (.int .i64 (i : Nat)) 20 rfl rfl rfl rfl ?_; refine vm (.slice (some ⟨ob, oo, none⟩) n c) 21 rfl rfl rfl rfl ?_; refine vv (.int .i64 (n : Nat)) 22 rfl rfl (ex_len rfl rfl (len22 _ _ _ _ _)) ?_; refine vv (.bool true) 23 rfl rfl (ex_bin (u := (.int .i64 (i : Nat))) (r := (.int .i64 (n : Nat))) rfl rfl rfl (eg3 _ _ _ _ _ _) (lss3 _ (decide_eq_true (by omega)))) ?_; refine st_end ?_; subst hQ; refine wp_cond_true rfl ?_; refine wp_skip ?_; refine wp_seq ?_
      refine wp_block ?_; refine wq fun Q hQ => ?_; refine vm (.slice (some ⟨ob, oo, none⟩) n c) 26 rfl rfl rfl rfl ?_; refine vm (.int .i64 (i : Nat)) 27 rfl rfl rfl rfl ?_; refine vv (.pointer (some ⟨ob, (oo + i * 17), none⟩)) 28 rfl rfl (ix22 (k := i) rfl rfl rfl (rfl) (hlt)) ?_; refine vv (.agg (OL (p i))) 29 rfl rfl (ex_load rfl rfl (ld_range hor Try.underlying60 rfl inf60)) ?_; refine st_new (fun b => .pointer (some ⟨b, 0, none⟩)) (some 8) rfl rfl (ex_alloc rfl zero60) ?_; intro b22 W3 k22 g22 B; simp only [zp]; have ge_b22 := Nat.le_trans E.size g22; replace E := below_next E B
      replace hH := hH.keep B; replace hor := range_below hor B; clear B; obtain ⟨W4, hst, kn, K⟩ := put_all (D := (OL (p i))) k22 rfl inf60 (by kernel_rfl); refine st_sk rfl rfl (ex_store rfl rfl rfl hst) ?_; replace E := below_put E ge_b22 K; replace hH := hH.put K k22 (by decide) (by decide) (by decide) ge_b22; replace hor := hor; replace k22 := kn; clear kn K hst; refine st_end ?_; subst hQ; refine wq fun Q hQ => ?_; refine vg (.bool true) 9 rfl rfl rfl rfl ?_; refine st_end ?_; subst hQ; refine wp_seq ?_; refine wq fun Q hQ => ?_
      refine vv (Pz b22 0) 30 rfl rfl (ex_fa (p := (Pz b22 0)) rfl rfl (fa60_0 _ _)) ?_; refine vv (.int .i64 (p i).kd) 31 rfl rfl (ex_load (p := (Pz b22 0)) rfl rfl (ld3 (at_cell k22 rfl))) ?_; refine st_end ?_; subst hQ; clear hor; refine wp_cap fun Qs hQs => ?_
      have hQsP : ∀ c (a : Act) (d : Nat) v w, Qs (.panic c) (a.put (some d) v) w → Qs (.panic c) a w := by
        subst hQs; exact fun _ _ _ _ _ h => h
      suffices JOIN : ∀ (j2 j3 j4 j10 j32 j33 j34 j35 j36 j37 j38 j39 j40 j41 j42 j43 j44 j45 j46 j47 j48 j49 j50 j51 j52 j53 j54 j55 j56 j57 j58 j59 j60 j61 j62 j63 j64 j65 j66 j67 j68 j69 j70 j71 j72 j73 j74 j75 j76 j77 j78 j79 j80 j81 j82 j83 j84 j85 j86 j87 j88 j89 j90 j91 j92 j93 j94 j95 j96 j97 j98 j99 j100 j101 j102 j103 j104 j105 j106 j107 : Value) (Wj : World) (gj bj : Nat) (vj : Value) (Lj : List EV) (hj : GR w Wj gj bj x vj Lj Lj) (kj : Wj.heap[b22]? = some (.cells (OL (p i)) 60)), Qs .normal { tmps := #[(.slice (some ⟨ob, oo, none⟩) n c), undef, j2, j3, j4, (Pz gj 0), (Pz x 0), (.int .i64 (i : Nat)), (Pz b22 0), (.bool true), j10, u11, u12, u13, u14, (Pz g0 0), (.agg #[.slice none 0 0]), (Pz x 0), (Pz g0 0), (.bool false), (.int .i64 (i : Nat)), (.slice (some ⟨ob, oo, none⟩) n c), (.int .i64 (n : Nat)), (.bool true), u24, u25, (.slice (some ⟨ob, oo, none⟩) n c), (.int .i64 (i : Nat)), (.pointer (some ⟨ob, (oo + i * 17), none⟩)), (.agg (OL (p i))), (Pz b22 0), (.int .i64 (p i).kd), j32, j33, j34, j35, j36, j37, j38, j39, j40, j41, j42, j43, j44, j45, j46, j47, j48, j49, j50, j51, j52, j53, j54, j55, j56, j57, j58, j59, j60, j61, j62, j63, j64, j65, j66, j67, j68, j69, j70, j71, j72, j73, j74, j75, j76, j77, j78, j79, j80, j81, j82, j83, j84, j85, j86, j87, j88, j89, j90, j91, j92, j93, j94, j95, j96, j97, j98, j99, j100, j101, j102, j103, j104, j105, j106, j107, u108, u109, u110, u111, u112, u113, u114, u115, u116, u117, u118, u119, u120, u121, u122, u123, u124, u125, u126, u127, u128, u129, u130, u131, u132, u133, u134, u135, u136, u137, u138, u139, u140, u141, u142, u143, u144, u145, u146, u147, u148, u149, u150, u151, undef, undef], defers := [] } Wj by
        by_cases q1 : (p i).kd = 1
        · skip
          refine wp_block ?_; refine wq fun Q hQ => ?_; refine vv (.bool true) 33 rfl rfl (ex_bin (u := (.int .i64 (p i).kd)) (r := (.int .i64 1)) rfl rfl rfl (eg3 _ _ _ _ _ _) (eql3 _ (decide_eq_true q1))) ?_; refine vg (.bool true) 32 rfl rfl rfl rfl ?_; refine st_end ?_; subst hQ; refine wp_cond_true rfl ?_; obtain ⟨W5, hwd⟩ : ∃ wd, W4.drew = wd := ⟨_, rfl⟩; refine wp_region_held (S := fun W => Kept (fun k => (k = g ∨ k = b) ∨ (k = x ∨ v.ownBlock = some k)) W5 W) (by kernel_rfl) ?_
          show wpAnyH _ _ _ _ _ _ _ _ W4.drew
          rw [hwd]; refine capQ fun Q hQ => ?_
          have hQP : ∀ c (a : Act) (d : Nat) v w, Q (.panic c) (a.put (some d) v) w → Q (.panic c) a w := by
            subst hQ; exact fun c a d v w h => hQsP c a d v w h
          have BD : Below W4.heap.size W4 W5 := by rw [← hwd]; exact below_drewB (Below.refl _ _)
          clear hwd; replace E := below_next E BD; replace hH := hH.keep BD; replace k22 := keep BD k22; clear BD
          have S : Kept (fun k => (k = g ∨ k = b) ∨ (k = x ∨ v.ownBlock = some k)) W5 W5 := Kept.refl _ _
          have d_k22 := k22; have d_hH := hH; refine tk (Pz g 0) 0 34 rfl rfl rfl (fun W hK => ex_mv rfl rfl) S hQP ?_; refine tk (Pz b22 1) 1 35 rfl rfl rfl (fun W hK => ex_fa (p := (Pz b22 0)) rfl rfl (fa60_1 _ _)) S hQP ?_; refine tk (.agg (EL (p i).e)) 2 36 rfl rfl rfl (fun W hK => ex_load (p := (Pz b22 1)) rfl rfl (ldOE (keepK hK d_k22 (d_hH.ne d_k22 (by decide) (by decide) (by decide))))) S hQP ?_; refine tk (Pz x 0) 4 38 rfl rfl rfl (fun W hK => ex_mv rfl rfl) S hQP ?_; refine tk (Pz b22 1) 5 39 rfl rfl rfl (fun W hK => ex_fa (p := (Pz b22 0)) rfl rfl (fa60_1 _ _)) S hQP ?_
          refine tk (.agg (EL (p i).e)) 6 40 rfl rfl rfl (fun W hK => ex_load (p := (Pz b22 1)) rfl rfl (ldOE (keepK hK d_k22 (d_hH.ne d_k22 (by decide) (by decide) (by decide))))) S hQP ?_; refine ah_or1 (i := 3) (by kernel_rfl) ?_; refine nx_call (some 37) rfl rfl rfl (qset_any W5 hH.G hH.gl hon.e) (ex_call (f := 21) (vs := [(Pz g 0), (.agg (EL (p i).e))]) rfl (cf21 _) rfl) ?_; rintro e W6 ⟨rfl, b2, hG2, hb2, hK2⟩; refine ⟨_, rfl, S.putF hK2 (fun j e => .inl (.inl e)), ?_⟩; simp only [zp]; replace k22 := keepK hK2 k22 (fun e => hH.ne k22 (by decide) (by decide) (by decide) (.inl e))
          replace S := S.putF hK2 (fun j e => .inl (.inl e)); replace hH := hH.stepG (hH.gl.set hon.e) hG2 hb2 hK2; clear hG2 hb2 hK2; replace E := hH.E; refine ah_or1 (i := 7) (by kernel_rfl) ?_; refine nx_call (some 41) rfl rfl rfl (rqset_any W6 hH.R hH.gm hon.e) (ex_call (f := 28) (vs := [(Pz x 0), (.agg (EL (p i).e))]) rfl (cf28 _) rfl) ?_; rintro e W7 ⟨rfl, v2, hR2, hv2, hK2⟩; refine ⟨_, rfl, S.putF hK2 (fun j e => .inl (.inr e)), ?_⟩; simp only [zp]; replace k22 := keepK hK2 k22 (fun e => hH.ne k22 (by decide) (by decide) (by decide) (.inr e))
          replace S := S.putF hK2 (fun j e => .inl (.inr e)); replace hH := hH.stepR (hH.gm.set hon.e) hR2 hv2 hK2; clear hR2 hv2 hK2; replace E := hH.E; refine tk (.bool true) 8 42 rfl rfl rfl (fun W hK => ex_bin (u := (.int .i64 (setN L (p i).e).1)) (r := (.int .i64 (setN L (p i).e).1)) rfl rfl rfl (eg37 _ _ _ _ _ _) (eql37 _ (decide_eq_true rfl))) S hQP ?_; refine tk (.bool true) 9 9 rfl rfl rfl (fun W hK => ex_asg rfl rfl) S hQP ?_; refine ah_done (by kernel_rfl) ?_; clear hQP; subst hQ; clear S d_k22 d_hH; refine nrm_blk ?_
          exact JOIN _ _ _ _ _ _ _ _ _ _ _ _ _ _ _ _ _ _ _ _ _ _ _ _ _ _ _ _ _ _ _ _ _ _ _ _ _ _ _ _ _ _ _ _ _ _ _ _ _ _ _ _ _ _ _ _ _ _ _ _ _ _ _ _ _ _ _ _ _ _ _ _ _ _ _ _ _ _ _ _ _ _ _ _ _ hH k22
        by_cases q2 : (p i).kd = 2
        · skip
          refine wp_block ?_; refine wq fun Q hQ => ?_; refine vv (.bool false) 33 rfl rfl (ex_bin (u := (.int .i64 (p i).kd)) (r := (.int .i64 1)) rfl rfl rfl (eg3 _ _ _ _ _ _) (eql3 _ (decide_eq_false q1))) ?_; refine vg (.bool false) 32 rfl rfl rfl rfl ?_; refine st_end ?_; subst hQ; refine wp_cond_false rfl ?_; refine wq fun Q hQ => ?_; refine vv (.bool true) 44 rfl rfl (ex_bin (u := (.int .i64 (p i).kd)) (r := (.int .i64 2)) rfl rfl rfl (eg3 _ _ _ _ _ _) (eql3 _ (decide_eq_true q2))) ?_; refine vg (.bool true) 43 rfl rfl rfl rfl ?_; refine st_end ?_; subst hQ
          refine wp_cond_true rfl ?_; obtain ⟨W8, hwd⟩ : ∃ wd, W4.drew = wd := ⟨_, rfl⟩; refine wp_region_held (S := fun W => Kept (fun k => (k = g ∨ k = b) ∨ (k = x ∨ v.ownBlock = some k)) W8 W) (by kernel_rfl) ?_
          show wpAnyH _ _ _ _ _ _ _ _ W4.drew
          rw [hwd]; refine capQ fun Q hQ => ?_
          have hQP : ∀ c (a : Act) (d : Nat) v w, Q (.panic c) (a.put (some d) v) w → Q (.panic c) a w := by
            subst hQ; exact fun c a d v w h => hQsP c a d v w h
          have BD : Below W4.heap.size W4 W8 := by rw [← hwd]; exact below_drewB (Below.refl _ _)
          clear hwd; replace E := below_next E BD; replace hH := hH.keep BD; replace k22 := keep BD k22; clear BD
          have S : Kept (fun k => (k = g ∨ k = b) ∨ (k = x ∨ v.ownBlock = some k)) W8 W8 := Kept.refl _ _
          have d_k22 := k22; have d_hH := hH; refine tk (Pz g 0) 0 45 rfl rfl rfl (fun W hK => ex_mv rfl rfl) S hQP ?_; refine tk (Pz b22 1) 1 46 rfl rfl rfl (fun W hK => ex_fa (p := (Pz b22 0)) rfl rfl (fa60_1 _ _)) S hQP ?_; refine tk (Pz b22 1) 2 47 rfl rfl rfl (fun W hK => ex_fa (p := (Pz b22 1)) rfl rfl (fg49_0 _ _ _)) S hQP ?_; refine tk (.int .i64 (p i).e.ch) 3 48 rfl rfl rfl (fun W hK => ex_load (p := (Pz b22 1)) rfl rfl (ld3 (at_cell (keepK hK d_k22 (d_hH.ne d_k22 (by decide) (by decide) (by decide))) rfl))) S hQP ?_
          refine tk (Pz b22 1) 4 49 rfl rfl rfl (fun W hK => ex_fa (p := (Pz b22 0)) rfl rfl (fa60_1 _ _)) S hQP ?_; refine tk (Pz b22 2) 5 50 rfl rfl rfl (fun W hK => ex_fa (p := (Pz b22 1)) rfl rfl (fg49_1 _ _ _)) S hQP ?_; refine tk (.int .i64 (p i).e.fr) 6 51 rfl rfl rfl (fun W hK => ex_load (p := (Pz b22 2)) rfl rfl (ld3 (at_cell (keepK hK d_k22 (d_hH.ne d_k22 (by decide) (by decide) (by decide))) rfl))) S hQP ?_; refine tk (Pz x 0) 8 53 rfl rfl rfl (fun W hK => ex_mv rfl rfl) S hQP ?_
          refine tk (Pz b22 1) 9 54 rfl rfl rfl (fun W hK => ex_fa (p := (Pz b22 0)) rfl rfl (fa60_1 _ _)) S hQP ?_; refine tk (Pz b22 1) 10 55 rfl rfl rfl (fun W hK => ex_fa (p := (Pz b22 1)) rfl rfl (fg49_0 _ _ _)) S hQP ?_; refine tk (.int .i64 (p i).e.ch) 11 56 rfl rfl rfl (fun W hK => ex_load (p := (Pz b22 1)) rfl rfl (ld3 (at_cell (keepK hK d_k22 (d_hH.ne d_k22 (by decide) (by decide) (by decide))) rfl))) S hQP ?_; refine tk (Pz b22 1) 12 57 rfl rfl rfl (fun W hK => ex_fa (p := (Pz b22 0)) rfl rfl (fa60_1 _ _)) S hQP ?_
          refine tk (Pz b22 2) 13 58 rfl rfl rfl (fun W hK => ex_fa (p := (Pz b22 1)) rfl rfl (fg49_1 _ _ _)) S hQP ?_; refine tk (.int .i64 (p i).e.fr) 14 59 rfl rfl rfl (fun W hK => ex_load (p := (Pz b22 2)) rfl rfl (ld3 (at_cell (keepK hK d_k22 (d_hH.ne d_k22 (by decide) (by decide) (by decide))) rfl))) S hQP ?_; refine ah_or1 (i := 7) (by kernel_rfl) ?_; refine nx_call (some 52) rfl rfl rfl (qrem_any W8 hH.G hH.gl ) (ex_call (f := 22) (vs := [(Pz g 0), (.int .i64 (p i).e.ch), (.int .i64 (p i).e.fr)]) rfl (cf22 _) rfl) ?_; rintro e W9 ⟨rfl, b2, hG2, hb2, hK2⟩
          refine ⟨_, rfl, S.putF hK2 (fun j e => .inl (.inl e)), ?_⟩; simp only [zp]; replace k22 := keepK hK2 k22 (fun e => hH.ne k22 (by decide) (by decide) (by decide) (.inl e)); replace S := S.putF hK2 (fun j e => .inl (.inl e)); replace hH := hH.stepG (hH.gl.rem) hG2 hb2 hK2; clear hG2 hb2 hK2; replace E := hH.E; refine ah_or1 (i := 15) (by kernel_rfl) ?_; refine nx_call (some 60) rfl rfl rfl (rqrem_any W9 hH.R hH.gm ) (ex_call (f := 29) (vs := [(Pz x 0), (.int .i64 (p i).e.ch), (.int .i64 (p i).e.fr)]) rfl (cf29 _) rfl) ?_; rintro e W10 ⟨rfl, v2, hR2, hv2, hK2⟩
          refine ⟨_, rfl, S.putF hK2 (fun j e => .inl (.inr e)), ?_⟩; simp only [zp]; replace k22 := keepK hK2 k22 (fun e => hH.ne k22 (by decide) (by decide) (by decide) (.inr e)); replace S := S.putF hK2 (fun j e => .inl (.inr e)); replace hH := hH.stepR (hH.gm.rem) hR2 hv2 hK2; clear hR2 hv2 hK2; replace E := hH.E; refine tk (.bool true) 16 61 rfl rfl rfl (fun W hK => ex_bin (u := (.int .i64 (remN L (p i).e.ch (p i).e.fr).1)) (r := (.int .i64 (remN L (p i).e.ch (p i).e.fr).1)) rfl rfl rfl (eg37 _ _ _ _ _ _) (eql37 _ (decide_eq_true rfl))) S hQP ?_
          refine tk (.bool true) 17 9 rfl rfl rfl (fun W hK => ex_asg rfl rfl) S hQP ?_; refine ah_done (by kernel_rfl) ?_; clear hQP; subst hQ; clear S d_k22 d_hH; refine nrm_blk ?_; exact JOIN _ _ _ _ _ _ _ _ _ _ _ _ _ _ _ _ _ _ _ _ _ _ _ _ _ _ _ _ _ _ _ _ _ _ _ _ _ _ _ _ _ _ _ _ _ _ _ _ _ _ _ _ _ _ _ _ _ _ _ _ _ _ _ _ _ _ _ _ _ _ _ _ _ _ _ _ _ _ _ _ _ _ _ _ _ hH k22
        by_cases q3 : (p i).kd = 3
        · skip
          refine wp_block ?_; refine wq fun Q hQ => ?_; refine vv (.bool false) 33 rfl rfl (ex_bin (u := (.int .i64 (p i).kd)) (r := (.int .i64 1)) rfl rfl rfl (eg3 _ _ _ _ _ _) (eql3 _ (decide_eq_false q1))) ?_; refine vg (.bool false) 32 rfl rfl rfl rfl ?_; refine st_end ?_; subst hQ; refine wp_cond_false rfl ?_; refine wq fun Q hQ => ?_; refine vv (.bool false) 44 rfl rfl (ex_bin (u := (.int .i64 (p i).kd)) (r := (.int .i64 2)) rfl rfl rfl (eg3 _ _ _ _ _ _) (eql3 _ (decide_eq_false q2))) ?_; refine vg (.bool false) 43 rfl rfl rfl rfl ?_; refine st_end ?_; subst hQ
          refine wp_cond_false rfl ?_; refine wq fun Q hQ => ?_; refine vv (.bool true) 63 rfl rfl (ex_bin (u := (.int .i64 (p i).kd)) (r := (.int .i64 3)) rfl rfl rfl (eg3 _ _ _ _ _ _) (eql3 _ (decide_eq_true q3))) ?_; refine vg (.bool true) 62 rfl rfl rfl rfl ?_; refine st_end ?_; subst hQ; refine wp_cond_true rfl ?_; obtain ⟨W11, hwd⟩ : ∃ wd, W4.drew = wd := ⟨_, rfl⟩; refine wp_region_held (S := fun W => Kept (fun k => (k = g ∨ k = b) ∨ (k = x ∨ v.ownBlock = some k)) W11 W) (by kernel_rfl) ?_
          show wpAnyH _ _ _ _ _ _ _ _ W4.drew
          rw [hwd]; refine capQ fun Q hQ => ?_
          have hQP : ∀ c (a : Act) (d : Nat) v w, Q (.panic c) (a.put (some d) v) w → Q (.panic c) a w := by
            subst hQ; exact fun c a d v w h => hQsP c a d v w h
          have BD : Below W4.heap.size W4 W11 := by rw [← hwd]; exact below_drewB (Below.refl _ _)
          clear hwd; replace E := below_next E BD; replace hH := hH.keep BD; replace k22 := keep BD k22; clear BD
          have S : Kept (fun k => (k = g ∨ k = b) ∨ (k = x ∨ v.ownBlock = some k)) W11 W11 := Kept.refl _ _
          have d_k22 := k22; have d_hH := hH; refine tk (Pz g 0) 0 64 rfl rfl rfl (fun W hK => ex_mv rfl rfl) S hQP ?_; refine tk (Pz b22 1) 1 65 rfl rfl rfl (fun W hK => ex_fa (p := (Pz b22 0)) rfl rfl (fa60_1 _ _)) S hQP ?_; refine tk (Pz b22 1) 2 66 rfl rfl rfl (fun W hK => ex_fa (p := (Pz b22 1)) rfl rfl (fg49_0 _ _ _)) S hQP ?_; refine tk (.int .i64 (p i).e.ch) 3 67 rfl rfl rfl (fun W hK => ex_load (p := (Pz b22 1)) rfl rfl (ld3 (at_cell (keepK hK d_k22 (d_hH.ne d_k22 (by decide) (by decide) (by decide))) rfl))) S hQP ?_
          refine tk (Pz b22 1) 4 68 rfl rfl rfl (fun W hK => ex_fa (p := (Pz b22 0)) rfl rfl (fa60_1 _ _)) S hQP ?_; refine tk (Pz b22 2) 5 69 rfl rfl rfl (fun W hK => ex_fa (p := (Pz b22 1)) rfl rfl (fg49_1 _ _ _)) S hQP ?_; refine tk (.int .i64 (p i).e.fr) 6 70 rfl rfl rfl (fun W hK => ex_load (p := (Pz b22 2)) rfl rfl (ld3 (at_cell (keepK hK d_k22 (d_hH.ne d_k22 (by decide) (by decide) (by decide))) rfl))) S hQP ?_; refine tk (Pz b22 14) 7 71 rfl rfl rfl (fun W hK => ex_fa (p := (Pz b22 0)) rfl rfl (fa60_2 _ _)) S hQP ?_
          refine tk (.int .i64 (p i).n) 8 72 rfl rfl rfl (fun W hK => ex_load (p := (Pz b22 14)) rfl rfl (ld3 (at_cell (keepK hK d_k22 (d_hH.ne d_k22 (by decide) (by decide) (by decide))) rfl))) S hQP ?_; refine tk (Pz b22 15) 9 73 rfl rfl rfl (fun W hK => ex_fa (p := (Pz b22 0)) rfl rfl (fa60_3 _ _)) S hQP ?_; refine tk (.int .i64 (p i).ti) 10 74 rfl rfl rfl (fun W hK => ex_load (p := (Pz b22 15)) rfl rfl (ld3 (at_cell (keepK hK d_k22 (d_hH.ne d_k22 (by decide) (by decide) (by decide))) rfl))) S hQP ?_
          refine tk (Pz b22 16) 11 75 rfl rfl rfl (fun W hK => ex_fa (p := (Pz b22 0)) rfl rfl (fa60_4 _ _)) S hQP ?_; refine tk (.bool (p i).gd) 12 76 rfl rfl rfl (fun W hK => ex_load (p := (Pz b22 16)) rfl rfl (ld4 (at_cell (keepK hK d_k22 (d_hH.ne d_k22 (by decide) (by decide) (by decide))) rfl))) S hQP ?_; refine tk (Pz x 0) 14 78 rfl rfl rfl (fun W hK => ex_mv rfl rfl) S hQP ?_; refine tk (Pz b22 1) 15 79 rfl rfl rfl (fun W hK => ex_fa (p := (Pz b22 0)) rfl rfl (fa60_1 _ _)) S hQP ?_
          refine tk (Pz b22 1) 16 80 rfl rfl rfl (fun W hK => ex_fa (p := (Pz b22 1)) rfl rfl (fg49_0 _ _ _)) S hQP ?_; refine tk (.int .i64 (p i).e.ch) 17 81 rfl rfl rfl (fun W hK => ex_load (p := (Pz b22 1)) rfl rfl (ld3 (at_cell (keepK hK d_k22 (d_hH.ne d_k22 (by decide) (by decide) (by decide))) rfl))) S hQP ?_; refine tk (Pz b22 1) 18 82 rfl rfl rfl (fun W hK => ex_fa (p := (Pz b22 0)) rfl rfl (fa60_1 _ _)) S hQP ?_; refine tk (Pz b22 2) 19 83 rfl rfl rfl (fun W hK => ex_fa (p := (Pz b22 1)) rfl rfl (fg49_1 _ _ _)) S hQP ?_
          refine tk (.int .i64 (p i).e.fr) 20 84 rfl rfl rfl (fun W hK => ex_load (p := (Pz b22 2)) rfl rfl (ld3 (at_cell (keepK hK d_k22 (d_hH.ne d_k22 (by decide) (by decide) (by decide))) rfl))) S hQP ?_; refine tk (Pz b22 14) 21 85 rfl rfl rfl (fun W hK => ex_fa (p := (Pz b22 0)) rfl rfl (fa60_2 _ _)) S hQP ?_; refine tk (.int .i64 (p i).n) 22 86 rfl rfl rfl (fun W hK => ex_load (p := (Pz b22 14)) rfl rfl (ld3 (at_cell (keepK hK d_k22 (d_hH.ne d_k22 (by decide) (by decide) (by decide))) rfl))) S hQP ?_
          refine tk (Pz b22 15) 23 87 rfl rfl rfl (fun W hK => ex_fa (p := (Pz b22 0)) rfl rfl (fa60_3 _ _)) S hQP ?_; refine tk (.int .i64 (p i).ti) 24 88 rfl rfl rfl (fun W hK => ex_load (p := (Pz b22 15)) rfl rfl (ld3 (at_cell (keepK hK d_k22 (d_hH.ne d_k22 (by decide) (by decide) (by decide))) rfl))) S hQP ?_; refine tk (Pz b22 16) 25 89 rfl rfl rfl (fun W hK => ex_fa (p := (Pz b22 0)) rfl rfl (fa60_4 _ _)) S hQP ?_
          refine tk (.bool (p i).gd) 26 90 rfl rfl rfl (fun W hK => ex_load (p := (Pz b22 16)) rfl rfl (ld4 (at_cell (keepK hK d_k22 (d_hH.ne d_k22 (by decide) (by decide) (by decide))) rfl))) S hQP ?_; refine ah_or1 (i := 13) (by kernel_rfl) ?_; refine nx_call (some 77) rfl rfl rfl (qlrn_any W11 hH.G hH.gl hon.n1 hon.n2) (ex_call (f := 23) (vs := [(Pz g 0), (.int .i64 (p i).e.ch), (.int .i64 (p i).e.fr), (.int .i64 (p i).n), (.int .i64 (p i).ti), (.bool (p i).gd)]) rfl (cf23 _) rfl) ?_; rintro e W12 ⟨rfl, b2, hG2, hb2, hK2⟩; refine ⟨_, rfl, S.putF hK2 (fun j e => .inl (.inl e)), ?_⟩
          simp only [zp]; replace k22 := keepK hK2 k22 (fun e => hH.ne k22 (by decide) (by decide) (by decide) (.inl e)); replace S := S.putF hK2 (fun j e => .inl (.inl e)); replace hH := hH.stepG (hH.gl.lrn hon.t1 hon.t2) hG2 hb2 hK2; clear hG2 hb2 hK2; replace E := hH.E; refine ah_or1 (i := 27) (by kernel_rfl) ?_; refine nx_call (some 91) rfl rfl rfl (rqlrn_any W12 hH.R hH.gm hon.n1 hon.n2) (ex_call (f := 30) (vs := [(Pz x 0), (.int .i64 (p i).e.ch), (.int .i64 (p i).e.fr), (.int .i64 (p i).n), (.int .i64 (p i).ti), (.bool (p i).gd)]) rfl (cf30 _) rfl) ?_
          rintro e W13 ⟨rfl, v2, hR2, hv2, hK2⟩; refine ⟨_, rfl, S.putF hK2 (fun j e => .inl (.inr e)), ?_⟩; simp only [zp]; replace k22 := keepK hK2 k22 (fun e => hH.ne k22 (by decide) (by decide) (by decide) (.inr e)); replace S := S.putF hK2 (fun j e => .inl (.inr e)); replace hH := hH.stepR (hH.gm.lrn hon.t1 hon.t2) hR2 hv2 hK2; clear hR2 hv2 hK2; replace E := hH.E
          refine tk (.bool true) 28 92 rfl rfl rfl (fun W hK => ex_bin (u := (.int .i64 (lrnL L (p i).e.ch (p i).e.fr (p i).n (p i).ti (p i).gd).1)) (r := (.int .i64 (lrnL L (p i).e.ch (p i).e.fr (p i).n (p i).ti (p i).gd).1)) rfl rfl rfl (eg37 _ _ _ _ _ _) (eql37 _ (decide_eq_true rfl))) S hQP ?_; refine tk (.bool true) 29 9 rfl rfl rfl (fun W hK => ex_asg rfl rfl) S hQP ?_; refine ah_done (by kernel_rfl) ?_; clear hQP; subst hQ; clear S d_k22 d_hH; refine nrm_blk ?_
          exact JOIN _ _ _ _ _ _ _ _ _ _ _ _ _ _ _ _ _ _ _ _ _ _ _ _ _ _ _ _ _ _ _ _ _ _ _ _ _ _ _ _ _ _ _ _ _ _ _ _ _ _ _ _ _ _ _ _ _ _ _ _ _ _ _ _ _ _ _ _ _ _ _ _ _ _ _ _ _ _ _ _ _ _ _ _ _ hH k22
        by_cases q4 : (p i).kd = 4
        · skip
          refine wp_block ?_; refine wq fun Q hQ => ?_; refine vv (.bool false) 33 rfl rfl (ex_bin (u := (.int .i64 (p i).kd)) (r := (.int .i64 1)) rfl rfl rfl (eg3 _ _ _ _ _ _) (eql3 _ (decide_eq_false q1))) ?_; refine vg (.bool false) 32 rfl rfl rfl rfl ?_; refine st_end ?_; subst hQ; refine wp_cond_false rfl ?_; refine wq fun Q hQ => ?_; refine vv (.bool false) 44 rfl rfl (ex_bin (u := (.int .i64 (p i).kd)) (r := (.int .i64 2)) rfl rfl rfl (eg3 _ _ _ _ _ _) (eql3 _ (decide_eq_false q2))) ?_; refine vg (.bool false) 43 rfl rfl rfl rfl ?_; refine st_end ?_; subst hQ
          refine wp_cond_false rfl ?_; refine wq fun Q hQ => ?_; refine vv (.bool false) 63 rfl rfl (ex_bin (u := (.int .i64 (p i).kd)) (r := (.int .i64 3)) rfl rfl rfl (eg3 _ _ _ _ _ _) (eql3 _ (decide_eq_false q3))) ?_; refine vg (.bool false) 62 rfl rfl rfl rfl ?_; refine st_end ?_; subst hQ; refine wp_cond_false rfl ?_; refine wq fun Q hQ => ?_; refine vv (.bool true) 94 rfl rfl (ex_bin (u := (.int .i64 (p i).kd)) (r := (.int .i64 4)) rfl rfl rfl (eg3 _ _ _ _ _ _) (eql3 _ (decide_eq_true q4))) ?_; refine vg (.bool true) 93 rfl rfl rfl rfl ?_; refine st_end ?_; subst hQ
          refine wp_cond_true rfl ?_; refine wq fun Q hQ => ?_; refine vm (Pz g 0) 95 rfl rfl rfl rfl ?_; refine st_call (some 96) rfl rfl (qfork_any W4 hH.G hH.gl) (ex_call (f := 25) (vs := [(Pz g 0)]) rfl (cf25 _) rfl) ?_; rintro e W14 ⟨g2, b2, rfl, hGf, hgf, hbf, B⟩; have hHf := hH; have Bf := B; refine ⟨_, rfl, ?_⟩; simp only [zp]; replace E := below_next E B; replace hH := hH.keep B; replace k22 := keep B k22; refine vg (Pz g2 0) 10 rfl rfl rfl rfl ?_; refine st_end ?_; subst hQ; refine wp_seq ?_; refine wq fun Q hQ => ?_; refine vm (Pz g2 0) 97 rfl rfl rfl rfl ?_
          refine vv (.bool false) 98 rfl rfl (ex_pnil (t := 0) rfl rfl rfl rfl) ?_; refine st_end ?_; subst hQ; refine wp_cond_false rfl ?_; refine wp_skip ?_; refine wq fun Q hQ => ?_; refine vm (Pz g 0) 99 rfl rfl rfl rfl ?_; refine vv (Pz b22 1) 100 rfl rfl (ex_fa (p := (Pz b22 0)) rfl rfl (fa60_1 _ _)) ?_; refine vv (Pz b22 1) 101 rfl rfl (ex_fa (p := (Pz b22 1)) rfl rfl (fg49_0 _ _ _)) ?_; refine vv (.int .i64 (p i).e.ch) 102 rfl rfl (ex_load (p := (Pz b22 1)) rfl rfl (ld3 (at_cell k22 rfl))) ?_; refine vv (Pz b22 1) 103 rfl rfl (ex_fa (p := (Pz b22 0)) rfl rfl (fa60_1 _ _)) ?_
          refine vv (Pz b22 2) 104 rfl rfl (ex_fa (p := (Pz b22 1)) rfl rfl (fg49_1 _ _ _)) ?_; refine vv (.int .i64 (p i).e.fr) 105 rfl rfl (ex_load (p := (Pz b22 2)) rfl rfl (ld3 (at_cell k22 rfl))) ?_; refine st_call (some 106) rfl rfl (qrem_any (ch := (p i).e.ch) (fr := (p i).e.fr) W14 hH.G hH.gl) (ex_call (f := 22) (vs := [(Pz g 0), (.int .i64 (p i).e.ch), (.int .i64 (p i).e.fr)]) rfl (cf22 _) rfl) ?_; rintro e W15 ⟨rfl, b3, hG2, hb2, hK2⟩; refine ⟨_, rfl, ?_⟩; simp only [zp]; replace k22 := keepK hK2 k22 (fun e => hH.ne k22 (by decide) (by decide) (by decide) (.inl e))
          replace hH := hHf.fork Bf hGf hgf hbf hK2; replace E := hH.E; clear hHf Bf hGf hgf hbf hG2 hb2 hK2; refine st_end ?_; subst hQ; refine wl_in (wl_cap fun Q hQ => ?_); refine vm (Pz g2 0) 107 rfl rfl rfl rfl ?_; refine vg (Pz g2 0) 5 rfl rfl rfl rfl ?_; refine st_end ?_; subst hQ; refine nrm_blk ?_; exact JOIN _ _ _ _ _ _ _ _ _ _ _ _ _ _ _ _ _ _ _ _ _ _ _ _ _ _ _ _ _ _ _ _ _ _ _ _ _ _ _ _ _ _ _ _ _ _ _ _ _ _ _ _ _ _ _ _ _ _ _ _ _ _ _ _ _ _ _ _ _ _ _ _ _ _ _ _ _ _ _ _ _ _ _ _ _ hH k22
        refine wp_block ?_; refine wq fun Q hQ => ?_; refine vv (.bool false) 33 rfl rfl (ex_bin (u := (.int .i64 (p i).kd)) (r := (.int .i64 1)) rfl rfl rfl (eg3 _ _ _ _ _ _) (eql3 _ (decide_eq_false q1))) ?_; refine vg (.bool false) 32 rfl rfl rfl rfl ?_; refine st_end ?_; subst hQ; refine wp_cond_false rfl ?_; refine wq fun Q hQ => ?_; refine vv (.bool false) 44 rfl rfl (ex_bin (u := (.int .i64 (p i).kd)) (r := (.int .i64 2)) rfl rfl rfl (eg3 _ _ _ _ _ _) (eql3 _ (decide_eq_false q2))) ?_; refine vg (.bool false) 43 rfl rfl rfl rfl ?_; refine st_end ?_; subst hQ
        refine wp_cond_false rfl ?_; refine wq fun Q hQ => ?_; refine vv (.bool false) 63 rfl rfl (ex_bin (u := (.int .i64 (p i).kd)) (r := (.int .i64 3)) rfl rfl rfl (eg3 _ _ _ _ _ _) (eql3 _ (decide_eq_false q3))) ?_; refine vg (.bool false) 62 rfl rfl rfl rfl ?_; refine st_end ?_; subst hQ; refine wp_cond_false rfl ?_; refine wq fun Q hQ => ?_; refine vv (.bool false) 94 rfl rfl (ex_bin (u := (.int .i64 (p i).kd)) (r := (.int .i64 4)) rfl rfl rfl (eg3 _ _ _ _ _ _) (eql3 _ (decide_eq_false q4))) ?_; refine vg (.bool false) 93 rfl rfl rfl rfl ?_; refine st_end ?_; subst hQ
        refine wp_cond_false rfl ?_; refine wp_skip ?_; refine nrm_blk ?_; exact JOIN _ _ _ _ _ _ _ _ _ _ _ _ _ _ _ _ _ _ _ _ _ _ _ _ _ _ _ _ _ _ _ _ _ _ _ _ _ _ _ _ _ _ _ _ _ _ _ _ _ _ _ _ _ _ _ _ _ _ _ _ _ _ _ _ _ _ _ _ _ _ _ _ _ _ _ _ _ _ _ _ _ _ _ _ _ hH k22
      intro j2 j3 j4 j10 j32 j33 j34 j35 j36 j37 j38 j39 j40 j41 j42 j43 j44 j45 j46 j47 j48 j49 j50 j51 j52 j53 j54 j55 j56 j57 j58 j59 j60 j61 j62 j63 j64 j65 j66 j67 j68 j69 j70 j71 j72 j73 j74 j75 j76 j77 j78 j79 j80 j81 j82 j83 j84 j85 j86 j87 j88 j89 j90 j91 j92 j93 j94 j95 j96 j97 j98 j99 j100 j101 j102 j103 j104 j105 j106 j107 Wj gj bj vj Lj hj kj; clear hQsP; subst hQs; clear hH E k22; have hH := hj; have E := hH.E; clear hj; obtain ⟨aj, cj, rfl, hcj, hLj, hvj, hsj⟩ := rq_parts hH.R; have kxj := hH.R.1; refine wq fun Q hQ => ?_; refine vm (Pz gj 0) 109 rfl rfl rfl rfl ?_
      refine vv (Pz b22 1) 110 rfl rfl (ex_fa (p := (Pz b22 0)) rfl rfl (fa60_1 _ _)) ?_; refine vv (Pz b22 1) 111 rfl rfl (ex_fa (p := (Pz b22 1)) rfl rfl (fg49_0 _ _ _)) ?_; refine vv (.int .i64 (p i).e.ch) 112 rfl rfl (ex_load (p := (Pz b22 1)) rfl rfl (ld3 (at_cell kj rfl))) ?_; refine vv (Pz b22 1) 113 rfl rfl (ex_fa (p := (Pz b22 0)) rfl rfl (fa60_1 _ _)) ?_; refine vv (Pz b22 2) 114 rfl rfl (ex_fa (p := (Pz b22 1)) rfl rfl (fg49_1 _ _ _)) ?_; refine vv (.int .i64 (p i).e.fr) 115 rfl rfl (ex_load (p := (Pz b22 2)) rfl rfl (ld3 (at_cell kj rfl))) ?_
      refine st_call (some 116) rfl rfl (qget_any (ch := (p i).e.ch) (fr := (p i).e.fr) Wj hH.G hH.gl) (ex_call (f := 20) (vs := [(Pz gj 0), (.int .i64 (p i).e.ch), (.int .i64 (p i).e.fr)]) rfl (cf20 _) rfl) ?_; rintro e W16 ⟨rfl, B⟩; refine ⟨_, rfl, ?_⟩; simp only [zp]; replace E := below_next E B; replace hH := hH.keep B; replace kj := keep B kj; replace kxj := keep B kxj; refine vm (.tuple #[(.agg (EL (getN Lj (p i).e.ch (p i).e.fr).1)), (.bool (getN Lj (p i).e.ch (p i).e.fr).2)]) 108 rfl rfl rfl rfl ?_
      refine vv (.agg (EL (getN Lj (p i).e.ch (p i).e.fr).1)) 117 rfl rfl (ex_ext rfl rfl rfl) ?_; refine vv (.bool (getN Lj (p i).e.ch (p i).e.fr).2) 118 rfl rfl (ex_ext rfl rfl rfl) ?_; refine st_new (fun b => .pointer (some ⟨b, 0, none⟩)) (some 11) rfl rfl (ex_alloc rfl zero49) ?_; intro b23 W17 k23 g23 B; simp only [zp]; have nf_b23 := hH.fresh g23
      have ne_b23_b22 : b23 ≠ b22 := fun e => by have := lt_of kj; omega
      have ne_b23_x : b23 ≠ x := fun e => by have := lt_of kxj; omega
      have ge_b23 := Nat.le_trans E.size g23; replace E := below_next E B; replace hH := hH.keep B; replace kj := keep B kj; replace kxj := keep B kxj; clear B; obtain ⟨W18, hst, kn, K⟩ := put_all (D := (EL (getN Lj (p i).e.ch (p i).e.fr).1)) k23 rfl inf49 (by kernel_rfl); refine st_sk rfl rfl (ex_store rfl rfl rfl hst) ?_; replace E := below_put E ge_b23 K; replace hH := hH.putN K nf_b23 ge_b23; replace kj := keepK K kj (fun e => ne_tag kj k23 (by decide) e); replace kxj := keepK K kxj (fun e => ne_tag kxj k23 (by decide) e); replace k23 := kn; clear kn K hst
      refine vg (.bool (getN Lj (p i).e.ch (p i).e.fr).2) 12 rfl rfl rfl rfl ?_; refine st_end ?_; subst hQ; refine wq fun Q hQ => ?_; refine vm (Pz x 0) 120 rfl rfl rfl rfl ?_; refine vv (Pz b22 1) 121 rfl rfl (ex_fa (p := (Pz b22 0)) rfl rfl (fa60_1 _ _)) ?_; refine vv (Pz b22 1) 122 rfl rfl (ex_fa (p := (Pz b22 1)) rfl rfl (fg49_0 _ _ _)) ?_; refine vv (.int .i64 (p i).e.ch) 123 rfl rfl (ex_load (p := (Pz b22 1)) rfl rfl (ld3 (at_cell kj rfl))) ?_; refine vv (Pz b22 1) 124 rfl rfl (ex_fa (p := (Pz b22 0)) rfl rfl (fa60_1 _ _)) ?_
      refine vv (Pz b22 2) 125 rfl rfl (ex_fa (p := (Pz b22 1)) rfl rfl (fg49_1 _ _ _)) ?_; refine vv (.int .i64 (p i).e.fr) 126 rfl rfl (ex_load (p := (Pz b22 2)) rfl rfl (ld3 (at_cell kj rfl))) ?_; refine st_call (some 127) rfl rfl (rqget_any (ch := (p i).e.ch) (fr := (p i).e.fr) W18 hH.R hH.gm) (ex_call (f := 31) (vs := [(Pz x 0), (.int .i64 (p i).e.ch), (.int .i64 (p i).e.fr)]) rfl (cf31 _) rfl) ?_; rintro e W19 ⟨rfl, B⟩; refine ⟨_, rfl, ?_⟩; simp only [zp]; replace E := below_next E B; replace hH := hH.keep B; replace kj := keep B kj; replace kxj := keep B kxj
      replace k23 := keep B k23; refine vm (.tuple #[(.agg (EL (getN Lj (p i).e.ch (p i).e.fr).1)), (.bool (getN Lj (p i).e.ch (p i).e.fr).2)]) 119 rfl rfl rfl rfl ?_; refine vv (.agg (EL (getN Lj (p i).e.ch (p i).e.fr).1)) 128 rfl rfl (ex_ext rfl rfl rfl) ?_; refine vv (.bool (getN Lj (p i).e.ch (p i).e.fr).2) 129 rfl rfl (ex_ext rfl rfl rfl) ?_; refine st_new (fun b => .pointer (some ⟨b, 0, none⟩)) (some 13) rfl rfl (ex_alloc rfl zero49) ?_; intro b24 W20 k24 g24 B; simp only [zp]; have nf_b24 := hH.fresh g24
      have ne_b24_b22 : b24 ≠ b22 := fun e => by have := lt_of kj; omega
      have ne_b24_x : b24 ≠ x := fun e => by have := lt_of kxj; omega
      have ne_b24_b23 : b24 ≠ b23 := fun e => by have := lt_of k23; omega
      have ge_b24 := Nat.le_trans E.size g24; replace E := below_next E B; replace hH := hH.keep B; replace kj := keep B kj; replace kxj := keep B kxj; replace k23 := keep B k23; clear B; obtain ⟨W21, hst, kn, K⟩ := put_all (D := (EL (getN Lj (p i).e.ch (p i).e.fr).1)) k24 rfl inf49 (by kernel_rfl); refine st_sk rfl rfl (ex_store rfl rfl rfl hst) ?_; replace E := below_put E ge_b24 K; replace hH := hH.putN K nf_b24 ge_b24; replace kj := keepK K kj (fun e => ne_tag kj k24 (by decide) e); replace kxj := keepK K kxj (fun e => ne_tag kxj k24 (by decide) e)
      replace k23 := keepK K k23 (fun e => by first | exact ne_b23_b24 e | exact ne_b24_b23 e.symm); replace k24 := kn; clear kn K hst; refine vg (.bool (getN Lj (p i).e.ch (p i).e.fr).2) 14 rfl rfl rfl rfl ?_; refine st_end ?_; subst hQ; refine wp_seq ?_; obtain ⟨W22, hwd⟩ : ∃ wd, W21.drew = wd := ⟨_, rfl⟩; refine wp_region_held (S := fun W => Kept Nil W22 W) (by kernel_rfl) ?_
      show wpAnyH _ _ _ _ _ _ _ _ W21.drew
      rw [hwd]; refine capQ fun Q hQ => ?_
      have hQP : ∀ c (a : Act) (d : Nat) v w, Q (.panic c) (a.put (some d) v) w → Q (.panic c) a w := by
        subst hQ; exact fun _ _ _ _ _ h => h
      have BD : Below W21.heap.size W21 W22 := by rw [← hwd]; exact below_drewB (Below.refl _ _)
      clear hwd; replace E := below_next E BD; replace hH := hH.keep BD; replace kj := keep BD kj; replace kxj := keep BD kxj; replace k23 := keep BD k23; replace k24 := keep BD k24; clear BD
      have S : Kept Nil W22 W22 := Kept.refl _ _
      have d_kj := kj; have d_kxj := kxj; have d_k23 := k23; have d_k24 := k24; have d_hH := hH; refine tk (.bool true) 0 130 rfl rfl rfl (fun W hK => ex_mv rfl rfl) S hQP ?_; refine tk (.bool false) 1 131 rfl rfl rfl (fun W hK => ex_not rfl rfl rfl) S hQP ?_; refine tk (.bool false) 2 132 rfl rfl rfl (fun W hK => ex_mv rfl rfl) S hQP ?_; refine tk (.agg (EL (getN Lj (p i).e.ch (p i).e.fr).1)) 3 133 rfl rfl rfl (fun W hK => ex_load (p := (Pz b23 0)) rfl rfl (ld_all (keepK hK d_k23 (nilN _)) Try.underlying49 rfl inf49)) S hQP ?_
      refine tk (.agg (EL (getN Lj (p i).e.ch (p i).e.fr).1)) 4 134 rfl rfl rfl (fun W hK => ex_load (p := (Pz b24 0)) rfl rfl (ld_all (keepK hK d_k24 (nilN _)) Try.underlying49 rfl inf49)) S hQP ?_; refine tk (.bool false) 5 135 rfl rfl rfl (fun W hK => ex_bin rfl rfl rfl (egE _ _ _ _ _) (neqE _ _)) S hQP ?_; refine tk (.bool false) 6 136 rfl rfl rfl (fun W hK => ex_pkF rfl rfl rfl) S hQP ?_; refine tk (.bool false) 7 137 rfl rfl rfl (fun W hK => ex_mv rfl rfl) S hQP ?_; refine tk (.bool (getN Lj (p i).e.ch (p i).e.fr).2) 8 138 rfl rfl rfl (fun W hK => ex_mv rfl rfl) S hQP ?_
      refine tk (.bool (getN Lj (p i).e.ch (p i).e.fr).2) 9 139 rfl rfl rfl (fun W hK => ex_mv rfl rfl) S hQP ?_; refine tk (.bool false) 10 140 rfl rfl rfl (fun W hK => ex_bin rfl rfl rfl (eg4 _ _ _ _ _ _) (neq4 _ (by simp))) S hQP ?_; refine tk (.bool false) 11 141 rfl rfl rfl (fun W hK => ex_pkF rfl rfl rfl) S hQP ?_; refine tk (.bool false) 12 142 rfl rfl rfl (fun W hK => ex_mv rfl rfl) S hQP ?_; refine tk (Pz gj 0) 13 143 rfl rfl rfl (fun W hK => ex_mv rfl rfl) S hQP ?_; refine tk (Pz x 0) 15 145 rfl rfl rfl (fun W hK => ex_mv rfl rfl) S hQP ?_
      refine tk (Pz x 0) 16 146 rfl rfl rfl (fun W hK => ex_nil (p := (Pz x 0)) rfl rfl rfl) S hQP ?_; refine tk (Pz x 0) 17 147 rfl rfl rfl (fun W hK => ex_fa (p := (Pz x 0)) rfl rfl (fa74_0 _ _)) S hQP ?_; refine tk (.slice aj Lj.length cj) 18 148 rfl rfl rfl (fun W hK => ex_load (p := (Pz x 0)) rfl rfl (ld33 (at_cell (keepK hK d_kxj (nilN _)) rfl))) S hQP ?_; refine tk (.int .i64 (Lj.length : Nat)) 19 149 rfl rfl rfl (fun W hK => ex_len rfl rfl (len33 _ _ _ _ _)) S hQP ?_; refine ah_or1 (i := 14) (by kernel_rfl) ?_
      refine nx_call (some 144) rfl rfl rfl (qlen_any W22 hH.G) (ex_call (f := 24) (vs := [(Pz gj 0)]) rfl (cf24 _) rfl) ?_; rintro e W23 ⟨rfl, B⟩; refine ⟨_, rfl, S.next B, ?_⟩; simp only [zp]; replace E := below_next E B; replace hH := hH.keep B; replace kj := keep B kj; replace kxj := keep B kxj; replace k23 := keep B k23; replace k24 := keep B k24; replace S := S.next B
      refine tk (.bool false) 20 150 rfl rfl rfl (fun W hK => ex_bin (u := (.int .i64 (Lj.length : Nat))) (r := (.int .i64 (Lj.length : Nat))) rfl rfl rfl (eg3 _ _ _ _ _ _) (neq3 _ (decide_eq_false (fun h => h rfl)))) S hQP ?_; refine tk (.bool false) 21 151 rfl rfl rfl (fun W hK => ex_pkF rfl rfl rfl) S hQP ?_; refine ah_done (by kernel_rfl) ?_; clear hQP; subst hQ; clear S d_kj d_kxj d_k23 d_k24 d_hH; refine wp_cond_false rfl ?_; refine wp_skip ?_; refine wl_in (wl_cap fun Q hQ => ?_); refine vm (.int .i64 (i : Nat)) 24 rfl rfl rfl rfl ?_
      refine vv (.int .i64 ((i + 1 : Nat) : Int)) 25 rfl rfl (ex_bin rfl rfl rfl (eg3 _ _ _ _ _ _) (add3 _ (by omega) (by omega))) ?_; refine vg (.int .i64 ((i + 1 : Nat) : Int)) 7 rfl rfl rfl rfl ?_; refine st_end ?_; subst hQ; refine then_go ?_
      first | (go_big_round; refine ⟨?rel, ?measure⟩) | (refine ⟨?_, ?measure⟩; (repeat apply Exists.intro); refine ⟨?rel, rfl⟩)
      case rel => exact ⟨i + 1, gj, bj, _, Lj, by omega, rfl, rfl, hH⟩
      case measure => simp [intOf]; omega
    · have hin : i = n := by omega
      subst i; refine wp_seq ?_; refine wq fun Q hQ => ?_; refine vm (.int .i64 (n : Nat)) 20 rfl rfl rfl rfl ?_; refine vm (.slice ao n c) 21 rfl rfl rfl rfl ?_; refine vv (.int .i64 (n : Nat)) 22 rfl rfl (ex_len rfl rfl (len22 _ _ _ _ _)) ?_; refine vv (.bool false) 23 rfl rfl (ex_bin (u := (.int .i64 (n : Nat))) (r := (.int .i64 (n : Nat))) rfl rfl rfl (eg3 _ _ _ _ _ _) (lss3 _ (decide_eq_false (by omega)))) ?_; refine st_end ?_; subst hQ; refine wp_cond_false rfl ?_; refine wp_exit ?_; refine ex_then ?_; refine ex_then ?_; refine ex_blk ?_; refine wq fun Q hQ => ?_
      refine vm (Pz g 0) 152 rfl rfl rfl rfl ?_; refine vm (Pz x 0) 153 rfl rfl rfl rfl ?_; refine vg (Pz g 0) 2 rfl rfl rfl rfl ?_; refine vg (Pz x 0) 3 rfl rfl rfl rfl ?_; refine vg (.bool true) 4 rfl rfl rfl rfl ?_; refine st_end ?_; subst hQ; refine wp_ret ?_; exact bodyPost_ret (results_tmp3 Try.results9 _ _ _) rfl ⟨g, b, x, v, L, rfl, hH⟩
end Go.Proofs.Ytgnkcmmpbohafaa

/- With more that fees may be, a way costs no more. -/
namespace Go.Proofs.Ytgnkcmmpbohafaa
open Go.RowKit
set_option linter.unusedVariables false
set_option linter.unusedSimpArgs false
set_option maxRecDepth 100000

theorem fnd_ok {L : List EV} {v : WV} (h : (fndR L v).1 = 0) : ∃ y, fndR L v = (0, some y) := by
  revert h
  unfold fndR
  split
  · intro h; cases h
  · split
    · intro h; cases h
    · split
      · intro h; cases h
      · exact fun _ => ⟨_, rfl⟩
theorem os_keep {w W : World} {ao : Option Addr} {n : Nat} {p : Nat → OV} (h : OpAt w ao n p) (hB : Below w.heap.size w W) : OpAt W ao n p := by
  rcases h with h | ⟨b, o, e, h⟩
  · exact .inl h
  · exact .inr ⟨b, o, e, fun i hi => range_below (h i hi) hB⟩
theorem gr_base {w W1 W2 : World} {g b x : Nat} {v : Value} {L M : List EV} (h : GR W1 W2 g b x v L M) (hs : w.heap.size ≤ W1.heap.size) (E : Below w.heap.size w W1) : GR w W2 g b x v L M :=
  ⟨h.gl, h.gm, h.G, h.R, h.D, Nat.le_trans hs h.lg, Nat.le_trans hs h.lb, Nat.le_trans hs h.lx, fun k hk => Nat.le_trans hs (h.lv k hk), E.trans (h.E.mono hs)⟩
/-- what is wanted, in the machine's range -/
structure WN (v : WV) : Prop where
  am : v.am ≤ 9223372036854775807
  mo : v.mo ≤ 9223372036854775807
  t1 : -9223372036854775808 ≤ v.ti
  t2 : v.ti ≤ 9223372036854775807
end Go.Proofs.Ytgnkcmmpbohafaa

/- Calls in a row and what is wanted, with its list, as they came in. -/
namespace Go.Proofs.Ytgnkcmmpbohafaa
open Go.RowKit Go.ChangeShapes Go.WideShapes Go.ChangeAt
set_option linter.unusedVariables false
set_option linter.unusedSimpArgs false
set_option maxRecDepth 100000
theorem bytesOf60 : Try.prog.bytesOf 60 = 136 := by kernel_rfl
theorem bytesOf3 : Try.prog.bytesOf 3 = 8 := by kernel_rfl
section
variable {H : Type} {enc : TypeId × Value → H} {w : World} {fuel : Nat} {cs : List Value} {x : DataW H × List MemPlace}
theorem open_opN (h : DataW.trod enc Try.prog w 0 (fun _ => true) true fuel 60 cs = some x) : ∃ p : OV, cs = (OL p).toList ∧ ON p := by
  obtain ⟨xs, m, _, rfl, hlen, hxl, hall⟩ := DataW.trod_struct Try.underlying60 h; rw [cellsOf60] at hlen
  have hxl' : xs.length = 5 := hxl
  have at_ : ∀ i, i < 5 → xs[i]? = some (xs.getD i (.nil, [])) := fun i hi => by rw [List.getD_eq_getElem?_getD, List.getElem?_eq_getElem (by omega)]; rfl
  obtain ⟨a, e0, r0⟩ := open_num ((hall 0 _ rfl).trans (at_ 0 (by omega))); obtain ⟨e, e1, r1⟩ := open_edge ((hall 1 _ rfl).trans (at_ 1 (by omega))); obtain ⟨b, e2, r2⟩ := open_num ((hall 2 _ rfl).trans (at_ 2 (by omega))); obtain ⟨c, e3, r3⟩ := open_num ((hall 3 _ rfl).trans (at_ 3 (by omega))); obtain ⟨d, e4⟩ := open_bl ((hall 4 _ rfl).trans (at_ 4 (by omega))); replace e0 := (show (cs.drop 0).take (Try.prog.cellsOf 3) = _ from e0); rw [cellsOf3] at e0; replace e1 := (show (cs.drop 1).take (Try.prog.cellsOf 49) = _ from e1); rw [cellsOf49] at e1
  replace e2 := (show (cs.drop 14).take (Try.prog.cellsOf 3) = _ from e2); rw [cellsOf3] at e2; replace e3 := (show (cs.drop 15).take (Try.prog.cellsOf 3) = _ from e3); rw [cellsOf3] at e3; replace e4 := (show (cs.drop 16).take (Try.prog.cellsOf 4) = _ from e4); rw [cellsOf4] at e4; have d0 := cut_at cs 0 1 _ e0; rw [cut_at cs 1 13 _ e1, cut_at cs 14 1 _ e2, cut_at cs 15 1 _ e3, cut_at cs 16 1 _ e4, (show cs.drop (16 + 1) = [] from List.drop_eq_nil_of_le (by omega)), List.drop_zero] at d0
  exact ⟨⟨a, e, b, c, d⟩, d0, ⟨⟨r1.2.2.2.2.1.1.2, r1.2.2.2.1.2, r1.2.2.2.2.2.2.1.1, r1.2.2.2.2.2.2.1.2, r1.2.2.2.2.2.2.2.2.1, r1.2.2.2.2.2.2.2.2.2⟩, r2.1, r2.2, r3.1, r3.2⟩⟩
def O0 : OV := ⟨0, NE, 0, 0, false⟩
theorem open_ops {ao : Option Addr} {n c : Nat} (h : DataW.trod enc Try.prog w 0 (fun _ => true) true fuel 22 [.slice ao n c] = some x) (hs : ∀ m ∈ x.1.weights Try.prog 22, m ≤ reachBytes) : n ≤ 140737488355328 ∧ ∃ p, OpAt w ao n p ∧ ∀ i, i < n → ON (p i) := by
  rcases Go.Deep.open_slice Try.underlying22 h with ⟨hcs, _⟩ | ⟨a, len, cap, m, k, D, Pl, hcs, _, hl, hm, hmm, rfl, hx⟩
  · simp at hcs
    obtain ⟨rfl, rfl, rfl⟩ := hcs; exact ⟨by omega, fun _ => O0, .inl rfl, fun i hi => by omega⟩
  · simp at hcs
    obtain ⟨rfl, rfl, rfl⟩ := hcs
    have hm' : m = c := by simpa using hmm
    subst hm'; have hr := hs _ (by simp only [DataW.weights, Try.underlying22]; exact List.mem_cons_self ..); rw [bytesOf60] at hr; simp only [List.length_map, List.length_range, reachBytes] at hr
    have each : ∀ i, i < n → ∃ q : OV, ON q ∧ ∀ j, j < 17 → w.cell? ((a.add (i * 17)).add j) = (OL q).toList[j]? := fun i hi => by
      obtain ⟨cs', h1, h2⟩ := hx i (by omega); rw [cellsOf60] at h1; obtain ⟨_, hlen, hcell⟩ := World.cells?_some h1; obtain ⟨q, hq, hqa⟩ := open_opN h2; exact ⟨q, hqa, fun j hj => by rw [← hq]; exact hcell j hj⟩
    have : Inhabited OV := ⟨O0⟩
    obtain ⟨q, hq⟩ := Go.Deep.choose_lt each; refine ⟨by omega, q, ?_, fun i hi => (hq i hi).1⟩
    by_cases h0 : n = 0
    · exact .inl h0
    obtain ⟨b, off, spot⟩ := a
    have hsp : spot = none := by
      have h := (hq 0 (by omega)).2 0 (by omega)
      simpa [Addr.add] using World.cell?_spot (h.trans (show (OL (q 0)).toList[0]? = some (.int .i64 (q 0).kd) from rfl))
    subst hsp; refine .inr ⟨b, off, rfl, fun i hi j v hv => ?_⟩
    have hj : j < 17 := (List.getElem?_eq_some_iff.1 hv).1
    have := (hq i hi).2 j hj
    rw [hv, Addr.add_mid, Addr.add_mid] at this; exact this
theorem open_ints {ao : Option Addr} {n c : Nat} (h : DataW.trod enc Try.prog w 0 (fun _ => true) true fuel 30 [.slice ao n c] = some x) (hs : ∀ m ∈ x.1.weights Try.prog 30, m ≤ reachBytes) : n * 8 ≤ 140737488351232 ∧ ∃ l : List Int, Is w ao l ∧ n = l.length := by
  rcases Go.Deep.open_slice Try.underlying30 h with ⟨hcs, _⟩ | ⟨a, len, cap, m, k, D, Pl, hcs, _, hl, hm, hmm, rfl, hx⟩
  · simp at hcs
    obtain ⟨rfl, rfl, rfl⟩ := hcs; exact ⟨by omega, [], .inl rfl, rfl⟩
  · simp at hcs
    obtain ⟨rfl, rfl, rfl⟩ := hcs
    have hm' : m = c := by simpa using hmm
    subst hm'; have hr := hs _ (by simp only [DataW.weights, Try.underlying30]; exact List.mem_cons_self ..); rw [bytesOf3] at hr; simp only [List.length_map, List.length_range, reachBytes] at hr
    have each : ∀ i, i < n → ∃ z : Int, w.cell? (a.add i) = some (.int .i64 z) := fun i hi => by
      obtain ⟨cs', h1, h2⟩ := hx i (by omega); rw [cellsOf3] at h1; obtain ⟨_, hlen, hcell⟩ := World.cells?_some h1; obtain ⟨z, hz, _⟩ := open_num h2
      have := hcell 0 (by omega)
      rw [hz] at this; exact ⟨z, by simpa [Addr.add] using this⟩
    obtain ⟨z, hz⟩ := Go.Deep.choose_lt each; refine ⟨by omega, (List.range n).map z, ?_, by simp⟩
    by_cases h0 : n = 0
    · subst h0
      exact .inl rfl
    obtain ⟨b, off, spot⟩ := a
    have hsp : spot = none := by
      simpa [Addr.add] using World.cell?_spot (hz 0 (by omega))
    subst hsp; refine .inr ⟨b, off, rfl, fun j v hv => ?_⟩
    have hj : j < n := by
      have := (List.getElem?_eq_some_iff.1 hv).1
      simpa using this
    have h1 := hz j hj; rw [List.getElem?_map, List.getElem?_map, List.getElem?_range hj] at hv
    simp at hv
    subst hv; rw [Addr.add_mid] at h1; exact h1
theorem open_wantN (h : DataW.trod enc Try.prog w 0 (fun _ => true) true fuel 32 cs = some x) (hs : ∀ m ∈ x.1.weights Try.prog 32, m ≤ reachBytes) : ∃ (v : WV) (ao : Option Addr) (n c : Nat), cs = (WL_ v ao n c).toList ∧ Is w ao v.av ∧ n = v.av.length ∧ n * 8 ≤ 140737488351232 ∧ WN v ∧ Iw v.fr ∧ Iw v.to ∧ Iw v.am ∧ Iw v.la ∧ Iw v.mo := by
  obtain ⟨xs, m, _, rfl, hlen, hxl, hall⟩ := DataW.trod_struct Try.underlying32 h; rw [cellsOf32] at hlen
  have hxl' : xs.length = 7 := hxl
  have at_ : ∀ i, i < 7 → xs[i]? = some (xs.getD i (.nil, [])) := fun i hi => by rw [List.getD_eq_getElem?_getD, List.getElem?_eq_getElem (by omega)]; rfl
  have l5 := (hall 5 _ rfl).trans (at_ 5 (by omega)); obtain ⟨a, e0, r0⟩ := open_num ((hall 0 _ rfl).trans (at_ 0 (by omega))); obtain ⟨b, e1, r1⟩ := open_num ((hall 1 _ rfl).trans (at_ 1 (by omega))); obtain ⟨c, e2, r2⟩ := open_num ((hall 2 _ rfl).trans (at_ 2 (by omega))); obtain ⟨d, e3, r3⟩ := open_num ((hall 3 _ rfl).trans (at_ 3 (by omega))); obtain ⟨f, e4, r4⟩ := open_num ((hall 4 _ rfl).trans (at_ 4 (by omega))); obtain ⟨ao, n, c', e5⟩ := open_sl ((hall 5 _ rfl).trans (at_ 5 (by omega))); obtain ⟨g, e6, r6⟩ := open_num ((hall 6 _ rfl).trans (at_ 6 (by omega))); rw [e5] at l5
  replace e0 := (show (cs.drop 0).take (Try.prog.cellsOf 3) = _ from e0); rw [cellsOf3] at e0; replace e1 := (show (cs.drop 1).take (Try.prog.cellsOf 3) = _ from e1); rw [cellsOf3] at e1; replace e2 := (show (cs.drop 2).take (Try.prog.cellsOf 3) = _ from e2); rw [cellsOf3] at e2; replace e3 := (show (cs.drop 3).take (Try.prog.cellsOf 3) = _ from e3); rw [cellsOf3] at e3; replace e4 := (show (cs.drop 4).take (Try.prog.cellsOf 3) = _ from e4); rw [cellsOf3] at e4; replace e5 := (show (cs.drop 5).take (Try.prog.cellsOf 30) = _ from e5); rw [cellsOf30] at e5
  replace e6 := (show (cs.drop 6).take (Try.prog.cellsOf 3) = _ from e6); rw [cellsOf3] at e6; have d0 := cut_at cs 0 1 _ e0; rw [cut_at cs 1 1 _ e1, cut_at cs 2 1 _ e2, cut_at cs 3 1 _ e3, cut_at cs 4 1 _ e4, cut_at cs 5 1 _ e5, cut_at cs 6 1 _ e6, (show cs.drop (6 + 1) = [] from List.drop_eq_nil_of_le (by omega)), List.drop_zero] at d0
  obtain ⟨hn, l, hl, hnl⟩ := open_ints l5 (fun k hk => by
    refine hs k ?_; simp only [DataW.weights, Try.underlying32]
    exact DataW.weights_mem_each (j := 5) (t := 30) (d := (xs.getD 5 (.nil, [])).1) rfl (by rw [List.getElem?_map, at_ 5 (by omega)]; rfl) k hk)
  exact ⟨⟨a, b, c, d, g, f, l⟩, ao, n, c', d0, hl, hnl, hn, ⟨r2.2, r6.2, r4.1, r4.2⟩, r0, r1, r2, r3, r6⟩
end
end Go.Proofs.Ytgnkcmmpbohafaa
