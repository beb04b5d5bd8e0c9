/- The contract of slices.SortFunc at rows of files, over this seat's translation. -/
import Derived.Test.YtdmhcgneafacmaaFLst
import Derived.Test.YtdmhcgneafacmaaFSrtL
namespace Go.Proofs.Ytdmhcgneafacmaa
open Go.RowKit Go.Shelf Go.Lib Go.Sort
set_option linter.unusedVariables false
set_option linter.unusedSimpArgs false
set_option maxRecDepth 100000

/-! ### the order of names -/
theorem u8_lt (x y : UInt8) : x < y ↔ x.toNat < y.toNat := UInt8.lt_iff_toNat_lt
theorem cb_cons (x y : UInt8) (a b : List UInt8) : compareBytes (x :: a) (y :: b) = if x < y then -1 else if y < x then 1 else compareBytes a b := rfl
theorem cb_refl : ∀ a : List UInt8, compareBytes a a = 0
  | [] => rfl
  | x :: a => by
    rw [cb_cons, if_neg (by rw [u8_lt]; omega), if_neg (by rw [u8_lt]; omega)]
    exact cb_refl a
theorem cb_trans : ∀ {a b c : List UInt8}, compareBytes a b < 0 → compareBytes b c < 0 → compareBytes a c < 0
  | [], [], _, h1, _ => by simp [compareBytes] at h1
  | [], _ :: _, [], _, h2 => by simp [compareBytes] at h2
  | [], _ :: _, _ :: _, _, _ => by simp [compareBytes]
  | _ :: _, [], _, h1, _ => by simp [compareBytes] at h1
  | _ :: _, _ :: _, [], _, h2 => by simp [compareBytes] at h2
  | x :: a, y :: b, z :: c, h1, h2 => by
    rw [cb_cons] at h1 h2 ⊢
    simp only [u8_lt] at h1 h2 ⊢
    by_cases p1 : x.toNat < y.toNat
    · by_cases p2 : y.toNat < z.toNat
      · rw [if_pos (by omega)]
        omega
      · rw [if_neg p2] at h2
        by_cases p3 : z.toNat < y.toNat
        · rw [if_pos p3] at h2
          omega
        · rw [if_pos (by omega)]
          omega
    · rw [if_neg p1] at h1
      by_cases p3 : y.toNat < x.toNat
      · rw [if_pos p3] at h1
        omega
      · rw [if_neg p3] at h1
        by_cases p2 : y.toNat < z.toNat
        · rw [if_pos (by omega)]
          omega
        · rw [if_neg p2] at h2
          by_cases p4 : z.toNat < y.toNat
          · rw [if_pos p4] at h2
            omega
          · rw [if_neg p4] at h2
            rw [if_neg (by omega), if_neg (by omega)]
            exact cb_trans h1 h2
theorem cb_ntrans : ∀ {a b c : List UInt8}, ¬ compareBytes a b < 0 → ¬ compareBytes b c < 0 → ¬ compareBytes a c < 0
  | [], [], _, _, h2 => h2
  | [], _ :: _, _, h1, _ => by simp [compareBytes] at h1
  | _ :: _, _, [], _, _ => by simp [compareBytes]
  | _ :: _, [], _ :: _, _, h2 => by simp [compareBytes] at h2
  | x :: a, y :: b, z :: c, h1, h2 => by
    rw [cb_cons] at h1 h2 ⊢
    simp only [u8_lt] at h1 h2 ⊢
    by_cases p1 : x.toNat < y.toNat
    · rw [if_pos p1] at h1
      omega
    · by_cases p2 : y.toNat < z.toNat
      · rw [if_pos p2] at h2
        omega
      · rw [if_neg (by omega)]
        by_cases p3 : z.toNat < x.toNat
        · rw [if_pos p3]
          omega
        · rw [if_neg p3]
          rw [if_neg p1, if_neg (by omega)] at h1
          rw [if_neg p2, if_neg (by omega)] at h2
          exact cb_ntrans h1 h2
theorem cb_anti : ∀ {a b : List UInt8}, ¬ compareBytes a b < 0 → ¬ compareBytes b a < 0 → a = b
  | [], [], _, _ => rfl
  | [], _ :: _, h1, _ => by simp [compareBytes] at h1
  | _ :: _, [], _, h2 => by simp [compareBytes] at h2
  | x :: a, y :: b, h1, h2 => by
    rw [cb_cons] at h1 h2
    simp only [u8_lt] at h1 h2
    by_cases p1 : x.toNat < y.toNat
    · rw [if_pos p1] at h1
      omega
    · by_cases p2 : y.toNat < x.toNat
      · rw [if_pos p2] at h2
        omega
      · rw [if_neg p1, if_neg p2] at h1
        rw [if_neg p2, if_neg p1] at h2
        rw [UInt8.toNat_inj.1 (show x.toNat = y.toNat by omega), cb_anti h1 h2]
/-- how two files are held against one another -/
def cmpF (x y : Fl) : Int := compareBytes x.1.data.toList y.1.data.toList
theorem swoF : SWO (ltOf cmpF) := ⟨fun x => decide_eq_false (by unfold cmpF; rw [cb_refl]; decide), fun x y z h1 h2 => decide_eq_true (cb_trans (of_decide_eq_true h1) (of_decide_eq_true h2)), fun x y z h1 h2 => decide_eq_false (cb_ntrans (of_decide_eq_false h1) (of_decide_eq_false h2))⟩

set_option maxHeartbeats 1000000 in
theorem closure55 (x y : Fl) (W : World) : Calls Try.prog 55 #[.agg #[.string x.1, sv x], .agg #[.string y.1, sv y]] W fun e w' => e = .returned (.int .i64 (cmpF x y)) ∧ ∃ q os', w' = Go.Sort.grow (W.drewN q) os' := by
  have hcon := fun W' => Try.strings_Compare x.1 y.1 W'
  unfold cmpF
  generalize compareBytes x.1.data.toList y.1.data.toList = r at hcon ⊢
  unfold sv
  generalize x.1 = a at *
  generalize y.1 = b at *
  go_enter Try.func55, Try.ntmps55
  go_wp2_with (go_at_call 56; refine (hcon _).mono ?_; rintro e w' ⟨rfl, rfl⟩)
  go_ret
  exact ⟨rfl, 0, _, by rw [alloc_eq_grow, alloc_eq_grow, grow_grow]; rfl⟩
theorem cmpLays55 (blk off size : Nat) (w : World) : CmpLays Try.prog 55 #[] encF 2 cmpF blk off size w := fun _ _ _ _ x y => closure55 x y _

/-! ### the row's cells -/
theorem flat_get : ∀ (D : List Fl) (t : Nat), t < D.length * 2 → (D.flatMap encF)[t]? = some ((encF D.toArray[t / 2]!)[t % 2]!)
  | [], t, h => by simp at h
  | x :: D, 0, _ => by simp [encF]
  | x :: D, 1, _ => by simp [encF]
  | x :: D, t + 2, h => by
    have ih := flat_get D t (by simp at h; omega)
    have e1 : (t + 2) / 2 = t / 2 + 1 := by omega
    have e2 : (t + 2) % 2 = t % 2 := by omega
    rw [e1, e2, List.flatMap_cons]
    have e3 : (encF x ++ D.flatMap encF)[t + 2]? = (D.flatMap encF)[t]? := by
      rw [List.getElem?_append_right (by simp [encF])]
      simp [encF]
    rw [e3, ih]
    congr 3
    simp [List.getElem!_toArray]
theorem block_sorted {W : World} {g n : Nat} {cur : Array Value} {t : TypeId} {fr : Nat × Nat} (d : Array Fl) (os : Array Obj) (h : W.heap[g]? = some (.cells cur t fr)) : (sortWorldK encF 2 W g 0 n d os).heap[g]? = some (.cells (putCells id 0 (flatK encF 2 d) cur) t fr) := by
  have hlt := (Array.getElem?_eq_some_iff.1 h).1
  unfold sortWorldK putRowK putRow mapBlock Go.Sort.grow Go.Sort.ahead
  simp only
  rw [Array.getElem?_append_left (by simpa using hlt), Array.getElem?_modify, if_pos rfl, h]
  rfl
theorem kept_sorted (W : World) (g n : Nat) (d : Array Fl) (os : Array Obj) : Kept (fun k => k = g) W (sortWorldK encF 2 W g 0 n d os) := by
  refine ⟨rfl, rfl, rfl, ?_, fun k hk hn => ?_⟩
  · unfold sortWorldK putRowK putRow mapBlock Go.Sort.grow Go.Sort.ahead
    simp
  · unfold sortWorldK putRowK putRow mapBlock Go.Sort.grow Go.Sort.ahead
    simp only
    rw [Array.getElem?_append_left (by simpa using hk), Array.getElem?_modify, if_neg (fun e => hn e.symm)]
theorem FR.holds {R : Nat → Prop} {W : World} {g cap : Nat} {D : List Fl} (h : FR R W (.slice (some ⟨g, 0, none⟩) D.length cap) D) : HoldsK encF 2 W g 0 D.toArray := by
  rcases h.row.2 with ⟨e, _⟩ | ⟨g', cap', cur, e, _, hb, hn, hm, hs, ht⟩
  · cases e
  · simp only [Value.slice.injEq, Option.some.injEq, Addr.mk.injEq] at e
    obtain ⟨⟨rfl, _⟩, _, rfl⟩ := e
    intro j hj
    have hj' : j < D.length * 2 := by simpa using hj
    refine ⟨?_, by simp [World.frozen?, hb]⟩
    have e1 : W.cell? ⟨g, 0 + j, none⟩ = cur[j]? := by simp [World.cell?, hb]
    have e2 : cur[j]? = (D.flatMap encF)[j]? := by
      rw [← ht, List.getElem?_take, if_pos hj']
      simp
    have e3 : (D.toArray).size * 2 = D.length * 2 := by simp
    rw [e1, e2, flat_get D j hj', get_flatK encF 2 D.toArray j (by omega)]
    rfl
/-- the row behind the sort -/
theorem FR.sorted {R : Nat → Prop} {W : World} {g cap n : Nat} {D : List Fl} (h : FR R W (.slice (some ⟨g, 0, none⟩) D.length cap) D) (d : Array Fl) (hp : d.toList.Perm D) (os : Array Obj) : FR R (sortWorldK encF 2 W g 0 n d os) (.slice (some ⟨g, 0, none⟩) D.length cap) d.toList := by
  have hl := hp.length_eq
  have kk := kept_sorted W g n d os
  refine ⟨⟨encF_len _ , ?_⟩, ?_, fun x hx => ?_, fun x hx => h.mine x (hp.mem_iff.1 hx)⟩
  · rcases h.row.2 with ⟨e, _⟩ | ⟨g', cap', cur, e, h0, hb, hn, hm, hs, ht⟩
    · cases e
    · simp only [Value.slice.injEq, Option.some.injEq, Addr.mk.injEq] at e
      obtain ⟨⟨rfl, _⟩, _, rfl⟩ := e
      refine .inr ⟨g, cap, _, by rw [hl], h0, block_sorted d os hb, by omega, hm, by simp [putCells, hs], ?_⟩
      apply List.ext_getElem?
      intro t
      rw [List.getElem?_take]
      have hd : d.toList.length = d.size := by simp
      by_cases htl : t < d.toList.length * 2
      · rw [if_pos htl, flat_get _ _ htl]
        have hts : t < cur.size := by omega
        simp only [putCells, Array.getElem?_toList, Array.getElem?_mapIdx, Array.getElem?_eq_getElem hts, Option.map_some]
        rw [if_pos ⟨by omega, by rw [size_flatK]; omega⟩, Nat.sub_zero, get_flatK encF 2 d t (by omega)]
        simp
      · rw [if_neg htl, List.getElem?_eq_none (by rw [encF_len]; omega)]
  · obtain ⟨g', cap', e, hr⟩ := h.is
    exact ⟨g', cap', by rw [e, hl], hr⟩
  · exact (h.rows x (hp.mem_iff.1 hx)).kept kk (fun k hk e => (h.mine x (hp.mem_iff.1 hx) k hk).2 (by rw [e]; rfl))
theorem up_of {D : Array Fl} {n : Nat} (hn : n = D.size) (h : SortedIn (ltOf cmpF) 0 n D) : Up D.toList := by
  unfold Up
  rw [List.pairwise_iff_getElem]
  intro i j hi hj hij
  have := of_decide_eq_false (h i j (Nat.zero_le _) hij (by rw [hn]; simpa using hj))
  unfold cmpF at this
  simp only [Array.length_toList] at hi hj
  rw [getElem!_pos D j hj, getElem!_pos D i hi] at this
  simpa using this
theorem sort_any : SortOk := fun R W v D h hn => by
  obtain ⟨g, cap, rfl, hr⟩ := h.is
  have hlt := h.lt (g := g) rfl
  have eg : ∀ args w, (callFunc 55 args).run Try.prog w = .ok (.enter 55 args) w := enters_of Try.func55 (by kernel_rfl) rfl
  have hcon := AnyQ.slices_SortFunc Try.sortFile 2 Try.isAgg47 Try.sizeOf47 encF (fun _ => rfl) encF_one cmpF swoF 55 #[] g 0 cap D.toArray W eg (cmpLays55 g 0 D.toArray.size W) h.holds hlt (by simp; omega)
  change Calls Try.prog 54 _ _ _ at hcon
  have e0 : D.toArray.size = D.length := by simp
  rw [e0] at hcon
  refine hcon.mono fun e w' hp => ?_
  obtain ⟨he, d', n, os, hpm, hs, rfl⟩ := hp
  have hsz : d'.size = D.length := by rw [hpm.1, e0]
  have hperm : d'.toList.Perm D := by
    have := hpm.2.2
    rw [show D.length = d'.size from hsz.symm] at this
    have e1 : d'.extract 0 d'.size = d' := by simp
    have e2 : D.toArray.extract 0 d'.size = D.toArray := by rw [hsz]; simp
    rw [e1, e2] at this
    simpa using this
  exact ⟨he, hide ⟨d'.toList, hperm, up_of hsz.symm hs, h.sorted d' hperm os, (kept_sorted W g n d' os).mono (fun i _ e => by rw [e]; rfl)⟩⟩
theorem list_any {w : World} {c : Nat → Nat} {f : Nat} {size : Int} {nb sb : Nat} {uv : Value} {N S : List Ent} {acts : List AM} (h : Disk w c f size nb sb uv N S acts) (hN : N.length ≤ 1000000) (hl : sum N ≤ 140737488355328) :
    Calls Try.prog 17 #[ptr f] w fun e w' => ∃ v, e = .returned v ∧ Hid (Listed w w' v N) := list_if sort_any h hN hl
end Go.Proofs.Ytdmhcgneafacmaa
