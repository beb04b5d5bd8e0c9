/- The contract of Append over this seat's translation. -/
import Derived.Test.YtdmhcgneafacmaaFApi
namespace Go.Proofs.Ytdmhcgneafacmaa
open Go.RowKit
set_option linter.unusedVariables false
set_option linter.unusedSimpArgs false
set_option maxRecDepth 100000

/-- two boxes that a call has laid, and nothing else changed -/
structure Gd (w : World) (u v : Value) (t1 t2 : TypeId) (W : World) : Prop where
  kept : Kept Not w W
  one : W.heap[w.heap.size]? = some (.cells #[u] t1 (0, 0))
  two : W.heap[w.heap.size + 1]? = some (.cells #[v] t2 (0, 0))
theorem Gd.start (w : World) (u v : Value) (t1 t2 : TypeId) : Gd w u v t1 t2 ((w.alloc (.cells #[u] t1)).alloc (.cells #[v] t2)) :=
  ⟨(Kept.alloc w _).next (Kept.alloc _ _), ((MapKept.heap_alloc _ _).2 _ (by simp)).trans (heap_alloc_new w _), by have := heap_alloc_new (w.alloc (.cells #[u] t1)) (.cells #[v] t2); simpa using this⟩
theorem Gd.lt {w : World} {u v : Value} {t1 t2 : TypeId} {W : World} (h : Gd w u v t1 t2 W) : w.heap.size + 1 < W.heap.size := (Array.getElem?_eq_some_iff.1 h.two).1
theorem Gd.next {w : World} {u v : Value} {t1 t2 : TypeId} {W W' : World} (h : Gd w u v t1 t2 W) (b : Below W.heap.size W W') : Gd w u v t1 t2 W' :=
  ⟨h.kept.next (Kept.ofBelow b), (b.block _ (by have := h.lt; omega)).trans h.one, (b.block _ h.lt).trans h.two⟩
theorem Gd.c0 {w : World} {u v : Value} {t1 t2 : TypeId} {W : World} (h : Gd w u v t1 t2 W) : W.cell? ⟨w.heap.size, 0, none⟩ = some u := by simp [World.cell?, h.one]
theorem Gd.c1 {w : World} {u v : Value} {t1 t2 : TypeId} {W : World} (h : Gd w u v t1 t2 W) : W.cell? ⟨w.heap.size + 1, 0, none⟩ = some v := by simp [World.cell?, h.two]
theorem Gd.f0 {w : World} {u v : Value} {t1 t2 : TypeId} {W : World} (h : Gd w u v t1 t2 W) : W.frozen? ⟨w.heap.size, 0, none⟩ = false := by simp [World.frozen?, h.one]
theorem Gd.f1 {w : World} {u v : Value} {t1 t2 : TypeId} {W : World} (h : Gd w u v t1 t2 W) : W.frozen? ⟨w.heap.size + 1, 0, none⟩ = false := by simp [World.frozen?, h.two]
theorem Gd.set0 {w : World} {u v u' : Value} {t1 t2 : TypeId} {W : World} (h : Gd w u v t1 t2 W) : Gd w u' v t1 t2 (W.setCell ⟨w.heap.size, 0, none⟩ u') :=
  ⟨h.kept.trans (keptStore W _ _ _) (fun _ _ h => h) (fun i hi e => by omega), heap_setCell_same W _ 0 _ _ _ h.one, (heap_setCell_other W _ _ _ (by simp)).trans h.two⟩
theorem Gd.set1 {w : World} {u v v' : Value} {t1 t2 : TypeId} {W : World} (h : Gd w u v t1 t2 W) : Gd w u v' t1 t2 (W.setCell ⟨w.heap.size + 1, 0, none⟩ v') :=
  ⟨h.kept.trans (keptStore W _ _ _) (fun _ _ h => h) (fun i hi e => by omega), (heap_setCell_other W _ _ _ (by simp)).trans h.one, heap_setCell_same W _ 0 _ _ _ h.two⟩
/-- new blocks are the acts' -/
theorem Disk.seven {w W : World} {c : Nat → Nat} {f : Nat} {size : Int} {nb sb : Nat} {uv : Value} {N S : List Ent} {acts : List AM} (h : Disk w c f size nb sb uv N S acts) (k : Kept Not w W) : Disk W (paint c w.heap.size W.heap.size 7) f size nb sb uv N S acts := by
  have hc : ∀ g, g < w.heap.size → paint c w.heap.size W.heap.size 7 g = c g := fun g hg => paint_old hg
  have h1 := h.new k
  refine ⟨h1.box, (hc f h.lt).trans h.cf, (h.now.recolor hc).new k, (hc nb h.now.lt).trans h.cn, (h.sure.recolor hc).new k, (hc sb h.sure.lt).trans h.cs, h.uns.kept k (fun _ _ h => h) (fun g hg _ => hc g hg), h.same, fun g hg => ?_⟩
  have := k.size
  unfold paint
  rw [if_neg (by omega)]
  exact h.fresh g (by omega)
/-- what is told of a disk behind an act -/
def After (w w' : World) (c : Nat → Nat) (f : Nat) (size : Int) (nb sb : Nat) (N S : List Ent) (acts : List AM) (A : AM) : Prop :=
  ∃ c' uv' N', Disk w' c' f size nb sb uv' N' S (acts ++ [A]) ∧ Step w c w' c' ∧ sum N' ≤ sum N + addLen A ∧ look N' = doF (look N) A
theorem After.of {w W w' : World} {c : Nat → Nat} {f : Nat} {size : Int} {nb sb : Nat} {N S : List Ent} {acts : List AM} {A : AM} (k : Kept Not w W) (h : Acted W w' (paint c w.heap.size W.heap.size 7) f size nb sb N S acts A) : After w w' c f size nb sb N S acts A := by
  obtain ⟨c', uv', N', h1, h2, h3, h4, h5⟩ := h
  have hs := k.size
  refine ⟨c', uv', N', h1, ⟨fun i hi => (h4 i (by omega)).trans (paint_old hi), k.trans h5 (fun _ _ h => h.elim) (fun i hi e => ?_)⟩, h2, h3⟩
  rw [paint_old hi] at e
  omega
theorem Dir.len {w : World} {R : Nat → Prop} {b : Nat} {L : List Ent} (h : Dir w R b L) : (Builtin.len_ #[56] 3 #[.map (some b)]).run Try.prog w = .ok (.int .i64 L.length) w := by
  obtain ⟨es, clock, hb, hm, _⟩ := h.map
  have := len_of hm
  simp [Builtin.len_, run_underlying Try.underlying56, MapKept.run_getObj_map hb, Result.andThen, goInt]
  simp at this
  rw [this]

theorem enters31 (W : World) (vs : Array Value) : (callFunc 31 vs).run Try.prog W = .ok (.enter 31 vs) W := by go_simp
theorem enters32 (W : World) (vs : Array Value) : (callFunc 32 vs).run Try.prog W = .ok (.enter 32 vs) W := by go_simp
/-- behind the two stores the act is laid -/
theorem appended {w w6 w7 : World} {c : Nat → Nat} {f : Nat} {size : Int} {nb sb : Nat} {uv v : Value} {N S : List Ent} {acts : List AM} {s : ByteArray} {ao : Option Addr} {n cap : Nat} {zs : List Int} (h : Disk w c f size nb sb uv N S acts) (g6 : Gd w (.string s) (.slice ao n cap) 9 31 w6) (hn : NewRow w6 w7 v zs) (hl : sum N + zs.length ≤ 140737488355328) (ha : acts.length ≤ 1000000000) :
    (Instr.storeAt 9 (.pointer (some ⟨w.heap.size, 0, none⟩)) (.string s)).run Try.prog w7 = .ok () (w7.setCell ⟨w.heap.size, 0, none⟩ (.string s)) ∧
    (Instr.storeAt 31 (.pointer (some ⟨w.heap.size + 1, 0, none⟩)) v).run Try.prog (w7.setCell ⟨w.heap.size, 0, none⟩ (.string s)) = .ok () ((w7.setCell ⟨w.heap.size, 0, none⟩ (.string s)).setCell ⟨w.heap.size + 1, 0, none⟩ v) ∧
    Hid (Calls Try.prog 33 #[.pointer (some ⟨f, 0, none⟩), .agg #[.func (.func 34) #[] #[.pointer (some ⟨w.heap.size, 0, none⟩), .pointer (some ⟨w.heap.size + 1, 0, none⟩)], .func (.func 36) #[] #[.pointer (some ⟨w.heap.size + 1, 0, none⟩), .pointer (some ⟨w.heap.size, 0, none⟩)]]] ((w7.setCell ⟨w.heap.size, 0, none⟩ (.string s)).setCell ⟨w.heap.size + 1, 0, none⟩ v) fun e w' => e = .returned (.tuple #[]) ∧ Hid (After w w' c f size nb sb N S acts ⟨1, s, s, zs, 0⟩)) := by
  have g7 := g6.next hn.2.1
  have g8 := g7.set0 (u' := .string s)
  have g9 := g8.set1 (v' := v)
  obtain ⟨av, cv, hv, _⟩ := hn.1.isB
  have s0 : w7.cell? ⟨w.heap.size, 0, none⟩ = some (.string s) := g7.c0
  have s1 := g7.f0
  have s2 := g8.c1
  have s3 := g8.f1
  have hrow : Row ((w7.setCell ⟨w.heap.size, 0, none⟩ (.string s)).setCell ⟨w.heap.size + 1, 0, none⟩ v) v zs :=
    (hn.1.kept (keptStore w7 _ _ _) (fun g hg e => by have := hn.2.2 g hg; have := g6.lt; omega)).kept (keptStore _ _ _ _) (fun g hg e => by have := hn.2.2 g hg; have := g6.lt; omega)
  have hlt9 := g9.lt
  have hA : ActV ((w7.setCell ⟨w.heap.size, 0, none⟩ (.string s)).setCell ⟨w.heap.size + 1, 0, none⟩ v) (paint c w.heap.size ((w7.setCell ⟨w.heap.size, 0, none⟩ (.string s)).setCell ⟨w.heap.size + 1, 0, none⟩ v).heap.size 7) (.func (.func 34) #[] #[ptr w.heap.size, ptr (w.heap.size + 1)]) (.func (.func 36) #[] #[ptr (w.heap.size + 1), ptr w.heap.size]) ⟨1, s, s, zs, 0⟩ :=
    ⟨w.heap.size, w.heap.size + 1, paint_new (Nat.le_refl _) (by omega), paint_new (by omega) hlt9, g9.c0, .inl ⟨rfl, rfl, rfl, v, g9.c1, hrow, fun g hg => paint_new (by have := hn.2.2 g hg; have := g6.kept.size; omega) (hrow.lt hg)⟩⟩
  refine ⟨by go_simp, ?_, hide ((do_any (h.seven g9.kept) hA hl ha).mono fun e w' hp => ⟨hp.1, hide (After.of g9.kept hp.2.out)⟩)⟩
  rw [hv] at *
  go_simp
theorem enters30 (W : World) (vs : Array Value) : (callFunc 30 vs).run Try.prog W = .ok (.enter 30 vs) W := by go_simp
theorem enters23 (W : World) (vs : Array Value) : (callFunc 23 vs).run Try.prog W = .ok (.enter 23 vs) W := by go_simp
section
variable {w : World} {c : Nat → Nat} {f : Nat} {size : Int} {nb sb : Nat} {uv : Value} {N S : List Ent} {acts : List AM}
set_option maxHeartbeats 1000000 in
theorem append_no (h : Disk w c f size nb sb uv N S acts) (s : ByteArray) (hs : s.size ≤ 9223372036854775807) (ho : okN s = false) (ao : Option Addr) (n cap : Nat) :
    Calls Try.prog 11 #[ptr f, .string s, .slice ao n cap] w fun e w' => e = .returned (.int .i64 1) ∧ Hid (Kept Not w w') := by
  have G0 := Gd.start w (.string s) (.slice ao n cap) 9 31
  have HN := hide (name_any s ((w.alloc (.cells #[.string s] 9)).alloc (.cells #[.slice ao n cap] 31)) hs)
  rw [ho] at HN
  have HR := hide (fun W (hb : Kept Not w W) => refusal_no (h.new hb))
  have HG := hide (fun W (hb : Below ((w.alloc (.cells #[.string s] 9)).alloc (.cells #[.slice ao n cap] 31)).heap.size ((w.alloc (.cells #[.string s] 9)).alloc (.cells #[.slice ao n cap] 31)) W) => (G0.next hb).kept)
  clear h G0
  unfold ptr at *
  go_enter Try.func11, Try.ntmps11
  go_wp2_with (first | (go_at_call 29; refine HN.out.mono ?_; rintro e w1 ⟨rfl, HB⟩; have HK := hide (HG.out _ HB.out)) | (go_at_call 28; refine (HR.out _ HK.out).mono ?_; rintro e w2 ⟨rfl, rfl⟩))
  go_ret
  exact ⟨rfl, HK⟩
set_option maxHeartbeats 1000000 in
theorem append_nil (s : ByteArray) (hs : s.size ≤ 9223372036854775807) (ao : Option Addr) (n cap : Nat) (w : World) :
    Calls Try.prog 11 #[.pointer none, .string s, .slice ao n cap] w fun e w' => e = .returned (.int .i64 6) ∧ Hid (Kept Not w w') := by
  have G0 := Gd.start w (.string s) (.slice ao n cap) 9 31
  have HN := hide (name_any s ((w.alloc (.cells #[.string s] 9)).alloc (.cells #[.slice ao n cap] 31)) hs)
  have HR := hide (fun W => refusal_nil (okN s) W)
  have HG := hide (fun W (hb : Below ((w.alloc (.cells #[.string s] 9)).alloc (.cells #[.slice ao n cap] 31)).heap.size ((w.alloc (.cells #[.string s] 9)).alloc (.cells #[.slice ao n cap] 31)) W) => (G0.next hb).kept)
  generalize okN s = m at *
  clear G0
  go_enter Try.func11, Try.ntmps11
  go_wp2_with (first | (go_at_call 29; refine HN.out.mono ?_; rintro e w1 ⟨rfl, HB⟩; have HK := hide (HG.out _ HB.out)) | (go_at_call 28; refine (HR.out _).mono ?_; rintro e w2 ⟨rfl, rfl⟩))
  go_ret
  exact ⟨rfl, HK⟩

set_option maxHeartbeats 4000000 in
theorem append_ok1 (h : Disk w c f size nb sb uv N S acts) (h0 : 0 ≤ size) (h1 : size ≤ 268435456) (hsum : sum N ≤ 140737488355328) (s : ByteArray) (hs : s.size ≤ 9223372036854775807) (ho : okN s = true) (ao : Option Addr) (cap : Nat) (zs : List Int) (n : Nat) (hz : zs.length = n) (hB : IsB w ao cap zs) (hcap : n ≤ cap) (hc2 : cap ≤ 9223372036854775807) (hl : look N s = none) (hN : N.length < 16) (hroom : (zs.length : Int) ≤ size - sum N) (hacts : acts.length ≤ 1000000000) :
    Calls Try.prog 11 #[ptr f, .string s, .slice ao n cap] w fun e w' => e = .returned (.int .i64 0) ∧ Hid (After w w' c f size nb sb N S acts ⟨1, s, s, zs, 0⟩) := by
  have G0 := Gd.start w (.string s) (.slice ao n cap) 9 31
  have HN := hide (name_any s ((w.alloc (.cells #[.string s] 9)).alloc (.cells #[.slice ao n cap] 31)) hs)
  rw [ho] at HN
  have HR := hide (fun W (hb : Kept Not w W) => refusal_ok (h.new hb))
  have HG := hide (fun W (hb : Below ((w.alloc (.cells #[.string s] 9)).alloc (.cells #[.slice ao n cap] 31)).heap.size ((w.alloc (.cells #[.string s] 9)).alloc (.cells #[.slice ao n cap] 31)) W) => G0.next hb)
  have HH := hide (fun W (hb : Kept Not w W) => has_any _ nb N s W (h.now.new hb))
  have HL0 := fun W (hb : Kept Not w W) => left_any (h.new hb) h0 h1 hsum
  have HC := hide (fun W (hb : Kept Not w W) => (h.new hb).c1)
  have HE0 := fun W (hb : Kept Not w W) => (h.now.new hb).len
  have H := hide h
  have HI := hide hB
  clear h G0 hB
  unfold ptr at *
  have HZ := hide hz
  obtain ⟨m, hm⟩ : ∃ m, sum N = m := ⟨_, rfl⟩
  have HM := hide hm
  rw [hm] at HL0 hsum
  rw [hm, hz] at hroom
  have hdr : decide (size - (m : Int) < (n : Int)) = false := by simp; omega
  have HL := hide HL0
  obtain ⟨q, hq⟩ : ∃ q, N.length = q := ⟨_, rfl⟩
  rw [hq] at HE0
  rw [hq] at hN
  have hdq : decide ((16 : Int) ≤ (q : Int)) = false := by simp; omega
  have HE := hide HE0
  clear hm hz hq HL0 HE0
  go_enter Try.func11, Try.ntmps11
  go_wp2_with (first | (go_at_call 29; refine HN.out.mono ?_; rintro e w1 ⟨rfl, HB⟩; have HGD := hide (HG.out _ HB.out); have HK := hide HGD.out.kept) | (go_at_call 28; refine (HR.out _ HK.out).mono ?_; rintro e w2 ⟨rfl, rfl⟩))
  have gd1 : Gd w (.string s) (.slice ao n cap) 9 31 w2.drew := ⟨⟨HGD.out.kept.os, HGD.out.kept.tape, HGD.out.kept.output, HGD.out.kept.size, HGD.out.kept.block⟩, HGD.out.one, HGD.out.two⟩
  have d1 := HC.out _ gd1.kept
  have d2 := gd1.c0
  have d3 := gd1.c1
  have d4 := HE.out _ gd1.kept
  have G1 := hide gd1
  have HH1 := hide (HH.out _ gd1.kept)
  have HL1 := hide (HL.out _ gd1.kept)
  have HX := hide (fun W (hb : Below w2.drew.heap.size w2.drew W) => show W.cell? ⟨f, 1, none⟩ = some (.map (some nb)) ∧ W.cell? ⟨w.heap.size, 0, none⟩ = some (.string s) ∧ W.cell? ⟨w.heap.size + 1, 0, none⟩ = some (.slice ao n cap) ∧ (Builtin.len_ #[56] 3 #[.map (some nb)]).run Try.prog W = .ok (.int .i64 q) W ∧ Hid (Gd w (.string s) (.slice ao n cap) 9 31 W) from
    ⟨HC.out _ (gd1.next hb).kept, (gd1.next hb).c0, (gd1.next hb).c1, HE.out _ (gd1.next hb).kept, hide (gd1.next hb)⟩)
  have hwq : IntKind.i64.wrap (q : Int) = q ∨ True := .inr trivial
  clear gd1 HB HGD HK HN HR HG HH HL HE hwq
  rw [hl] at HH1
  simp only [Option.isSome] at HH1
  go_region_held3 (fun W => W.cell? ⟨f, 1, none⟩ = some (.map (some nb)) ∧ W.cell? ⟨w.heap.size, 0, none⟩ = some (.string s) ∧ W.cell? ⟨w.heap.size + 1, 0, none⟩ = some (.slice ao n cap) ∧ (Builtin.len_ #[56] 3 #[.map (some nb)]).run Try.prog W = .ok (.int .i64 q) W) (exact ⟨by assumption, by assumption, by assumption, by assumption⟩)
    (first
      | (go_at_call 30; refine HH1.out.mono ?_; rintro e w3 ⟨rfl, rfl⟩)
      | (go_at_call 23; refine HL1.out.mono ?_; rintro e w4 ⟨rfl, hb⟩; obtain ⟨e1, e2, e3, e4, G2⟩ := HX.out w4 hb.out; clear hb))
  go_wp2
  have gd3 : Gd w (.string s) (.slice ao n cap) 9 31 w4.drew := ⟨⟨G2.out.kept.os, G2.out.kept.tape, G2.out.kept.output, G2.out.kept.size, G2.out.kept.block⟩, G2.out.one, G2.out.two⟩
  have G3 := hide gd3
  have HS1 := hide (sclone_any s w4.drew (okN_le ho).2)
  have HL2 := hide (fun W (g : Gd w (.string s) (.slice ao n cap) 9 31 W) => show (Instr.loadAt 31 (.pointer (some ⟨w.heap.size + 1, 0, none⟩))).run Try.prog W = .ok (.slice ao n cap) W by have := g.c1; go_simp)
  have l0 : (Instr.loadAt 9 (.pointer (some ⟨w.heap.size, 0, none⟩))).run Try.prog w4.drew = .ok (.string s) w4.drew := by have := gd3.c0; go_simp
  have l2 := HL2.out _ gd3
  have HI2 := hide (fun W (k : Kept Not w W) => HI.out.below k.newBelow)
  have HF6 := hide (fun w6 w7 v (g6 : Hid (Gd w (.string s) (.slice ao n cap) 9 31 w6)) (hn7 : Hid (NewRow w6 w7 v zs)) => appended H.out g6.out hn7.out (by rw [HM.out, HZ.out]; omega) hacts)
  clear gd3 G1 G2 HH1 HL1 HX HC d1 d2 d3 d4 e1 e2 e3 e4
  go_wp2
  refine wp_region_any (by kernel_rfl) ?_
  refine an_or2 (i := 0) (j := 2) (by kernel_rfl) (ny_to (some 37) rfl rfl rfl (ex_load rfl rfl l0) ?_) (ny_to (some 39) rfl rfl rfl (ex_load rfl rfl l2) ?_)
  · simp only [Act.put, List.setIfInBounds_toArray, List.set_cons_zero, List.set_cons_succ]
    refine an_or2 (i := 1) (j := 2) (by kernel_rfl) ?_ (ny_to (some 39) rfl rfl rfl (ex_load rfl rfl l2) ?_)
    · refine (ny_call (some 38) rfl rfl rfl HS1.out (ex_call (f := 31) (vs := [.string s]) rfl (enters31 _) rfl) ?_)
      rintro e w6 ⟨rfl, hb6⟩
      refine ⟨_, rfl, ?_⟩
      simp only [Act.put, List.setIfInBounds_toArray, List.set_cons_zero, List.set_cons_succ]
      have gd6 := G3.out.next hb6.out
      have l2' := HL2.out _ gd6
      refine an_or1 (i := 2) (by kernel_rfl) (ny_to (some 39) rfl rfl rfl (ex_load rfl rfl l2') ?_)
      simp only [Act.put, List.setIfInBounds_toArray, List.set_cons_zero, List.set_cons_succ]
      clear l2'
      have lB := HI2.out _ gd6.kept
      have hc3 := clone_any ao cap zs w6 lB (by have := HZ.out; omega)
      rw [HZ.out] at hc3
      refine an_or1 (i := 3) (by kernel_rfl) (ny_call (some 40) rfl rfl rfl hc3 (ex_call (f := 32) (vs := [.slice ao n cap]) rfl (enters32 _) rfl) ?_)
      rintro e w7 ⟨v, rfl, hn7⟩
      refine ⟨_, rfl, ?_⟩
      simp only [Act.put, List.setIfInBounds_toArray, List.set_cons_zero, List.set_cons_succ]
      obtain ⟨x0, x1, HFIN⟩ := HF6.out w6 w7 v (hide gd6) hn7
      refine an_or1 (i := 4) (by kernel_rfl) (ny_skip rfl rfl rfl (ex_store rfl rfl rfl x0) ?_)
      refine an_or1 (i := 5) (by kernel_rfl) (ny_skip rfl rfl rfl (ex_store rfl rfl rfl x1) ?_)
      refine an_done (by kernel_rfl) ?_
      clear x0 x1 hn7 gd6 hb6 lB hc3
      generalize (w7.setCell ⟨w.heap.size, 0, none⟩ (.string s)).setCell ⟨w.heap.size + 1, 0, none⟩ v = w8 at *
      go_wp2_with (first | (go_at_call 33; refine HFIN.out.mono ?_; rintro e w9 ⟨rfl, hp⟩))
      go_ret
      exact ⟨rfl, hp⟩
    · simp only [Act.put, List.setIfInBounds_toArray, List.set_cons_zero, List.set_cons_succ]
      refine an_or1 (i := 1) (by kernel_rfl) (ny_call (some 38) rfl rfl rfl HS1.out (ex_call (f := 31) (vs := [.string s]) rfl (enters31 _) rfl) ?_)
      rintro e w6 ⟨rfl, hb6⟩
      refine ⟨_, rfl, ?_⟩
      simp only [Act.put, List.setIfInBounds_toArray, List.set_cons_zero, List.set_cons_succ]
      have gd6 := G3.out.next hb6.out
      have lB := HI2.out _ gd6.kept
      have hc3 := clone_any ao cap zs w6 lB (by have := HZ.out; omega)
      rw [HZ.out] at hc3
      refine an_or1 (i := 3) (by kernel_rfl) (ny_call (some 40) rfl rfl rfl hc3 (ex_call (f := 32) (vs := [.slice ao n cap]) rfl (enters32 _) rfl) ?_)
      rintro e w7 ⟨v, rfl, hn7⟩
      refine ⟨_, rfl, ?_⟩
      simp only [Act.put, List.setIfInBounds_toArray, List.set_cons_zero, List.set_cons_succ]
      obtain ⟨x0, x1, HFIN⟩ := HF6.out w6 w7 v (hide gd6) hn7
      refine an_or1 (i := 4) (by kernel_rfl) (ny_skip rfl rfl rfl (ex_store rfl rfl rfl x0) ?_)
      refine an_or1 (i := 5) (by kernel_rfl) (ny_skip rfl rfl rfl (ex_store rfl rfl rfl x1) ?_)
      refine an_done (by kernel_rfl) ?_
      clear x0 x1 hn7 gd6 hb6 lB hc3
      generalize (w7.setCell ⟨w.heap.size, 0, none⟩ (.string s)).setCell ⟨w.heap.size + 1, 0, none⟩ v = w8 at *
      go_wp2_with (first | (go_at_call 33; refine HFIN.out.mono ?_; rintro e w9 ⟨rfl, hp⟩))
      go_ret
      exact ⟨rfl, hp⟩
  · simp only [Act.put, List.setIfInBounds_toArray, List.set_cons_zero, List.set_cons_succ]
    refine an_or1 (i := 0) (by kernel_rfl) (ny_to (some 37) rfl rfl rfl (ex_load rfl rfl l0) ?_)
    simp only [Act.put, List.setIfInBounds_toArray, List.set_cons_zero, List.set_cons_succ]
    refine an_or1 (i := 1) (by kernel_rfl) (ny_call (some 38) rfl rfl rfl HS1.out (ex_call (f := 31) (vs := [.string s]) rfl (enters31 _) rfl) ?_)
    rintro e w6 ⟨rfl, hb6⟩
    refine ⟨_, rfl, ?_⟩
    simp only [Act.put, List.setIfInBounds_toArray, List.set_cons_zero, List.set_cons_succ]
    have gd6 := G3.out.next hb6.out
    have lB := HI2.out _ gd6.kept
    have hc3 := clone_any ao cap zs w6 lB (by have := HZ.out; omega)
    rw [HZ.out] at hc3
    refine an_or1 (i := 3) (by kernel_rfl) (ny_call (some 40) rfl rfl rfl hc3 (ex_call (f := 32) (vs := [.slice ao n cap]) rfl (enters32 _) rfl) ?_)
    rintro e w7 ⟨v, rfl, hn7⟩
    refine ⟨_, rfl, ?_⟩
    simp only [Act.put, List.setIfInBounds_toArray, List.set_cons_zero, List.set_cons_succ]
    obtain ⟨x0, x1, HFIN⟩ := HF6.out w6 w7 v (hide gd6) hn7
    refine an_or1 (i := 4) (by kernel_rfl) (ny_skip rfl rfl rfl (ex_store rfl rfl rfl x0) ?_)
    refine an_or1 (i := 5) (by kernel_rfl) (ny_skip rfl rfl rfl (ex_store rfl rfl rfl x1) ?_)
    refine an_done (by kernel_rfl) ?_
    clear x0 x1 hn7 gd6 hb6 lB hc3
    generalize (w7.setCell ⟨w.heap.size, 0, none⟩ (.string s)).setCell ⟨w.heap.size + 1, 0, none⟩ v = w8 at *
    go_wp2_with (first | (go_at_call 33; refine HFIN.out.mono ?_; rintro e w9 ⟨rfl, hp⟩))
    go_ret
    exact ⟨rfl, hp⟩
set_option maxHeartbeats 4000000 in
theorem append_ok2 (h : Disk w c f size nb sb uv N S acts) (h0 : 0 ≤ size) (h1 : size ≤ 268435456) (hsum : sum N ≤ 140737488355328) (s : ByteArray) (hs : s.size ≤ 9223372036854775807) (ho : okN s = true) (ao : Option Addr) (cap : Nat) (zs : List Int) (n : Nat) (hz : zs.length = n) (hB : IsB w ao cap zs) (hcap : n ≤ cap) (hc2 : cap ≤ 9223372036854775807) (ys : List Int) (hl : look N s = some ys) (hroom : (zs.length : Int) ≤ size - sum N) (hacts : acts.length ≤ 1000000000) :
    Calls Try.prog 11 #[ptr f, .string s, .slice ao n cap] w fun e w' => e = .returned (.int .i64 0) ∧ Hid (After w w' c f size nb sb N S acts ⟨1, s, s, zs, 0⟩) := by
  have G0 := Gd.start w (.string s) (.slice ao n cap) 9 31
  have HN := hide (name_any s ((w.alloc (.cells #[.string s] 9)).alloc (.cells #[.slice ao n cap] 31)) hs)
  rw [ho] at HN
  have HR := hide (fun W (hb : Kept Not w W) => refusal_ok (h.new hb))
  have HG := hide (fun W (hb : Below ((w.alloc (.cells #[.string s] 9)).alloc (.cells #[.slice ao n cap] 31)).heap.size ((w.alloc (.cells #[.string s] 9)).alloc (.cells #[.slice ao n cap] 31)) W) => G0.next hb)
  have HH := hide (fun W (hb : Kept Not w W) => has_any _ nb N s W (h.now.new hb))
  have HL0 := fun W (hb : Kept Not w W) => left_any (h.new hb) h0 h1 hsum
  have HC := hide (fun W (hb : Kept Not w W) => (h.new hb).c1)
  have HE0 := fun W (hb : Kept Not w W) => (h.now.new hb).len
  have H := hide h
  have HI := hide hB
  clear h G0 hB
  unfold ptr at *
  have HZ := hide hz
  obtain ⟨m, hm⟩ : ∃ m, sum N = m := ⟨_, rfl⟩
  have HM := hide hm
  rw [hm] at HL0 hsum
  rw [hm, hz] at hroom
  have hdr : decide (size - (m : Int) < (n : Int)) = false := by simp; omega
  have HL := hide HL0
  obtain ⟨q, hq⟩ : ∃ q, N.length = q := ⟨_, rfl⟩
  rw [hq] at HE0
  have HE := hide HE0
  clear hm hz hq HL0 HE0
  go_enter Try.func11, Try.ntmps11
  go_wp2_with (first | (go_at_call 29; refine HN.out.mono ?_; rintro e w1 ⟨rfl, HB⟩; have HGD := hide (HG.out _ HB.out); have HK := hide HGD.out.kept) | (go_at_call 28; refine (HR.out _ HK.out).mono ?_; rintro e w2 ⟨rfl, rfl⟩))
  have gd1 : Gd w (.string s) (.slice ao n cap) 9 31 w2.drew := ⟨⟨HGD.out.kept.os, HGD.out.kept.tape, HGD.out.kept.output, HGD.out.kept.size, HGD.out.kept.block⟩, HGD.out.one, HGD.out.two⟩
  have d1 := HC.out _ gd1.kept
  have d2 := gd1.c0
  have d3 := gd1.c1
  have d4 := HE.out _ gd1.kept
  have G1 := hide gd1
  have HH1 := hide (HH.out _ gd1.kept)
  have HL1 := hide (HL.out _ gd1.kept)
  have HX := hide (fun W (hb : Below w2.drew.heap.size w2.drew W) => show W.cell? ⟨f, 1, none⟩ = some (.map (some nb)) ∧ W.cell? ⟨w.heap.size, 0, none⟩ = some (.string s) ∧ W.cell? ⟨w.heap.size + 1, 0, none⟩ = some (.slice ao n cap) ∧ (Builtin.len_ #[56] 3 #[.map (some nb)]).run Try.prog W = .ok (.int .i64 q) W ∧ Hid (Gd w (.string s) (.slice ao n cap) 9 31 W) from
    ⟨HC.out _ (gd1.next hb).kept, (gd1.next hb).c0, (gd1.next hb).c1, HE.out _ (gd1.next hb).kept, hide (gd1.next hb)⟩)
  have hwq : IntKind.i64.wrap (q : Int) = q ∨ True := .inr trivial
  clear gd1 HB HGD HK HN HR HG HH HL hwq
  rw [hl] at HH1
  simp only [Option.isSome] at HH1
  have HLD := hide (fun W (g : Gd w (.string s) (.slice ao n cap) 9 31 W) => show (Instr.loadAt 56 (.pointer (some ⟨f, 1, none⟩))).run Try.prog W = .ok (.map (some nb)) W by have := HC.out _ g.kept; go_simp)
  have HLS := hide (fun W (g : Gd w (.string s) (.slice ao n cap) 9 31 W) => show (Instr.loadAt 9 (.pointer (some ⟨w.heap.size, 0, none⟩))).run Try.prog W = .ok (.string s) W by have := g.c0; go_simp)
  have HLB := hide (fun W (g : Gd w (.string s) (.slice ao n cap) 9 31 W) => show (Instr.loadAt 31 (.pointer (some ⟨w.heap.size + 1, 0, none⟩))).run Try.prog W = .ok (.slice ao n cap) W by have := g.c1; go_simp)
  have HLE := hide (fun W (g : Gd w (.string s) (.slice ao n cap) 9 31 W) => HE.out _ g.kept)
  clear HE
  refine wp_region_held (S := (fun W => Hid (Gd w (.string s) (.slice ao n cap) 9 31 W))) (by kernel_rfl) ?_
  refine ah_take (i := 0) (some 15) rfl rfl (by kernel_rfl) (by kernel_rfl) (by kernel_rfl) rfl (fun W g => ex_mv rfl rfl) G1 (fun _ _ _ h => h) ?_
  simp only [Act.put, List.setIfInBounds_toArray, List.set_cons_zero, List.set_cons_succ]
  refine ah_take (i := 1) (some 16) rfl rfl (by kernel_rfl) (by kernel_rfl) (by kernel_rfl) rfl (fun W g => ex_nck rfl rfl) G1 (fun _ _ _ h => h) ?_
  simp only [Act.put, List.setIfInBounds_toArray, List.set_cons_zero, List.set_cons_succ]
  refine ah_take (i := 2) (some 17) rfl rfl (by kernel_rfl) (by kernel_rfl) (by kernel_rfl) rfl (fun W g => ex_fa rfl rfl (fa59 f 1 (by decide) W)) G1 (fun _ _ _ h => h) ?_
  simp only [Act.put, List.setIfInBounds_toArray, List.set_cons_zero, List.set_cons_succ]
  refine ah_take (i := 3) (some 18) rfl rfl (by kernel_rfl) (by kernel_rfl) (by kernel_rfl) rfl (fun W g => ex_load rfl rfl (HLD.out W g.out)) G1 (fun _ _ _ h => h) ?_
  simp only [Act.put, List.setIfInBounds_toArray, List.set_cons_zero, List.set_cons_succ]
  refine ah_take (i := 4) (some 19) rfl rfl (by kernel_rfl) (by kernel_rfl) (by kernel_rfl) rfl (fun W g => ex_load rfl rfl (HLS.out W g.out)) G1 (fun _ _ _ h => h) ?_
  simp only [Act.put, List.setIfInBounds_toArray, List.set_cons_zero, List.set_cons_succ]
  refine ah_call (i := 5) (some 20) rfl rfl (by kernel_rfl) rfl HH1.out (ex_call (f := 30) (vs := [.map (some nb), .string s]) rfl (enters30 _) rfl) ?_
  rintro e w3 ⟨rfl, rfl⟩
  refine ⟨_, rfl, G1, ?_⟩
  simp only [Act.put, List.setIfInBounds_toArray, List.set_cons_zero, List.set_cons_succ]
  refine ah_take (i := 6) (some 21) rfl rfl (by kernel_rfl) (by kernel_rfl) (by kernel_rfl) rfl (fun W g => ex_not rfl rfl) G1 (fun _ _ _ h => h) ?_
  simp only [Act.put, List.setIfInBounds_toArray, List.set_cons_zero, List.set_cons_succ]
  simp only [Bool.not_true, Bool.not_false]
  refine ah_take (i := 7) (some 22) rfl rfl (by kernel_rfl) (by kernel_rfl) (by kernel_rfl) rfl (fun W g => ex_mv rfl rfl) G1 (fun _ _ _ h => h) ?_
  simp only [Act.put, List.setIfInBounds_toArray, List.set_cons_zero, List.set_cons_succ]
  refine ah_skip (i := 8) (some 23) rfl rfl (by kernel_rfl) (by kernel_rfl) (by kernel_rfl) rfl G1 (fun _ _ _ h => h) ?_
  simp only [Act.put, List.setIfInBounds_toArray, List.set_cons_zero, List.set_cons_succ]
  refine ah_skip (i := 9) (some 24) rfl rfl (by kernel_rfl) (by kernel_rfl) (by kernel_rfl) rfl G1 (fun _ _ _ h => h) ?_
  simp only [Act.put, List.setIfInBounds_toArray, List.set_cons_zero, List.set_cons_succ]
  refine ah_skip (i := 10) (some 25) rfl rfl (by kernel_rfl) (by kernel_rfl) (by kernel_rfl) rfl G1 (fun _ _ _ h => h) ?_
  simp only [Act.put, List.setIfInBounds_toArray, List.set_cons_zero, List.set_cons_succ]
  refine ah_skip (i := 11) (some 26) rfl rfl (by kernel_rfl) (by kernel_rfl) (by kernel_rfl) rfl G1 (fun _ _ _ h => h) ?_
  simp only [Act.put, List.setIfInBounds_toArray, List.set_cons_zero, List.set_cons_succ]
  refine ah_skip (i := 12) (some 27) rfl rfl (by kernel_rfl) (by kernel_rfl) (by kernel_rfl) rfl G1 (fun _ _ _ h => h) ?_
  simp only [Act.put, List.setIfInBounds_toArray, List.set_cons_zero, List.set_cons_succ]
  refine ah_skip (i := 13) (some 28) rfl rfl (by kernel_rfl) (by kernel_rfl) (by kernel_rfl) rfl G1 (fun _ _ _ h => h) ?_
  simp only [Act.put, List.setIfInBounds_toArray, List.set_cons_zero, List.set_cons_succ]
  refine ah_take (i := 14) (some 29) rfl rfl (by kernel_rfl) (by kernel_rfl) (by kernel_rfl) rfl (fun W g => ex_pkF rfl rfl rfl) G1 (fun _ _ _ h => h) ?_
  simp only [Act.put, List.setIfInBounds_toArray, List.set_cons_zero, List.set_cons_succ]
  refine ah_take (i := 15) (some 30) rfl rfl (by kernel_rfl) (by kernel_rfl) (by kernel_rfl) rfl (fun W g => ex_mv rfl rfl) G1 (fun _ _ _ h => h) ?_
  simp only [Act.put, List.setIfInBounds_toArray, List.set_cons_zero, List.set_cons_succ]
  refine ah_take (i := 16) (some 31) rfl rfl (by kernel_rfl) (by kernel_rfl) (by kernel_rfl) rfl (fun W g => ex_load rfl rfl (HLB.out W g.out)) G1 (fun _ _ _ h => h) ?_
  simp only [Act.put, List.setIfInBounds_toArray, List.set_cons_zero, List.set_cons_succ]
  refine ah_take (i := 17) (some 32) rfl rfl (by kernel_rfl) (by kernel_rfl) (by kernel_rfl) rfl (fun W g => ex_len rfl rfl (len31 _ _ _ _ W)) G1 (fun _ _ _ h => h) ?_
  simp only [Act.put, List.setIfInBounds_toArray, List.set_cons_zero, List.set_cons_succ]
  refine ah_take (i := 18) (some 33) rfl rfl (by kernel_rfl) (by kernel_rfl) (by kernel_rfl) rfl (fun W g => ex_mv rfl rfl) G1 (fun _ _ _ h => h) ?_
  simp only [Act.put, List.setIfInBounds_toArray, List.set_cons_zero, List.set_cons_succ]
  refine ah_call (i := 19) (some 34) rfl rfl (by kernel_rfl) rfl HL1.out (ex_call (f := 23) (vs := [.pointer (some ⟨f, 0, none⟩)]) rfl (enters23 _) rfl) ?_
  rintro e w4 ⟨rfl, hb4⟩
  have G2 := hide (G1.out.next hb4.out)
  refine ⟨_, rfl, G2, ?_⟩
  simp only [Act.put, List.setIfInBounds_toArray, List.set_cons_zero, List.set_cons_succ]
  refine ah_take (i := 20) (some 35) rfl rfl (by kernel_rfl) (by kernel_rfl) (by kernel_rfl) rfl (fun W g => ex_bin rfl rfl rfl (by go_simp) (gtrI _ _ W)) G2 (fun _ _ _ h => h) ?_
  simp only [Act.put, List.setIfInBounds_toArray, List.set_cons_zero, List.set_cons_succ]
  rw [hdr]
  refine ah_take (i := 21) (some 36) rfl rfl (by kernel_rfl) (by kernel_rfl) (by kernel_rfl) rfl (fun W g => ex_pkF rfl rfl rfl) G2 (fun _ _ _ h => h) ?_
  simp only [Act.put, List.setIfInBounds_toArray, List.set_cons_zero, List.set_cons_succ]
  refine ah_done (by kernel_rfl) ?_
  go_wp2
  have gd3 : Gd w (.string s) (.slice ao n cap) 9 31 w4.drew := ⟨⟨G2.out.kept.os, G2.out.kept.tape, G2.out.kept.output, G2.out.kept.size, G2.out.kept.block⟩, G2.out.one, G2.out.two⟩
  have G3 := hide gd3
  have HS1 := hide (sclone_any s w4.drew (okN_le ho).2)
  have HL2 := hide (fun W (g : Gd w (.string s) (.slice ao n cap) 9 31 W) => show (Instr.loadAt 31 (.pointer (some ⟨w.heap.size + 1, 0, none⟩))).run Try.prog W = .ok (.slice ao n cap) W by have := g.c1; go_simp)
  have l0 : (Instr.loadAt 9 (.pointer (some ⟨w.heap.size, 0, none⟩))).run Try.prog w4.drew = .ok (.string s) w4.drew := by have := gd3.c0; go_simp
  have l2 := HL2.out _ gd3
  have HI2 := hide (fun W (k : Kept Not w W) => HI.out.below k.newBelow)
  have HF6 := hide (fun w6 w7 v (g6 : Hid (Gd w (.string s) (.slice ao n cap) 9 31 w6)) (hn7 : Hid (NewRow w6 w7 v zs)) => appended H.out g6.out hn7.out (by rw [HM.out, HZ.out]; omega) hacts)
  clear gd3 G1 G2 HH1 HL1 HX HC d1 d2 d3 d4 HLD HLS HLB HLE
  go_wp2
  refine wp_region_any (by kernel_rfl) ?_
  refine an_or2 (i := 0) (j := 2) (by kernel_rfl) (ny_to (some 37) rfl rfl rfl (ex_load rfl rfl l0) ?_) (ny_to (some 39) rfl rfl rfl (ex_load rfl rfl l2) ?_)
  · simp only [Act.put, List.setIfInBounds_toArray, List.set_cons_zero, List.set_cons_succ]
    refine an_or2 (i := 1) (j := 2) (by kernel_rfl) ?_ (ny_to (some 39) rfl rfl rfl (ex_load rfl rfl l2) ?_)
    · refine (ny_call (some 38) rfl rfl rfl HS1.out (ex_call (f := 31) (vs := [.string s]) rfl (enters31 _) rfl) ?_)
      rintro e w6 ⟨rfl, hb6⟩
      refine ⟨_, rfl, ?_⟩
      simp only [Act.put, List.setIfInBounds_toArray, List.set_cons_zero, List.set_cons_succ]
      have gd6 := G3.out.next hb6.out
      have l2' := HL2.out _ gd6
      refine an_or1 (i := 2) (by kernel_rfl) (ny_to (some 39) rfl rfl rfl (ex_load rfl rfl l2') ?_)
      simp only [Act.put, List.setIfInBounds_toArray, List.set_cons_zero, List.set_cons_succ]
      clear l2'
      have lB := HI2.out _ gd6.kept
      have hc3 := clone_any ao cap zs w6 lB (by have := HZ.out; omega)
      rw [HZ.out] at hc3
      refine an_or1 (i := 3) (by kernel_rfl) (ny_call (some 40) rfl rfl rfl hc3 (ex_call (f := 32) (vs := [.slice ao n cap]) rfl (enters32 _) rfl) ?_)
      rintro e w7 ⟨v, rfl, hn7⟩
      refine ⟨_, rfl, ?_⟩
      simp only [Act.put, List.setIfInBounds_toArray, List.set_cons_zero, List.set_cons_succ]
      obtain ⟨x0, x1, HFIN⟩ := HF6.out w6 w7 v (hide gd6) hn7
      refine an_or1 (i := 4) (by kernel_rfl) (ny_skip rfl rfl rfl (ex_store rfl rfl rfl x0) ?_)
      refine an_or1 (i := 5) (by kernel_rfl) (ny_skip rfl rfl rfl (ex_store rfl rfl rfl x1) ?_)
      refine an_done (by kernel_rfl) ?_
      clear x0 x1 hn7 gd6 hb6 lB hc3
      generalize (w7.setCell ⟨w.heap.size, 0, none⟩ (.string s)).setCell ⟨w.heap.size + 1, 0, none⟩ v = w8 at *
      go_wp2_with (first | (go_at_call 33; refine HFIN.out.mono ?_; rintro e w9 ⟨rfl, hp⟩))
      go_ret
      exact ⟨rfl, hp⟩
    · simp only [Act.put, List.setIfInBounds_toArray, List.set_cons_zero, List.set_cons_succ]
      refine an_or1 (i := 1) (by kernel_rfl) (ny_call (some 38) rfl rfl rfl HS1.out (ex_call (f := 31) (vs := [.string s]) rfl (enters31 _) rfl) ?_)
      rintro e w6 ⟨rfl, hb6⟩
      refine ⟨_, rfl, ?_⟩
      simp only [Act.put, List.setIfInBounds_toArray, List.set_cons_zero, List.set_cons_succ]
      have gd6 := G3.out.next hb6.out
      have lB := HI2.out _ gd6.kept
      have hc3 := clone_any ao cap zs w6 lB (by have := HZ.out; omega)
      rw [HZ.out] at hc3
      refine an_or1 (i := 3) (by kernel_rfl) (ny_call (some 40) rfl rfl rfl hc3 (ex_call (f := 32) (vs := [.slice ao n cap]) rfl (enters32 _) rfl) ?_)
      rintro e w7 ⟨v, rfl, hn7⟩
      refine ⟨_, rfl, ?_⟩
      simp only [Act.put, List.setIfInBounds_toArray, List.set_cons_zero, List.set_cons_succ]
      obtain ⟨x0, x1, HFIN⟩ := HF6.out w6 w7 v (hide gd6) hn7
      refine an_or1 (i := 4) (by kernel_rfl) (ny_skip rfl rfl rfl (ex_store rfl rfl rfl x0) ?_)
      refine an_or1 (i := 5) (by kernel_rfl) (ny_skip rfl rfl rfl (ex_store rfl rfl rfl x1) ?_)
      refine an_done (by kernel_rfl) ?_
      clear x0 x1 hn7 gd6 hb6 lB hc3
      generalize (w7.setCell ⟨w.heap.size, 0, none⟩ (.string s)).setCell ⟨w.heap.size + 1, 0, none⟩ v = w8 at *
      go_wp2_with (first | (go_at_call 33; refine HFIN.out.mono ?_; rintro e w9 ⟨rfl, hp⟩))
      go_ret
      exact ⟨rfl, hp⟩
  · simp only [Act.put, List.setIfInBounds_toArray, List.set_cons_zero, List.set_cons_succ]
    refine an_or1 (i := 0) (by kernel_rfl) (ny_to (some 37) rfl rfl rfl (ex_load rfl rfl l0) ?_)
    simp only [Act.put, List.setIfInBounds_toArray, List.set_cons_zero, List.set_cons_succ]
    refine an_or1 (i := 1) (by kernel_rfl) (ny_call (some 38) rfl rfl rfl HS1.out (ex_call (f := 31) (vs := [.string s]) rfl (enters31 _) rfl) ?_)
    rintro e w6 ⟨rfl, hb6⟩
    refine ⟨_, rfl, ?_⟩
    simp only [Act.put, List.setIfInBounds_toArray, List.set_cons_zero, List.set_cons_succ]
    have gd6 := G3.out.next hb6.out
    have lB := HI2.out _ gd6.kept
    have hc3 := clone_any ao cap zs w6 lB (by have := HZ.out; omega)
    rw [HZ.out] at hc3
    refine an_or1 (i := 3) (by kernel_rfl) (ny_call (some 40) rfl rfl rfl hc3 (ex_call (f := 32) (vs := [.slice ao n cap]) rfl (enters32 _) rfl) ?_)
    rintro e w7 ⟨v, rfl, hn7⟩
    refine ⟨_, rfl, ?_⟩
    simp only [Act.put, List.setIfInBounds_toArray, List.set_cons_zero, List.set_cons_succ]
    obtain ⟨x0, x1, HFIN⟩ := HF6.out w6 w7 v (hide gd6) hn7
    refine an_or1 (i := 4) (by kernel_rfl) (ny_skip rfl rfl rfl (ex_store rfl rfl rfl x0) ?_)
    refine an_or1 (i := 5) (by kernel_rfl) (ny_skip rfl rfl rfl (ex_store rfl rfl rfl x1) ?_)
    refine an_done (by kernel_rfl) ?_
    clear x0 x1 hn7 gd6 hb6 lB hc3
    generalize (w7.setCell ⟨w.heap.size, 0, none⟩ (.string s)).setCell ⟨w.heap.size + 1, 0, none⟩ v = w8 at *
    go_wp2_with (first | (go_at_call 33; refine HFIN.out.mono ?_; rintro e w9 ⟨rfl, hp⟩))
    go_ret
    exact ⟨rfl, hp⟩
end
end Go.Proofs.Ytdmhcgneafacmaa
