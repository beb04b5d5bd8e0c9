/- The contract of wire's Decode over this seat's translation. -/
import Derived.Test.YtcbadmkgbaffpaaWDec2
import Derived.WalkMore
import Derived.Deep.RegionHeld3
namespace Go.Proofs.Ytcbadmkgbaffpaa
open Go.RowKit
set_option linter.unusedVariables false

theorem wpList_load_mid_g {ops : Array Oper} {rest : List Oper} {op : Oper} {a : Act} {w : World} {Q : Exit → Act → World → Prop} (hw : Region.wanted op (yielded ops a.tmps) = true) (ty : TypeId) (x : Operand) (ho : op.op = .load ty x)
    (b o : Nat) (hx : a.eval x = .pointer (some ⟨b, o, none⟩)) (cs : List Value) (d : TypeDesc) (hc : w.rangeAt b o cs)
    (hu : Try.prog.underlying ty = some d) (hd : d.isRow = true) (hi : (Try.prog.info? ty).map (·.size) = some cs.length)
    (h : wpList Try.prog ops Q rest (a.put op.dst (.agg cs.toArray)) w) : wpList Try.prog ops Q (op :: rest) a w :=
  wpList_step fun _ hK => by rw [if_pos hw]; exact wp_load_mid ty x ho b o hx cs d hc hu hd hi (hK _ _ h)

theorem mc_kind (K : Int) (F : Nat → Fld) : (mc 0 F).toArray.setIfInBounds 0 (.int .i64 K) = (mc K F).toArray := by simp [mc]
theorem infoLen (K : Int) {F : Nat → Fld} (h : Fits F) : (Try.prog.info? 25).map (·.size) = some (mc K F).length := by rw [mc_len K h]; exact Try.info25
theorem infoSize (K : Int) {F : Nat → Fld} (h : Fits F) : (Try.prog.info? 25).map (·.size) = some (mc K F).toArray.size := by rw [sizeMsg K h]; exact Try.info25
theorem ZFits : Fits ZF := fun i _ => ZF_fits i

/-- what Decode answers -/
def DecPost (zs : List Int) (w : World) (e : Ending) (w' : World) : Prop :=
  ∃ K G E, e = .returned (.tuple #[.agg (mc K G).toArray, .int .i64 E]) ∧ Fits G ∧ Hid (Good w' G) ∧ Says zs K G E ∧ Hid (Below w.heap.size w w')

/-- the fields that were set so far: those of the first j -/
def DecI (zs : List Int) (b r0 : Nat) (j : Nat) (W : World) (G : Nat → Fld) : Prop :=
  MsgAt W b (kindOf zs) G ∧ (∀ i, i < 12 → GoodF W (G i) ∧ Apart b (G i) ∧ Apart r0 (G i)) ∧ (∀ k i, k < j → (fl (kindOf zs))[k]? = some i → fldA (recsOf zs).2 i = some (G i).plain) ∧ ∀ i, i < 12 → (∀ k, k < j → (fl (kindOf zs))[k]? ≠ some i) → G i = ZF i

theorem DecI.start {zs : List Int} {b r0 : Nat} {W : World} (h : MsgAt W b (kindOf zs) ZF) : DecI zs b r0 0 W ZF :=
  ⟨h, fun i hi => ⟨GoodF.zero W i, Apart.zero b i, Apart.zero r0 i⟩, fun k i hk => by omega, fun i _ _ => rfl⟩
theorem DecI.next {zs : List Int} {b r0 j i : Nat} {W W' w' : World} {G : Nat → Fld} {a : Option Addr} {L : List Int} (h : DecI zs b r0 j W G) (hB : Below W.heap.size W W') (hi : (fl (kindOf zs))[j]? = some i) (hlk : look (recsOf zs).2 i = some L) (hr : ReadI b (kindOf zs) G i a L W' w') (hs : (rdF i L).isSome = true)
    (hfar : ∀ x, a = some x → L ≠ [] → x.block ≠ r0) : ∃ G', DecI zs b r0 (j + 1) w' G' := by
  obtain ⟨hg, h2⟩ := hr
  obtain ⟨f, f1, f2, f3, f4, f5, f6⟩ := h2 hs
  obtain ⟨m1, m2, m3, m4⟩ := h
  refine ⟨upd G i f, f3, fun k hk => ?_, fun k i' hk hk' => ?_, fun i' hi' hn => ?_⟩
  · unfold upd
    split
    · refine ⟨f4, f5, fun a2 c2 l2 e x hx hl => ?_⟩
      obtain ⟨rfl, rfl⟩ := f6 a2 c2 l2 e
      exact hfar x hx hl
    · obtain ⟨g1, g2, g3⟩ := m2 k hk
      exact ⟨(g1.below hB).grown hg g2, g2, g3⟩
  · by_cases e : k = j
    · subst e
      rw [hi] at hk'
      cases hk'
      rw [upd_same]
      unfold fldA
      rw [hlk]
      exact f2
    · have hne : i' ≠ i := by
        have := fl_rises (kindOf zs) k j i' i hk' hi (by omega)
        omega
      rw [upd_other G i i' f hne]
      exact m3 k i' (by omega) hk'
  · have hne : i' ≠ i := fun e => hn j (by omega) (by rw [e]; exact hi)
    rw [upd_other G i i' f hne]
    exact m4 i' hi' (fun k hk => hn k (by omega))
theorem DecI.below {zs : List Int} {b r0 j : Nat} {W W' : World} {G : Nat → Fld} (h : DecI zs b r0 j W G) (hB : Below W.heap.size W W') : DecI zs b r0 j W' G :=
  ⟨h.1.below hB, fun i hi => ⟨(h.2.1 i hi).1.below hB, (h.2.1 i hi).2⟩, h.2.2⟩
/-- all fields are set -/
theorem DecI.all {zs : List Int} {b r0 : Nat} {W : World} {G : Nat → Fld} (h : DecI zs b r0 (fl (kindOf zs)).length W G) : (∀ i ∈ fl (kindOf zs), (fldA (recsOf zs).2 i).isSome = true) ∧ ∀ i, i < 12 → (G i).plain = decF zs i := by
  obtain ⟨m1, m2, m3, m4⟩ := h
  have key : ∀ i, i ∈ fl (kindOf zs) → fldA (recsOf zs).2 i = some (G i).plain := fun i hi => by
    obtain ⟨k, hk, e⟩ := List.getElem_of_mem hi
    exact m3 k i hk (by rw [List.getElem?_eq_getElem hk, e])
  refine ⟨fun i hi => by rw [key i hi]; rfl, fun i hi => ?_⟩
  unfold decF
  by_cases hm : i ∈ fl (kindOf zs)
  · rw [if_pos hm, key i hm]; rfl
  · rw [if_neg hm, m4 i hi (fun k _ e => hm (List.mem_of_getElem? e))]

theorem says_no {zs : List Int} (h : ¬ decGood zs) : Says zs 0 ZF 10 := .inl ⟨rfl, rfl, rfl, h⟩

set_option maxHeartbeats 400000 in
theorem wdecode_short (a : Option Addr) (cap : Nat) (zs : List Int) (w : World) (h : zs.length < 2) : Calls Try.prog 17 #[.slice a zs.length cap] w (DecPost zs w) := by
  have hz := fun w => zero25 w
  have HP := hide (fun (tm : Array Value) (W : World) (h1 : tm.getD 2 undef = .pointer (some ⟨w.heap.size, 0, none⟩)) (h2 : tm.getD 3 undef = .int .i64 10) (h3 : W.rangeAt w.heap.size 0 (mc 0 ZF)) => ret_msg2 Try.results17 tm W w.heap.size 0 ZFits (.int .i64 10) h1 h2 h3)
  have HM := hide (MsgAt.new w 0 ZFits)
  have HT := hide (show (w.alloc (.cells (mc 0 ZF).toArray 25)).there w.heap.size 0 (mc 0 ZF).toArray.size by rw [sizeMsg 0 ZFits]; exact HM.out.there)
  have HT' := hide (show (w.alloc (.cells (mc 0 ZF).toArray 25)).there w.heap.size 0 (mc 0 ZF).length by rw [mc_len 0 ZFits]; exact HM.out.there)
  have HS := hide (infoSize 0 ZFits)
  have HO := hide (oneMsg 0 ZF)
  have HNO := hide (show Says zs 0 ZF 10 from says_no (fun hh => by have := hh.1; omega))
  have hzl : (mc 0 ZF).toArray.size = 137 := sizeMsg 0 ZFits
  have hzn : ¬ (mc 0 ZF).toArray = #[] := fun e => by rw [e] at hzl; cases hzl
  have hl : (zs.length : Int) < 2 := by omega
  generalize hC : mc 0 ZF = C at *
  go_enter Try.func17, Try.ntmps17
  go_wp2
  go_step3
  go_wp2_with (refine wpList_store_mid rfl 25 (.tmp 2) (.tmp 15) rfl w.heap.size 0 _ rfl rfl HT.out HS.out HO.out ?_)
  go_wp2
  try rw [Exit.noGoto_ret]
  refine bodyPost_ret (HP.out _ _ rfl rfl (World.rangeAt_setCells_same _ _ _ _ HT'.out)) rfl ⟨0, ZF, 10, by rw [hC], ZFits, fun i _ => GoodF.zero _ i, HNO.out, ?_⟩
  exact ((Below.refl w.heap.size w).alloc (Nat.le_refl _) _).grown (grown_setCells _ _ _ _) (by simp) (fun k hk => by cases hk; exact Nat.le_refl _)
end Go.Proofs.Ytcbadmkgbaffpaa
