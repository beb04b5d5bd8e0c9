/- The contract of wire's Bare over this seat's translation, second part. -/
import Derived.Test.YtcbadmkgbaffpaaWBare
namespace Go.Proofs.Ytcbadmkgbaffpaa
open Go.RowKit
set_option linter.unusedVariables false

theorem deed_wiped {W : World} {b b2 i : Nat} {K : Int} {F : Nat → Fld} (hi : i < 12) (hm : i ∉ fl K) (h : BareI b b2 K F i W) :
    Calls Try.prog (deedK 56 57 58 i) (deedArgs b i ++ #[]) W fun e w' => e = .returned (.bool true) ∧ BareI b b2 K F (i + 1) w' ∧ W.grownBy w' (some b) := by
  obtain ⟨G, hM, hb2, hG, hp, hr⟩ := h
  have hfp : (ZF i).plain = bareP K F i := by unfold bareP; rw [if_neg hm]
  have key : ∀ w', w' = W.setCells b (off i) (ZF i).cells → BareI b b2 K F (i + 1) w' ∧ W.grownBy w' (some b) := fun w' hw =>
    ⟨BareI.next hi hM hb2 hG hp hr (ZF_fits i) hfp (GoodF.zero W i) (Apart.zero b i) (Apart.zero b2 i) hw, by rw [hw]; exact grown_setCells b _ _ _⟩
  have hmay := hM.may hi
  have hfree := hM.free hi
  obtain ⟨v, hv⟩ : ∃ v, W.cell? ⟨b, off i, none⟩ = some v := Option.isSome_iff_exists.1 ((hmay 0 (by unfold wide; split <;> omega)).1)
  rcases form_cases i with hf | hf | hf
  · rw [deedK_0 hf, deedArgs_n (by omega)]
    exact (wiped1 b (off i) v _ _ W hv hfree).mono fun e w' hh => ⟨hh.1, key w' (by rw [hh.2]; simp [ZF, hf, Fld.cells, World.setCells])⟩
  · rw [deedK_1 hf, deedArgs_1 hf]
    unfold wide at hmay
    rw [if_pos hf] at hmay
    exact (wiped2 b (off i) W hmay).mono fun e w' hh => ⟨hh.1, key w' (by rw [hh.2]; simp [ZF, hf, Fld.cells])⟩
  · rw [deedK_2 hf, deedArgs_n (by omega)]
    exact (wiped3 b (off i) v _ _ W hv hfree).mono fun e w' hh => ⟨hh.1, key w' (by rw [hh.2]; simp [ZF, hf, Fld.cells, World.setCells])⟩

theorem bare_step {b b2 : Nat} {K : Int} {F : Nat → Fld} (i : Nat) (hi : i < 12) (W : World) (h : BareI b b2 K F i W) :
    Calls Try.prog 22 #[if i ∈ fl K then deedV 52 53 54 #[] else deedV 56 57 58 #[], .pointer (some ⟨b, 0, none⟩), .int .u64 (2 * (i : Int) + 1)] W
      fun e w' => ∃ r, e = .returned (.bool r) ∧ (r = true ∧ BareI b b2 K F (i + 1) w' ∧ W.grownBy w' (some b)) := by
  have tr : ∀ W' w', Below W.heap.size W W' → W'.grownBy w' (some b) → W.grownBy w' (some b) := fun W' w' h1 h2 => grown_trans ⟨h1.os, h1.tape, h1.output, h1.size, fun k hk _ => h1.block k hk⟩ h2
  by_cases hm : i ∈ fl K
  · rw [if_pos hm]
    exact to_any i hi _ _ _ b #[] W _ enters_cloned1 enters_cloned2 enters_cloned3 fun W' hW => (deed_cloned hi hm (h.below hW)).mono fun e w' hh => ⟨_, hh.1, rfl, hh.2.1, tr W' w' hW hh.2.2⟩
  · rw [if_neg hm]
    exact to_any i hi _ _ _ b #[] W _ enters_wiped1 enters_wiped2 enters_wiped3 fun W' hW => (deed_wiped hi hm (h.below hW)).mono fun e w' hh => ⟨_, hh.1, rfl, hh.2.1, tr W' w' hW hh.2.2⟩

theorem all_bare {b b2 : Nat} {K : Int} {F : Nat → Fld} (w : World) (h : BareI b b2 K F 0 w) :
    Calls Try.prog 26 #[.pointer (some ⟨b, 0, none⟩), deedV 52 53 54 #[], deedV 56 57 58 #[]] w
      fun e w' => e = .returned (.bool true) ∧ Hid (BareI b b2 K F 12 w') ∧ Hid (w.grownBy w' (some b)) := by
  obtain ⟨G, hM, _⟩ := id h
  refine (toAll_any b K _ _ _ _ _ _ w hM.kind (fun i W => BareI b b2 K F i W) (fun W => False) (fun W hW => h.below hW) (fun i W W' hI hW => hI.below hW)
    (fun i hi W hI => (bare_step i hi W hI).mono fun e w' hh => ?_)).mono fun e w' hh => ?_
  · obtain ⟨r, he, hr, h1, h2⟩ := hh
    exact ⟨r, he, fun _ => h1, fun hf => (by rw [hr] at hf; cases hf), h2⟩
  · obtain ⟨r, he, h1, h2, hg⟩ := hh
    cases r with
    | true => exact ⟨he, h1 rfl, hg⟩
    | false => exact (h2 rfl).elim

theorem oneMsg (K : Int) (F : Nat → Fld) : (mc K F).toArray.all (·.oneCell') = true := all_oneCell_toArray (fun v hv => by
  unfold mc at hv
  rcases List.mem_cons.1 hv with rfl | hv
  · rfl
  · obtain ⟨j, _, hj⟩ := List.mem_flatMap.1 hv
    exact oneCell (F j) v hj)
theorem sizeMsg (K : Int) {F : Nat → Fld} (h : Fits F) : (mc K F).toArray.size = 137 := by rw [List.size_toArray]; exact mc_len K h
/-- a message that is handed back -/
theorem ret_msg {fn : Func} {p : Tmp} (h : fn.results = #[.cell p 25]) (tmps : Array Value) (w : World) (g : Nat) (K : Int) {F : Nat → Fld} (hF : Fits F)
    (hp : tmps.getD p undef = .pointer (some ⟨g, 0, none⟩)) (hr : w.rangeAt g 0 (mc K F)) : (results fn tmps).run Try.prog w = .ok (.agg (mc K F).toArray) w := by
  have hp' : tmps[p]?.getD undef = .pointer (some ⟨g, 0, none⟩) := by simpa using hp
  have := run_loadVar_mid (P := Try.prog) w g 0 25 (mc K F) _ hr Try.underlying25 rfl (by rw [mc_len K hF]; exact Try.info25)
  simp [results, h, hp', asAddr, this]

set_option maxHeartbeats 1000000 in
theorem bare_any (K : Int) (F : Nat → Fld) (hF : Fits F) (w : World) (hG : Good w F) :
    Calls Try.prog 15 #[.agg (mc K F).toArray] w fun e w' => ∃ G, e = .returned (.agg (mc K G).toArray) ∧ Fits G ∧ Hid (Good w' G) ∧ (∀ i, i < 12 → (G i).plain = bareP K F i) ∧ Hid (Below w.heap.size w w') := by
  have hz := fun w => zero25 w
  have HI2 := hide (show BareI w.heap.size (w.heap.size + 1) K F 0 ((w.alloc (.cells (mc K F).toArray 25)).alloc (.cells (mc 0 ZF).toArray 25)) from
    ⟨F, (MsgAt.new w K hF).below ((Below.refl _ _).alloc (Nat.le_refl _) _), by simp, fun j hj => ⟨((hG j hj).below ((Below.refl _ _).alloc (Nat.le_refl _) _)).below ((Below.refl _ _).alloc (Nat.le_refl _) _), hG.apart hj (Nat.le_refl _), hG.apart hj (by omega)⟩, fun j hj => (by omega), fun j _ => rfl⟩)
  have HZ := hide (MsgAt.new (w.alloc (.cells (mc K F).toArray 25)) 0 (F := ZF) (fun i _ => ZF_fits i))
  generalize (mc K F).toArray = cs at *
  generalize (mc 0 ZF).toArray = zs at *
  clear hG
  go_enter Try.func15, Try.ntmps15
  go_wp2_with fail
  have HW := hide (((Below.refl w.heap.size w).alloc (Nat.le_refl _) (.cells cs 25)).alloc (by simp) (.cells zs 25))
  have HZ2 : Hid (MsgAt ((w.alloc (.cells cs 25)).alloc (.cells zs 25)) (w.heap.size + 1) 0 ZF) := hide (by simpa using HZ.out)
  clear HZ
  refine (make_cloned _).mono ?_
  rintro e w1 ⟨rfl, hb⟩
  have HW1 := hide (HW.out.trans (hb.mono (by simp; omega)))
  have HI3 := hide (HI2.out.below hb)
  have HZ3 := hide (HZ2.out.below hb)
  clear hb HW HI2 HZ2
  go_wp2_with fail
  refine (make_wiped _).mono ?_
  rintro e w2 ⟨rfl, hb⟩
  have HW2 := hide (HW1.out.trans (hb.mono HW1.out.size))
  have HI4 := hide (HI3.out.below hb)
  have HZ4 := hide (HZ3.out.below hb)
  clear hb HW1 HI3 HZ3
  go_wp2_with fail
  refine (all_bare _ HI4.out).mono ?_
  rintro e w3 ⟨rfl, HI5, HG⟩
  have HW3 := hide (HW2.out.grown HG.out HW2.out.size (fun k hk => by cases hk; exact Nat.le_refl _))
  have HZ5 := hide (HZ4.out.grown HG.out (by intro e; have := Option.some.inj e; omega))
  clear HG HW2 HI4 HZ4
  obtain ⟨G, hM, _, hGd, hp, hr⟩ := HI5.out
  have HM := hide hM
  have HGd := hide hGd
  have hGf := hM.fits
  have HP := hide hp
  have HT := hide (show w3.there (w.heap.size + 1) 0 (mc K G).toArray.size by rw [sizeMsg K hGf]; exact HZ5.out.there)
  have HR := hide HM.out.range
  have HL := hide (show (Try.prog.info? 25).map (·.size) = some (mc K G).length by rw [mc_len K hGf]; exact Try.info25)
  have HL2 := hide (show (Try.prog.info? 25).map (·.size) = some (mc K G).toArray.size by rw [sizeMsg K hGf]; exact Try.info25)
  have HO := hide (oneMsg K G)
  have HE := hide (show bodyPost Try.prog Try.f15 (fun e w' => ∃ G', e = .returned (.agg (mc K G').toArray) ∧ Fits G' ∧ Hid (Good w' G') ∧ (∀ i, i < 12 → (G' i).plain = bareP K F i) ∧ Hid (Below w.heap.size w w')) Exit.ret
      { tmps := #[.agg cs, .pointer (some ⟨w.heap.size, 0, none⟩), .pointer (some ⟨w.heap.size + 1, 0, none⟩), deedV 52 53 54 #[], deedV 56 57 58 #[], .bool true, .agg (mc K G).toArray], defers := [] } (w3.setCells (w.heap.size + 1) 0 (mc K G).toArray.toList) by
    have hb := grown_setCells (w.heap.size + 1) (mc K G).toArray.toList 0 w3
    refine bodyPost_ret (v := .agg (mc K G).toArray) (ret_msg Try.results15 _ _ (w.heap.size + 1) K hGf rfl (World.rangeAt_setCells_same w3 _ _ _ (by rw [mc_len K hGf]; exact HZ5.out.there))) rfl ⟨G, rfl, hGf, ?_, HP.out, HW3.out.grown hb HW3.out.size (fun k hk => by cases hk; omega)⟩
    intro j hj
    exact (HGd.out j hj).1.grown hb (HGd.out j hj).2.2)
  clear HP HZ5 HM HGd HW3 hr hp hM hGd HI5 hz
  generalize mc K G = C at *
  dsimp only
  repeat (first | refine wpList_load_mid rfl 25 (.tmp 1) rfl w.heap.size 0 rfl C _ HR.out Try.underlying25 rfl HL.out ?_ | refine wpList_store_mid rfl 25 (.tmp 2) (.tmp 6) rfl (w.heap.size + 1) 0 _ rfl rfl HT.out HL2.out HO.out ?_ | go_step)
  exact HE.out
end Go.Proofs.Ytcbadmkgbaffpaa
