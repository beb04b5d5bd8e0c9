/- Contracts of a folder's has, add, cut, rename over this seat's translation. -/
import Derived.Test.YtdmhcgneafacmaaFBase
namespace Go.Proofs.Ytdmhcgneafacmaa
open Go.RowKit
set_option linter.unusedVariables false
set_option linter.unusedSimpArgs false

/-- the rows' blocks behind a call -/
def grow (R : Nat → Prop) (w w' : World) : Nat → Prop := fun g => R g ∨ (w.heap.size ≤ g ∧ g < w'.heap.size)
/-- what a call on a folder may change -/
def touch (b : Nat) (R : Nat → Prop) : Nat → Prop := fun g => g = b ∨ R g

theorem Dir.lt {w : World} {R : Nat → Prop} {b : Nat} {L : List Ent} (h : Dir w R b L) : b < w.heap.size := by
  obtain ⟨es, clock, hb, _⟩ := h.map
  exact (Array.getElem?_eq_some_iff.1 hb).1
theorem Dir.kept {w w' : World} {R F : Nat → Prop} {b : Nat} {L : List Ent} (h : Dir w R b L) (k : Kept F w w') (hb : ¬ F b) (hF : ∀ g, R g → ¬ F g) : Dir w' R b L := by
  have hlt := h.lt
  obtain ⟨es, clock, hb0, rest⟩ := h.map
  exact ⟨⟨es, clock, (k.block b hlt hb).trans hb0, rest⟩, fun x hx => (h.rows x hx).kept k (fun g hg => hF g (h.mine x hx g hg)), h.mine, h.apart, h.other⟩
theorem Dir.new {w w' : World} {R : Nat → Prop} {b : Nat} {L : List Ent} (h : Dir w R b L) (k : Kept Not w w') : Dir w' R b L := h.kept k (fun h => h) (fun _ _ h => h)
theorem Dir.at {w : World} {R : Nat → Prop} {b : Nat} {L : List Ent} (h : Dir w R b L) (s : ByteArray) :
    Row w (valAt L s) ((look L s).getD []) ∧ (∀ g, (valAt L s).ownBlock = some g → R g) ∧ ∀ x ∈ L, x.1 ≠ s → x.2.1.ownBlock = none ∨ x.2.1.ownBlock ≠ (valAt L s).ownBlock := by
  rcases split h.apart s with h1 | ⟨L1, v, zs, L2, rfl, h1, h2⟩
  · rw [valAt_miss h1, look_miss h1]
    exact ⟨Row.nil w, fun g hg => (by cases hg), fun x _ _ => by cases x.2.1.ownBlock <;> simp [Value.ownBlock]⟩
  · have hm : (s, v, zs) ∈ L1 ++ (s, v, zs) :: L2 := by simp
    rw [valAt_hit h1, look_hit h1]
    refine ⟨h.rows _ hm, h.mine _ hm, fun x hx hn => ?_⟩
    obtain ⟨h3, h4, h5⟩ := List.pairwise_append.1 h.apart
    obtain ⟨h6, h7⟩ := List.pairwise_cons.1 h4
    rcases List.mem_append.1 hx with hx | hx
    · exact (h5 x hx _ (List.mem_cons_self ..)).2
    rcases List.mem_cons.1 hx with rfl | hx
    · exact absurd rfl hn
    · rcases (h6 x hx).2 with h8 | h8
      · cases hv : x.2.1.ownBlock
        · exact .inl rfl
        · exact .inr (by rw [h8]; simp)
      · exact .inr (Ne.symm h8)

theorem st_end {ops : Array Oper} {a : Act} {W : World} {Q : Exit → Act → World → Prop} (h : Q .normal a W) : wpList Try.prog ops Q [] a W := h
/-- a store that goes so -/
theorem wl_update {w w2 : World} {ops : Array Oper} {rest : List Oper} {o : Oper} {a : Act} {Q : Exit → Act → World → Prop} (hg : o.guard = none) {m x v : Operand} {t : TypeId} (hop : o.op = Op.mapUpdate t m x v) {vm vx vv : Value}
    (hm : a.eval m = vm) (hx : a.eval x = vx) (hv : a.eval v = vv) (hr : (Instr.mapUpdate t vm vx vv).run Try.prog w = .ok () w2) (h : wpList Try.prog ops Q rest (a.put o.dst undef) w2) : wpList Try.prog ops Q (o :: rest) a w := by
  refine wpList_plain hg fun K' hK' => ?_
  unfold Oper.wp
  simp [execOp, hop, hm, hx, hv, hr, Result.andThen]
  exact hK' _ _ h
theorem wl_delete {w w2 : World} {ops : Array Oper} {rest : List Oper} {o : Oper} {a : Act} {Q : Exit → Act → World → Prop} (hg : o.guard = none) {m x : Operand} (hop : o.op = .call { callee := .builtin .delete, args := #[m, x], argTypes := #[56, 9] }) {vm vx : Value}
    (hm : a.eval m = vm) (hx : a.eval x = vx) (hr : (Builtin.delete_ #[56, 9] o.type #[vm, vx]).run Try.prog w = .ok (.tuple #[]) w2) (h : wpList Try.prog ops Q rest (a.put o.dst (.tuple #[])) w2) : wpList Try.prog ops Q (o :: rest) a w := by
  refine wpList_plain hg fun K' hK' => ?_
  unfold Oper.wp
  simp [execOp, hop, resolve, invoke, builtin, hm, hx, hr, Result.andThen]
  exact hK' _ _ h
/-- an append of bytes to a row of its own: where the row lies then -/
theorem wl_append {w : World} {ops : Array Oper} {rest : List Oper} {o : Oper} {a : Act} {Q : Exit → Act → World → Prop} (hgd : o.guard = none) (s x : Operand)
    (ho : o.op = .call { callee := .builtin .append, args := #[s, x], argTypes := #[31, 31] })
    (v : Value) (xs : List Int) (hs : a.eval s = v) (hown : Row w v xs)
    (ao : Option Addr) (m c : Nat) (news : List Int) (hx : a.eval x = .slice ao m c) (hm : news.length = m) (hB : IsB w ao c news) (hbytes : xs.length + m ≤ 140737488355328)
    (h : ∀ v' w', Row w' v' (xs ++ news) → w.grownBy w' v.ownBlock → (v'.ownBlock = v.ownBlock ∨ v'.ownBlock = some w.heap.size) → wpList Try.prog ops Q rest (a.put o.dst v') w') : wpList Try.prog ops Q (o :: rest) a w := by
  obtain ⟨i0, hi, hz0, hz1, hz2⟩ := info_parts Try.info5
  rcases hB with ⟨rfl, rfl, rfl⟩ | ⟨ad, rfl, hc⟩
  · simp at hm
    subst hm
    refine wpList_append_own_none hgd s x 31 ho 0 5 i0 1 Try.underlying31 hi v _ (U8 xs) hs hown hx ?_
    exact h v w (by simpa using hown) (World.grownBy.refl _ _) (.inl rfl)
  · exact wpList_append_own_at w hgd s x 31 ho 0 5 i0 (.int .u8 0) 1 1 Try.underlying31 hi hz0 hz1 hz2 rfl (by decide) v _ (U8 xs) hs hown ad m c (U8 news) hx (by simp [U8, hm]) hc (one_u8 news) (by unfold maxLen; omega) (by omega) (Nat.zero_le _)
      fun v' w' h1 h2 _ h4 => h v' w' (Row.of (by rw [U8_append]; exact h1)) h2 h4

theorem has_any (R : Nat → Prop) (b : Nat) (L : List Ent) (s : ByteArray) (w : World) (h : Dir w R b L) :
    Calls Try.prog 30 #[.map (some b), .string s] w fun e w' => e = .returned (.bool (look L s).isSome) ∧ w' = w := by
  have hl := h.lookup s true
  simp only [if_true] at hl
  generalize valAt L s = v at hl
  generalize (look L s).isSome = r at hl ⊢
  clear h
  go_enter Try.func30, Try.ntmps30
  go_wp2
  go_ret
  exact ⟨rfl, rfl⟩

theorem new_in {v : Value} {w w1 : World} {R : Nat → Prop} {u : Value} {zs : List Int} (hr : Row w1 v zs) (hu : ∀ g, u.ownBlock = some g → R g) (h : v.ownBlock = u.ownBlock ∨ v.ownBlock = some w.heap.size) : ∀ g, v.ownBlock = some g → grow R w w1 g := fun g hg => by
  rcases h with h | h
  · exact .inl (hu g (h ▸ hg))
  · rw [hg] at h
    cases h
    exact .inr ⟨Nat.le_refl _, hr.lt hg⟩
theorem grow_not {R : Nat → Prop} {w w1 : World} {b : Nat} (h : ¬ R b) (hb : b < w.heap.size) : ¬ grow R w w1 b := fun e => e.elim h (fun e => by omega)
theorem apart_new {w : World} {R : Nat → Prop} {b : Nat} {L : List Ent} (h : Dir w R b L) {s : ByteArray} {v : Value} (hv : v.ownBlock = (valAt L s).ownBlock ∨ v.ownBlock = some w.heap.size) : ∀ x ∈ L, x.1 ≠ s → x.2.1.ownBlock = none ∨ x.2.1.ownBlock ≠ v.ownBlock := fun x hx hn => by
  rcases hv with hv | hv
  · rw [hv]
    exact (h.at s).2.2 x hx hn
  · cases hb : x.2.1.ownBlock
    · exact .inl rfl
    · refine .inr fun e => ?_
      rw [hv] at e
      cases e
      exact Nat.lt_irrefl _ ((h.rows x hx).lt hb)
theorem rows_but {w w1 : World} {R : Nat → Prop} {b : Nat} {L : List Ent} (h : Dir w R b L) {s : ByteArray} (hg : w.grownBy w1 (valAt L s).ownBlock) : ∀ x ∈ L, x.1 ≠ s → Row w1 x.2.1 x.2.2 := fun x hx hn => (h.rows x hx).kept (Kept.ofGrown hg) (fun g hgx e => by
  rcases (h.at s).2.2 x hx hn with h1 | h1
  · rw [h1] at hgx
    cases hgx
  · exact h1 (hgx.trans e.symm))
theorem map_but {w w1 : World} {R : Nat → Prop} {b : Nat} {L : List Ent} (h : Dir w R b L) {s : ByteArray} (hg : w.grownBy w1 (valAt L s).ownBlock) : w1.heap[b]? = w.heap[b]? := hg.block b h.lt (fun e => h.other ((h.at s).2.1 b e.symm))
theorem touch_two {w w1 w2 : World} {R : Nat → Prop} {b : Nat} {v : Option Nat} (h1 : w.grownBy w1 v) (h2 : w1.grownBy w2 (some b)) (hv : ∀ g, v = some g → R g) : Kept (touch b R) w w2 :=
  (Kept.ofGrown h1).trans (Kept.ofGrown h2) (fun i _ e => .inr (hv i e)) (fun i _ e => .inl (by cases e; rfl))
theorem grow_eq {R : Nat → Prop} {w w1 w2 : World} (h : w2.heap.size = w1.heap.size) : grow R w w1 = grow R w w2 := by unfold grow; rw [h]

set_option maxHeartbeats 1000000 in
/-- bytes behind what the file has -/
theorem add_any (R : Nat → Prop) (b : Nat) (L : List Ent) (s : ByteArray) (ao : Option Addr) (cap : Nat) (zs : List Int) (w : World) (h : Dir w R b L) (hB : IsB w ao cap zs) (hl : sum L + zs.length ≤ 140737488355328) :
    Calls Try.prog 35 #[.map (some b), .string s, .slice ao zs.length cap] w fun e w' => e = .returned (.tuple #[]) ∧ ∃ L', Dir w' (grow R w w') b L' ∧ Kept (touch b R) w w' ∧
      look L' = upd (look L) s (some ((look L s).getD [] ++ zs)) ∧ L'.length = L.length + plus (look L s) ∧ sum L' = sum L + zs.length := by
  have H := hide h
  have hlk := h.lookup s false
  simp only [Bool.false_eq_true, if_false] at hlk
  have HB := hide hB
  have hle : ((look L s).getD []).length ≤ sum L := by
    rcases split h.apart s with h1 | ⟨L1, v, ys, L2, rfl, h1, h2⟩
    · rw [look_miss h1]
      simp
    · rw [look_hit h1, sum_split, sum_cons]
      simp
      omega
  have HR := hide (h.at s).1
  obtain ⟨n, hn⟩ : ∃ n, zs.length = n := ⟨_, rfl⟩
  have HN := hide hn
  have HL := hide (show ((look L s).getD []).length + n ≤ 140737488355328 by omega)
  rw [hn]
  generalize hv : valAt L s = v at hlk HR
  have HV := hide hv
  clear h hB hle hl hn hv
  go_enter Try.func35, Try.ntmps35
  go_wp2_with (at_builtin; refine wl_append rfl (.tmp 10) (.tmp 11) rfl _ _ rfl HR.out ao n cap zs rfl HN.out HB.out HL.out ?_)
  intro v' w1 hr hg hloc
  rw [← HV.out] at hg hloc
  obtain ⟨w2, L', hrun, hD, hg2, hz, h1, h2, h3⟩ := Dir.update (R' := grow R w w1) H.out (map_but H.out hg) (rows_but H.out hg) hr (apart_new H.out hloc) (fun g hg => .inl hg) (new_in hr (H.out.at s).2.1 hloc) (grow_not H.out.other H.out.lt)
  rw [grow_eq hz] at hD
  have F := hide (⟨hD, touch_two hg hg2 (H.out.at s).2.1, h1, h2, by rw [List.length_append] at h3; omega⟩ : Dir w2 (grow R w w2) b L' ∧ Kept (touch b R) w w2 ∧ look L' = upd (look L) s (some ((look L s).getD [] ++ zs)) ∧ L'.length = L.length + plus (look L s) ∧ sum L' = sum L + zs.length)
  clear hD hg2 hz h1 h2 h3 hr hg hloc H HB HR HL HV
  refine wl_update rfl rfl rfl rfl rfl hrun ?_
  clear hrun
  refine st_end ?_
  go_end0
  exact ⟨rfl, L', HN.out ▸ F.out⟩

/-- the first bytes alone -/
theorem run_cut {w : World} {ao : Option Addr} {cap : Nat} {zs : List Int} (h : Row w (.slice ao zs.length cap) zs) {n : Nat} (hn : n ≤ zs.length) : (Instr.slice 31 (.slice ao zs.length cap) none (some (.int .i64 n)) none).run Try.prog w = .ok (.slice ao n cap) w := by
  obtain ⟨ao', cap', hv, _, h1, _⟩ := h.isB
  simp only [Value.slice.injEq] at hv
  obtain ⟨rfl, _, rfl⟩ := hv
  have hb : (Instr.sliceBounds true zs.length cap none (some (.int .i64 n)) none).run Try.prog w = .ok (0, n, cap) w := by
    unfold Instr.sliceBounds
    simp [run_sliceBound, show (n : Int) ≤ cap by omega, Result.andThen]
  have ha : (if cap = 0 then ao else ao.map (fun x => x.add (0 * 1))) = ao := by
    split
    · rfl
    · cases ao with
      | none => rfl
      | some x =>
        rcases h.2 with ⟨h, _⟩ | ⟨g, c, cur, h, _⟩
        · simp at h
        · simp only [Value.slice.injEq, Option.some.injEq] at h
          rw [h.1]
          simp [Addr.add]
  unfold Instr.slice
  simp only [Sem.run_bind, run_underlying Try.underlying31, Result.andThen, hb, Sem.run_pure]
  have hz : (sizeOf 5).run Try.prog w = .ok 1 w := by go_simp
  simp only [hz, ha, Nat.sub_zero]
set_option maxHeartbeats 1000000 in
set_option maxRecDepth 100000 in
theorem cut_any (R : Nat → Prop) (b : Nat) (L : List Ent) (s : ByteArray) (n : Nat) (hn : n ≤ 9223372036854775807) (w : World) (h : Dir w R b L) :
    Calls Try.prog 50 #[.map (some b), .string s, .int .i64 n] w fun e w' => e = .returned (.tuple #[]) ∧ ∃ L', Dir w' (grow R w w') b L' ∧ Kept (touch b R) w w' ∧
      look L' = upd (look L) s (some (((look L s).getD []).take n)) ∧ L'.length = L.length + plus (look L s) ∧ sum L' ≤ sum L := by
  have H := hide h
  have hlk := h.lookup s false
  simp only [Bool.false_eq_true, if_false] at hlk
  obtain ⟨ao, cap, hv, hB, hc1, hc2⟩ := (h.at s).1.isB
  have HR := hide (h.at s).1
  obtain ⟨m, hm⟩ : ∃ m, ((look L s).getD []).length = m := ⟨_, rfl⟩
  have HM := hide hm
  obtain ⟨k, hk⟩ : ∃ k, min n m = k := ⟨_, rfl⟩
  have HK := hide hk
  have hkm : k ≤ m := by omega
  have HV := hide hv
  rw [hv] at HR
  rw [hv, hm] at hlk
  have hsl := run_cut HR.out (n := k) (by omega)
  rw [hm] at hsl hc1
  have hr := HR.out.cut (n := k) (by omega)
  have hob : (Value.slice ao k cap).ownBlock = (valAt L s).ownBlock := by rw [hv]; cases ao <;> rfl
  have hg : w.grownBy w (valAt L s).ownBlock := World.grownBy.refl _ _
  obtain ⟨w2, L', hrun, hD, hg2, hz, h1, h2, h3⟩ := Dir.update (R' := grow R w w) H.out (map_but H.out hg) (rows_but H.out hg) hr (apart_new H.out (.inl hob)) (fun g hg => .inl hg) (new_in hr (H.out.at s).2.1 (.inl hob)) (grow_not H.out.other H.out.lt)
  rw [grow_eq hz] at hD
  have hsum : sum L' ≤ sum L := by
    rw [List.length_take, hm] at h3
    omega
  have htk : ((look L s).getD []).take k = ((look L s).getD []).take n := by
    rw [← hk, ← hm]
    exact (List.take_eq_take_min ..).symm
  rw [htk] at h1
  have F := hide (⟨hD, touch_two hg hg2 (H.out.at s).2.1, h1, h2, hsum⟩ : Dir w2 (grow R w w2) b L' ∧ Kept (touch b R) w w2 ∧ look L' = upd (look L) s (some (((look L s).getD []).take n)) ∧ L'.length = L.length + plus (look L s) ∧ sum L' ≤ sum L)
  clear hD hg2 hz h1 h2 h3 hr hg H HR hB h hsum htk hv hm HV HM hob
  by_cases hnm : n ≤ m
  · obtain rfl : k = n := by omega
    clear hk HK
    go_enter Try.func50, Try.ntmps50
    go_wp2_with (at_mapUpdate; refine wl_update rfl rfl rfl rfl rfl hrun ?_)
    go_end0
    exact ⟨rfl, L', F.out⟩
  · obtain rfl : k = m := by omega
    clear hk HK
    go_enter Try.func50, Try.ntmps50
    go_wp2_with (at_mapUpdate; refine wl_update rfl rfl rfl rfl rfl hrun ?_)
    go_end0
    exact ⟨rfl, L', F.out⟩

/-- another name for a file -/
def ren (f : ByteArray → Option (List Int)) (s t : ByteArray) : ByteArray → Option (List Int) := upd (upd f s none) t (some ((f s).getD []))
set_option maxHeartbeats 1000000 in
theorem ren_any (R : Nat → Prop) (b : Nat) (L : List Ent) (s t : ByteArray) (w : World) (h : Dir w R b L) :
    Calls Try.prog 52 #[.map (some b), .string s, .string t] w fun e w' => e = .returned (.tuple #[]) ∧ ∃ L', Dir w' (grow R w w') b L' ∧ Kept (touch b R) w w' ∧
      look L' = ren (look L) s t ∧ (L.length = 1 → (look L s).isSome → L'.length = 1) ∧ sum L' ≤ sum L := by
  have hlk := h.lookup s false
  simp only [Bool.false_eq_true, if_false] at hlk
  obtain ⟨w1, L1, hrun1, hD1, hg1, hz1, a1, a2, a3, a4⟩ := h.delete 0 s
  have hat := h.at s
  have hr1 : Row w1 (valAt L s) ((look L s).getD []) := hat.1.kept (Kept.ofGrown hg1) (fun g hg e => h.other (by cases e; exact hat.2.1 _ hg))
  obtain ⟨w2, L', hrun, hD, hg2, hz, h1, h2, h3⟩ := Dir.update (s := t) (R' := R) hD1 rfl (fun x hx _ => hD1.rows x hx) hr1 (fun x hx _ => by
    rcases a4 x hx with h5 | h5
    · rw [h5]
      cases x.2.1.ownBlock
      · exact .inl rfl
      · exact .inr (by simp)
    · exact .inr h5) (fun _ h => h) hat.2.1 hD1.other
  have hD' : Dir w2 (grow R w w2) b L' := ⟨hD.map, hD.rows, fun x hx g hg => .inl (hD.mine x hx g hg), hD.apart, grow_not h.other h.lt⟩
  have hk : Kept (touch b R) w w2 := (Kept.ofGrown hg1).trans (Kept.ofGrown hg2) (fun i _ e => .inl (by cases e; rfl)) (fun i _ e => .inl (by cases e; rfl))
  have hlook : look L' = ren (look L) s t := by rw [h1, a1]; rfl
  have hlen : L.length = 1 → (look L s).isSome → L'.length = 1 := fun e1 e2 => by
    obtain ⟨q, hq⟩ := Option.isSome_iff_exists.1 e2
    rw [hq, e1] at a2
    simp [plus] at a2
    subst a2
    rw [h2]
    simp [look, plus]
  have hsum : sum L' ≤ sum L := by omega
  have F := hide (⟨hD', hk, hlook, hlen, hsum⟩ : Dir w2 (grow R w w2) b L' ∧ Kept (touch b R) w w2 ∧ look L' = ren (look L) s t ∧ (L.length = 1 → (look L s).isSome → L'.length = 1) ∧ sum L' ≤ sum L)
  generalize valAt L s = v at hlk hrun
  clear hD hg2 hz h1 h2 h3 hD1 hg1 hz1 a1 a2 a3 a4 hat hr1 hD' hk hlook hlen hsum h
  go_enter Try.func52, Try.ntmps52
  go_wp2_with (at_builtin; refine wl_delete rfl rfl rfl rfl hrun1 ?_)
  go_end0
  exact ⟨rfl, L', F.out⟩
end Go.Proofs.Ytdmhcgneafacmaa
