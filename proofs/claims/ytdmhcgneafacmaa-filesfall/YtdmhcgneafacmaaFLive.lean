/- A disk that the caller has made; the contract of lives over this seat's translation. -/
import Derived.Test.YtdmhcgneafacmaaFCrb
namespace Go.Proofs.Ytdmhcgneafacmaa
open Go.RowKit
set_option linter.unusedVariables false
set_option linter.unusedSimpArgs false
set_option maxRecDepth 100000

def noF : ByteArray → Option (List Int) := fun _ => none
theorem look_nil : look [] = noF := rfl
theorem nil_of {w : World} {R : Nat → Prop} {b : Nat} {L : List Ent} (h : Dir w R b L) (hl : look L = noF) : L = [] := by
  cases L with
  | nil => rfl
  | cons x r =>
    have := look_mem h.names (x := x) (by simp)
    rw [hl] at this
    cases this
/-- a folder of one file -/
theorem one_of {w : World} {R : Nat → Prop} {b : Nat} {L : List Ent} {s : ByteArray} {zs : List Int} (h : Dir w R b L) (hl : look L = upd noF s (some zs)) : sum L = zs.length ∧ L.length = 1 := by
  have hall : ∀ x ∈ L, x.1 = s ∧ x.2.2 = zs := fun x hx => by
    have := look_mem h.names hx
    rw [hl] at this
    unfold upd at this
    split at this
    · rename_i e
      exact ⟨beq_eq e, by cases this; rfl⟩
    · cases this
  have hp := h.names
  match L, hall, hp, hl with
  | [], _, _, hl =>
    have := congrFun hl s
    unfold upd at this
    rw [beq_same] at this
    cases this
  | [x], hall, _, _ => exact ⟨by rw [sum_cons, (hall x (by simp)).2]; simp [sum], rfl⟩
  | x :: y :: r, hall, hp, _ =>
    exact absurd ((hall x (by simp)).1.trans (hall y (by simp)).1.symm) ((List.pairwise_cons.1 hp).1 y (by simp))
/-- a disk that was made behind w -/
def Live (w W : World) (f : Nat) (size : Int) (F GS : ByteArray → Option (List Int)) (acts : List AM) (M MS : Nat) : Prop :=
  ∃ c nb sb uv N S, Disk W c f size nb sb uv N S acts ∧ High w.heap.size c ∧ Below w.heap.size w W ∧ look N = F ∧ look S = GS ∧ sum N ≤ M ∧ sum S ≤ MS
section
variable {w W : World} {f : Nat} {size : Int} {F GS : ByteArray → Option (List Int)} {acts : List AM} {M MS : Nat}
theorem Live.next {W' : World} (h : Live w W f size F GS acts M MS) (b : Below W.heap.size W W') : Live w W' f size F GS acts M MS := by
  obtain ⟨c, nb, sb, uv, N, S, h1, h2, h3, h4⟩ := h
  exact ⟨c, nb, sb, uv, N, S, h1.new (Kept.ofBelow b), h2, h3.trans (b.mono h3.size), h4⟩
theorem Live.below (h : Live w W f size F GS acts M MS) : Below w.heap.size w W := by
  obtain ⟨c, nb, sb, uv, N, S, h1, h2, h3, h4⟩ := h
  exact h3
theorem live_new (w : World) (size : Int) (h0 : 0 ≤ size) (h1 : size ≤ 268435456) : Calls Try.prog 7 #[.int .i64 size] w fun e w' => e = .returned (.tuple #[.pointer (some ⟨w.heap.size + 2, 0, none⟩), .int .i64 0]) ∧ Hid (Live w w' (w.heap.size + 2) size noF noF [] 0 0) :=
  (new_any size h0 h1 w).mono fun e w' hp => ⟨hp.1, hide ⟨_, _, _, _, _, _, hp.2.out.1, hp.2.out.2.2, hp.2.out.2.1, rfl, rfl, Nat.le_refl _, Nat.le_refl _⟩⟩
theorem After.live {w' : World} {c : Nat → Nat} {nb sb : Nat} {uv : Value} {N S : List Ent} {A : AM} (hd : Disk W c f size nb sb uv N S acts) (hh : High w.heap.size c) (hb : Below w.heap.size w W) (hN : look N = F) (hS : look S = GS) (hM : sum N ≤ M) (hMS : sum S ≤ MS) (h : After W w' c f size nb sb N S acts A) : Live w w' f size (doF F A) GS (acts ++ [A]) (M + addLen A) MS := by
  obtain ⟨c', uv', N', h1, h2, h3, h4⟩ := h
  exact ⟨c', nb, sb, uv', N', S, h1, hh.step h2 hb.size, hb.trans (h2.below hh hb.size), by rw [h4, hN], hS, by omega, hMS⟩
theorem live_append1 (h : Live w W f size noF GS acts M MS) (h0 : 0 ≤ size) (h1 : size ≤ 268435456) (s : ByteArray) (ho : okN s = true) (ao : Option Addr) (cap : Nat) (zs : List Int) (n : Nat) (hz : zs.length = n) (hB : IsB W ao cap zs) (hcap : n ≤ cap) (hc2 : cap ≤ 9223372036854775807) (hroom : (n : Int) ≤ size) (ha : acts.length ≤ 1000000000) :
    Calls Try.prog 11 #[.pointer (some ⟨f, 0, none⟩), .string s, .slice ao n cap] W fun e w' => e = .returned (.int .i64 0) ∧ Hid (Live w w' f size (upd noF s (some zs)) GS (acts ++ [⟨1, s, s, zs, 0⟩]) (M + n) MS) := by
  obtain ⟨c, nb, sb, uv, N, S, hd, hh, hb, hN, hS, hM, hMS⟩ := h
  obtain rfl := nil_of hd.now hN
  have hs := (okN_le ho).2
  refine (append_ok1 hd h0 h1 (by simp [sum]) s (by omega) ho ao cap zs n hz hB hcap hc2 rfl (by simp) (by simp [sum]; omega) ha).mono fun e w' hp => ⟨hp.1, hide ?_⟩
  have := hp.2.out.live hd hh hb hN hS hM hMS
  subst hz
  exact this
theorem live_append2 (h : Live w W f size F GS acts M MS) (h0 : 0 ≤ size) (h1 : size ≤ 268435456) (hM : M ≤ 140737488355328) (s : ByteArray) (ho : okN s = true) (ys : List Int) (hF : F s = some ys) (ao : Option Addr) (cap : Nat) (zs : List Int) (n : Nat) (hz : zs.length = n) (hB : IsB W ao cap zs) (hcap : n ≤ cap) (hc2 : cap ≤ 9223372036854775807) (hroom : (n : Int) + M ≤ size) (ha : acts.length ≤ 1000000000) :
    Calls Try.prog 11 #[.pointer (some ⟨f, 0, none⟩), .string s, .slice ao n cap] W fun e w' => e = .returned (.int .i64 0) ∧ Hid (Live w w' f size (upd F s (some (ys ++ zs))) GS (acts ++ [⟨1, s, s, zs, 0⟩]) (M + n) MS) := by
  obtain ⟨c, nb, sb, uv, N, S, hd, hh, hb, hN, hS, hM', hMS⟩ := h
  have hs := (okN_le ho).2
  refine (append_ok2 hd h0 h1 (by omega) s (by omega) ho ao cap zs n hz hB hcap hc2 ys (by rw [hN]; exact hF) (by omega) ha).mono fun e w' hp => ⟨hp.1, hide ?_⟩
  have := hp.2.out.live hd hh hb hN hS hM' hMS
  have e1 : doF F ⟨1, s, s, zs, 0⟩ = upd F s (some (ys ++ zs)) := by
    show upd F s (some ((F s).getD [] ++ zs)) = _
    rw [hF]
    rfl
  rw [e1] at this
  subst hz
  exact this
theorem live_unsure (h : Live w W f size F GS acts M MS) : Calls Try.prog 18 #[.pointer (some ⟨f, 0, none⟩)] W fun e w' => e = .returned (.int .i64 acts.length) ∧ w' = W := by
  obtain ⟨c, nb, sb, uv, N, S, hd, _⟩ := h
  exact unsure_any hd
theorem live_left (h : Live w W f size F GS acts M MS) (h0 : 0 ≤ size) (h1 : size ≤ 268435456) (s : ByteArray) (zs : List Int) (hF : F = upd noF s (some zs)) (hz : zs.length ≤ 1000000) : Calls Try.prog 23 #[.pointer (some ⟨f, 0, none⟩)] W fun e w' => e = .returned (.int .i64 (size - zs.length)) ∧ Hid (Below W.heap.size W w') := by
  obtain ⟨c, nb, sb, uv, N, S, hd, hh, hb, hN, hS, hM, hMS⟩ := h
  have := (one_of hd.now (hN.trans hF)).1
  have h2 := left_any hd h0 h1 (by omega)
  rw [this] at h2
  exact h2
theorem live_read (h : Live w W f size F GS acts M MS) (s : ByteArray) (ho : okN s = true) (zs : List Int) (hF : F s = some zs) (hz : zs.length ≤ 1000000) : Calls Try.prog 21 #[.pointer (some ⟨f, 0, none⟩), .string s] W fun e w' => ∃ v, e = .returned (.tuple #[v, .int .i64 0]) ∧ Hid (NewRow W w' v zs) := by
  obtain ⟨c, nb, sb, uv, N, S, hd, hh, hb, hN, hS, hM, hMS⟩ := h
  have hs := (okN_le ho).2
  exact read_yes hd s (by omega) ho zs (by rw [hN]; exact hF) (by omega)
theorem live_readno (h : Live w W f size F GS acts M MS) (s : ByteArray) (hs : s.size ≤ 9223372036854775807) (ho : okN s = false) : Calls Try.prog 21 #[.pointer (some ⟨f, 0, none⟩), .string s] W fun e w' => e = .returned (.tuple #[.slice none 0 0, .int .i64 1]) ∧ Hid (Below W.heap.size W w') := by
  obtain ⟨c, nb, sb, uv, N, S, hd, _⟩ := h
  exact read_no hd s hs ho
/-- a crash behind the first of two Appends -/
theorem live_crash (A B : AM) (h : Live w W f size F noF [A, B] M 0) (hB : B.kind = 1) (ht : tot [A, B] ≤ 1000000) : Calls Try.prog 19 #[.pointer (some ⟨f, 0, none⟩), .int .i64 1, .int .i64 0] W fun e w' => e = .returned (.int .i64 0) ∧ Hid (∃ GS' MS', Live w w' f size (doF noF A) GS' [] 1000000 MS') := by
  obtain ⟨c, nb, sb, uv, N, S, hd, hh, hb, hN, hS, hM, hMS⟩ := h
  refine (crash_app hd (by omega) 1 0 B rfl hB (by omega)).mono fun e w' hp => ⟨hp.1, hide ?_⟩
  obtain ⟨c', nb', N', S', h1, h2, h3, h4, _⟩ := hp.2.out
  refine ⟨look S', sum S', c', nb', sb, _, N', S', h1, hh.step h2 hb.size, hb.trans (h2.below hh hb.size), ?_, rfl, by omega, Nat.le_refl _⟩
  rw [h3 (.inl rfl), hS]
  rfl
end
theorem conv_any {w : World} {ao : Option Addr} {cap : Nat} {zs : List Int} (h : IsB w ao cap zs) :
    (convert 31 9 (.slice ao zs.length cap)).run Try.prog w = .ok (.string (strOfNums zs)) w := by
  rcases h with ⟨rfl, rfl, rfl⟩ | ⟨x, rfl, hc⟩
  · exact run_convert_bytes_nil w 31 5 Try.underlying31 Try.underlying5 0 0 9 Try.underlying9
  · have hl : (loadCells x zs.length).run Try.prog w = .ok (zs.map (Value.int .u8)).toArray w := by
      have := run_loadCells_list (P := Try.prog) w x (zs.map (Value.int .u8)) hc
      simpa using this
    rw [run_convert_bytes_string w 31 9 5 _ zs.length cap Try.underlying31 Try.underlying5 Try.underlying9, run_bytesToString w _ zs.length cap zs hl, foldl_push_bytes]
    simp [strOfNums, ByteArray.empty, ByteArray.emptyWithCapacity]
    rfl
theorem made_isB (W : World) (o : Obj) (zs : List Int) (cs : Array Value) (fr : Nat × Nat) (ho : o = .cells cs 5 fr) (hc : cs.toList = U8 zs) : IsB (W.alloc o) (some ⟨W.heap.size, 0, none⟩) zs.length zs := by
  subst ho
  refine .inr ⟨_, rfl, fun j u hu => ?_⟩
  exact World.news_of_block (w := W.alloc (.cells cs 5 fr)) (heap_alloc_new W _) j u (by rw [hc]; exact hu)
def sA : ByteArray := ⟨#[97]⟩
def sB : ByteArray := ⟨#[65]⟩
theorem okA : okN sA = true := by decide
theorem okB : okN sB = false := by decide
theorem lives_all (w : World) : Hid (Calls Try.prog 7 #[.int .i64 100] w fun e w1 => e = .returned (.tuple #[.pointer (some ⟨w.heap.size + 2, 0, none⟩), .int .i64 0]) ∧
    Hid (Calls Try.prog 11 #[.pointer (some ⟨w.heap.size + 2, 0, none⟩), .string ⟨#[97]⟩, .slice (some ⟨w1.heap.size, 0, none⟩) 2 2] (w1.alloc (.cells #[.int .u8 120, .int .u8 121] 5 (2, 3))) fun e w2 => e = .returned (.int .i64 0) ∧
    Hid (Calls Try.prog 11 #[.pointer (some ⟨w.heap.size + 2, 0, none⟩), .string ⟨#[97]⟩, .slice (some ⟨w2.heap.size, 0, none⟩) 1 1] (w2.alloc (.cells #[.int .u8 122] 5 (1, 2))) fun e w3 => e = .returned (.int .i64 0) ∧
    Hid (Calls Try.prog 18 #[.pointer (some ⟨w.heap.size + 2, 0, none⟩)] w3 fun e w' => e = .returned (.int .i64 2) ∧ w' = w3) ∧
    Hid (Calls Try.prog 19 #[.pointer (some ⟨w.heap.size + 2, 0, none⟩), .int .i64 1, .int .i64 0] w3 fun e w4 => e = .returned (.int .i64 0) ∧
    Hid (Calls Try.prog 21 #[.pointer (some ⟨w.heap.size + 2, 0, none⟩), .string ⟨#[97]⟩] w4 fun e w5 => ∃ ao cap, e = .returned (.tuple #[.slice ao 2 cap, .int .i64 0]) ∧
    Hid (Calls Try.prog 21 #[.pointer (some ⟨w.heap.size + 2, 0, none⟩), .string ⟨#[65]⟩] w5 fun e w6 => e = .returned (.tuple #[.slice none 0 0, .int .i64 1]) ∧ Hid ((convert 31 9 (.slice ao 2 cap)).run Try.prog w6 = .ok (.string ⟨#[120, 121]⟩) w6) ∧ Hid ((convert 31 9 (.slice ao 2 cap)).run Try.prog w6.drew = .ok (.string ⟨#[120, 121]⟩) w6.drew) ∧
    Hid (Calls Try.prog 23 #[.pointer (some ⟨w.heap.size + 2, 0, none⟩)] w6 fun e w7 => e = .returned (.int .i64 98) ∧ Hid (Below w.heap.size w w7)))))))) := by
  refine hide ((live_new w 100 (by decide) (by decide)).mono fun e w1 h1 => ⟨h1.1, hide ?_⟩)
  have l1 := h1.2.out.next ((Below.refl w1.heap.size w1).alloc (Nat.le_refl _) (.cells #[.int .u8 120, .int .u8 121] 5 (2, 3)))
  refine (live_append1 l1 (by decide) (by decide) sA okA _ 2 [120, 121] 2 rfl (made_isB w1 _ [120, 121] _ _ rfl rfl) (by decide) (by decide) (by decide) (by decide)).mono fun e w2 h2 => ⟨h2.1, hide ?_⟩
  have l2 := h2.2.out.next ((Below.refl w2.heap.size w2).alloc (Nat.le_refl _) (.cells #[.int .u8 122] 5 (1, 2)))
  refine (live_append2 l2 (by decide) (by decide) (by decide) sA okA [120, 121] (by unfold upd; rw [beq_same]; rfl) _ 1 [122] 1 rfl (made_isB w2 _ [122] _ _ rfl rfl) (by decide) (by decide) (by decide) (by decide)).mono fun e w3 h3 => ⟨h3.1, hide (live_unsure h3.2.out), hide ?_⟩
  refine (live_crash _ _ h3.2.out rfl (by decide)).mono fun e w4 h4 => ⟨h4.1, hide ?_⟩
  obtain ⟨GS, MS, l4⟩ := h4.2.out
  have hF : doF noF ⟨1, sA, sA, [120, 121], 0⟩ = upd noF sA (some [120, 121]) := rfl
  refine (live_read l4 sA okA [120, 121] (by rw [hF]; unfold upd; rw [beq_same]; rfl) (by decide)).mono fun e w5 h5 => ?_
  obtain ⟨v, rfl, hn⟩ := h5
  obtain ⟨ao, cap, rfl, _⟩ := hn.out.1.isB
  refine ⟨ao, cap, rfl, hide ?_⟩
  have l5 := l4.next hn.out.2.1
  refine (live_readno l5 sB (by decide) okB).mono fun e w6 h6 => ?_
  have l6 := l5.next h6.2.out
  obtain ⟨ao', cap', e', hB, _⟩ := hn.out.1.isB
  simp only [Value.slice.injEq] at e'
  obtain ⟨rfl, _, rfl⟩ := e'
  have hB6 := hB.below h6.2.out
  have cv := conv_any hB6
  refine ⟨h6.1, hide cv, hide (conv_any (w := w6.drew) hB6), hide ((live_left l6 (by decide) (by decide) sA [120, 121] hF (by decide)).mono fun e w7 h7 => ⟨h7.1, hide (l6.next h7.2.out).below⟩)⟩
end Go.Proofs.Ytdmhcgneafacmaa
