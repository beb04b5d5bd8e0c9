/- Numbers as bytes, as few as can be: wire's shortest and number, the document's number and read, over this seat's translation. -/
import Derived.Test.YtcbadmkgbaffpaaOddW
namespace Go.Proofs.Ytcbadmkgbaffpaa
open Go.RowKit
set_option linter.unusedVariables false

/-- a number's digits to the base 256, the highest first -/
def digsF : Nat → Nat → List Int
  | 0, _ => []
  | f + 1, n => if n = 0 then [] else digsF f (n / 256) ++ [((n % 256 : Nat) : Int)]
theorem digsF_enough : ∀ (f g n : Nat), n ≤ f → n ≤ g → digsF f n = digsF g n
  | 0, 0, _, _, _ => rfl
  | 0, g + 1, n, h, _ => by
    have : n = 0 := by omega
    subst this
    rfl
  | f + 1, 0, n, _, h => by
    have : n = 0 := by omega
    subst this
    rfl
  | f + 1, g + 1, n, h1, h2 => by
    show (if n = 0 then [] else digsF f (n / 256) ++ _) = (if n = 0 then [] else digsF g (n / 256) ++ _)
    by_cases h : n = 0
    · rw [if_pos h, if_pos h]
    · rw [if_neg h, if_neg h, digsF_enough f g (n / 256) (by omega) (by omega)]
def digs (n : Nat) : List Int := digsF n n
theorem digs_zero : digs 0 = [] := rfl
theorem digs_pos (n : Nat) (h : n ≠ 0) : digs n = digs (n / 256) ++ [((n % 256 : Nat) : Int)] := by
  obtain ⟨m, rfl⟩ : ∃ m, n = m + 1 := ⟨n - 1, by omega⟩
  show (if m + 1 = 0 then [] else digsF m ((m + 1) / 256) ++ _) = _
  rw [if_neg h, digsF_enough m ((m + 1) / 256) ((m + 1) / 256) (by omega) (Nat.le_refl _)]
  rfl
theorem digs_bytes (n : Nat) : Bytes (digs n) := by
  induction n using Nat.strongRecOn with
  | _ n ih =>
    by_cases h : n = 0
    · rw [h, digs_zero]; intro c hc; cases hc
    · rw [digs_pos n h]
      intro c hc
      rcases List.mem_append.1 hc with hc | hc
      · exact ih (n / 256) (by omega) c hc
      · rw [List.mem_singleton.1 hc]; omega
theorem digs_len (k : Nat) : ∀ n, n < 256 ^ k → (digs n).length ≤ k := by
  induction k with
  | zero => intro n hn; rw [show n = 0 by omega, digs_zero]; exact Nat.le_refl _
  | succ k ih =>
    intro n hn
    by_cases h : n = 0
    · rw [h, digs_zero]; simp
    · rw [digs_pos n h, List.length_append]
      have := ih (n / 256) (by rw [Nat.pow_succ] at hn; omega)
      simp; omega

set_option maxHeartbeats 1000000 in
theorem shortest_any (x : Nat) (w : World) (hx : x ≤ 9223372036854775807) :
    Calls Try.prog 41 #[.int .i64 x] w fun e w' => ∃ v, e = .returned v ∧ Hid (w'.ownsRow w.heap.size 5 1 v (digs x).length (U8 (digs x))) ∧ Hid (Below w.heap.size w w') := by
  obtain ⟨i0, hi, hz0, hz1, hz2⟩ := info_parts Try.info5
  go_enter Try.func41, Try.ntmps41
  go_wp2
  go_loopw [3, 4] (fun b s wr => ∃ k : Nat, k ≤ 8 ∧ s = .int .i64 (56 - 8 * (k : Int)) ∧ Hid (wr.ownsRow w.heap.size 5 1 b (digs (x / 2 ^ (64 - 8 * k))).length (U8 (digs (x / 2 ^ (64 - 8 * k))))) ∧ Hid (Below w.heap.size w wr)) (fun _ s _ => (intOf s + 8).toNat)
  case atStart => exact ⟨0, by omega, rfl, by rw [show x / 2 ^ (64 - 8 * 0) = 0 by simp; omega, digs_zero]; exact World.ownsRow_nil _ _ _ _, Below.refl _ _⟩
  case round =>
    obtain ⟨k, hk, rfl, HO, HB⟩ := hrel
    by_cases hlt : k < 8
    · have q1 : (0 : Int) ≤ 56 - 8 * (k : Int) := by omega
      obtain ⟨y, hy⟩ : ∃ y, x / 2 ^ (56 - 8 * k) = y := ⟨_, rfl⟩
      have hy1 : (x : Int) / 2 ^ (56 - 8 * k) = (y : Int) := by rw [← hy]; simp
      have hy2 : x / 2 ^ (64 - 8 * k) = y / 256 := by rw [← hy, Nat.div_div_eq_div_mul, show 64 - 8 * k = (56 - 8 * k) + 8 by omega, Nat.pow_add]
      have hy3 : x / 2 ^ (64 - 8 * (k + 1)) = y := by rw [← hy]; congr 2; omega
      have hyb : y ≤ 9223372036854775807 := by rw [← hy]; exact Nat.le_trans (Nat.div_le_self _ _) hx
      have HY3 := hide hy3
      rw [hy2] at HO
      clear hy hy2 hy3
      have HL := hide (digs_len 8 (y / 256) (by omega))
      have zr := HB.out.size
      by_cases h0 : y = 0
      · subst h0
        rw [show (0 : Nat) / 256 = 0 from rfl] at HO
        go_wp2
        go_roundw
        case rel => exact ⟨k + 1, by omega, by simp; omega, by rw [HY3.out]; exact HO, HB⟩
        case measure => simp [intOf]; omega
      · have hp : (0 : Int) < (y : Int) := by omega
        have HD := hide (digs_pos y h0)
        obtain ⟨n, hn⟩ : ∃ n, (digs (y / 256)).length = n := ⟨_, rfl⟩
        have HN := hide hn
        rw [hn] at HO HL
        have hnl : n ≤ 8 := HL.out
        generalize digs (y / 256) = D at *
        clear hn h0
        go_wp2_with (at_builtin; refine wpList_append_own _ rfl (.tmp 13) (.tmp 18) 23 rfl w.heap.size 5 i0 (.int .u8 0) 1 1 Try.underlying23 hi hz0 hz1 hz2 rfl (by decide) _ n (U8 D) rfl (HO.out.alloc _) ⟨wr.heap.size, 0, none⟩ 1 1 [.int .u8 ((y : Int) % 256)] rfl rfl (cell_one_new _ _ _) ?c2 ?c3 ?c4 ?c5 ?_)
        case c2 => exact one_u8 [(y : Int) % 256]
        case c3 => unfold maxLen; omega
        case c4 => omega
        case c5 => simp; omega
        intro v' w1 ho hg _
        have R := hide (own_push HO.out zr HB.out ho hg)
        clear ho hg HO
        go_wp2
        go_roundw
        case rel =>
          refine ⟨k + 1, by omega, by simp; omega, ?_, R.out.2.2⟩
          rw [HY3.out, HD.out, List.length_append, HN.out]
          exact R.out.1
        case measure => simp [intOf]; omega
    · have ek : k = 8 := by omega
      subst ek
      rw [show x / 2 ^ (64 - 8 * 8) = x by simp] at HO
      go_wp2
      go_ret
      exact ⟨_, rfl, HO, HB⟩

set_option maxHeartbeats 1000000 in
/-- the document's number -/
theorem rnumber_any (x : Nat) (w : World) (hx : x ≤ 9223372036854775807) :
    Calls Try.prog 44 #[.int .i64 x] w fun e w' => ∃ v, e = .returned v ∧ Hid (w'.ownsRow w.heap.size 5 1 v (digs x).length (U8 (digs x))) ∧ Hid (Below w.heap.size w w') := by
  obtain ⟨i0, hi, hz0, hz1, hz2⟩ := info_parts Try.info5
  go_enter Try.func44, Try.ntmps44
  go_wp2
  go_loopw [0, 3] (fun xv b wr => ∃ (y : Nat) (D : List Int), y ≤ x ∧ xv = .int .i64 y ∧ Hid (digs x = digs y ++ D) ∧ Hid (wr.ownsRow w.heap.size 5 1 b D.length (U8 D)) ∧ Hid (Below w.heap.size w wr)) (fun xv _ _ => (intOf xv).toNat)
  case atStart => exact ⟨x, [], Nat.le_refl _, rfl, hide (by simp), World.ownsRow_nil _ _ _ _, Below.refl _ _⟩
  case round =>
    obtain ⟨y, D, hy, rfl, HD, HO, HB⟩ := hrel
    have zr := HB.out.size
    have HL := hide (digs_len 8 x (by omega))
    by_cases h0 : y = 0
    · subst h0
      have HE := hide HD.out
      rw [digs_zero, List.nil_append] at HE
      go_wp2
      go_ret
      exact ⟨_, rfl, by rw [HE.out]; exact HO, HB⟩
    · have hp : (0 : Int) < (y : Int) := by omega
      have HD2 := hide (digs_pos y h0)
      have hDl : D.length ≤ 8 := by have h1 := HL.out; have h2 := congrArg List.length HD.out; rw [List.length_append] at h2; omega
      obtain ⟨a1, c1, rfl, hIB, _⟩ := own_isB HO.out
      have HIB := hide hIB
      clear hIB
      obtain ⟨n, hn⟩ : ∃ n, D.length = n := ⟨_, rfl⟩
      have HN := hide hn
      rw [hn] at hDl
      rw [hn]
      clear hn h0
      go_wp2_with (at_builtin; refine wpList_append_ownx rfl (.tmp 8) (.tmp 9) rfl w.heap.size _ 1 [(y : Int) % 256] rfl ?c0 a1 n c1 D rfl HN.out ?c1 ?c2 ?c3 ?_)
      case c0 => exact owns_mono (own_one wr _) zr
      case c1 => exact HIB.out.below (below_alloc wr _)
      case c2 => omega
      case c3 => simp; omega
      intro v1 w1 ho hg
      have HB1 := hide ((HB.out.alloc zr (.cells #[.int .u8 ((y : Int) % 256)] 5)).grown hg (by simp; omega) (fun k hk => by cases hk; exact zr))
      have HO1 := hide (show w1.ownsRow w.heap.size 5 1 v1 ((y : Int) % 256 :: D).length (U8 ((y : Int) % 256 :: D)) by
        rw [List.length_cons, HN.out, Nat.add_comm]; exact ho)
      clear ho hg HO
      go_wp2
      go_roundw
      case rel => exact ⟨y / 256, (y : Int) % 256 :: D, by omega, by simp, hide (by rw [HD.out, HD2.out]; simp), HO1, HB1⟩
      case measure => simp [intOf]; omega

/-- the number whose bytes are L; none, if it is longer than it must be, or too great -/
def rdNum (L : List Int) : Option Int := if L.length ≤ 8 ∧ (L = [] ∨ L.getD 0 0 ≠ 0) ∧ val (fun k => L.getD k 0) L.length ≤ 9223372036854775807 then some (val (fun k => L.getD k 0) L.length) else none
def rdNumV (L : List Int) : Value := match rdNum L with
  | some n => .tuple #[.int .i64 n, .bool true]
  | none => .tuple #[.int .i64 0, .bool false]
theorem rdNum_long {L : List Int} (h : 8 < L.length) : rdNum L = none := by unfold rdNum; rw [if_neg (by omega)]
theorem rdNum_zero {L : List Int} (h : L ≠ []) (h0 : L.getD 0 0 = 0) : rdNum L = none := by
  unfold rdNum; rw [if_neg]; rintro ⟨_, h1 | h1, _⟩
  · exact h h1
  · exact h1 h0
theorem rdNum_great {L : List Int} (h : 9223372036854775807 < val (fun k => L.getD k 0) L.length) : rdNum L = none := by unfold rdNum; rw [if_neg (by omega)]
theorem rdNum_some {L : List Int} (h1 : L.length ≤ 8) (h2 : L = [] ∨ L.getD 0 0 ≠ 0) (h3 : val (fun k => L.getD k 0) L.length ≤ 9223372036854775807) : rdNum L = some (val (fun k => L.getD k 0) L.length) := by unfold rdNum; rw [if_pos ⟨h1, h2, h3⟩]

set_option maxHeartbeats 1000000 in
theorem number_none (cap : Nat) (ao : Option Addr) (w : World) : Calls Try.prog 63 #[.slice ao 0 cap] w fun e w' => e = .returned (.tuple #[.int .i64 0, .bool true]) ∧ w' = w := by
  go_enter Try.func63, Try.ntmps63
  go_wp2
  refine wp_loop_rounds 1 ?_
  rw [rounds_succ]
  go_wp2
  go_ret2
  exact ⟨rfl, rfl⟩
set_option maxHeartbeats 1000000 in
theorem number_long (cap n : Nat) (ao : Option Addr) (w : World) (h : 8 < n) (hn : n ≤ 9223372036854775807) : Calls Try.prog 63 #[.slice ao n cap] w fun e w' => e = .returned (.tuple #[.int .i64 0, .bool false]) ∧ w' = w := by
  go_enter Try.func63, Try.ntmps63
  go_wp2
  go_ret2
  exact ⟨rfl, rfl⟩
set_option maxHeartbeats 1000000 in
theorem number_zero (b o n cap : Nat) (w : World) (h : n ≤ 8) (h0 : 0 < n) (hc : w.cell? ⟨b, o, none⟩ = some (.int .u8 0)) : Calls Try.prog 63 #[.slice (some ⟨b, o, none⟩) n cap] w fun e w' => e = .returned (.tuple #[.int .i64 0, .bool false]) ∧ w' = w := by
  have hi : (0 : Int) < (n : Int) := by omega
  have hi8 : (n : Int) ≤ 8 := by omega
  go_enter Try.func63, Try.ntmps63
  go_wp2
  go_ret2
  exact ⟨rfl, rfl⟩
def numV (x : Int) : Value := if x ≤ 9223372036854775807 then .tuple #[.int .i64 x, .bool true] else .tuple #[.int .i64 0, .bool false]
theorem numV_le {x : Int} (h : x ≤ 9223372036854775807) : numV x = .tuple #[.int .i64 x, .bool true] := by unfold numV; rw [if_pos h]
theorem numV_gt {x : Int} (h : ¬ x ≤ 9223372036854775807) : numV x = .tuple #[.int .i64 0, .bool false] := by unfold numV; rw [if_neg h]
set_option maxHeartbeats 1000000 in
theorem number_row (b o m cap : Nat) (z : Nat → Int) (w : World) (hm : m ≤ 8) (h0 : 0 < m) (hne : z 0 ≠ 0) (hc : ∀ k, k < m → w.cell? ⟨b, o + k, none⟩ = some (.int .u8 (z k))) (hz : ∀ k, k < m → 0 ≤ z k ∧ z k ≤ 255) :
    Calls Try.prog 63 #[.slice (some ⟨b, o, none⟩) m cap] w fun e w' => e = .returned (numV (val z m)) ∧ w' = w := by
  have HC := hide hc
  have HZ := hide hz
  have q0 := hc 0 h0
  rw [Nat.add_zero] at q0
  have g0 : (z 0 == 0) = false := beq_eq_false_iff_ne.2 hne
  have hi : (0 : Int) < (m : Int) := by omega
  have hi8 : (m : Int) ≤ 8 := by omega
  clear hc hz hne
  generalize z 0 = z0 at *
  go_enter Try.func63, Try.ntmps63
  go_wp2
  clear q0 g0
  go_loop [4, 23] (fun x i => ∃ k : Nat, k ≤ m ∧ i = .int .i64 k ∧ x = .int .u64 (val z k)) (fun _ i => m - (intOf i).toNat)
  case atStart => exact ⟨0, Nat.zero_le _, rfl, rfl⟩
  case round =>
    obtain ⟨k, hk, rfl, rfl⟩ := hrel
    obtain ⟨x0, x1⟩ := val_bd z k fun j hj => HZ.out j (by omega)
    by_cases hlt : k < m
    · have q := HC.out k hlt
      obtain ⟨c0, c1⟩ := HZ.out k hlt
      have x2 : val z k < 72057594037927936 := Int.lt_of_lt_of_le x1 (pow_le k (by omega))
      clear x1
      have hS := hide (show val z (k + 1) = val z k * 256 + z k from rfl)
      generalize z k = c at *
      generalize val z k = x at *
      have ho := or_byte x c x0 x2 c0 c1
      go_wp2
      go_round
      case rel => exact ⟨k + 1, by omega, by go_num, by rw [hS.out]⟩
      case measure => simp [intOf]; omega
    · have ek : k = m := by omega
      subst ek
      have x2 : val z k ≤ 18446744073709551615 := by have := (val_le8 z k hm HZ.out).2; omega
      clear x1
      obtain ⟨x, hx⟩ : ∃ x, val z k = x := ⟨_, rfl⟩
      have HX := hide hx
      rw [hx] at x0 x2
      rw [hx]
      clear hx
      by_cases hg : x ≤ 9223372036854775807
      · go_wp2
        go_ret2
        exact ⟨by rw [HX.out, numV_le hg]; rfl, rfl⟩
      · go_wp2
        go_ret2
        exact ⟨by rw [HX.out, numV_gt (by omega)]; rfl, rfl⟩

/-- number: what the bytes L say -/
theorem number_any (ao : Option Addr) (cap : Nat) (L : List Int) (w : World) (hI : IsB w ao cap L) (hL : Bytes L) (hn : L.length ≤ 9223372036854775807) :
    Calls Try.prog 63 #[.slice ao L.length cap] w fun e w' => e = .returned (rdNumV L) ∧ w' = w := by
  by_cases h8 : 8 < L.length
  · exact (number_long cap L.length ao w h8 hn).mono fun e w' h => ⟨by rw [h.1, rdNumV, rdNum_long h8], h.2⟩
  by_cases h0 : L.length = 0
  · have e0 : L = [] := List.eq_nil_of_length_eq_zero h0
    subst e0
    exact (number_none cap ao w).mono fun e w' h => ⟨by rw [h.1, rdNumV, rdNum_some (by simp) (.inl rfl) (by decide)]; rfl, h.2⟩
  have hne : L ≠ [] := fun e => h0 (by rw [e]; rfl)
  obtain ⟨b, o, rfl, hc⟩ : ∃ b o, ao = some ⟨b, o, none⟩ ∧ ∀ k, k < L.length → w.cell? ⟨b, o + k, none⟩ = some (.int .u8 (L.getD k 0)) := by
    obtain ⟨b, o, h1, h2, h3⟩ := hI.at (by omega)
    exact ⟨b, o, h1, h3⟩
  have hz := getD_all hL
  by_cases hz0 : L.getD 0 0 = 0
  · have hc0 := hc 0 (by omega)
    rw [hz0, Nat.add_zero] at hc0
    exact (number_zero b o L.length cap w (by omega) (by omega) hc0).mono fun e w' h => ⟨by rw [h.1, rdNumV, rdNum_zero hne hz0], h.2⟩
  · refine (number_row b o L.length cap (fun k => L.getD k 0) w (by omega) (by omega) hz0 hc hz).mono fun e w' h => ⟨?_, h.2⟩
    rw [h.1]
    by_cases hg : val (fun k => L.getD k 0) L.length ≤ 9223372036854775807
    · rw [numV_le hg, rdNumV, rdNum_some (by omega) (.inr hz0) hg]
    · rw [numV_gt hg, rdNumV, rdNum_great (by omega)]
end Go.Proofs.Ytcbadmkgbaffpaa
