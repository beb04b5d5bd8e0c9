/- Policy: the expiries of a way, by the code. -/
import Derived.Test.YtfbaidmnnkcaeaaPOpen
import Derived.Test.YtfbaidmnnkcaeaaAmtWay
namespace Go.Proofs.Ytfbaidmnnkcaeaa
open Go.RowKit
set_option linter.unusedVariables false
set_option linter.unusedSimpArgs false
set_option maxRecDepth 100000

/-- the expiries of a way, from its last one on; as a row -/
def ev (qs : Nat → RV) (n : Nat) (y : Int) : Nat → Int
  | 0 => y
  | m + 1 => ev qs n y m + (qs (n - 1 - m)).d
def el (qs : Nat → RV) (n : Nat) (y : Int) : Nat → List Int
  | 0 => [y]
  | m + 1 => ev qs n y (m + 1) :: el qs n y m
theorem el_length (qs : Nat → RV) (n : Nat) (y : Int) (m : Nat) : (el qs n y m).length = m + 1 := by
  induction m with
  | zero => rfl
  | succ m ih => show ((el qs n y m).length + 1) = _; rw [ih]
theorem el_head (qs : Nat → RV) (n : Nat) (y : Int) (m : Nat) : (el qs n y m).getD 0 0 = ev qs n y m := by cases m <;> rfl
theorem el_at (qs : Nat → RV) (n : Nat) (y : Int) : ∀ m k, k ≤ m → (el qs n y m).getD k 0 = ev qs n y (m - k)
  | 0, k, h => by
    have : k = 0 := by omega
    subst this
    rfl
  | m + 1, 0, h => rfl
  | m + 1, k + 1, h => by
    have := el_at qs n y m k (by omega)
    rw [show m + 1 - (k + 1) = m - k by omega, ← this]
    rfl
theorem ev_next (qs : Nat → RV) (y : Int) (p m : Nat) : ev qs (p + 1 + m) y (m + 1) = ev qs (p + 1 + m) y m + (qs p).d := by
  show _ + (qs (p + 1 + m - 1 - m)).d = _
  rw [show p + 1 + m - 1 - m = p by omega]
/-- numbers lie there, in a block of one's own -/
def RowX (w : World) (base g n : Nat) (z : Nat → Int) : Prop := base ≤ g ∧ ∀ k, k ≤ n → w.cell? ⟨g, k, none⟩ = some (.int .i64 (z k))
theorem RowX.below {w W : World} {base g n : Nat} {z : Nat → Int} (h : RowX w base g n z) (hB : Below w.heap.size w W) : RowX W base g n z :=
  ⟨h.1, fun k hk => (hB.cell (block_lt_of_cell (h.2 k hk))).trans (h.2 k hk)⟩
theorem I64_el (qs : Nat → RV) (n : Nat) (y : Int) (m k : Nat) (h : k ≤ m) : (I64 (el qs n y m))[k]? = some (.int .i64 (ev qs n y (m - k))) := by
  rw [I64_at _ _ (by rw [el_length]; omega), el_at _ _ _ _ _ h]
section
variable {o : Oper} {a : Act} {W : World}
theorem ex_ix35 {x y : Operand} {b p n c k : Nat} (ho : o.op = .indexAddr 35 x y) (hx : a.eval x = .slice (some ⟨b, p, none⟩) n c) (hy : a.eval y = .int .i64 k) (hk : k < n) : (execOp a.eval o).run Try.prog W = .ok (.value (.pointer (some ⟨b, p + k * 5, none⟩))) W := by
  have h1 : (k : Int) < (n : Int) := by omega
  unfold execOp
  simp only [ho, hx, hy]
  go_simp
theorem ex_ix36 {x y : Operand} {b n c k : Nat} {i : Int} (ho : o.op = .indexAddr 36 x y) (hx : a.eval x = .slice (some ⟨b, 0, none⟩) n c) (hy : a.eval y = .int .i64 i) (hi : i = (k : Int)) (hk : k < n) : (execOp a.eval o).run Try.prog W = .ok (.value (.pointer (some ⟨b, k, none⟩))) W := by
  subst hi
  have h1 : (k : Int) < (n : Int) := by omega
  unfold execOp
  simp only [ho, hx, hy]
  go_simp
theorem ex_mk36 {x y : Operand} {n : Nat} (ho : o.op = .makeSlice 36 x y) (hx : a.eval x = .int .i64 (n : Int)) (hy : a.eval y = .int .i64 (n : Int)) (hn : n * 8 ≤ 281474976710656) : (execOp a.eval o).run Try.prog W = .ok (.value (.slice (some ⟨W.heap.size, 0, none⟩) n n)) (W.alloc (.cells (I64 (List.replicate n 0)).toArray 3)) := by
  obtain ⟨i0, hi, hz0, hz1, hz2⟩ := info_parts Try.info3
  have h := run_make (P := Try.prog) W 36 3 i0 (.int .i64 0) Try.underlying36 hi hz0 .i64 .i64 (n : Int) (n : Int) (by omega) (by omega) (by rw [hz2]; omega) (by omega)
  rw [hz1] at h
  simp only [Int.toNat_natCast, Nat.mul_one] at h
  have e : madeCells (Value.int .i64 0).cells n = (I64 (List.replicate n 0)).toArray := by
    apply Array.ext'
    show (madeCells #[Value.int .i64 0] n).toList = _
    rw [toList_madeCells_one]
    simp [I64]
  rw [e] at h
  unfold execOp
  simp only [ho, hx, hy]
  simp [h]
end
theorem sto3 {W : World} {b i : Nat} {v : Value} {m : Int} (h : W.cell? ⟨b, i, none⟩ = some v) (hf : W.frozen? ⟨b, i, none⟩ = false) : (Instr.storeAt 3 (.pointer (some ⟨b, i, none⟩)) (.int .i64 m)).run Try.prog W = .ok () (W.setCell ⟨b, i, none⟩ (.int .i64 m)) := by go_simp
theorem faD (b p : Nat) (W : World) : (Instr.fieldAt 25 (.pointer (some ⟨b, p, none⟩)) 1).run Try.prog W = .ok (.pointer (some ⟨b, p + 2, none⟩)) W := by go_simp
theorem cell_kept {F : Nat → Prop} {W W' : World} {b o : Nat} {v : Value} (hK : Kept F W W') (h : W.cell? ⟨b, o, none⟩ = some v) (hn : ¬ F b) : W'.cell? ⟨b, o, none⟩ = some v := by
  have hl := block_lt_of_cell h
  unfold World.cell? at h ⊢
  rw [hK.block b hl hn]
  exact h
theorem last_at (n : Nat) : (I64 (List.replicate (n + 1) 0)).toArray[n]? = some (.int .i64 0) := by simp [I64]
theorem arr_at {L : List Value} {k : Nat} {v : Value} (h : L[k]? = some v) : L.toArray[k]? = some v := by simpa using h
theorem mid_at (p : Nat) (L : List Int) (x : Int) : (I64 (List.replicate p 0 ++ x :: L))[p]? = some (.int .i64 x) := by
  rw [I64_append, List.getElem?_append_right (by rw [I64_length]; simp), I64_length, List.length_replicate, Nat.sub_self]
  rfl
set_option maxHeartbeats 8000000 in
theorem exp_bad {ao : Option Addr} {n c : Nat} {qs : Nat → RV} {y : Int} (w : World) (hR : n = 0 ∨ ∃ b off, ao = some ⟨b, off, none⟩ ∧ Rls w b off n qs) (hcap : n * 40 ≤ 140737488351232) (hqb : ∀ i, i < n → (qs i).b ≤ 9223372036854775807) (k0 : Nat) (hk0 : k0 < n) (hG : ∀ i, i < k0 → mayR (qs i) = true) (hno : mayR (qs k0) = false) :
    Calls Try.prog 19 #[.slice ao n c, .int .i64 y] w fun e w' => e = .returned (.tuple #[.slice none 0 0, .int .i64 1]) ∧ Below w.heap.size w w' := by
  have E : Below w.heap.size w w := Below.refl _ _
  go_enter Try.func19, Try.ntmps19
  refine wq fun Q hQ => ?_
  refine sg (.slice none 0 0) 4 rfl rfl rfl rfl ?_
  simp only [zp]
  refine sg (.int .i64 0) 5 rfl rfl rfl rfl ?_
  simp only [zp]
  refine st_end ?_
  subst hQ
  refine wp_seq ?_
  refine wq fun Q hQ => ?_
  refine sm (.slice ao n c) 10 rfl rfl rfl rfl ?_
  simp only [zp]
  refine sv (.int .i64 (n : Nat)) 11 rfl rfl (ex_len rfl rfl (len35 _ _ _ _ _)) ?_
  simp only [zp]
  refine sm (.int .i64 0) 12 rfl rfl rfl rfl ?_
  simp only [zp]
  refine st_end ?_
  subst hQ
  refine wp_block ?_
  go_loopw [12] (fun v12 wr => ∃ i : Nat, i ≤ k0 ∧ v12 = .int .i64 i ∧ Below w.heap.size w wr) (fun v12 _ => n - (intOf v12).toNat)
  case atStart => exact ⟨0, Nat.zero_le _, rfl, E⟩
  case round =>
    obtain ⟨i, hi, rfl, E⟩ := hrel
    have hlt : i < n := by omega
    by_cases hb : i < k0
    · rcases hR with h | ⟨b, off, rfl, h⟩
      · omega
      refine wq fun Q hQ => ?_
      refine sv (.bool true) 13 rfl rfl (ex_bin (u := (.int .i64 (i : Nat))) (r := (.int .i64 (n : Nat))) rfl rfl rfl (eg3 _ _ _ _ _ _) (lss3 _ (decide_eq_true (by omega)))) ?_
      simp only [zp]
      refine st_end ?_
      subst hQ
      refine wp_seq ?_
      refine wp_cond_true rfl ?_
      refine wp_skip ?_
      refine wp_seq ?_
      refine wp_block ?_
      refine wq fun Q hQ => ?_
      refine sv (.pointer (some ⟨b, (off + i * 5), none⟩)) 14 rfl rfl (ex_ix35 rfl rfl rfl hlt) ?_
      simp only [zp]
      refine sv (.agg (RL (qs i))) 15 rfl rfl (ex_load rfl rfl (ld_range (range_below (h i hlt) E) Try.underlying25 rfl inf25)) ?_
      simp only [zp]
      refine st_new (fun b => .pointer (some ⟨b, 0, none⟩)) (some 7) rfl rfl (ex_alloc rfl zero25) ?_
      intro b1 W1 k1 g1 B
      simp only [zp]
      have ge_b1 := Nat.le_trans E.size g1
      replace E := below_next E B
      clear B
      obtain ⟨W2, hst, kn, K⟩ := put_all (D := (RL (qs i))) k1 rfl inf25 (by kernel_rfl)
      refine st_sk rfl rfl (ex_store rfl rfl rfl hst) ?_
      replace E := below_put E ge_b1 K
      replace k1 := kn
      clear kn K hst
      refine st_end ?_
      subst hQ
      refine wq fun Q hQ => ?_
      refine sv (.agg (RL (qs i))) 16 rfl rfl (ex_load (p := (.pointer (some ⟨b1, 0, none⟩))) rfl rfl (ld_all k1 Try.underlying25 rfl inf25)) ?_
      simp only [zp]
      refine st_call (some 17) rfl rfl (may_any W2 (hqb i hlt) (hG i hb)) (ex_call (f := 9) (vs := [(.agg (RL (qs i)))]) rfl (cf9 _) rfl) ?_
      rintro e W3 ⟨rfl, B⟩
      refine ⟨_, rfl, ?_⟩
      simp only [zp]
      replace E := below_next E B
      replace k1 := keep B k1
      refine sv (.bool false) 18 rfl rfl (ex_not rfl rfl rfl) ?_
      simp only [zp]
      refine st_end ?_
      subst hQ
      refine wp_cond_false rfl ?_
      refine wp_skip ?_
      refine wl_in (wl_cap fun Q hQ => ?_)
      refine sv (.int .i64 ((i + 1 : Nat) : Int)) 19 rfl rfl (ex_bin rfl rfl rfl (eg3 _ _ _ _ _ _) (add3 _ (by omega) (by omega))) ?_
      simp only [zp]
      refine sm (.int .i64 ((i + 1 : Nat) : Int)) 12 rfl rfl rfl rfl ?_
      simp only [zp]
      refine st_end ?_
      subst hQ
      refine then_go ?_
      go_roundw
      case rel => exact ⟨i + 1, by omega, rfl, E⟩
      case measure => simp [intOf]; omega
    · rcases hR with h | ⟨b, off, rfl, h⟩
      · omega
      have hik : k0 = i := by omega
      subst k0
      refine wq fun Q hQ => ?_
      refine sv (.bool true) 13 rfl rfl (ex_bin (u := (.int .i64 (i : Nat))) (r := (.int .i64 (n : Nat))) rfl rfl rfl (eg3 _ _ _ _ _ _) (lss3 _ (decide_eq_true (by omega)))) ?_
      simp only [zp]
      refine st_end ?_
      subst hQ
      refine wp_seq ?_
      refine wp_cond_true rfl ?_
      refine wp_skip ?_
      refine wp_seq ?_
      refine wp_block ?_
      refine wq fun Q hQ => ?_
      refine sv (.pointer (some ⟨b, (off + i * 5), none⟩)) 14 rfl rfl (ex_ix35 rfl rfl rfl hlt) ?_
      simp only [zp]
      refine sv (.agg (RL (qs i))) 15 rfl rfl (ex_load rfl rfl (ld_range (range_below (h i hlt) E) Try.underlying25 rfl inf25)) ?_
      simp only [zp]
      refine st_new (fun b => .pointer (some ⟨b, 0, none⟩)) (some 7) rfl rfl (ex_alloc rfl zero25) ?_
      intro b2 W4 k2 g2 B
      simp only [zp]
      have ge_b2 := Nat.le_trans E.size g2
      replace E := below_next E B
      clear B
      obtain ⟨W5, hst, kn, K⟩ := put_all (D := (RL (qs i))) k2 rfl inf25 (by kernel_rfl)
      refine st_sk rfl rfl (ex_store rfl rfl rfl hst) ?_
      replace E := below_put E ge_b2 K
      replace k2 := kn
      clear kn K hst
      refine st_end ?_
      subst hQ
      refine wq fun Q hQ => ?_
      refine sv (.agg (RL (qs i))) 16 rfl rfl (ex_load (p := (.pointer (some ⟨b2, 0, none⟩))) rfl rfl (ld_all k2 Try.underlying25 rfl inf25)) ?_
      simp only [zp]
      refine st_call (some 17) rfl rfl (may_any W5 (hqb i hlt) hno) (ex_call (f := 9) (vs := [(.agg (RL (qs i)))]) rfl (cf9 _) rfl) ?_
      rintro e W6 ⟨rfl, B⟩
      refine ⟨_, rfl, ?_⟩
      simp only [zp]
      replace E := below_next E B
      replace k2 := keep B k2
      refine sv (.bool true) 18 rfl rfl (ex_not rfl rfl rfl) ?_
      simp only [zp]
      refine st_end ?_
      subst hQ
      refine wp_cond_true rfl ?_
      refine wq fun Q hQ => ?_
      refine sg (.slice none 0 0) 4 rfl rfl rfl rfl ?_
      simp only [zp]
      refine sg (.int .i64 1) 5 rfl rfl rfl rfl ?_
      simp only [zp]
      refine st_end ?_
      subst hQ
      refine wp_ret ?_
      repeat (first | refine ret_out ?_ | refine ret_blk ?_)
      exact bodyPost_ret (results_tmp2 Try.results19 _ _ _) rfl ⟨rfl, E⟩
set_option maxHeartbeats 8000000 in
theorem exp_last {ao : Option Addr} {n c : Nat} {qs : Nat → RV} {y : Int} (w : World) (hR : n = 0 ∨ ∃ b off, ao = some ⟨b, off, none⟩ ∧ Rls w b off n qs) (hcap : n * 40 ≤ 140737488351232) (hqb : ∀ i, i < n → (qs i).b ≤ 9223372036854775807) (hG : ∀ i, i < n → mayR (qs i) = true) (hy : okH y = false) :
    Calls Try.prog 19 #[.slice ao n c, .int .i64 y] w fun e w' => e = .returned (.tuple #[.slice none 0 0, .int .i64 1]) ∧ Below w.heap.size w w' := by
  have E : Below w.heap.size w w := Below.refl _ _
  go_enter Try.func19, Try.ntmps19
  refine wq fun Q hQ => ?_
  refine sg (.slice none 0 0) 4 rfl rfl rfl rfl ?_
  simp only [zp]
  refine sg (.int .i64 0) 5 rfl rfl rfl rfl ?_
  simp only [zp]
  refine st_end ?_
  subst hQ
  refine wp_seq ?_
  refine wq fun Q hQ => ?_
  refine sm (.slice ao n c) 10 rfl rfl rfl rfl ?_
  simp only [zp]
  refine sv (.int .i64 (n : Nat)) 11 rfl rfl (ex_len rfl rfl (len35 _ _ _ _ _)) ?_
  simp only [zp]
  refine sm (.int .i64 0) 12 rfl rfl rfl rfl ?_
  simp only [zp]
  refine st_end ?_
  subst hQ
  refine wp_block ?_
  go_loopw [12] (fun v12 wr => ∃ i : Nat, i ≤ n ∧ v12 = .int .i64 i ∧ Below w.heap.size w wr) (fun v12 _ => n - (intOf v12).toNat)
  case atStart => exact ⟨0, Nat.zero_le _, rfl, E⟩
  case round =>
    obtain ⟨i, hi, rfl, E⟩ := hrel
    by_cases hlt : i < n
    · rcases hR with h | ⟨b, off, rfl, h⟩
      · omega
      refine wq fun Q hQ => ?_
      refine sv (.bool true) 13 rfl rfl (ex_bin (u := (.int .i64 (i : Nat))) (r := (.int .i64 (n : Nat))) rfl rfl rfl (eg3 _ _ _ _ _ _) (lss3 _ (decide_eq_true (by omega)))) ?_
      simp only [zp]
      refine st_end ?_
      subst hQ
      refine wp_seq ?_
      refine wp_cond_true rfl ?_
      refine wp_skip ?_
      refine wp_seq ?_
      refine wp_block ?_
      refine wq fun Q hQ => ?_
      refine sv (.pointer (some ⟨b, (off + i * 5), none⟩)) 14 rfl rfl (ex_ix35 rfl rfl rfl hlt) ?_
      simp only [zp]
      refine sv (.agg (RL (qs i))) 15 rfl rfl (ex_load rfl rfl (ld_range (range_below (h i hlt) E) Try.underlying25 rfl inf25)) ?_
      simp only [zp]
      refine st_new (fun b => .pointer (some ⟨b, 0, none⟩)) (some 7) rfl rfl (ex_alloc rfl zero25) ?_
      intro b1 W1 k1 g1 B
      simp only [zp]
      have ge_b1 := Nat.le_trans E.size g1
      replace E := below_next E B
      clear B
      obtain ⟨W2, hst, kn, K⟩ := put_all (D := (RL (qs i))) k1 rfl inf25 (by kernel_rfl)
      refine st_sk rfl rfl (ex_store rfl rfl rfl hst) ?_
      replace E := below_put E ge_b1 K
      replace k1 := kn
      clear kn K hst
      refine st_end ?_
      subst hQ
      refine wq fun Q hQ => ?_
      refine sv (.agg (RL (qs i))) 16 rfl rfl (ex_load (p := (.pointer (some ⟨b1, 0, none⟩))) rfl rfl (ld_all k1 Try.underlying25 rfl inf25)) ?_
      simp only [zp]
      refine st_call (some 17) rfl rfl (may_any W2 (hqb i hlt) (hG i hlt)) (ex_call (f := 9) (vs := [(.agg (RL (qs i)))]) rfl (cf9 _) rfl) ?_
      rintro e W3 ⟨rfl, B⟩
      refine ⟨_, rfl, ?_⟩
      simp only [zp]
      replace E := below_next E B
      replace k1 := keep B k1
      refine sv (.bool false) 18 rfl rfl (ex_not rfl rfl rfl) ?_
      simp only [zp]
      refine st_end ?_
      subst hQ
      refine wp_cond_false rfl ?_
      refine wp_skip ?_
      refine wl_in (wl_cap fun Q hQ => ?_)
      refine sv (.int .i64 ((i + 1 : Nat) : Int)) 19 rfl rfl (ex_bin rfl rfl rfl (eg3 _ _ _ _ _ _) (add3 _ (by omega) (by omega))) ?_
      simp only [zp]
      refine sm (.int .i64 ((i + 1 : Nat) : Int)) 12 rfl rfl rfl rfl ?_
      simp only [zp]
      refine st_end ?_
      subst hQ
      refine then_go ?_
      go_roundw
      case rel => exact ⟨i + 1, by omega, rfl, E⟩
      case measure => simp [intOf]; omega
    · have hin : i = n := by omega
      subst i
      refine wq fun Q hQ => ?_
      refine sv (.bool false) 13 rfl rfl (ex_bin (u := (.int .i64 (n : Nat))) (r := (.int .i64 (n : Nat))) rfl rfl rfl (eg3 _ _ _ _ _ _) (lss3 _ (decide_eq_false (by omega)))) ?_
      simp only [zp]
      refine st_end ?_
      subst hQ
      refine wp_seq ?_
      refine wp_cond_false rfl ?_
      refine wp_exit ?_
      refine ex_then ?_
      refine ex_then ?_
      refine ex_blk ?_
      refine wp_seq ?_
      refine wq fun Q hQ => ?_
      refine sm (.int .i64 y) 20 rfl rfl rfl rfl ?_
      simp only [zp]
      refine st_call (some 21) rfl rfl (okh_any _ wr hy) (ex_call (f := 42) (vs := [(.int .i64 y)]) rfl (cf42 _) rfl) ?_
      rintro e W4 ⟨rfl, B⟩
      refine ⟨_, rfl, ?_⟩
      simp only [zp]
      replace E := below_next E B
      refine sv (.bool true) 22 rfl rfl (ex_not rfl rfl rfl) ?_
      simp only [zp]
      refine st_end ?_
      subst hQ
      refine wp_cond_true rfl ?_
      refine wq fun Q hQ => ?_
      refine sg (.slice none 0 0) 4 rfl rfl rfl rfl ?_
      simp only [zp]
      refine sg (.int .i64 1) 5 rfl rfl rfl rfl ?_
      simp only [zp]
      refine st_end ?_
      subst hQ
      refine wp_ret ?_
      repeat (first | refine ret_out ?_ | refine ret_blk ?_)
      exact bodyPost_ret (results_tmp2 Try.results19 _ _ _) rfl ⟨rfl, E⟩
set_option maxHeartbeats 8000000 in
theorem exp_over {ao : Option Addr} {n c : Nat} {qs : Nat → RV} {y : Int} (w : World) (hR : n = 0 ∨ ∃ b off, ao = some ⟨b, off, none⟩ ∧ Rls w b off n qs) (hcap : n * 40 ≤ 140737488351232) (hqb : ∀ i, i < n → (qs i).b ≤ 9223372036854775807) (hG : ∀ i, i < n → mayR (qs i) = true) (m0 : Nat) (hm0 : m0 < n) (hO : ∀ j, j ≤ m0 → okH (ev qs n y j) = true) (hX : okH (ev qs n y (m0 + 1)) = false) :
    Calls Try.prog 19 #[.slice ao n c, .int .i64 y] w fun e w' => e = .returned (.tuple #[.slice none 0 0, .int .i64 20]) ∧ Below w.heap.size w w' := by
  have E : Below w.heap.size w w := Below.refl _ _
  go_enter Try.func19, Try.ntmps19
  refine wq fun Q hQ => ?_
  refine sg (.slice none 0 0) 4 rfl rfl rfl rfl ?_
  simp only [zp]
  refine sg (.int .i64 0) 5 rfl rfl rfl rfl ?_
  simp only [zp]
  refine st_end ?_
  subst hQ
  refine wp_seq ?_
  refine wq fun Q hQ => ?_
  refine sm (.slice ao n c) 10 rfl rfl rfl rfl ?_
  simp only [zp]
  refine sv (.int .i64 (n : Nat)) 11 rfl rfl (ex_len rfl rfl (len35 _ _ _ _ _)) ?_
  simp only [zp]
  refine sm (.int .i64 0) 12 rfl rfl rfl rfl ?_
  simp only [zp]
  refine st_end ?_
  subst hQ
  refine wp_block ?_
  go_loopw [12] (fun v12 wr => ∃ i : Nat, i ≤ n ∧ v12 = .int .i64 i ∧ Below w.heap.size w wr) (fun v12 _ => n - (intOf v12).toNat)
  case atStart => exact ⟨0, Nat.zero_le _, rfl, E⟩
  case round =>
    obtain ⟨i, hi, rfl, E⟩ := hrel
    by_cases hlt : i < n
    · rcases hR with h | ⟨b, off, rfl, h⟩
      · omega
      refine wq fun Q hQ => ?_
      refine sv (.bool true) 13 rfl rfl (ex_bin (u := (.int .i64 (i : Nat))) (r := (.int .i64 (n : Nat))) rfl rfl rfl (eg3 _ _ _ _ _ _) (lss3 _ (decide_eq_true (by omega)))) ?_
      simp only [zp]
      refine st_end ?_
      subst hQ
      refine wp_seq ?_
      refine wp_cond_true rfl ?_
      refine wp_skip ?_
      refine wp_seq ?_
      refine wp_block ?_
      refine wq fun Q hQ => ?_
      refine sv (.pointer (some ⟨b, (off + i * 5), none⟩)) 14 rfl rfl (ex_ix35 rfl rfl rfl hlt) ?_
      simp only [zp]
      refine sv (.agg (RL (qs i))) 15 rfl rfl (ex_load rfl rfl (ld_range (range_below (h i hlt) E) Try.underlying25 rfl inf25)) ?_
      simp only [zp]
      refine st_new (fun b => .pointer (some ⟨b, 0, none⟩)) (some 7) rfl rfl (ex_alloc rfl zero25) ?_
      intro b1 W1 k1 g1 B
      simp only [zp]
      have ge_b1 := Nat.le_trans E.size g1
      replace E := below_next E B
      clear B
      obtain ⟨W2, hst, kn, K⟩ := put_all (D := (RL (qs i))) k1 rfl inf25 (by kernel_rfl)
      refine st_sk rfl rfl (ex_store rfl rfl rfl hst) ?_
      replace E := below_put E ge_b1 K
      replace k1 := kn
      clear kn K hst
      refine st_end ?_
      subst hQ
      refine wq fun Q hQ => ?_
      refine sv (.agg (RL (qs i))) 16 rfl rfl (ex_load (p := (.pointer (some ⟨b1, 0, none⟩))) rfl rfl (ld_all k1 Try.underlying25 rfl inf25)) ?_
      simp only [zp]
      refine st_call (some 17) rfl rfl (may_any W2 (hqb i hlt) (hG i hlt)) (ex_call (f := 9) (vs := [(.agg (RL (qs i)))]) rfl (cf9 _) rfl) ?_
      rintro e W3 ⟨rfl, B⟩
      refine ⟨_, rfl, ?_⟩
      simp only [zp]
      replace E := below_next E B
      replace k1 := keep B k1
      refine sv (.bool false) 18 rfl rfl (ex_not rfl rfl rfl) ?_
      simp only [zp]
      refine st_end ?_
      subst hQ
      refine wp_cond_false rfl ?_
      refine wp_skip ?_
      refine wl_in (wl_cap fun Q hQ => ?_)
      refine sv (.int .i64 ((i + 1 : Nat) : Int)) 19 rfl rfl (ex_bin rfl rfl rfl (eg3 _ _ _ _ _ _) (add3 _ (by omega) (by omega))) ?_
      simp only [zp]
      refine sm (.int .i64 ((i + 1 : Nat) : Int)) 12 rfl rfl rfl rfl ?_
      simp only [zp]
      refine st_end ?_
      subst hQ
      refine then_go ?_
      go_roundw
      case rel => exact ⟨i + 1, by omega, rfl, E⟩
      case measure => simp [intOf]; omega
    · have hin : i = n := by omega
      subst i
      refine wq fun Q hQ => ?_
      refine sv (.bool false) 13 rfl rfl (ex_bin (u := (.int .i64 (n : Nat))) (r := (.int .i64 (n : Nat))) rfl rfl rfl (eg3 _ _ _ _ _ _) (lss3 _ (decide_eq_false (by omega)))) ?_
      simp only [zp]
      refine st_end ?_
      subst hQ
      refine wp_seq ?_
      refine wp_cond_false rfl ?_
      refine wp_exit ?_
      refine ex_then ?_
      refine ex_then ?_
      refine ex_blk ?_
      refine wp_seq ?_
      refine wq fun Q hQ => ?_
      refine sm (.int .i64 y) 20 rfl rfl rfl rfl ?_
      simp only [zp]
      refine st_call (some 21) rfl rfl (okh_any _ wr (show okH y = true from hO 0 (Nat.zero_le _))) (ex_call (f := 42) (vs := [(.int .i64 y)]) rfl (cf42 _) rfl) ?_
      rintro e W4 ⟨rfl, B⟩
      refine ⟨_, rfl, ?_⟩
      simp only [zp]
      replace E := below_next E B
      refine sv (.bool false) 22 rfl rfl (ex_not rfl rfl rfl) ?_
      simp only [zp]
      refine st_end ?_
      subst hQ
      refine wp_cond_false rfl ?_
      refine wp_skip ?_
      refine wq fun Q hQ => ?_
      refine sm (.slice ao n c) 23 rfl rfl rfl rfl ?_
      simp only [zp]
      refine sv (.int .i64 (n : Nat)) 24 rfl rfl (ex_len rfl rfl (len35 _ _ _ _ _)) ?_
      simp only [zp]
      refine sv (.int .i64 ((n + 1 : Nat) : Int)) 25 rfl rfl (ex_bin rfl rfl rfl (eg3 _ _ _ _ _ _) (add3 _ (by omega) (by omega))) ?_
      simp only [zp]
      refine st_new (fun b => .slice (some ⟨b, 0, none⟩) (n + 1) (n + 1)) (some 26) rfl rfl (ex_mk36 (n := n + 1) rfl rfl rfl (by omega)) ?_
      intro b2 W5 k2 g2 B
      simp only [zp]
      have ge_b2 := Nat.le_trans E.size g2
      replace E := below_next E B
      clear B
      refine sg (.slice (some ⟨b2, 0, none⟩) (n + 1) (n + 1)) 8 rfl rfl rfl rfl ?_
      simp only [zp]
      refine st_end ?_
      subst hQ
      refine wq fun Q hQ => ?_
      refine sm (.slice (some ⟨b2, 0, none⟩) (n + 1) (n + 1)) 27 rfl rfl rfl rfl ?_
      simp only [zp]
      refine sm (.slice ao n c) 28 rfl rfl rfl rfl ?_
      simp only [zp]
      refine sv (.int .i64 (n : Nat)) 29 rfl rfl (ex_len rfl rfl (len35 _ _ _ _ _)) ?_
      simp only [zp]
      refine sm (.int .i64 y) 30 rfl rfl rfl rfl ?_
      simp only [zp]
      refine sv (.pointer (some ⟨b2, n, none⟩)) 31 rfl rfl (ex_ix36 (k := n) rfl rfl rfl rfl (by omega)) ?_
      simp only [zp]
      obtain ⟨kn, K⟩ := put_cell (i := n) (.int .i64 y) k2
      refine st_sk rfl rfl (ex_store rfl rfl rfl (sto3 (at_cell k2 (last_at n)) (unfrozen k2))) ?_
      obtain ⟨W6, hW2⟩ : ∃ W', W5.setCell ⟨b2, n, none⟩ (.int .i64 y) = W' := ⟨_, rfl⟩
      rw [hW2] at kn K ⊢
      rw [List.setIfInBounds_toArray, set_last] at kn
      replace E := below_put E ge_b2 K
      replace k2 := kn
      clear kn K
      refine st_end ?_
      subst hQ
      refine wp_seq ?_
      refine wq fun Q hQ => ?_
      refine sm (.slice ao n c) 32 rfl rfl rfl rfl ?_
      simp only [zp]
      refine sv (.int .i64 (n : Nat)) 33 rfl rfl (ex_len rfl rfl (len35 _ _ _ _ _)) ?_
      simp only [zp]
      refine sv (.int .i64 ((n : Nat) - 1 : Int)) 34 rfl rfl (ex_bin rfl rfl rfl (eg3 _ _ _ _ _ _) (sub3 _ rfl (by omega))) ?_
      simp only [zp]
      refine sg (.int .i64 ((n : Nat) - 1 : Int)) 9 rfl rfl rfl rfl ?_
      simp only [zp]
      refine st_end ?_
      subst hQ
      refine wp_block ?_
      go_loopw [9] (fun v9 wr => ∃ p m : Nat, p + m = n ∧ v9 = .int .i64 ((p : Int) - 1) ∧ Below w.heap.size w wr ∧ wr.heap[b2]? = some (.cells (I64 (List.replicate p 0 ++ el qs n y m)).toArray 3) ∧ m ≤ m0) (fun v9 _ => (intOf v9 + 1).toNat)
      case atStart => exact ⟨n, 0, rfl, rfl, E, k2, Nat.zero_le _⟩
      case round =>
        clear k2 E
        obtain ⟨p, m, hpm, rfl, E, kg, hmm⟩ := hrel
        by_cases hp : 0 < p
        · obtain ⟨p, rfl⟩ : ∃ q, p = q + 1 := ⟨p - 1, by omega⟩
          rw [show ((p + 1 : Nat) : Int) - 1 = (p : Int) by omega]
          rcases hR with h | ⟨b, off, rfl, h⟩
          · omega
          have hpl : p < n := by omega
          have MP := (mayR_of (hG p hpl)).2
          have hv := okH_of (hO m (by omega))
          have en : ev qs n y (m + 1) = ev qs n y m + (qs p).d := by
            subst hpm
            exact ev_next qs y p m
          by_cases hmo : m < m0
          · skip
            refine wp_seq ?_
            refine wq fun Q hQ => ?_
            refine sm (.int .i64 (p : Nat)) 35 rfl rfl rfl rfl ?_
            simp only [zp]
            refine sv (.bool true) 36 rfl rfl (ex_bin (u := (.int .i64 (p : Nat))) (r := (.int .i64 0)) rfl rfl rfl (eg3 _ _ _ _ _ _) (geq3 _ (decide_eq_true (by omega)))) ?_
            simp only [zp]
            refine st_end ?_
            subst hQ
            refine wp_cond_true rfl ?_
            refine wp_skip ?_
            refine wp_seq ?_
            refine wp_block ?_
            refine wp_seq ?_
            obtain ⟨W7, hwd⟩ : ∃ wd, wr.drew = wd := ⟨_, rfl⟩
            refine wp_region_held (S := fun W => Kept (· = b2) W7 W) (by kernel_rfl) ?_
            show wpAnyH _ _ _ _ _ _ _ _ wr.drew
            rw [hwd]
            refine capQ fun Q hQ => ?_
            have hQP : ∀ c (a : Act) (d : Nat) v w, Q (.panic c) (a.put (some d) v) w → Q (.panic c) a w := by
              subst hQ
              exact fun _ _ _ _ _ h => h
            have BD : Below wr.heap.size wr W7 := by rw [← hwd]; exact below_drewB (Below.refl _ _)
            clear hwd
            replace E := below_next E BD
            replace kg := keep BD kg
            clear BD
            have S : Kept (· = b2) W7 W7 := Kept.refl _ _
            have d_kg := kg
            have hcd : W7.cell? ⟨b, off + p * 5 + 2, none⟩ = some (.int .i64 (qs p).d) := range_below (h p hpl) E 2 _ rfl
            have hbg : ¬ b = b2 := by
              have := block_lt_of_cell (h p hpl 0 _ rfl)
              simp only at this
              omega
            refine ah_take (v := (.slice (some ⟨b2, 0, none⟩) (n + 1) (n + 1))) (i := 0) (some 39) rfl rfl (by kernel_rfl) (by kernel_rfl) (by kernel_rfl) rfl (fun W hK => ex_mv rfl rfl) S (fun c a w h => hQP c a _ _ w h) ?_
            simp only [zp]
            refine ah_take (v := (.int .i64 (p : Nat))) (i := 1) (some 40) rfl rfl (by kernel_rfl) (by kernel_rfl) (by kernel_rfl) rfl (fun W hK => ex_mv rfl rfl) S (fun c a w h => hQP c a _ _ w h) ?_
            simp only [zp]
            refine ah_take (v := (.slice (some ⟨b2, 0, none⟩) (n + 1) (n + 1))) (i := 2) (some 41) rfl rfl (by kernel_rfl) (by kernel_rfl) (by kernel_rfl) rfl (fun W hK => ex_mv rfl rfl) S (fun c a w h => hQP c a _ _ w h) ?_
            simp only [zp]
            refine ah_take (v := (.int .i64 (p : Nat))) (i := 3) (some 42) rfl rfl (by kernel_rfl) (by kernel_rfl) (by kernel_rfl) rfl (fun W hK => ex_mv rfl rfl) S (fun c a w h => hQP c a _ _ w h) ?_
            simp only [zp]
            refine ah_take (v := (.int .i64 ((p + 1 : Nat) : Int))) (i := 4) (some 43) rfl rfl (by kernel_rfl) (by kernel_rfl) (by kernel_rfl) rfl (fun W hK => ex_bin (u := (.int .i64 (p : Nat))) (r := (.int .i64 1)) rfl rfl rfl (eg3 _ _ _ _ _ _) (add3 _ (by omega) (by omega))) S (fun c a w h => hQP c a _ _ w h) ?_
            simp only [zp]
            refine ah_take (v := (.pointer (some ⟨b2, (p + 1), none⟩))) (i := 5) (some 44) rfl rfl (by kernel_rfl) (by kernel_rfl) (by kernel_rfl) rfl (fun W hK => ex_ix36 (k := p + 1) rfl rfl rfl rfl (by omega)) S (fun c a w h => hQP c a _ _ w h) ?_
            simp only [zp]
            refine ah_take (v := (.slice (some ⟨b, off, none⟩) n c)) (i := 7) (some 46) rfl rfl (by kernel_rfl) (by kernel_rfl) (by kernel_rfl) rfl (fun W hK => ex_mv rfl rfl) S (fun c a w h => hQP c a _ _ w h) ?_
            simp only [zp]
            refine ah_take (v := (.int .i64 (p : Nat))) (i := 8) (some 47) rfl rfl (by kernel_rfl) (by kernel_rfl) (by kernel_rfl) rfl (fun W hK => ex_mv rfl rfl) S (fun c a w h => hQP c a _ _ w h) ?_
            simp only [zp]
            refine ah_take (v := (.pointer (some ⟨b, (off + p * 5), none⟩))) (i := 9) (some 48) rfl rfl (by kernel_rfl) (by kernel_rfl) (by kernel_rfl) rfl (fun W hK => ex_ix35 rfl rfl rfl hpl) S (fun c a w h => hQP c a _ _ w h) ?_
            simp only [zp]
            refine ah_take (v := (.pointer (some ⟨b, (off + p * 5 + 2), none⟩))) (i := 10) (some 49) rfl rfl (by kernel_rfl) (by kernel_rfl) (by kernel_rfl) rfl (fun W hK => ex_fa rfl rfl (faD _ _ _)) S (fun c a w h => hQP c a _ _ w h) ?_
            simp only [zp]
            refine ah_take (v := (.int .i64 (qs p).d)) (i := 11) (some 50) rfl rfl (by kernel_rfl) (by kernel_rfl) (by kernel_rfl) rfl (fun W hK => ex_load rfl rfl (ld3 (cell_kept hK hcd hbg))) S (fun c a w h => hQP c a _ _ w h) ?_
            simp only [zp]
            refine ah_or1 (i := 6) (by kernel_rfl) ?_
            refine nx_to (v := (.int .i64 (ev qs n y m))) (some 45) rfl rfl rfl (ex_load rfl rfl (ld3 (at_cell kg (arr_at ((at_mid p _ (by rw [el_length]; omega)).trans (by rw [el_head])))))) S ?_
            simp only [zp]
            refine ah_take (v := (.int .i64 (ev qs n y (m + 1)))) (i := 12) (some 51) rfl rfl (by kernel_rfl) (by kernel_rfl) (by kernel_rfl) rfl (fun W hK => ex_bin (u := (.int .i64 (ev qs n y m))) (r := (.int .i64 (qs p).d)) rfl rfl rfl (eg3 _ _ _ _ _ _) (add3 _ en.symm (by omega))) S (fun c a w h => hQP c a _ _ w h) ?_
            simp only [zp]
            refine ah_take (v := (.pointer (some ⟨b2, p, none⟩))) (i := 13) (some 52) rfl rfl (by kernel_rfl) (by kernel_rfl) (by kernel_rfl) rfl (fun W hK => ex_ix36 (k := p) rfl rfl rfl rfl (by omega)) S (fun c a w h => hQP c a _ _ w h) ?_
            simp only [zp]
            refine ah_or1 (i := 14) (by kernel_rfl) ?_
            obtain ⟨kn, K⟩ := put_cell (i := p) (.int .i64 (ev qs n y (m + 1))) kg
            refine nx_sk rfl rfl rfl (ex_store rfl rfl rfl (sto3 (at_cell kg (arr_at (at_low p _))) (unfrozen kg))) (S.putX K) ?_
            obtain ⟨W8, hW2⟩ : ∃ W', W7.setCell ⟨b2, p, none⟩ (.int .i64 (ev qs n y (m + 1))) = W' := ⟨_, rfl⟩
            rw [hW2] at kn K ⊢
            rw [List.setIfInBounds_toArray, set_mid] at kn
            replace E := below_put E ge_b2 K
            replace S := S.putX K
            replace kg := kn
            clear kn K
            refine ah_done (by kernel_rfl) ?_
            clear hQP
            subst hQ
            clear S d_kg 
            refine wq fun Q hQ => ?_
            refine sm (.slice (some ⟨b2, 0, none⟩) (n + 1) (n + 1)) 53 rfl rfl rfl rfl ?_
            simp only [zp]
            refine sm (.int .i64 (p : Nat)) 54 rfl rfl rfl rfl ?_
            simp only [zp]
            refine sv (.pointer (some ⟨b2, p, none⟩)) 55 rfl rfl (ex_ix36 (k := p) rfl rfl rfl rfl (by omega)) ?_
            simp only [zp]
            refine sv (.int .i64 (ev qs n y (m + 1))) 56 rfl rfl (ex_load rfl rfl (ld3 (at_cell kg (arr_at (mid_at p _ _))))) ?_
            simp only [zp]
            refine st_call (some 57) rfl rfl (okh_any _ W8 (hO (m + 1) (by omega))) (ex_call (f := 42) (vs := [(.int .i64 (ev qs n y (m + 1)))]) rfl (cf42 _) rfl) ?_
            rintro e W9 ⟨rfl, B⟩
            refine ⟨_, rfl, ?_⟩
            simp only [zp]
            replace E := below_next E B
            replace kg := keep B kg
            refine sv (.bool false) 58 rfl rfl (ex_not rfl rfl rfl) ?_
            simp only [zp]
            refine st_end ?_
            subst hQ
            refine wp_cond_false rfl ?_
            refine wp_skip ?_
            refine wl_in (wl_cap fun Q hQ => ?_)
            refine sm (.int .i64 (p : Nat)) 37 rfl rfl rfl rfl ?_
            simp only [zp]
            refine sv (.int .i64 ((p : Int) - 1)) 38 rfl rfl (ex_bin (u := (.int .i64 (p : Nat))) (r := (.int .i64 1)) rfl rfl rfl (eg3 _ _ _ _ _ _) (sub3 _ rfl (by omega))) ?_
            simp only [zp]
            refine sg (.int .i64 ((p : Int) - 1)) 9 rfl rfl rfl rfl ?_
            simp only [zp]
            refine st_end ?_
            subst hQ
            refine then_go ?_
            go_roundw
            case rel => exact ⟨p, m + 1, by omega, rfl, E, kg, by omega⟩
            case measure => simp [intOf]
          · have hme : m0 = m := by omega
            subst m0
            refine wp_seq ?_
            refine wq fun Q hQ => ?_
            refine sm (.int .i64 (p : Nat)) 35 rfl rfl rfl rfl ?_
            simp only [zp]
            refine sv (.bool true) 36 rfl rfl (ex_bin (u := (.int .i64 (p : Nat))) (r := (.int .i64 0)) rfl rfl rfl (eg3 _ _ _ _ _ _) (geq3 _ (decide_eq_true (by omega)))) ?_
            simp only [zp]
            refine st_end ?_
            subst hQ
            refine wp_cond_true rfl ?_
            refine wp_skip ?_
            refine wp_seq ?_
            refine wp_block ?_
            refine wp_seq ?_
            obtain ⟨W10, hwd⟩ : ∃ wd, wr.drew = wd := ⟨_, rfl⟩
            refine wp_region_held (S := fun W => Kept (· = b2) W10 W) (by kernel_rfl) ?_
            show wpAnyH _ _ _ _ _ _ _ _ wr.drew
            rw [hwd]
            refine capQ fun Q hQ => ?_
            have hQP : ∀ c (a : Act) (d : Nat) v w, Q (.panic c) (a.put (some d) v) w → Q (.panic c) a w := by
              subst hQ
              exact fun _ _ _ _ _ h => h
            have BD : Below wr.heap.size wr W10 := by rw [← hwd]; exact below_drewB (Below.refl _ _)
            clear hwd
            replace E := below_next E BD
            replace kg := keep BD kg
            clear BD
            have S : Kept (· = b2) W10 W10 := Kept.refl _ _
            have d_kg := kg
            have hcd : W10.cell? ⟨b, off + p * 5 + 2, none⟩ = some (.int .i64 (qs p).d) := range_below (h p hpl) E 2 _ rfl
            have hbg : ¬ b = b2 := by
              have := block_lt_of_cell (h p hpl 0 _ rfl)
              simp only at this
              omega
            refine ah_take (v := (.slice (some ⟨b2, 0, none⟩) (n + 1) (n + 1))) (i := 0) (some 39) rfl rfl (by kernel_rfl) (by kernel_rfl) (by kernel_rfl) rfl (fun W hK => ex_mv rfl rfl) S (fun c a w h => hQP c a _ _ w h) ?_
            simp only [zp]
            refine ah_take (v := (.int .i64 (p : Nat))) (i := 1) (some 40) rfl rfl (by kernel_rfl) (by kernel_rfl) (by kernel_rfl) rfl (fun W hK => ex_mv rfl rfl) S (fun c a w h => hQP c a _ _ w h) ?_
            simp only [zp]
            refine ah_take (v := (.slice (some ⟨b2, 0, none⟩) (n + 1) (n + 1))) (i := 2) (some 41) rfl rfl (by kernel_rfl) (by kernel_rfl) (by kernel_rfl) rfl (fun W hK => ex_mv rfl rfl) S (fun c a w h => hQP c a _ _ w h) ?_
            simp only [zp]
            refine ah_take (v := (.int .i64 (p : Nat))) (i := 3) (some 42) rfl rfl (by kernel_rfl) (by kernel_rfl) (by kernel_rfl) rfl (fun W hK => ex_mv rfl rfl) S (fun c a w h => hQP c a _ _ w h) ?_
            simp only [zp]
            refine ah_take (v := (.int .i64 ((p + 1 : Nat) : Int))) (i := 4) (some 43) rfl rfl (by kernel_rfl) (by kernel_rfl) (by kernel_rfl) rfl (fun W hK => ex_bin (u := (.int .i64 (p : Nat))) (r := (.int .i64 1)) rfl rfl rfl (eg3 _ _ _ _ _ _) (add3 _ (by omega) (by omega))) S (fun c a w h => hQP c a _ _ w h) ?_
            simp only [zp]
            refine ah_take (v := (.pointer (some ⟨b2, (p + 1), none⟩))) (i := 5) (some 44) rfl rfl (by kernel_rfl) (by kernel_rfl) (by kernel_rfl) rfl (fun W hK => ex_ix36 (k := p + 1) rfl rfl rfl rfl (by omega)) S (fun c a w h => hQP c a _ _ w h) ?_
            simp only [zp]
            refine ah_take (v := (.slice (some ⟨b, off, none⟩) n c)) (i := 7) (some 46) rfl rfl (by kernel_rfl) (by kernel_rfl) (by kernel_rfl) rfl (fun W hK => ex_mv rfl rfl) S (fun c a w h => hQP c a _ _ w h) ?_
            simp only [zp]
            refine ah_take (v := (.int .i64 (p : Nat))) (i := 8) (some 47) rfl rfl (by kernel_rfl) (by kernel_rfl) (by kernel_rfl) rfl (fun W hK => ex_mv rfl rfl) S (fun c a w h => hQP c a _ _ w h) ?_
            simp only [zp]
            refine ah_take (v := (.pointer (some ⟨b, (off + p * 5), none⟩))) (i := 9) (some 48) rfl rfl (by kernel_rfl) (by kernel_rfl) (by kernel_rfl) rfl (fun W hK => ex_ix35 rfl rfl rfl hpl) S (fun c a w h => hQP c a _ _ w h) ?_
            simp only [zp]
            refine ah_take (v := (.pointer (some ⟨b, (off + p * 5 + 2), none⟩))) (i := 10) (some 49) rfl rfl (by kernel_rfl) (by kernel_rfl) (by kernel_rfl) rfl (fun W hK => ex_fa rfl rfl (faD _ _ _)) S (fun c a w h => hQP c a _ _ w h) ?_
            simp only [zp]
            refine ah_take (v := (.int .i64 (qs p).d)) (i := 11) (some 50) rfl rfl (by kernel_rfl) (by kernel_rfl) (by kernel_rfl) rfl (fun W hK => ex_load rfl rfl (ld3 (cell_kept hK hcd hbg))) S (fun c a w h => hQP c a _ _ w h) ?_
            simp only [zp]
            refine ah_or1 (i := 6) (by kernel_rfl) ?_
            refine nx_to (v := (.int .i64 (ev qs n y m))) (some 45) rfl rfl rfl (ex_load rfl rfl (ld3 (at_cell kg (arr_at ((at_mid p _ (by rw [el_length]; omega)).trans (by rw [el_head])))))) S ?_
            simp only [zp]
            refine ah_take (v := (.int .i64 (ev qs n y (m + 1)))) (i := 12) (some 51) rfl rfl (by kernel_rfl) (by kernel_rfl) (by kernel_rfl) rfl (fun W hK => ex_bin (u := (.int .i64 (ev qs n y m))) (r := (.int .i64 (qs p).d)) rfl rfl rfl (eg3 _ _ _ _ _ _) (add3 _ en.symm (by omega))) S (fun c a w h => hQP c a _ _ w h) ?_
            simp only [zp]
            refine ah_take (v := (.pointer (some ⟨b2, p, none⟩))) (i := 13) (some 52) rfl rfl (by kernel_rfl) (by kernel_rfl) (by kernel_rfl) rfl (fun W hK => ex_ix36 (k := p) rfl rfl rfl rfl (by omega)) S (fun c a w h => hQP c a _ _ w h) ?_
            simp only [zp]
            refine ah_or1 (i := 14) (by kernel_rfl) ?_
            obtain ⟨kn, K⟩ := put_cell (i := p) (.int .i64 (ev qs n y (m + 1))) kg
            refine nx_sk rfl rfl rfl (ex_store rfl rfl rfl (sto3 (at_cell kg (arr_at (at_low p _))) (unfrozen kg))) (S.putX K) ?_
            obtain ⟨W11, hW2⟩ : ∃ W', W10.setCell ⟨b2, p, none⟩ (.int .i64 (ev qs n y (m + 1))) = W' := ⟨_, rfl⟩
            rw [hW2] at kn K ⊢
            rw [List.setIfInBounds_toArray, set_mid] at kn
            replace E := below_put E ge_b2 K
            replace S := S.putX K
            replace kg := kn
            clear kn K
            refine ah_done (by kernel_rfl) ?_
            clear hQP
            subst hQ
            clear S d_kg 
            refine wq fun Q hQ => ?_
            refine sm (.slice (some ⟨b2, 0, none⟩) (n + 1) (n + 1)) 53 rfl rfl rfl rfl ?_
            simp only [zp]
            refine sm (.int .i64 (p : Nat)) 54 rfl rfl rfl rfl ?_
            simp only [zp]
            refine sv (.pointer (some ⟨b2, p, none⟩)) 55 rfl rfl (ex_ix36 (k := p) rfl rfl rfl rfl (by omega)) ?_
            simp only [zp]
            refine sv (.int .i64 (ev qs n y (m + 1))) 56 rfl rfl (ex_load rfl rfl (ld3 (at_cell kg (arr_at (mid_at p _ _))))) ?_
            simp only [zp]
            refine st_call (some 57) rfl rfl (okh_any _ W11 hX) (ex_call (f := 42) (vs := [(.int .i64 (ev qs n y (m + 1)))]) rfl (cf42 _) rfl) ?_
            rintro e W12 ⟨rfl, B⟩
            refine ⟨_, rfl, ?_⟩
            simp only [zp]
            replace E := below_next E B
            replace kg := keep B kg
            refine sv (.bool true) 58 rfl rfl (ex_not rfl rfl rfl) ?_
            simp only [zp]
            refine st_end ?_
            subst hQ
            refine wp_cond_true rfl ?_
            refine wq fun Q hQ => ?_
            refine sg (.slice none 0 0) 4 rfl rfl rfl rfl ?_
            simp only [zp]
            refine sg (.int .i64 20) 5 rfl rfl rfl rfl ?_
            simp only [zp]
            refine st_end ?_
            subst hQ
            refine wp_ret ?_
            repeat (first | refine ret_out ?_ | refine ret_blk ?_)
            exact bodyPost_ret (results_tmp2 Try.results19 _ _ _) rfl ⟨rfl, E⟩
        · obtain rfl : p = 0 := by omega
          omega
set_option maxHeartbeats 8000000 in
theorem exp_ok {ao : Option Addr} {n c : Nat} {qs : Nat → RV} {y : Int} (w : World) (hR : n = 0 ∨ ∃ b off, ao = some ⟨b, off, none⟩ ∧ Rls w b off n qs) (hcap : n * 40 ≤ 140737488351232) (hqb : ∀ i, i < n → (qs i).b ≤ 9223372036854775807) (hG : ∀ i, i < n → mayR (qs i) = true) (hO : ∀ j, j ≤ n → okH (ev qs n y j) = true) :
    Calls Try.prog 19 #[.slice ao n c, .int .i64 y] w fun e w' => ∃ g, e = .returned (.tuple #[.slice (some ⟨g, 0, none⟩) (n + 1) (n + 1), .int .i64 0]) ∧ RowX w' w.heap.size g n (fun k => ev qs n y (n - k)) ∧ Below w.heap.size w w' := by
  have E : Below w.heap.size w w := Below.refl _ _
  go_enter Try.func19, Try.ntmps19
  refine wq fun Q hQ => ?_
  refine sg (.slice none 0 0) 4 rfl rfl rfl rfl ?_
  simp only [zp]
  refine sg (.int .i64 0) 5 rfl rfl rfl rfl ?_
  simp only [zp]
  refine st_end ?_
  subst hQ
  refine wp_seq ?_
  refine wq fun Q hQ => ?_
  refine sm (.slice ao n c) 10 rfl rfl rfl rfl ?_
  simp only [zp]
  refine sv (.int .i64 (n : Nat)) 11 rfl rfl (ex_len rfl rfl (len35 _ _ _ _ _)) ?_
  simp only [zp]
  refine sm (.int .i64 0) 12 rfl rfl rfl rfl ?_
  simp only [zp]
  refine st_end ?_
  subst hQ
  refine wp_block ?_
  go_loopw [12] (fun v12 wr => ∃ i : Nat, i ≤ n ∧ v12 = .int .i64 i ∧ Below w.heap.size w wr) (fun v12 _ => n - (intOf v12).toNat)
  case atStart => exact ⟨0, Nat.zero_le _, rfl, E⟩
  case round =>
    obtain ⟨i, hi, rfl, E⟩ := hrel
    by_cases hlt : i < n
    · rcases hR with h | ⟨b, off, rfl, h⟩
      · omega
      refine wq fun Q hQ => ?_
      refine sv (.bool true) 13 rfl rfl (ex_bin (u := (.int .i64 (i : Nat))) (r := (.int .i64 (n : Nat))) rfl rfl rfl (eg3 _ _ _ _ _ _) (lss3 _ (decide_eq_true (by omega)))) ?_
      simp only [zp]
      refine st_end ?_
      subst hQ
      refine wp_seq ?_
      refine wp_cond_true rfl ?_
      refine wp_skip ?_
      refine wp_seq ?_
      refine wp_block ?_
      refine wq fun Q hQ => ?_
      refine sv (.pointer (some ⟨b, (off + i * 5), none⟩)) 14 rfl rfl (ex_ix35 rfl rfl rfl hlt) ?_
      simp only [zp]
      refine sv (.agg (RL (qs i))) 15 rfl rfl (ex_load rfl rfl (ld_range (range_below (h i hlt) E) Try.underlying25 rfl inf25)) ?_
      simp only [zp]
      refine st_new (fun b => .pointer (some ⟨b, 0, none⟩)) (some 7) rfl rfl (ex_alloc rfl zero25) ?_
      intro b1 W1 k1 g1 B
      simp only [zp]
      have ge_b1 := Nat.le_trans E.size g1
      replace E := below_next E B
      clear B
      obtain ⟨W2, hst, kn, K⟩ := put_all (D := (RL (qs i))) k1 rfl inf25 (by kernel_rfl)
      refine st_sk rfl rfl (ex_store rfl rfl rfl hst) ?_
      replace E := below_put E ge_b1 K
      replace k1 := kn
      clear kn K hst
      refine st_end ?_
      subst hQ
      refine wq fun Q hQ => ?_
      refine sv (.agg (RL (qs i))) 16 rfl rfl (ex_load (p := (.pointer (some ⟨b1, 0, none⟩))) rfl rfl (ld_all k1 Try.underlying25 rfl inf25)) ?_
      simp only [zp]
      refine st_call (some 17) rfl rfl (may_any W2 (hqb i hlt) (hG i hlt)) (ex_call (f := 9) (vs := [(.agg (RL (qs i)))]) rfl (cf9 _) rfl) ?_
      rintro e W3 ⟨rfl, B⟩
      refine ⟨_, rfl, ?_⟩
      simp only [zp]
      replace E := below_next E B
      replace k1 := keep B k1
      refine sv (.bool false) 18 rfl rfl (ex_not rfl rfl rfl) ?_
      simp only [zp]
      refine st_end ?_
      subst hQ
      refine wp_cond_false rfl ?_
      refine wp_skip ?_
      refine wl_in (wl_cap fun Q hQ => ?_)
      refine sv (.int .i64 ((i + 1 : Nat) : Int)) 19 rfl rfl (ex_bin rfl rfl rfl (eg3 _ _ _ _ _ _) (add3 _ (by omega) (by omega))) ?_
      simp only [zp]
      refine sm (.int .i64 ((i + 1 : Nat) : Int)) 12 rfl rfl rfl rfl ?_
      simp only [zp]
      refine st_end ?_
      subst hQ
      refine then_go ?_
      go_roundw
      case rel => exact ⟨i + 1, by omega, rfl, E⟩
      case measure => simp [intOf]; omega
    · have hin : i = n := by omega
      subst i
      refine wq fun Q hQ => ?_
      refine sv (.bool false) 13 rfl rfl (ex_bin (u := (.int .i64 (n : Nat))) (r := (.int .i64 (n : Nat))) rfl rfl rfl (eg3 _ _ _ _ _ _) (lss3 _ (decide_eq_false (by omega)))) ?_
      simp only [zp]
      refine st_end ?_
      subst hQ
      refine wp_seq ?_
      refine wp_cond_false rfl ?_
      refine wp_exit ?_
      refine ex_then ?_
      refine ex_then ?_
      refine ex_blk ?_
      refine wp_seq ?_
      refine wq fun Q hQ => ?_
      refine sm (.int .i64 y) 20 rfl rfl rfl rfl ?_
      simp only [zp]
      refine st_call (some 21) rfl rfl (okh_any _ wr (show okH y = true from hO 0 (Nat.zero_le _))) (ex_call (f := 42) (vs := [(.int .i64 y)]) rfl (cf42 _) rfl) ?_
      rintro e W4 ⟨rfl, B⟩
      refine ⟨_, rfl, ?_⟩
      simp only [zp]
      replace E := below_next E B
      refine sv (.bool false) 22 rfl rfl (ex_not rfl rfl rfl) ?_
      simp only [zp]
      refine st_end ?_
      subst hQ
      refine wp_cond_false rfl ?_
      refine wp_skip ?_
      refine wq fun Q hQ => ?_
      refine sm (.slice ao n c) 23 rfl rfl rfl rfl ?_
      simp only [zp]
      refine sv (.int .i64 (n : Nat)) 24 rfl rfl (ex_len rfl rfl (len35 _ _ _ _ _)) ?_
      simp only [zp]
      refine sv (.int .i64 ((n + 1 : Nat) : Int)) 25 rfl rfl (ex_bin rfl rfl rfl (eg3 _ _ _ _ _ _) (add3 _ (by omega) (by omega))) ?_
      simp only [zp]
      refine st_new (fun b => .slice (some ⟨b, 0, none⟩) (n + 1) (n + 1)) (some 26) rfl rfl (ex_mk36 (n := n + 1) rfl rfl rfl (by omega)) ?_
      intro b2 W5 k2 g2 B
      simp only [zp]
      have ge_b2 := Nat.le_trans E.size g2
      replace E := below_next E B
      clear B
      refine sg (.slice (some ⟨b2, 0, none⟩) (n + 1) (n + 1)) 8 rfl rfl rfl rfl ?_
      simp only [zp]
      refine st_end ?_
      subst hQ
      refine wq fun Q hQ => ?_
      refine sm (.slice (some ⟨b2, 0, none⟩) (n + 1) (n + 1)) 27 rfl rfl rfl rfl ?_
      simp only [zp]
      refine sm (.slice ao n c) 28 rfl rfl rfl rfl ?_
      simp only [zp]
      refine sv (.int .i64 (n : Nat)) 29 rfl rfl (ex_len rfl rfl (len35 _ _ _ _ _)) ?_
      simp only [zp]
      refine sm (.int .i64 y) 30 rfl rfl rfl rfl ?_
      simp only [zp]
      refine sv (.pointer (some ⟨b2, n, none⟩)) 31 rfl rfl (ex_ix36 (k := n) rfl rfl rfl rfl (by omega)) ?_
      simp only [zp]
      obtain ⟨kn, K⟩ := put_cell (i := n) (.int .i64 y) k2
      refine st_sk rfl rfl (ex_store rfl rfl rfl (sto3 (at_cell k2 (last_at n)) (unfrozen k2))) ?_
      obtain ⟨W6, hW2⟩ : ∃ W', W5.setCell ⟨b2, n, none⟩ (.int .i64 y) = W' := ⟨_, rfl⟩
      rw [hW2] at kn K ⊢
      rw [List.setIfInBounds_toArray, set_last] at kn
      replace E := below_put E ge_b2 K
      replace k2 := kn
      clear kn K
      refine st_end ?_
      subst hQ
      refine wp_seq ?_
      refine wq fun Q hQ => ?_
      refine sm (.slice ao n c) 32 rfl rfl rfl rfl ?_
      simp only [zp]
      refine sv (.int .i64 (n : Nat)) 33 rfl rfl (ex_len rfl rfl (len35 _ _ _ _ _)) ?_
      simp only [zp]
      refine sv (.int .i64 ((n : Nat) - 1 : Int)) 34 rfl rfl (ex_bin rfl rfl rfl (eg3 _ _ _ _ _ _) (sub3 _ rfl (by omega))) ?_
      simp only [zp]
      refine sg (.int .i64 ((n : Nat) - 1 : Int)) 9 rfl rfl rfl rfl ?_
      simp only [zp]
      refine st_end ?_
      subst hQ
      refine wp_block ?_
      go_loopw [9] (fun v9 wr => ∃ p m : Nat, p + m = n ∧ v9 = .int .i64 ((p : Int) - 1) ∧ Below w.heap.size w wr ∧ wr.heap[b2]? = some (.cells (I64 (List.replicate p 0 ++ el qs n y m)).toArray 3) ) (fun v9 _ => (intOf v9 + 1).toNat)
      case atStart => exact ⟨n, 0, rfl, rfl, E, k2⟩
      case round =>
        clear k2 E
        obtain ⟨p, m, hpm, rfl, E, kg⟩ := hrel
        by_cases hp : 0 < p
        · obtain ⟨p, rfl⟩ : ∃ q, p = q + 1 := ⟨p - 1, by omega⟩
          rw [show ((p + 1 : Nat) : Int) - 1 = (p : Int) by omega]
          rcases hR with h | ⟨b, off, rfl, h⟩
          · omega
          have hpl : p < n := by omega
          have MP := (mayR_of (hG p hpl)).2
          have hv := okH_of (hO m (by omega))
          have en : ev qs n y (m + 1) = ev qs n y m + (qs p).d := by
            subst hpm
            exact ev_next qs y p m
          refine wp_seq ?_
          refine wq fun Q hQ => ?_
          refine sm (.int .i64 (p : Nat)) 35 rfl rfl rfl rfl ?_
          simp only [zp]
          refine sv (.bool true) 36 rfl rfl (ex_bin (u := (.int .i64 (p : Nat))) (r := (.int .i64 0)) rfl rfl rfl (eg3 _ _ _ _ _ _) (geq3 _ (decide_eq_true (by omega)))) ?_
          simp only [zp]
          refine st_end ?_
          subst hQ
          refine wp_cond_true rfl ?_
          refine wp_skip ?_
          refine wp_seq ?_
          refine wp_block ?_
          refine wp_seq ?_
          obtain ⟨W7, hwd⟩ : ∃ wd, wr.drew = wd := ⟨_, rfl⟩
          refine wp_region_held (S := fun W => Kept (· = b2) W7 W) (by kernel_rfl) ?_
          show wpAnyH _ _ _ _ _ _ _ _ wr.drew
          rw [hwd]
          refine capQ fun Q hQ => ?_
          have hQP : ∀ c (a : Act) (d : Nat) v w, Q (.panic c) (a.put (some d) v) w → Q (.panic c) a w := by
            subst hQ
            exact fun _ _ _ _ _ h => h
          have BD : Below wr.heap.size wr W7 := by rw [← hwd]; exact below_drewB (Below.refl _ _)
          clear hwd
          replace E := below_next E BD
          replace kg := keep BD kg
          clear BD
          have S : Kept (· = b2) W7 W7 := Kept.refl _ _
          have d_kg := kg
          have hcd : W7.cell? ⟨b, off + p * 5 + 2, none⟩ = some (.int .i64 (qs p).d) := range_below (h p hpl) E 2 _ rfl
          have hbg : ¬ b = b2 := by
            have := block_lt_of_cell (h p hpl 0 _ rfl)
            simp only at this
            omega
          refine ah_take (v := (.slice (some ⟨b2, 0, none⟩) (n + 1) (n + 1))) (i := 0) (some 39) rfl rfl (by kernel_rfl) (by kernel_rfl) (by kernel_rfl) rfl (fun W hK => ex_mv rfl rfl) S (fun c a w h => hQP c a _ _ w h) ?_
          simp only [zp]
          refine ah_take (v := (.int .i64 (p : Nat))) (i := 1) (some 40) rfl rfl (by kernel_rfl) (by kernel_rfl) (by kernel_rfl) rfl (fun W hK => ex_mv rfl rfl) S (fun c a w h => hQP c a _ _ w h) ?_
          simp only [zp]
          refine ah_take (v := (.slice (some ⟨b2, 0, none⟩) (n + 1) (n + 1))) (i := 2) (some 41) rfl rfl (by kernel_rfl) (by kernel_rfl) (by kernel_rfl) rfl (fun W hK => ex_mv rfl rfl) S (fun c a w h => hQP c a _ _ w h) ?_
          simp only [zp]
          refine ah_take (v := (.int .i64 (p : Nat))) (i := 3) (some 42) rfl rfl (by kernel_rfl) (by kernel_rfl) (by kernel_rfl) rfl (fun W hK => ex_mv rfl rfl) S (fun c a w h => hQP c a _ _ w h) ?_
          simp only [zp]
          refine ah_take (v := (.int .i64 ((p + 1 : Nat) : Int))) (i := 4) (some 43) rfl rfl (by kernel_rfl) (by kernel_rfl) (by kernel_rfl) rfl (fun W hK => ex_bin (u := (.int .i64 (p : Nat))) (r := (.int .i64 1)) rfl rfl rfl (eg3 _ _ _ _ _ _) (add3 _ (by omega) (by omega))) S (fun c a w h => hQP c a _ _ w h) ?_
          simp only [zp]
          refine ah_take (v := (.pointer (some ⟨b2, (p + 1), none⟩))) (i := 5) (some 44) rfl rfl (by kernel_rfl) (by kernel_rfl) (by kernel_rfl) rfl (fun W hK => ex_ix36 (k := p + 1) rfl rfl rfl rfl (by omega)) S (fun c a w h => hQP c a _ _ w h) ?_
          simp only [zp]
          refine ah_take (v := (.slice (some ⟨b, off, none⟩) n c)) (i := 7) (some 46) rfl rfl (by kernel_rfl) (by kernel_rfl) (by kernel_rfl) rfl (fun W hK => ex_mv rfl rfl) S (fun c a w h => hQP c a _ _ w h) ?_
          simp only [zp]
          refine ah_take (v := (.int .i64 (p : Nat))) (i := 8) (some 47) rfl rfl (by kernel_rfl) (by kernel_rfl) (by kernel_rfl) rfl (fun W hK => ex_mv rfl rfl) S (fun c a w h => hQP c a _ _ w h) ?_
          simp only [zp]
          refine ah_take (v := (.pointer (some ⟨b, (off + p * 5), none⟩))) (i := 9) (some 48) rfl rfl (by kernel_rfl) (by kernel_rfl) (by kernel_rfl) rfl (fun W hK => ex_ix35 rfl rfl rfl hpl) S (fun c a w h => hQP c a _ _ w h) ?_
          simp only [zp]
          refine ah_take (v := (.pointer (some ⟨b, (off + p * 5 + 2), none⟩))) (i := 10) (some 49) rfl rfl (by kernel_rfl) (by kernel_rfl) (by kernel_rfl) rfl (fun W hK => ex_fa rfl rfl (faD _ _ _)) S (fun c a w h => hQP c a _ _ w h) ?_
          simp only [zp]
          refine ah_take (v := (.int .i64 (qs p).d)) (i := 11) (some 50) rfl rfl (by kernel_rfl) (by kernel_rfl) (by kernel_rfl) rfl (fun W hK => ex_load rfl rfl (ld3 (cell_kept hK hcd hbg))) S (fun c a w h => hQP c a _ _ w h) ?_
          simp only [zp]
          refine ah_or1 (i := 6) (by kernel_rfl) ?_
          refine nx_to (v := (.int .i64 (ev qs n y m))) (some 45) rfl rfl rfl (ex_load rfl rfl (ld3 (at_cell kg (arr_at ((at_mid p _ (by rw [el_length]; omega)).trans (by rw [el_head])))))) S ?_
          simp only [zp]
          refine ah_take (v := (.int .i64 (ev qs n y (m + 1)))) (i := 12) (some 51) rfl rfl (by kernel_rfl) (by kernel_rfl) (by kernel_rfl) rfl (fun W hK => ex_bin (u := (.int .i64 (ev qs n y m))) (r := (.int .i64 (qs p).d)) rfl rfl rfl (eg3 _ _ _ _ _ _) (add3 _ en.symm (by omega))) S (fun c a w h => hQP c a _ _ w h) ?_
          simp only [zp]
          refine ah_take (v := (.pointer (some ⟨b2, p, none⟩))) (i := 13) (some 52) rfl rfl (by kernel_rfl) (by kernel_rfl) (by kernel_rfl) rfl (fun W hK => ex_ix36 (k := p) rfl rfl rfl rfl (by omega)) S (fun c a w h => hQP c a _ _ w h) ?_
          simp only [zp]
          refine ah_or1 (i := 14) (by kernel_rfl) ?_
          obtain ⟨kn, K⟩ := put_cell (i := p) (.int .i64 (ev qs n y (m + 1))) kg
          refine nx_sk rfl rfl rfl (ex_store rfl rfl rfl (sto3 (at_cell kg (arr_at (at_low p _))) (unfrozen kg))) (S.putX K) ?_
          obtain ⟨W8, hW2⟩ : ∃ W', W7.setCell ⟨b2, p, none⟩ (.int .i64 (ev qs n y (m + 1))) = W' := ⟨_, rfl⟩
          rw [hW2] at kn K ⊢
          rw [List.setIfInBounds_toArray, set_mid] at kn
          replace E := below_put E ge_b2 K
          replace S := S.putX K
          replace kg := kn
          clear kn K
          refine ah_done (by kernel_rfl) ?_
          clear hQP
          subst hQ
          clear S d_kg 
          refine wq fun Q hQ => ?_
          refine sm (.slice (some ⟨b2, 0, none⟩) (n + 1) (n + 1)) 53 rfl rfl rfl rfl ?_
          simp only [zp]
          refine sm (.int .i64 (p : Nat)) 54 rfl rfl rfl rfl ?_
          simp only [zp]
          refine sv (.pointer (some ⟨b2, p, none⟩)) 55 rfl rfl (ex_ix36 (k := p) rfl rfl rfl rfl (by omega)) ?_
          simp only [zp]
          refine sv (.int .i64 (ev qs n y (m + 1))) 56 rfl rfl (ex_load rfl rfl (ld3 (at_cell kg (arr_at (mid_at p _ _))))) ?_
          simp only [zp]
          refine st_call (some 57) rfl rfl (okh_any _ W8 (hO (m + 1) (by omega))) (ex_call (f := 42) (vs := [(.int .i64 (ev qs n y (m + 1)))]) rfl (cf42 _) rfl) ?_
          rintro e W9 ⟨rfl, B⟩
          refine ⟨_, rfl, ?_⟩
          simp only [zp]
          replace E := below_next E B
          replace kg := keep B kg
          refine sv (.bool false) 58 rfl rfl (ex_not rfl rfl rfl) ?_
          simp only [zp]
          refine st_end ?_
          subst hQ
          refine wp_cond_false rfl ?_
          refine wp_skip ?_
          refine wl_in (wl_cap fun Q hQ => ?_)
          refine sm (.int .i64 (p : Nat)) 37 rfl rfl rfl rfl ?_
          simp only [zp]
          refine sv (.int .i64 ((p : Int) - 1)) 38 rfl rfl (ex_bin (u := (.int .i64 (p : Nat))) (r := (.int .i64 1)) rfl rfl rfl (eg3 _ _ _ _ _ _) (sub3 _ rfl (by omega))) ?_
          simp only [zp]
          refine sg (.int .i64 ((p : Int) - 1)) 9 rfl rfl rfl rfl ?_
          simp only [zp]
          refine st_end ?_
          subst hQ
          refine then_go ?_
          go_roundw
          case rel => exact ⟨p, m + 1, by omega, rfl, E, kg⟩
          case measure => simp [intOf]
        · obtain rfl : p = 0 := by omega
          refine wp_seq ?_
          refine wq fun Q hQ => ?_
          refine sm (.int .i64 (((0 : Nat) : Int) - 1)) 35 rfl rfl rfl rfl ?_
          simp only [zp]
          refine sv (.bool false) 36 rfl rfl (ex_bin (u := (.int .i64 (((0 : Nat) : Int) - 1))) (r := (.int .i64 0)) rfl rfl rfl (eg3 _ _ _ _ _ _) (geq3 _ (decide_eq_false (by omega)))) ?_
          simp only [zp]
          refine st_end ?_
          subst hQ
          refine wp_cond_false rfl ?_
          refine wp_exit ?_
          refine ex_then ?_
          refine ex_then ?_
          refine ex_blk ?_
          refine wq fun Q hQ => ?_
          refine sm (.slice (some ⟨b2, 0, none⟩) (n + 1) (n + 1)) 59 rfl rfl rfl rfl ?_
          simp only [zp]
          refine sg (.slice (some ⟨b2, 0, none⟩) (n + 1) (n + 1)) 4 rfl rfl rfl rfl ?_
          simp only [zp]
          refine sg (.int .i64 0) 5 rfl rfl rfl rfl ?_
          simp only [zp]
          refine st_end ?_
          subst hQ
          refine wp_ret ?_
          have hm : m = n := by omega
          subst m
          repeat (first | refine ret_out ?_ | refine ret_blk ?_)
          exact bodyPost_ret (results_tmp2 Try.results19 _ _ _) rfl ⟨b2, rfl, ⟨ge_b2, fun k hk => at_cell kg (arr_at (by rw [List.replicate_zero, List.nil_append]; exact I64_el qs n y n k hk))⟩, E⟩
end Go.Proofs.Ytfbaidmnnkcaeaa
