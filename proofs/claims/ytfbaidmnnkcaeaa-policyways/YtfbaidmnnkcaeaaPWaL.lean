/- Policy: the walk of PolicyWays. -/
import Derived.Test.YtfbaidmnnkcaeaaPWay
import Derived.Test.YtfbaidmnnkcaeaaPRise
namespace Go.Proofs.Ytfbaidmnnkcaeaa
open Go.RowKit
set_option linter.unusedVariables false
set_option linter.unusedSimpArgs false
set_option maxRecDepth 100000

theorem faZ (b p : Nat) (W : World) : (Instr.fieldAt 25 (.pointer (some ⟨b, p, none⟩)) 0).run Try.prog W = .ok (.pointer (some ⟨b, p, none⟩)) W := by go_simp
theorem faG (b p : Nat) (W : World) : (Instr.fieldAt 25 (.pointer (some ⟨b, p, none⟩)) 2).run Try.prog W = .ok (.pointer (some ⟨b, p + 3, none⟩)) W := by go_simp
theorem faL (b p : Nat) (W : World) : (Instr.fieldAt 25 (.pointer (some ⟨b, p, none⟩)) 3).run Try.prog W = .ok (.pointer (some ⟨b, p + 4, none⟩)) W := by go_simp
theorem rng_kept {F : Nat → Prop} {W W' : World} {b o : Nat} {L : List Value} (hK : Kept F W W') (h : W.rangeAt b o L) (hn : ¬ F b) : W'.rangeAt b o L := fun j v hv => cell_kept hK (h j v hv) hn
theorem rng_fee {W : World} {b o : Nat} {q : RV} (h : W.rangeAt b o (RL q).toList) : W.rangeAt b o (FL q).toList := fun j v hv => by
  have hj : j < 2 := (List.getElem?_eq_some_iff.1 hv).1
  refine h j v ?_
  match j, hj with
  | 0, _ => exact hv
  | 1, _ => exact hv
  | j + 2, hj => omega
theorem own_nil (w : World) (qs : Nat → RV) : w.ownsRow w.heap.size 23 2 (.slice none 0 0) 0 (fL qs 0) := ⟨rfl, .inl ⟨rfl, rfl⟩⟩
/-- what a node of a way answers -/
theorem fwd_val {q : RV} {am ex a x h : Int} (hm : mayR q = true) (hx : okH x = true) (h0 : 0 ≤ h) (h1 : h ≤ 2147483647) (a0 : 0 ≤ a) (am1 : 1 ≤ am) (hE : inE q.b q.r am = 0) (hN : a = inN q.b q.r am) (hd : x = ex + q.d) :
    fwdN q ⟨1, am, ex, 0⟩ a x h = if q.f < x - h then 6 else if ex ≤ h + q.g then 5 else 0 := by
  obtain ⟨x0, x1⟩ := okH_of hx
  have w' : wrongB q a x h = false := wrong_no hm a0 x0 x1 h0 h1
  have e1 : ¬ x - q.d < ex := by omega
  have e2 : ¬ am < 1 := by omega
  have e3 : ¬ a < inN q.b q.r am := by omega
  unfold fwdN
  by_cases f1 : q.f < x - h
  · simp [w', f1]
  · by_cases f2 : ex ≤ h + q.g
    · simp [w', f1, f2]
    · simp [w', f1, f2, e1, e2, belowB, hE, e3]
theorem RowX.put {W W' : World} {base g n b : Nat} {z : Nat → Int} (h : RowX W base g n z) (K : Kept (· = b) W W') (hb : ¬ g = b) : RowX W' base g n z := ⟨h.1, fun k hk => cell_kept K (h.2 k hk) hb⟩
set_option maxHeartbeats 16000000 in
theorem ways_no1 {ao : Option Addr} {n c : Nat} {qs : Nat → RV} {x y h : Int} (w : World) (hR : n = 0 ∨ ∃ b off, ao = some ⟨b, off, none⟩ ∧ Rls w b off n qs) (hcap : n * 40 ≤ 140737488351232) (hqb : ∀ i, i < n → (qs i).b ≤ 9223372036854775807) 
    (hA : ∀ (W : World) (fo : Option Addr) (fc : Nat), W.ownsRow w.heap.size 23 2 (.slice fo n fc) n (fL qs n) → Calls Try.prog 21 #[.slice fo n fc, .int .i64 x] W fun e w' => ∃ F, ¬ F = 0 ∧ e = .returned (.tuple #[.slice none 0 0, .int .i64 F]) ∧ Below W.heap.size W w')
    (hB : ∀ W : World, Below w.heap.size w W → Calls Try.prog 19 #[.slice ao n c, .int .i64 y] W fun e w' => ∃ (so : Option Addr) (sn sc : Nat) (F : Int), e = .returned (.tuple #[.slice so sn sc, .int .i64 F]) ∧ Below W.heap.size W w')  :
    Calls Try.prog 6 #[.slice ao n c, .int .i64 x, .int .i64 y, .int .i64 h] w fun e w' => e = .returned (.bool true) ∧ Below w.heap.size w w' := by
  have E : Below w.heap.size w w := Below.refl _ _
  go_enter Try.func6, Try.ntmps6
  refine wq fun Q hQ => ?_
  refine sg (.bool false) 8 rfl rfl rfl rfl ?_
  simp only [zp]
  refine st_end ?_
  subst hQ
  refine wq fun Q hQ => ?_
  refine sg (.slice none 0 0) 9 rfl rfl rfl rfl ?_
  simp only [zp]
  refine st_end ?_
  subst hQ
  refine wp_seq ?_
  refine wq fun Q hQ => ?_
  refine sg (.int .i64 0) 10 rfl rfl rfl rfl ?_
  simp only [zp]
  refine st_end ?_
  subst hQ
  refine wp_block ?_
  go_loopw [9, 10] (fun v9 v10 wr => ∃ (i : Nat) (fo : Option Addr) (fc : Nat), i ≤ n ∧ v10 = .int .i64 i ∧ v9 = .slice fo i fc ∧ Below w.heap.size w wr ∧ wr.ownsRow w.heap.size 23 2 (.slice fo i fc) i (fL qs i)) (fun _ v10 _ => n - (intOf v10).toNat)
  case atStart => exact ⟨0, none, 0, Nat.zero_le _, rfl, rfl, E, own_nil w qs⟩
  case round =>
    obtain ⟨i, fo, fc, hi, rfl, rfl, E, HO⟩ := hrel
    by_cases hlt : i < n
    · rcases hR with h | ⟨b, off, rfl, h⟩
      · omega
      refine wp_seq ?_
      refine wq fun Q hQ => ?_
      refine sm (.int .i64 (i : Nat)) 20 rfl rfl rfl rfl ?_
      simp only [zp]
      refine sm (.slice (some ⟨b, off, none⟩) n c) 21 rfl rfl rfl rfl ?_
      simp only [zp]
      refine sv (.int .i64 (n : Nat)) 22 rfl rfl (ex_len rfl rfl (len35 _ _ _ _ _)) ?_
      simp only [zp]
      refine sv (.bool true) 23 rfl rfl (ex_bin (u := (.int .i64 (i : Nat))) (r := (.int .i64 (n : Nat))) rfl rfl rfl (eg3 _ _ _ _ _ _) (lss3 _ (decide_eq_true (by omega)))) ?_
      simp only [zp]
      refine st_end ?_
      subst hQ
      refine wp_cond_true rfl ?_
      refine wp_skip ?_
      refine wp_seq ?_
      refine wp_block ?_
      refine wl_in (wl_cap fun Q hQ => ?_)
      refine sm (.slice fo i fc) 26 rfl rfl rfl rfl ?_
      simp only [zp]
      refine sm (.slice (some ⟨b, off, none⟩) n c) 27 rfl rfl rfl rfl ?_
      simp only [zp]
      refine sm (.int .i64 (i : Nat)) 28 rfl rfl rfl rfl ?_
      simp only [zp]
      refine sv (.pointer (some ⟨b, (off + i * 5), none⟩)) 29 rfl rfl (ex_ix35 rfl rfl rfl hlt) ?_
      simp only [zp]
      refine sv (.pointer (some ⟨b, (off + i * 5), none⟩)) 30 rfl rfl (ex_fa rfl rfl (faZ _ _ _)) ?_
      simp only [zp]
      refine sv (.agg (FL (qs i))) 31 rfl rfl (ex_load rfl rfl (ld_range (rng_fee (range_below (h i hlt) E)) Try.underlying23 rfl inf23)) ?_
      simp only [zp]
      refine st_new (fun b => .slice (some ⟨b, 0, none⟩) 1 1) (some 32) rfl rfl (ex_bsl1 (u := (.agg (FL (qs i)))) rfl rfl (bs41_1 _ _)) ?_
      intro b1 W1 k1 g1 B
      simp only [zp]
      have ge_b1 := Nat.le_trans E.size g1
      replace E := below_next E B
      replace HO := own_below HO B
      clear B
      obtain ⟨g', cp', W9, happ, HO', E'⟩ := app_fee HO k1 (by omega) E
      refine st_to (v := .slice (some ⟨g', 0, none⟩) (i + 1) cp') (some 33) rfl rfl (ex_app rfl rfl rfl happ) ?_
      simp only [zp]
      replace E := E'
      clear HO k1 happ E'
      refine sg (.slice (some ⟨g', 0, none⟩) (i + 1) cp') 9 rfl rfl rfl rfl ?_
      simp only [zp]
      refine st_end ?_
      subst hQ
      refine wl_in (wl_cap fun Q hQ => ?_)
      refine sm (.int .i64 (i : Nat)) 24 rfl rfl rfl rfl ?_
      simp only [zp]
      refine sv (.int .i64 ((i + 1 : Nat) : Int)) 25 rfl rfl (ex_bin rfl rfl rfl (eg3 _ _ _ _ _ _) (add3 _ (by omega) (by omega))) ?_
      simp only [zp]
      refine sg (.int .i64 ((i + 1 : Nat) : Int)) 10 rfl rfl rfl rfl ?_
      simp only [zp]
      refine st_end ?_
      subst hQ
      refine then_go ?_
      go_roundw
      case rel => exact ⟨i + 1, some ⟨g', 0, none⟩, cp', by omega, rfl, rfl, E, HO'⟩
      case measure => simp [intOf]; omega
    · have hin : i = n := by omega
      subst i
      refine wp_seq ?_
      refine wq fun Q hQ => ?_
      refine sm (.int .i64 (n : Nat)) 20 rfl rfl rfl rfl ?_
      simp only [zp]
      refine sm (.slice ao n c) 21 rfl rfl rfl rfl ?_
      simp only [zp]
      refine sv (.int .i64 (n : Nat)) 22 rfl rfl (ex_len rfl rfl (len35 _ _ _ _ _)) ?_
      simp only [zp]
      refine sv (.bool false) 23 rfl rfl (ex_bin (u := (.int .i64 (n : Nat))) (r := (.int .i64 (n : Nat))) rfl rfl rfl (eg3 _ _ _ _ _ _) (lss3 _ (decide_eq_false (by omega)))) ?_
      simp only [zp]
      refine st_end ?_
      subst hQ
      refine wp_cond_false rfl ?_
      refine wp_exit ?_
      refine ex_then ?_
      refine ex_then ?_
      refine ex_blk ?_
      refine wq fun Q hQ => ?_
      refine sm (.slice fo n fc) 35 rfl rfl rfl rfl ?_
      simp only [zp]
      refine sm (.int .i64 x) 36 rfl rfl rfl rfl ?_
      simp only [zp]
      refine st_call (some 37) rfl rfl (hA wr fo fc HO) (ex_call (f := 21) (vs := [(.slice fo n fc), (.int .i64 x)]) rfl (cf21 _) rfl) ?_
      rintro e W2 ⟨Fn, hFn, rfl, B⟩
      refine ⟨_, rfl, ?_⟩
      simp only [zp]
      replace E := below_next E B
      replace HO := own_below HO B
      refine sm (.tuple #[(.slice none 0 0), (.int .i64 Fn)]) 34 rfl rfl rfl rfl ?_
      simp only [zp]
      refine sv (.slice none 0 0) 38 rfl rfl (ex_ext rfl rfl rfl) ?_
      simp only [zp]
      refine sv (.int .i64 Fn) 39 rfl rfl (ex_ext rfl rfl rfl) ?_
      simp only [zp]
      refine sg (.slice none 0 0) 11 rfl rfl rfl rfl ?_
      simp only [zp]
      refine sg (.int .i64 Fn) 12 rfl rfl rfl rfl ?_
      simp only [zp]
      refine st_end ?_
      subst hQ
      refine wq fun Q hQ => ?_
      refine sm (.slice ao n c) 41 rfl rfl rfl rfl ?_
      simp only [zp]
      refine sm (.int .i64 y) 42 rfl rfl rfl rfl ?_
      simp only [zp]
      refine st_call (some 43) rfl rfl (hB W2 E) (ex_call (f := 19) (vs := [(.slice ao n c), (.int .i64 y)]) rfl (cf19 _) rfl) ?_
      rintro e W3 ⟨zo, zn, zc, Fx, rfl, B⟩
      refine ⟨_, rfl, ?_⟩
      simp only [zp]
      replace E := below_next E B
      replace HO := own_below HO B
      refine sm (.tuple #[(.slice zo zn zc), (.int .i64 Fx)]) 40 rfl rfl rfl rfl ?_
      simp only [zp]
      refine sv (.slice zo zn zc) 44 rfl rfl (ex_ext rfl rfl rfl) ?_
      simp only [zp]
      refine sv (.int .i64 Fx) 45 rfl rfl (ex_ext rfl rfl rfl) ?_
      simp only [zp]
      refine sg (.slice zo zn zc) 13 rfl rfl rfl rfl ?_
      simp only [zp]
      refine sg (.int .i64 Fx) 14 rfl rfl rfl rfl ?_
      simp only [zp]
      refine st_end ?_
      subst hQ
      refine wp_seq ?_
      refine wq fun Q hQ => ?_
      refine st_call (some 46) rfl rfl (lives_any W3) (ex_call (f := 8) (vs := []) rfl (cf8 _) rfl) ?_
      rintro e W4 ⟨rfl, B⟩
      refine ⟨_, rfl, ?_⟩
      simp only [zp]
      replace E := below_next E B
      replace HO := own_below HO B
      refine sv (.bool false) 47 rfl rfl (ex_not rfl rfl rfl) ?_
      simp only [zp]
      refine sm (.bool false) 48 rfl rfl rfl rfl ?_
      simp only [zp]
      refine sm (.int .i64 Fn) 49 rfl rfl rfl rfl ?_
      simp only [zp]
      refine sv (.bool true) 50 rfl rfl (ex_bin (u := (.int .i64 Fn)) (r := (.int .i64 0)) rfl rfl rfl (eg37 _ _ _ _ _ _) (neq37 _ (decide_eq_true hFn))) ?_
      simp only [zp]
      refine sv (.bool true) 51 rfl rfl (ex_pkF rfl rfl rfl) ?_
      simp only [zp]
      refine sm (.bool true) 52 rfl rfl rfl rfl ?_
      simp only [zp]
      refine sn 53 rfl rfl ?_
      simp only [zp]
      refine sn 54 rfl rfl ?_
      simp only [zp]
      refine sv (.bool true) 55 rfl rfl (ex_pkT rfl rfl rfl) ?_
      simp only [zp]
      refine sm (.bool true) 56 rfl rfl rfl rfl ?_
      simp only [zp]
      refine sn 57 rfl rfl ?_
      simp only [zp]
      refine sn 58 rfl rfl ?_
      simp only [zp]
      refine sv (.bool true) 59 rfl rfl (ex_pkT rfl rfl rfl) ?_
      simp only [zp]
      refine sm (.bool true) 60 rfl rfl rfl rfl ?_
      simp only [zp]
      refine sn 61 rfl rfl ?_
      simp only [zp]
      refine sn 62 rfl rfl ?_
      simp only [zp]
      refine sv (.bool true) 63 rfl rfl (ex_pkT rfl rfl rfl) ?_
      simp only [zp]
      refine sm (.bool true) 64 rfl rfl rfl rfl ?_
      simp only [zp]
      refine sn 65 rfl rfl ?_
      simp only [zp]
      refine sn 66 rfl rfl ?_
      simp only [zp]
      refine sv (.bool true) 67 rfl rfl (ex_pkT rfl rfl rfl) ?_
      simp only [zp]
      refine st_end ?_
      subst hQ
      refine wp_cond_true rfl ?_
      refine wq fun Q hQ => ?_
      refine st_call (some 68) rfl rfl (lives_any W4) (ex_call (f := 8) (vs := []) rfl (cf8 _) rfl) ?_
      rintro e W5 ⟨rfl, B⟩
      refine ⟨_, rfl, ?_⟩
      simp only [zp]
      replace E := below_next E B
      replace HO := own_below HO B
      refine sg (.bool true) 8 rfl rfl rfl rfl ?_
      simp only [zp]
      refine st_end ?_
      subst hQ
      refine wp_ret ?_
      repeat (first | refine ret_out ?_ | refine ret_blk ?_)
      exact bodyPost_ret (results_tmp Try.results6 _ _ _) rfl ⟨rfl, E⟩
set_option maxHeartbeats 16000000 in
theorem ways_no2 {ao : Option Addr} {n c : Nat} {qs : Nat → RV} {x y h : Int} (w : World) (hR : n = 0 ∨ ∃ b off, ao = some ⟨b, off, none⟩ ∧ Rls w b off n qs) (hcap : n * 40 ≤ 140737488351232) (hqb : ∀ i, i < n → (qs i).b ≤ 9223372036854775807) (N : Nat → Int) 
    (hA : ∀ (W : World) (fo : Option Addr) (fc : Nat), W.ownsRow w.heap.size 23 2 (.slice fo n fc) n (fL qs n) → Calls Try.prog 21 #[.slice fo n fc, .int .i64 x] W fun e w' => ∃ g, e = .returned (.tuple #[.slice (some ⟨g, 0, none⟩) (n + 1) (n + 1), .int .i64 0]) ∧ RowX w' W.heap.size g n N ∧ Below W.heap.size W w')
    (hB : ∀ W : World, Below w.heap.size w W → Calls Try.prog 19 #[.slice ao n c, .int .i64 y] W fun e w' => ∃ F, ¬ F = 0 ∧ e = .returned (.tuple #[.slice none 0 0, .int .i64 F]) ∧ Below W.heap.size W w')  :
    Calls Try.prog 6 #[.slice ao n c, .int .i64 x, .int .i64 y, .int .i64 h] w fun e w' => e = .returned (.bool true) ∧ Below w.heap.size w w' := by
  have E : Below w.heap.size w w := Below.refl _ _
  go_enter Try.func6, Try.ntmps6
  refine wq fun Q hQ => ?_
  refine sg (.bool false) 8 rfl rfl rfl rfl ?_
  simp only [zp]
  refine st_end ?_
  subst hQ
  refine wq fun Q hQ => ?_
  refine sg (.slice none 0 0) 9 rfl rfl rfl rfl ?_
  simp only [zp]
  refine st_end ?_
  subst hQ
  refine wp_seq ?_
  refine wq fun Q hQ => ?_
  refine sg (.int .i64 0) 10 rfl rfl rfl rfl ?_
  simp only [zp]
  refine st_end ?_
  subst hQ
  refine wp_block ?_
  go_loopw [9, 10] (fun v9 v10 wr => ∃ (i : Nat) (fo : Option Addr) (fc : Nat), i ≤ n ∧ v10 = .int .i64 i ∧ v9 = .slice fo i fc ∧ Below w.heap.size w wr ∧ wr.ownsRow w.heap.size 23 2 (.slice fo i fc) i (fL qs i)) (fun _ v10 _ => n - (intOf v10).toNat)
  case atStart => exact ⟨0, none, 0, Nat.zero_le _, rfl, rfl, E, own_nil w qs⟩
  case round =>
    obtain ⟨i, fo, fc, hi, rfl, rfl, E, HO⟩ := hrel
    by_cases hlt : i < n
    · rcases hR with h | ⟨b, off, rfl, h⟩
      · omega
      refine wp_seq ?_
      refine wq fun Q hQ => ?_
      refine sm (.int .i64 (i : Nat)) 20 rfl rfl rfl rfl ?_
      simp only [zp]
      refine sm (.slice (some ⟨b, off, none⟩) n c) 21 rfl rfl rfl rfl ?_
      simp only [zp]
      refine sv (.int .i64 (n : Nat)) 22 rfl rfl (ex_len rfl rfl (len35 _ _ _ _ _)) ?_
      simp only [zp]
      refine sv (.bool true) 23 rfl rfl (ex_bin (u := (.int .i64 (i : Nat))) (r := (.int .i64 (n : Nat))) rfl rfl rfl (eg3 _ _ _ _ _ _) (lss3 _ (decide_eq_true (by omega)))) ?_
      simp only [zp]
      refine st_end ?_
      subst hQ
      refine wp_cond_true rfl ?_
      refine wp_skip ?_
      refine wp_seq ?_
      refine wp_block ?_
      refine wl_in (wl_cap fun Q hQ => ?_)
      refine sm (.slice fo i fc) 26 rfl rfl rfl rfl ?_
      simp only [zp]
      refine sm (.slice (some ⟨b, off, none⟩) n c) 27 rfl rfl rfl rfl ?_
      simp only [zp]
      refine sm (.int .i64 (i : Nat)) 28 rfl rfl rfl rfl ?_
      simp only [zp]
      refine sv (.pointer (some ⟨b, (off + i * 5), none⟩)) 29 rfl rfl (ex_ix35 rfl rfl rfl hlt) ?_
      simp only [zp]
      refine sv (.pointer (some ⟨b, (off + i * 5), none⟩)) 30 rfl rfl (ex_fa rfl rfl (faZ _ _ _)) ?_
      simp only [zp]
      refine sv (.agg (FL (qs i))) 31 rfl rfl (ex_load rfl rfl (ld_range (rng_fee (range_below (h i hlt) E)) Try.underlying23 rfl inf23)) ?_
      simp only [zp]
      refine st_new (fun b => .slice (some ⟨b, 0, none⟩) 1 1) (some 32) rfl rfl (ex_bsl1 (u := (.agg (FL (qs i)))) rfl rfl (bs41_1 _ _)) ?_
      intro b1 W1 k1 g1 B
      simp only [zp]
      have ge_b1 := Nat.le_trans E.size g1
      replace E := below_next E B
      replace HO := own_below HO B
      clear B
      obtain ⟨g', cp', W9, happ, HO', E'⟩ := app_fee HO k1 (by omega) E
      refine st_to (v := .slice (some ⟨g', 0, none⟩) (i + 1) cp') (some 33) rfl rfl (ex_app rfl rfl rfl happ) ?_
      simp only [zp]
      replace E := E'
      clear HO k1 happ E'
      refine sg (.slice (some ⟨g', 0, none⟩) (i + 1) cp') 9 rfl rfl rfl rfl ?_
      simp only [zp]
      refine st_end ?_
      subst hQ
      refine wl_in (wl_cap fun Q hQ => ?_)
      refine sm (.int .i64 (i : Nat)) 24 rfl rfl rfl rfl ?_
      simp only [zp]
      refine sv (.int .i64 ((i + 1 : Nat) : Int)) 25 rfl rfl (ex_bin rfl rfl rfl (eg3 _ _ _ _ _ _) (add3 _ (by omega) (by omega))) ?_
      simp only [zp]
      refine sg (.int .i64 ((i + 1 : Nat) : Int)) 10 rfl rfl rfl rfl ?_
      simp only [zp]
      refine st_end ?_
      subst hQ
      refine then_go ?_
      go_roundw
      case rel => exact ⟨i + 1, some ⟨g', 0, none⟩, cp', by omega, rfl, rfl, E, HO'⟩
      case measure => simp [intOf]; omega
    · have hin : i = n := by omega
      subst i
      refine wp_seq ?_
      refine wq fun Q hQ => ?_
      refine sm (.int .i64 (n : Nat)) 20 rfl rfl rfl rfl ?_
      simp only [zp]
      refine sm (.slice ao n c) 21 rfl rfl rfl rfl ?_
      simp only [zp]
      refine sv (.int .i64 (n : Nat)) 22 rfl rfl (ex_len rfl rfl (len35 _ _ _ _ _)) ?_
      simp only [zp]
      refine sv (.bool false) 23 rfl rfl (ex_bin (u := (.int .i64 (n : Nat))) (r := (.int .i64 (n : Nat))) rfl rfl rfl (eg3 _ _ _ _ _ _) (lss3 _ (decide_eq_false (by omega)))) ?_
      simp only [zp]
      refine st_end ?_
      subst hQ
      refine wp_cond_false rfl ?_
      refine wp_exit ?_
      refine ex_then ?_
      refine ex_then ?_
      refine ex_blk ?_
      refine wq fun Q hQ => ?_
      refine sm (.slice fo n fc) 35 rfl rfl rfl rfl ?_
      simp only [zp]
      refine sm (.int .i64 x) 36 rfl rfl rfl rfl ?_
      simp only [zp]
      refine st_call (some 37) rfl rfl (hA wr fo fc HO) (ex_call (f := 21) (vs := [(.slice fo n fc), (.int .i64 x)]) rfl (cf21 _) rfl) ?_
      rintro e W2 ⟨gn, rfl, Rn, B⟩
      refine ⟨_, rfl, ?_⟩
      simp only [zp]
      replace E := below_next E B
      replace HO := own_below HO B
      refine sm (.tuple #[(.slice (some ⟨gn, 0, none⟩) (n + 1) (n + 1)), (.int .i64 0)]) 34 rfl rfl rfl rfl ?_
      simp only [zp]
      refine sv (.slice (some ⟨gn, 0, none⟩) (n + 1) (n + 1)) 38 rfl rfl (ex_ext rfl rfl rfl) ?_
      simp only [zp]
      refine sv (.int .i64 0) 39 rfl rfl (ex_ext rfl rfl rfl) ?_
      simp only [zp]
      refine sg (.slice (some ⟨gn, 0, none⟩) (n + 1) (n + 1)) 11 rfl rfl rfl rfl ?_
      simp only [zp]
      refine sg (.int .i64 0) 12 rfl rfl rfl rfl ?_
      simp only [zp]
      refine st_end ?_
      subst hQ
      refine wq fun Q hQ => ?_
      refine sm (.slice ao n c) 41 rfl rfl rfl rfl ?_
      simp only [zp]
      refine sm (.int .i64 y) 42 rfl rfl rfl rfl ?_
      simp only [zp]
      refine st_call (some 43) rfl rfl (hB W2 E) (ex_call (f := 19) (vs := [(.slice ao n c), (.int .i64 y)]) rfl (cf19 _) rfl) ?_
      rintro e W3 ⟨Fx, hFx, rfl, B⟩
      refine ⟨_, rfl, ?_⟩
      simp only [zp]
      replace E := below_next E B
      replace HO := own_below HO B
      replace Rn := Rn.below B
      refine sm (.tuple #[(.slice none 0 0), (.int .i64 Fx)]) 40 rfl rfl rfl rfl ?_
      simp only [zp]
      refine sv (.slice none 0 0) 44 rfl rfl (ex_ext rfl rfl rfl) ?_
      simp only [zp]
      refine sv (.int .i64 Fx) 45 rfl rfl (ex_ext rfl rfl rfl) ?_
      simp only [zp]
      refine sg (.slice none 0 0) 13 rfl rfl rfl rfl ?_
      simp only [zp]
      refine sg (.int .i64 Fx) 14 rfl rfl rfl rfl ?_
      simp only [zp]
      refine st_end ?_
      subst hQ
      refine wp_seq ?_
      refine wq fun Q hQ => ?_
      refine st_call (some 46) rfl rfl (lives_any W3) (ex_call (f := 8) (vs := []) rfl (cf8 _) rfl) ?_
      rintro e W4 ⟨rfl, B⟩
      refine ⟨_, rfl, ?_⟩
      simp only [zp]
      replace E := below_next E B
      replace HO := own_below HO B
      replace Rn := Rn.below B
      refine sv (.bool false) 47 rfl rfl (ex_not rfl rfl rfl) ?_
      simp only [zp]
      refine sm (.bool false) 48 rfl rfl rfl rfl ?_
      simp only [zp]
      refine sm (.int .i64 0) 49 rfl rfl rfl rfl ?_
      simp only [zp]
      refine sv (.bool false) 50 rfl rfl (ex_bin (u := (.int .i64 0)) (r := (.int .i64 0)) rfl rfl rfl (eg37 _ _ _ _ _ _) (neq37 _ (by decide))) ?_
      simp only [zp]
      refine sv (.bool false) 51 rfl rfl (ex_pkF rfl rfl rfl) ?_
      simp only [zp]
      refine sm (.bool false) 52 rfl rfl rfl rfl ?_
      simp only [zp]
      refine sm (.int .i64 Fx) 53 rfl rfl rfl rfl ?_
      simp only [zp]
      refine sv (.bool true) 54 rfl rfl (ex_bin (u := (.int .i64 Fx)) (r := (.int .i64 0)) rfl rfl rfl (eg37 _ _ _ _ _ _) (neq37 _ (decide_eq_true hFx))) ?_
      simp only [zp]
      refine sv (.bool true) 55 rfl rfl (ex_pkF rfl rfl rfl) ?_
      simp only [zp]
      refine sm (.bool true) 56 rfl rfl rfl rfl ?_
      simp only [zp]
      refine sn 57 rfl rfl ?_
      simp only [zp]
      refine sn 58 rfl rfl ?_
      simp only [zp]
      refine sv (.bool true) 59 rfl rfl (ex_pkT rfl rfl rfl) ?_
      simp only [zp]
      refine sm (.bool true) 60 rfl rfl rfl rfl ?_
      simp only [zp]
      refine sn 61 rfl rfl ?_
      simp only [zp]
      refine sn 62 rfl rfl ?_
      simp only [zp]
      refine sv (.bool true) 63 rfl rfl (ex_pkT rfl rfl rfl) ?_
      simp only [zp]
      refine sm (.bool true) 64 rfl rfl rfl rfl ?_
      simp only [zp]
      refine sn 65 rfl rfl ?_
      simp only [zp]
      refine sn 66 rfl rfl ?_
      simp only [zp]
      refine sv (.bool true) 67 rfl rfl (ex_pkT rfl rfl rfl) ?_
      simp only [zp]
      refine st_end ?_
      subst hQ
      refine wp_cond_true rfl ?_
      refine wq fun Q hQ => ?_
      refine st_call (some 68) rfl rfl (lives_any W4) (ex_call (f := 8) (vs := []) rfl (cf8 _) rfl) ?_
      rintro e W5 ⟨rfl, B⟩
      refine ⟨_, rfl, ?_⟩
      simp only [zp]
      replace E := below_next E B
      replace HO := own_below HO B
      replace Rn := Rn.below B
      refine sg (.bool true) 8 rfl rfl rfl rfl ?_
      simp only [zp]
      refine st_end ?_
      subst hQ
      refine wp_ret ?_
      repeat (first | refine ret_out ?_ | refine ret_blk ?_)
      exact bodyPost_ret (results_tmp Try.results6 _ _ _) rfl ⟨rfl, E⟩
set_option maxHeartbeats 16000000 in
theorem ways_no3a {ao : Option Addr} {n c : Nat} {qs : Nat → RV} {x y h : Int} (w : World) (hR : n = 0 ∨ ∃ b off, ao = some ⟨b, off, none⟩ ∧ Rls w b off n qs) (hcap : n * 40 ≤ 140737488351232) (hqb : ∀ i, i < n → (qs i).b ≤ 9223372036854775807) (N X : Nat → Int) 
    (hA : ∀ (W : World) (fo : Option Addr) (fc : Nat), W.ownsRow w.heap.size 23 2 (.slice fo n fc) n (fL qs n) → Calls Try.prog 21 #[.slice fo n fc, .int .i64 x] W fun e w' => ∃ g, e = .returned (.tuple #[.slice (some ⟨g, 0, none⟩) (n + 1) (n + 1), .int .i64 0]) ∧ RowX w' W.heap.size g n N ∧ Below W.heap.size W w')
    (hB : ∀ W : World, Below w.heap.size w W → Calls Try.prog 19 #[.slice ao n c, .int .i64 y] W fun e w' => ∃ g, e = .returned (.tuple #[.slice (some ⟨g, 0, none⟩) (n + 1) (n + 1), .int .i64 0]) ∧ RowX w' W.heap.size g n X ∧ Below W.heap.size W w') (hz : x < 1) :
    Calls Try.prog 6 #[.slice ao n c, .int .i64 x, .int .i64 y, .int .i64 h] w fun e w' => e = .returned (.bool true) ∧ Below w.heap.size w w' := by
  have E : Below w.heap.size w w := Below.refl _ _
  go_enter Try.func6, Try.ntmps6
  refine wq fun Q hQ => ?_
  refine sg (.bool false) 8 rfl rfl rfl rfl ?_
  simp only [zp]
  refine st_end ?_
  subst hQ
  refine wq fun Q hQ => ?_
  refine sg (.slice none 0 0) 9 rfl rfl rfl rfl ?_
  simp only [zp]
  refine st_end ?_
  subst hQ
  refine wp_seq ?_
  refine wq fun Q hQ => ?_
  refine sg (.int .i64 0) 10 rfl rfl rfl rfl ?_
  simp only [zp]
  refine st_end ?_
  subst hQ
  refine wp_block ?_
  go_loopw [9, 10] (fun v9 v10 wr => ∃ (i : Nat) (fo : Option Addr) (fc : Nat), i ≤ n ∧ v10 = .int .i64 i ∧ v9 = .slice fo i fc ∧ Below w.heap.size w wr ∧ wr.ownsRow w.heap.size 23 2 (.slice fo i fc) i (fL qs i)) (fun _ v10 _ => n - (intOf v10).toNat)
  case atStart => exact ⟨0, none, 0, Nat.zero_le _, rfl, rfl, E, own_nil w qs⟩
  case round =>
    obtain ⟨i, fo, fc, hi, rfl, rfl, E, HO⟩ := hrel
    by_cases hlt : i < n
    · rcases hR with h | ⟨b, off, rfl, h⟩
      · omega
      refine wp_seq ?_
      refine wq fun Q hQ => ?_
      refine sm (.int .i64 (i : Nat)) 20 rfl rfl rfl rfl ?_
      simp only [zp]
      refine sm (.slice (some ⟨b, off, none⟩) n c) 21 rfl rfl rfl rfl ?_
      simp only [zp]
      refine sv (.int .i64 (n : Nat)) 22 rfl rfl (ex_len rfl rfl (len35 _ _ _ _ _)) ?_
      simp only [zp]
      refine sv (.bool true) 23 rfl rfl (ex_bin (u := (.int .i64 (i : Nat))) (r := (.int .i64 (n : Nat))) rfl rfl rfl (eg3 _ _ _ _ _ _) (lss3 _ (decide_eq_true (by omega)))) ?_
      simp only [zp]
      refine st_end ?_
      subst hQ
      refine wp_cond_true rfl ?_
      refine wp_skip ?_
      refine wp_seq ?_
      refine wp_block ?_
      refine wl_in (wl_cap fun Q hQ => ?_)
      refine sm (.slice fo i fc) 26 rfl rfl rfl rfl ?_
      simp only [zp]
      refine sm (.slice (some ⟨b, off, none⟩) n c) 27 rfl rfl rfl rfl ?_
      simp only [zp]
      refine sm (.int .i64 (i : Nat)) 28 rfl rfl rfl rfl ?_
      simp only [zp]
      refine sv (.pointer (some ⟨b, (off + i * 5), none⟩)) 29 rfl rfl (ex_ix35 rfl rfl rfl hlt) ?_
      simp only [zp]
      refine sv (.pointer (some ⟨b, (off + i * 5), none⟩)) 30 rfl rfl (ex_fa rfl rfl (faZ _ _ _)) ?_
      simp only [zp]
      refine sv (.agg (FL (qs i))) 31 rfl rfl (ex_load rfl rfl (ld_range (rng_fee (range_below (h i hlt) E)) Try.underlying23 rfl inf23)) ?_
      simp only [zp]
      refine st_new (fun b => .slice (some ⟨b, 0, none⟩) 1 1) (some 32) rfl rfl (ex_bsl1 (u := (.agg (FL (qs i)))) rfl rfl (bs41_1 _ _)) ?_
      intro b1 W1 k1 g1 B
      simp only [zp]
      have ge_b1 := Nat.le_trans E.size g1
      replace E := below_next E B
      replace HO := own_below HO B
      clear B
      obtain ⟨g', cp', W9, happ, HO', E'⟩ := app_fee HO k1 (by omega) E
      refine st_to (v := .slice (some ⟨g', 0, none⟩) (i + 1) cp') (some 33) rfl rfl (ex_app rfl rfl rfl happ) ?_
      simp only [zp]
      replace E := E'
      clear HO k1 happ E'
      refine sg (.slice (some ⟨g', 0, none⟩) (i + 1) cp') 9 rfl rfl rfl rfl ?_
      simp only [zp]
      refine st_end ?_
      subst hQ
      refine wl_in (wl_cap fun Q hQ => ?_)
      refine sm (.int .i64 (i : Nat)) 24 rfl rfl rfl rfl ?_
      simp only [zp]
      refine sv (.int .i64 ((i + 1 : Nat) : Int)) 25 rfl rfl (ex_bin rfl rfl rfl (eg3 _ _ _ _ _ _) (add3 _ (by omega) (by omega))) ?_
      simp only [zp]
      refine sg (.int .i64 ((i + 1 : Nat) : Int)) 10 rfl rfl rfl rfl ?_
      simp only [zp]
      refine st_end ?_
      subst hQ
      refine then_go ?_
      go_roundw
      case rel => exact ⟨i + 1, some ⟨g', 0, none⟩, cp', by omega, rfl, rfl, E, HO'⟩
      case measure => simp [intOf]; omega
    · have hin : i = n := by omega
      subst i
      refine wp_seq ?_
      refine wq fun Q hQ => ?_
      refine sm (.int .i64 (n : Nat)) 20 rfl rfl rfl rfl ?_
      simp only [zp]
      refine sm (.slice ao n c) 21 rfl rfl rfl rfl ?_
      simp only [zp]
      refine sv (.int .i64 (n : Nat)) 22 rfl rfl (ex_len rfl rfl (len35 _ _ _ _ _)) ?_
      simp only [zp]
      refine sv (.bool false) 23 rfl rfl (ex_bin (u := (.int .i64 (n : Nat))) (r := (.int .i64 (n : Nat))) rfl rfl rfl (eg3 _ _ _ _ _ _) (lss3 _ (decide_eq_false (by omega)))) ?_
      simp only [zp]
      refine st_end ?_
      subst hQ
      refine wp_cond_false rfl ?_
      refine wp_exit ?_
      refine ex_then ?_
      refine ex_then ?_
      refine ex_blk ?_
      refine wq fun Q hQ => ?_
      refine sm (.slice fo n fc) 35 rfl rfl rfl rfl ?_
      simp only [zp]
      refine sm (.int .i64 x) 36 rfl rfl rfl rfl ?_
      simp only [zp]
      refine st_call (some 37) rfl rfl (hA wr fo fc HO) (ex_call (f := 21) (vs := [(.slice fo n fc), (.int .i64 x)]) rfl (cf21 _) rfl) ?_
      rintro e W2 ⟨gn, rfl, Rn, B⟩
      refine ⟨_, rfl, ?_⟩
      simp only [zp]
      replace E := below_next E B
      replace HO := own_below HO B
      refine sm (.tuple #[(.slice (some ⟨gn, 0, none⟩) (n + 1) (n + 1)), (.int .i64 0)]) 34 rfl rfl rfl rfl ?_
      simp only [zp]
      refine sv (.slice (some ⟨gn, 0, none⟩) (n + 1) (n + 1)) 38 rfl rfl (ex_ext rfl rfl rfl) ?_
      simp only [zp]
      refine sv (.int .i64 0) 39 rfl rfl (ex_ext rfl rfl rfl) ?_
      simp only [zp]
      refine sg (.slice (some ⟨gn, 0, none⟩) (n + 1) (n + 1)) 11 rfl rfl rfl rfl ?_
      simp only [zp]
      refine sg (.int .i64 0) 12 rfl rfl rfl rfl ?_
      simp only [zp]
      refine st_end ?_
      subst hQ
      refine wq fun Q hQ => ?_
      refine sm (.slice ao n c) 41 rfl rfl rfl rfl ?_
      simp only [zp]
      refine sm (.int .i64 y) 42 rfl rfl rfl rfl ?_
      simp only [zp]
      refine st_call (some 43) rfl rfl (hB W2 E) (ex_call (f := 19) (vs := [(.slice ao n c), (.int .i64 y)]) rfl (cf19 _) rfl) ?_
      rintro e W3 ⟨gx, rfl, Rx, B⟩
      refine ⟨_, rfl, ?_⟩
      simp only [zp]
      replace E := below_next E B
      replace HO := own_below HO B
      replace Rn := Rn.below B
      refine sm (.tuple #[(.slice (some ⟨gx, 0, none⟩) (n + 1) (n + 1)), (.int .i64 0)]) 40 rfl rfl rfl rfl ?_
      simp only [zp]
      refine sv (.slice (some ⟨gx, 0, none⟩) (n + 1) (n + 1)) 44 rfl rfl (ex_ext rfl rfl rfl) ?_
      simp only [zp]
      refine sv (.int .i64 0) 45 rfl rfl (ex_ext rfl rfl rfl) ?_
      simp only [zp]
      refine sg (.slice (some ⟨gx, 0, none⟩) (n + 1) (n + 1)) 13 rfl rfl rfl rfl ?_
      simp only [zp]
      refine sg (.int .i64 0) 14 rfl rfl rfl rfl ?_
      simp only [zp]
      refine st_end ?_
      subst hQ
      refine wp_seq ?_
      refine wq fun Q hQ => ?_
      refine st_call (some 46) rfl rfl (lives_any W3) (ex_call (f := 8) (vs := []) rfl (cf8 _) rfl) ?_
      rintro e W4 ⟨rfl, B⟩
      refine ⟨_, rfl, ?_⟩
      simp only [zp]
      replace E := below_next E B
      replace HO := own_below HO B
      replace Rn := Rn.below B
      replace Rx := Rx.below B
      refine sv (.bool false) 47 rfl rfl (ex_not rfl rfl rfl) ?_
      simp only [zp]
      refine sm (.bool false) 48 rfl rfl rfl rfl ?_
      simp only [zp]
      refine sm (.int .i64 0) 49 rfl rfl rfl rfl ?_
      simp only [zp]
      refine sv (.bool false) 50 rfl rfl (ex_bin (u := (.int .i64 0)) (r := (.int .i64 0)) rfl rfl rfl (eg37 _ _ _ _ _ _) (neq37 _ (by decide))) ?_
      simp only [zp]
      refine sv (.bool false) 51 rfl rfl (ex_pkF rfl rfl rfl) ?_
      simp only [zp]
      refine sm (.bool false) 52 rfl rfl rfl rfl ?_
      simp only [zp]
      refine sm (.int .i64 0) 53 rfl rfl rfl rfl ?_
      simp only [zp]
      refine sv (.bool false) 54 rfl rfl (ex_bin (u := (.int .i64 0)) (r := (.int .i64 0)) rfl rfl rfl (eg37 _ _ _ _ _ _) (neq37 _ (by decide))) ?_
      simp only [zp]
      refine sv (.bool false) 55 rfl rfl (ex_pkF rfl rfl rfl) ?_
      simp only [zp]
      refine sm (.bool false) 56 rfl rfl rfl rfl ?_
      simp only [zp]
      refine sm (.int .i64 x) 57 rfl rfl rfl rfl ?_
      simp only [zp]
      refine sv (.bool true) 58 rfl rfl (ex_bin (u := (.int .i64 x)) (r := (.int .i64 1)) rfl rfl rfl (eg3 _ _ _ _ _ _) (lss3 _ (decide_eq_true hz))) ?_
      simp only [zp]
      refine sv (.bool true) 59 rfl rfl (ex_pkF rfl rfl rfl) ?_
      simp only [zp]
      refine sm (.bool true) 60 rfl rfl rfl rfl ?_
      simp only [zp]
      refine sn 61 rfl rfl ?_
      simp only [zp]
      refine sn 62 rfl rfl ?_
      simp only [zp]
      refine sv (.bool true) 63 rfl rfl (ex_pkT rfl rfl rfl) ?_
      simp only [zp]
      refine sm (.bool true) 64 rfl rfl rfl rfl ?_
      simp only [zp]
      refine sn 65 rfl rfl ?_
      simp only [zp]
      refine sn 66 rfl rfl ?_
      simp only [zp]
      refine sv (.bool true) 67 rfl rfl (ex_pkT rfl rfl rfl) ?_
      simp only [zp]
      refine st_end ?_
      subst hQ
      refine wp_cond_true rfl ?_
      refine wq fun Q hQ => ?_
      refine st_call (some 68) rfl rfl (lives_any W4) (ex_call (f := 8) (vs := []) rfl (cf8 _) rfl) ?_
      rintro e W5 ⟨rfl, B⟩
      refine ⟨_, rfl, ?_⟩
      simp only [zp]
      replace E := below_next E B
      replace HO := own_below HO B
      replace Rn := Rn.below B
      replace Rx := Rx.below B
      refine sg (.bool true) 8 rfl rfl rfl rfl ?_
      simp only [zp]
      refine st_end ?_
      subst hQ
      refine wp_ret ?_
      repeat (first | refine ret_out ?_ | refine ret_blk ?_)
      exact bodyPost_ret (results_tmp Try.results6 _ _ _) rfl ⟨rfl, E⟩
set_option maxHeartbeats 16000000 in
theorem ways_no3b {ao : Option Addr} {n c : Nat} {qs : Nat → RV} {x y h : Int} (w : World) (hR : n = 0 ∨ ∃ b off, ao = some ⟨b, off, none⟩ ∧ Rls w b off n qs) (hcap : n * 40 ≤ 140737488351232) (hqb : ∀ i, i < n → (qs i).b ≤ 9223372036854775807) (N X : Nat → Int) 
    (hA : ∀ (W : World) (fo : Option Addr) (fc : Nat), W.ownsRow w.heap.size 23 2 (.slice fo n fc) n (fL qs n) → Calls Try.prog 21 #[.slice fo n fc, .int .i64 x] W fun e w' => ∃ g, e = .returned (.tuple #[.slice (some ⟨g, 0, none⟩) (n + 1) (n + 1), .int .i64 0]) ∧ RowX w' W.heap.size g n N ∧ Below W.heap.size W w')
    (hB : ∀ W : World, Below w.heap.size w W → Calls Try.prog 19 #[.slice ao n c, .int .i64 y] W fun e w' => ∃ g, e = .returned (.tuple #[.slice (some ⟨g, 0, none⟩) (n + 1) (n + 1), .int .i64 0]) ∧ RowX w' W.heap.size g n X ∧ Below W.heap.size W w') (hz0 : ¬ x < 1) (hz : h < 0) :
    Calls Try.prog 6 #[.slice ao n c, .int .i64 x, .int .i64 y, .int .i64 h] w fun e w' => e = .returned (.bool true) ∧ Below w.heap.size w w' := by
  have E : Below w.heap.size w w := Below.refl _ _
  go_enter Try.func6, Try.ntmps6
  refine wq fun Q hQ => ?_
  refine sg (.bool false) 8 rfl rfl rfl rfl ?_
  simp only [zp]
  refine st_end ?_
  subst hQ
  refine wq fun Q hQ => ?_
  refine sg (.slice none 0 0) 9 rfl rfl rfl rfl ?_
  simp only [zp]
  refine st_end ?_
  subst hQ
  refine wp_seq ?_
  refine wq fun Q hQ => ?_
  refine sg (.int .i64 0) 10 rfl rfl rfl rfl ?_
  simp only [zp]
  refine st_end ?_
  subst hQ
  refine wp_block ?_
  go_loopw [9, 10] (fun v9 v10 wr => ∃ (i : Nat) (fo : Option Addr) (fc : Nat), i ≤ n ∧ v10 = .int .i64 i ∧ v9 = .slice fo i fc ∧ Below w.heap.size w wr ∧ wr.ownsRow w.heap.size 23 2 (.slice fo i fc) i (fL qs i)) (fun _ v10 _ => n - (intOf v10).toNat)
  case atStart => exact ⟨0, none, 0, Nat.zero_le _, rfl, rfl, E, own_nil w qs⟩
  case round =>
    obtain ⟨i, fo, fc, hi, rfl, rfl, E, HO⟩ := hrel
    by_cases hlt : i < n
    · rcases hR with h | ⟨b, off, rfl, h⟩
      · omega
      refine wp_seq ?_
      refine wq fun Q hQ => ?_
      refine sm (.int .i64 (i : Nat)) 20 rfl rfl rfl rfl ?_
      simp only [zp]
      refine sm (.slice (some ⟨b, off, none⟩) n c) 21 rfl rfl rfl rfl ?_
      simp only [zp]
      refine sv (.int .i64 (n : Nat)) 22 rfl rfl (ex_len rfl rfl (len35 _ _ _ _ _)) ?_
      simp only [zp]
      refine sv (.bool true) 23 rfl rfl (ex_bin (u := (.int .i64 (i : Nat))) (r := (.int .i64 (n : Nat))) rfl rfl rfl (eg3 _ _ _ _ _ _) (lss3 _ (decide_eq_true (by omega)))) ?_
      simp only [zp]
      refine st_end ?_
      subst hQ
      refine wp_cond_true rfl ?_
      refine wp_skip ?_
      refine wp_seq ?_
      refine wp_block ?_
      refine wl_in (wl_cap fun Q hQ => ?_)
      refine sm (.slice fo i fc) 26 rfl rfl rfl rfl ?_
      simp only [zp]
      refine sm (.slice (some ⟨b, off, none⟩) n c) 27 rfl rfl rfl rfl ?_
      simp only [zp]
      refine sm (.int .i64 (i : Nat)) 28 rfl rfl rfl rfl ?_
      simp only [zp]
      refine sv (.pointer (some ⟨b, (off + i * 5), none⟩)) 29 rfl rfl (ex_ix35 rfl rfl rfl hlt) ?_
      simp only [zp]
      refine sv (.pointer (some ⟨b, (off + i * 5), none⟩)) 30 rfl rfl (ex_fa rfl rfl (faZ _ _ _)) ?_
      simp only [zp]
      refine sv (.agg (FL (qs i))) 31 rfl rfl (ex_load rfl rfl (ld_range (rng_fee (range_below (h i hlt) E)) Try.underlying23 rfl inf23)) ?_
      simp only [zp]
      refine st_new (fun b => .slice (some ⟨b, 0, none⟩) 1 1) (some 32) rfl rfl (ex_bsl1 (u := (.agg (FL (qs i)))) rfl rfl (bs41_1 _ _)) ?_
      intro b1 W1 k1 g1 B
      simp only [zp]
      have ge_b1 := Nat.le_trans E.size g1
      replace E := below_next E B
      replace HO := own_below HO B
      clear B
      obtain ⟨g', cp', W9, happ, HO', E'⟩ := app_fee HO k1 (by omega) E
      refine st_to (v := .slice (some ⟨g', 0, none⟩) (i + 1) cp') (some 33) rfl rfl (ex_app rfl rfl rfl happ) ?_
      simp only [zp]
      replace E := E'
      clear HO k1 happ E'
      refine sg (.slice (some ⟨g', 0, none⟩) (i + 1) cp') 9 rfl rfl rfl rfl ?_
      simp only [zp]
      refine st_end ?_
      subst hQ
      refine wl_in (wl_cap fun Q hQ => ?_)
      refine sm (.int .i64 (i : Nat)) 24 rfl rfl rfl rfl ?_
      simp only [zp]
      refine sv (.int .i64 ((i + 1 : Nat) : Int)) 25 rfl rfl (ex_bin rfl rfl rfl (eg3 _ _ _ _ _ _) (add3 _ (by omega) (by omega))) ?_
      simp only [zp]
      refine sg (.int .i64 ((i + 1 : Nat) : Int)) 10 rfl rfl rfl rfl ?_
      simp only [zp]
      refine st_end ?_
      subst hQ
      refine then_go ?_
      go_roundw
      case rel => exact ⟨i + 1, some ⟨g', 0, none⟩, cp', by omega, rfl, rfl, E, HO'⟩
      case measure => simp [intOf]; omega
    · have hin : i = n := by omega
      subst i
      refine wp_seq ?_
      refine wq fun Q hQ => ?_
      refine sm (.int .i64 (n : Nat)) 20 rfl rfl rfl rfl ?_
      simp only [zp]
      refine sm (.slice ao n c) 21 rfl rfl rfl rfl ?_
      simp only [zp]
      refine sv (.int .i64 (n : Nat)) 22 rfl rfl (ex_len rfl rfl (len35 _ _ _ _ _)) ?_
      simp only [zp]
      refine sv (.bool false) 23 rfl rfl (ex_bin (u := (.int .i64 (n : Nat))) (r := (.int .i64 (n : Nat))) rfl rfl rfl (eg3 _ _ _ _ _ _) (lss3 _ (decide_eq_false (by omega)))) ?_
      simp only [zp]
      refine st_end ?_
      subst hQ
      refine wp_cond_false rfl ?_
      refine wp_exit ?_
      refine ex_then ?_
      refine ex_then ?_
      refine ex_blk ?_
      refine wq fun Q hQ => ?_
      refine sm (.slice fo n fc) 35 rfl rfl rfl rfl ?_
      simp only [zp]
      refine sm (.int .i64 x) 36 rfl rfl rfl rfl ?_
      simp only [zp]
      refine st_call (some 37) rfl rfl (hA wr fo fc HO) (ex_call (f := 21) (vs := [(.slice fo n fc), (.int .i64 x)]) rfl (cf21 _) rfl) ?_
      rintro e W2 ⟨gn, rfl, Rn, B⟩
      refine ⟨_, rfl, ?_⟩
      simp only [zp]
      replace E := below_next E B
      replace HO := own_below HO B
      refine sm (.tuple #[(.slice (some ⟨gn, 0, none⟩) (n + 1) (n + 1)), (.int .i64 0)]) 34 rfl rfl rfl rfl ?_
      simp only [zp]
      refine sv (.slice (some ⟨gn, 0, none⟩) (n + 1) (n + 1)) 38 rfl rfl (ex_ext rfl rfl rfl) ?_
      simp only [zp]
      refine sv (.int .i64 0) 39 rfl rfl (ex_ext rfl rfl rfl) ?_
      simp only [zp]
      refine sg (.slice (some ⟨gn, 0, none⟩) (n + 1) (n + 1)) 11 rfl rfl rfl rfl ?_
      simp only [zp]
      refine sg (.int .i64 0) 12 rfl rfl rfl rfl ?_
      simp only [zp]
      refine st_end ?_
      subst hQ
      refine wq fun Q hQ => ?_
      refine sm (.slice ao n c) 41 rfl rfl rfl rfl ?_
      simp only [zp]
      refine sm (.int .i64 y) 42 rfl rfl rfl rfl ?_
      simp only [zp]
      refine st_call (some 43) rfl rfl (hB W2 E) (ex_call (f := 19) (vs := [(.slice ao n c), (.int .i64 y)]) rfl (cf19 _) rfl) ?_
      rintro e W3 ⟨gx, rfl, Rx, B⟩
      refine ⟨_, rfl, ?_⟩
      simp only [zp]
      replace E := below_next E B
      replace HO := own_below HO B
      replace Rn := Rn.below B
      refine sm (.tuple #[(.slice (some ⟨gx, 0, none⟩) (n + 1) (n + 1)), (.int .i64 0)]) 40 rfl rfl rfl rfl ?_
      simp only [zp]
      refine sv (.slice (some ⟨gx, 0, none⟩) (n + 1) (n + 1)) 44 rfl rfl (ex_ext rfl rfl rfl) ?_
      simp only [zp]
      refine sv (.int .i64 0) 45 rfl rfl (ex_ext rfl rfl rfl) ?_
      simp only [zp]
      refine sg (.slice (some ⟨gx, 0, none⟩) (n + 1) (n + 1)) 13 rfl rfl rfl rfl ?_
      simp only [zp]
      refine sg (.int .i64 0) 14 rfl rfl rfl rfl ?_
      simp only [zp]
      refine st_end ?_
      subst hQ
      refine wp_seq ?_
      refine wq fun Q hQ => ?_
      refine st_call (some 46) rfl rfl (lives_any W3) (ex_call (f := 8) (vs := []) rfl (cf8 _) rfl) ?_
      rintro e W4 ⟨rfl, B⟩
      refine ⟨_, rfl, ?_⟩
      simp only [zp]
      replace E := below_next E B
      replace HO := own_below HO B
      replace Rn := Rn.below B
      replace Rx := Rx.below B
      refine sv (.bool false) 47 rfl rfl (ex_not rfl rfl rfl) ?_
      simp only [zp]
      refine sm (.bool false) 48 rfl rfl rfl rfl ?_
      simp only [zp]
      refine sm (.int .i64 0) 49 rfl rfl rfl rfl ?_
      simp only [zp]
      refine sv (.bool false) 50 rfl rfl (ex_bin (u := (.int .i64 0)) (r := (.int .i64 0)) rfl rfl rfl (eg37 _ _ _ _ _ _) (neq37 _ (by decide))) ?_
      simp only [zp]
      refine sv (.bool false) 51 rfl rfl (ex_pkF rfl rfl rfl) ?_
      simp only [zp]
      refine sm (.bool false) 52 rfl rfl rfl rfl ?_
      simp only [zp]
      refine sm (.int .i64 0) 53 rfl rfl rfl rfl ?_
      simp only [zp]
      refine sv (.bool false) 54 rfl rfl (ex_bin (u := (.int .i64 0)) (r := (.int .i64 0)) rfl rfl rfl (eg37 _ _ _ _ _ _) (neq37 _ (by decide))) ?_
      simp only [zp]
      refine sv (.bool false) 55 rfl rfl (ex_pkF rfl rfl rfl) ?_
      simp only [zp]
      refine sm (.bool false) 56 rfl rfl rfl rfl ?_
      simp only [zp]
      refine sm (.int .i64 x) 57 rfl rfl rfl rfl ?_
      simp only [zp]
      refine sv (.bool false) 58 rfl rfl (ex_bin (u := (.int .i64 x)) (r := (.int .i64 1)) rfl rfl rfl (eg3 _ _ _ _ _ _) (lss3 _ (decide_eq_false hz0))) ?_
      simp only [zp]
      refine sv (.bool false) 59 rfl rfl (ex_pkF rfl rfl rfl) ?_
      simp only [zp]
      refine sm (.bool false) 60 rfl rfl rfl rfl ?_
      simp only [zp]
      refine sm (.int .i64 h) 61 rfl rfl rfl rfl ?_
      simp only [zp]
      refine sv (.bool true) 62 rfl rfl (ex_bin (u := (.int .i64 h)) (r := (.int .i64 0)) rfl rfl rfl (eg3 _ _ _ _ _ _) (lss3 _ (decide_eq_true hz))) ?_
      simp only [zp]
      refine sv (.bool true) 63 rfl rfl (ex_pkF rfl rfl rfl) ?_
      simp only [zp]
      refine sm (.bool true) 64 rfl rfl rfl rfl ?_
      simp only [zp]
      refine sn 65 rfl rfl ?_
      simp only [zp]
      refine sn 66 rfl rfl ?_
      simp only [zp]
      refine sv (.bool true) 67 rfl rfl (ex_pkT rfl rfl rfl) ?_
      simp only [zp]
      refine st_end ?_
      subst hQ
      refine wp_cond_true rfl ?_
      refine wq fun Q hQ => ?_
      refine st_call (some 68) rfl rfl (lives_any W4) (ex_call (f := 8) (vs := []) rfl (cf8 _) rfl) ?_
      rintro e W5 ⟨rfl, B⟩
      refine ⟨_, rfl, ?_⟩
      simp only [zp]
      replace E := below_next E B
      replace HO := own_below HO B
      replace Rn := Rn.below B
      replace Rx := Rx.below B
      refine sg (.bool true) 8 rfl rfl rfl rfl ?_
      simp only [zp]
      refine st_end ?_
      subst hQ
      refine wp_ret ?_
      repeat (first | refine ret_out ?_ | refine ret_blk ?_)
      exact bodyPost_ret (results_tmp Try.results6 _ _ _) rfl ⟨rfl, E⟩
set_option maxHeartbeats 16000000 in
theorem ways_no3c {ao : Option Addr} {n c : Nat} {qs : Nat → RV} {x y h : Int} (w : World) (hR : n = 0 ∨ ∃ b off, ao = some ⟨b, off, none⟩ ∧ Rls w b off n qs) (hcap : n * 40 ≤ 140737488351232) (hqb : ∀ i, i < n → (qs i).b ≤ 9223372036854775807) (N X : Nat → Int) 
    (hA : ∀ (W : World) (fo : Option Addr) (fc : Nat), W.ownsRow w.heap.size 23 2 (.slice fo n fc) n (fL qs n) → Calls Try.prog 21 #[.slice fo n fc, .int .i64 x] W fun e w' => ∃ g, e = .returned (.tuple #[.slice (some ⟨g, 0, none⟩) (n + 1) (n + 1), .int .i64 0]) ∧ RowX w' W.heap.size g n N ∧ Below W.heap.size W w')
    (hB : ∀ W : World, Below w.heap.size w W → Calls Try.prog 19 #[.slice ao n c, .int .i64 y] W fun e w' => ∃ g, e = .returned (.tuple #[.slice (some ⟨g, 0, none⟩) (n + 1) (n + 1), .int .i64 0]) ∧ RowX w' W.heap.size g n X ∧ Below W.heap.size W w') (hz0 : ¬ x < 1) (hz1 : ¬ h < 0) (hz : 2147483647 < h) :
    Calls Try.prog 6 #[.slice ao n c, .int .i64 x, .int .i64 y, .int .i64 h] w fun e w' => e = .returned (.bool true) ∧ Below w.heap.size w w' := by
  have E : Below w.heap.size w w := Below.refl _ _
  go_enter Try.func6, Try.ntmps6
  refine wq fun Q hQ => ?_
  refine sg (.bool false) 8 rfl rfl rfl rfl ?_
  simp only [zp]
  refine st_end ?_
  subst hQ
  refine wq fun Q hQ => ?_
  refine sg (.slice none 0 0) 9 rfl rfl rfl rfl ?_
  simp only [zp]
  refine st_end ?_
  subst hQ
  refine wp_seq ?_
  refine wq fun Q hQ => ?_
  refine sg (.int .i64 0) 10 rfl rfl rfl rfl ?_
  simp only [zp]
  refine st_end ?_
  subst hQ
  refine wp_block ?_
  go_loopw [9, 10] (fun v9 v10 wr => ∃ (i : Nat) (fo : Option Addr) (fc : Nat), i ≤ n ∧ v10 = .int .i64 i ∧ v9 = .slice fo i fc ∧ Below w.heap.size w wr ∧ wr.ownsRow w.heap.size 23 2 (.slice fo i fc) i (fL qs i)) (fun _ v10 _ => n - (intOf v10).toNat)
  case atStart => exact ⟨0, none, 0, Nat.zero_le _, rfl, rfl, E, own_nil w qs⟩
  case round =>
    obtain ⟨i, fo, fc, hi, rfl, rfl, E, HO⟩ := hrel
    by_cases hlt : i < n
    · rcases hR with h | ⟨b, off, rfl, h⟩
      · omega
      refine wp_seq ?_
      refine wq fun Q hQ => ?_
      refine sm (.int .i64 (i : Nat)) 20 rfl rfl rfl rfl ?_
      simp only [zp]
      refine sm (.slice (some ⟨b, off, none⟩) n c) 21 rfl rfl rfl rfl ?_
      simp only [zp]
      refine sv (.int .i64 (n : Nat)) 22 rfl rfl (ex_len rfl rfl (len35 _ _ _ _ _)) ?_
      simp only [zp]
      refine sv (.bool true) 23 rfl rfl (ex_bin (u := (.int .i64 (i : Nat))) (r := (.int .i64 (n : Nat))) rfl rfl rfl (eg3 _ _ _ _ _ _) (lss3 _ (decide_eq_true (by omega)))) ?_
      simp only [zp]
      refine st_end ?_
      subst hQ
      refine wp_cond_true rfl ?_
      refine wp_skip ?_
      refine wp_seq ?_
      refine wp_block ?_
      refine wl_in (wl_cap fun Q hQ => ?_)
      refine sm (.slice fo i fc) 26 rfl rfl rfl rfl ?_
      simp only [zp]
      refine sm (.slice (some ⟨b, off, none⟩) n c) 27 rfl rfl rfl rfl ?_
      simp only [zp]
      refine sm (.int .i64 (i : Nat)) 28 rfl rfl rfl rfl ?_
      simp only [zp]
      refine sv (.pointer (some ⟨b, (off + i * 5), none⟩)) 29 rfl rfl (ex_ix35 rfl rfl rfl hlt) ?_
      simp only [zp]
      refine sv (.pointer (some ⟨b, (off + i * 5), none⟩)) 30 rfl rfl (ex_fa rfl rfl (faZ _ _ _)) ?_
      simp only [zp]
      refine sv (.agg (FL (qs i))) 31 rfl rfl (ex_load rfl rfl (ld_range (rng_fee (range_below (h i hlt) E)) Try.underlying23 rfl inf23)) ?_
      simp only [zp]
      refine st_new (fun b => .slice (some ⟨b, 0, none⟩) 1 1) (some 32) rfl rfl (ex_bsl1 (u := (.agg (FL (qs i)))) rfl rfl (bs41_1 _ _)) ?_
      intro b1 W1 k1 g1 B
      simp only [zp]
      have ge_b1 := Nat.le_trans E.size g1
      replace E := below_next E B
      replace HO := own_below HO B
      clear B
      obtain ⟨g', cp', W9, happ, HO', E'⟩ := app_fee HO k1 (by omega) E
      refine st_to (v := .slice (some ⟨g', 0, none⟩) (i + 1) cp') (some 33) rfl rfl (ex_app rfl rfl rfl happ) ?_
      simp only [zp]
      replace E := E'
      clear HO k1 happ E'
      refine sg (.slice (some ⟨g', 0, none⟩) (i + 1) cp') 9 rfl rfl rfl rfl ?_
      simp only [zp]
      refine st_end ?_
      subst hQ
      refine wl_in (wl_cap fun Q hQ => ?_)
      refine sm (.int .i64 (i : Nat)) 24 rfl rfl rfl rfl ?_
      simp only [zp]
      refine sv (.int .i64 ((i + 1 : Nat) : Int)) 25 rfl rfl (ex_bin rfl rfl rfl (eg3 _ _ _ _ _ _) (add3 _ (by omega) (by omega))) ?_
      simp only [zp]
      refine sg (.int .i64 ((i + 1 : Nat) : Int)) 10 rfl rfl rfl rfl ?_
      simp only [zp]
      refine st_end ?_
      subst hQ
      refine then_go ?_
      go_roundw
      case rel => exact ⟨i + 1, some ⟨g', 0, none⟩, cp', by omega, rfl, rfl, E, HO'⟩
      case measure => simp [intOf]; omega
    · have hin : i = n := by omega
      subst i
      refine wp_seq ?_
      refine wq fun Q hQ => ?_
      refine sm (.int .i64 (n : Nat)) 20 rfl rfl rfl rfl ?_
      simp only [zp]
      refine sm (.slice ao n c) 21 rfl rfl rfl rfl ?_
      simp only [zp]
      refine sv (.int .i64 (n : Nat)) 22 rfl rfl (ex_len rfl rfl (len35 _ _ _ _ _)) ?_
      simp only [zp]
      refine sv (.bool false) 23 rfl rfl (ex_bin (u := (.int .i64 (n : Nat))) (r := (.int .i64 (n : Nat))) rfl rfl rfl (eg3 _ _ _ _ _ _) (lss3 _ (decide_eq_false (by omega)))) ?_
      simp only [zp]
      refine st_end ?_
      subst hQ
      refine wp_cond_false rfl ?_
      refine wp_exit ?_
      refine ex_then ?_
      refine ex_then ?_
      refine ex_blk ?_
      refine wq fun Q hQ => ?_
      refine sm (.slice fo n fc) 35 rfl rfl rfl rfl ?_
      simp only [zp]
      refine sm (.int .i64 x) 36 rfl rfl rfl rfl ?_
      simp only [zp]
      refine st_call (some 37) rfl rfl (hA wr fo fc HO) (ex_call (f := 21) (vs := [(.slice fo n fc), (.int .i64 x)]) rfl (cf21 _) rfl) ?_
      rintro e W2 ⟨gn, rfl, Rn, B⟩
      refine ⟨_, rfl, ?_⟩
      simp only [zp]
      replace E := below_next E B
      replace HO := own_below HO B
      refine sm (.tuple #[(.slice (some ⟨gn, 0, none⟩) (n + 1) (n + 1)), (.int .i64 0)]) 34 rfl rfl rfl rfl ?_
      simp only [zp]
      refine sv (.slice (some ⟨gn, 0, none⟩) (n + 1) (n + 1)) 38 rfl rfl (ex_ext rfl rfl rfl) ?_
      simp only [zp]
      refine sv (.int .i64 0) 39 rfl rfl (ex_ext rfl rfl rfl) ?_
      simp only [zp]
      refine sg (.slice (some ⟨gn, 0, none⟩) (n + 1) (n + 1)) 11 rfl rfl rfl rfl ?_
      simp only [zp]
      refine sg (.int .i64 0) 12 rfl rfl rfl rfl ?_
      simp only [zp]
      refine st_end ?_
      subst hQ
      refine wq fun Q hQ => ?_
      refine sm (.slice ao n c) 41 rfl rfl rfl rfl ?_
      simp only [zp]
      refine sm (.int .i64 y) 42 rfl rfl rfl rfl ?_
      simp only [zp]
      refine st_call (some 43) rfl rfl (hB W2 E) (ex_call (f := 19) (vs := [(.slice ao n c), (.int .i64 y)]) rfl (cf19 _) rfl) ?_
      rintro e W3 ⟨gx, rfl, Rx, B⟩
      refine ⟨_, rfl, ?_⟩
      simp only [zp]
      replace E := below_next E B
      replace HO := own_below HO B
      replace Rn := Rn.below B
      refine sm (.tuple #[(.slice (some ⟨gx, 0, none⟩) (n + 1) (n + 1)), (.int .i64 0)]) 40 rfl rfl rfl rfl ?_
      simp only [zp]
      refine sv (.slice (some ⟨gx, 0, none⟩) (n + 1) (n + 1)) 44 rfl rfl (ex_ext rfl rfl rfl) ?_
      simp only [zp]
      refine sv (.int .i64 0) 45 rfl rfl (ex_ext rfl rfl rfl) ?_
      simp only [zp]
      refine sg (.slice (some ⟨gx, 0, none⟩) (n + 1) (n + 1)) 13 rfl rfl rfl rfl ?_
      simp only [zp]
      refine sg (.int .i64 0) 14 rfl rfl rfl rfl ?_
      simp only [zp]
      refine st_end ?_
      subst hQ
      refine wp_seq ?_
      refine wq fun Q hQ => ?_
      refine st_call (some 46) rfl rfl (lives_any W3) (ex_call (f := 8) (vs := []) rfl (cf8 _) rfl) ?_
      rintro e W4 ⟨rfl, B⟩
      refine ⟨_, rfl, ?_⟩
      simp only [zp]
      replace E := below_next E B
      replace HO := own_below HO B
      replace Rn := Rn.below B
      replace Rx := Rx.below B
      refine sv (.bool false) 47 rfl rfl (ex_not rfl rfl rfl) ?_
      simp only [zp]
      refine sm (.bool false) 48 rfl rfl rfl rfl ?_
      simp only [zp]
      refine sm (.int .i64 0) 49 rfl rfl rfl rfl ?_
      simp only [zp]
      refine sv (.bool false) 50 rfl rfl (ex_bin (u := (.int .i64 0)) (r := (.int .i64 0)) rfl rfl rfl (eg37 _ _ _ _ _ _) (neq37 _ (by decide))) ?_
      simp only [zp]
      refine sv (.bool false) 51 rfl rfl (ex_pkF rfl rfl rfl) ?_
      simp only [zp]
      refine sm (.bool false) 52 rfl rfl rfl rfl ?_
      simp only [zp]
      refine sm (.int .i64 0) 53 rfl rfl rfl rfl ?_
      simp only [zp]
      refine sv (.bool false) 54 rfl rfl (ex_bin (u := (.int .i64 0)) (r := (.int .i64 0)) rfl rfl rfl (eg37 _ _ _ _ _ _) (neq37 _ (by decide))) ?_
      simp only [zp]
      refine sv (.bool false) 55 rfl rfl (ex_pkF rfl rfl rfl) ?_
      simp only [zp]
      refine sm (.bool false) 56 rfl rfl rfl rfl ?_
      simp only [zp]
      refine sm (.int .i64 x) 57 rfl rfl rfl rfl ?_
      simp only [zp]
      refine sv (.bool false) 58 rfl rfl (ex_bin (u := (.int .i64 x)) (r := (.int .i64 1)) rfl rfl rfl (eg3 _ _ _ _ _ _) (lss3 _ (decide_eq_false hz0))) ?_
      simp only [zp]
      refine sv (.bool false) 59 rfl rfl (ex_pkF rfl rfl rfl) ?_
      simp only [zp]
      refine sm (.bool false) 60 rfl rfl rfl rfl ?_
      simp only [zp]
      refine sm (.int .i64 h) 61 rfl rfl rfl rfl ?_
      simp only [zp]
      refine sv (.bool false) 62 rfl rfl (ex_bin (u := (.int .i64 h)) (r := (.int .i64 0)) rfl rfl rfl (eg3 _ _ _ _ _ _) (lss3 _ (decide_eq_false hz1))) ?_
      simp only [zp]
      refine sv (.bool false) 63 rfl rfl (ex_pkF rfl rfl rfl) ?_
      simp only [zp]
      refine sm (.bool false) 64 rfl rfl rfl rfl ?_
      simp only [zp]
      refine sm (.int .i64 h) 65 rfl rfl rfl rfl ?_
      simp only [zp]
      refine sv (.bool true) 66 rfl rfl (ex_bin (u := (.int .i64 h)) (r := (.int .i64 2147483647)) rfl rfl rfl (eg3 _ _ _ _ _ _) (gtr3 _ (decide_eq_true hz))) ?_
      simp only [zp]
      refine sv (.bool true) 67 rfl rfl (ex_pkF rfl rfl rfl) ?_
      simp only [zp]
      refine st_end ?_
      subst hQ
      refine wp_cond_true rfl ?_
      refine wq fun Q hQ => ?_
      refine st_call (some 68) rfl rfl (lives_any W4) (ex_call (f := 8) (vs := []) rfl (cf8 _) rfl) ?_
      rintro e W5 ⟨rfl, B⟩
      refine ⟨_, rfl, ?_⟩
      simp only [zp]
      replace E := below_next E B
      replace HO := own_below HO B
      replace Rn := Rn.below B
      replace Rx := Rx.below B
      refine sg (.bool true) 8 rfl rfl rfl rfl ?_
      simp only [zp]
      refine st_end ?_
      subst hQ
      refine wp_ret ?_
      repeat (first | refine ret_out ?_ | refine ret_blk ?_)
      exact bodyPost_ret (results_tmp Try.results6 _ _ _) rfl ⟨rfl, E⟩
end Go.Proofs.Ytfbaidmnnkcaeaa
