/- The commitment of a holder. -/
import Derived.Test.YtkhpbjafdamhaaaDPlace
import Derived.Deep.Slices
namespace Go.Proofs.Ytkhpbjafdamhaaa
open Go.RowKit
set_option linter.unusedVariables false
set_option linter.unusedSimpArgs false
set_option maxRecDepth 100000

theorem ops_in {ops ops' : Array Oper} {a : Act} {w : World} {Q : Exit → Act → World → Prop} {md : Region.Mode} {fuel : Nat} {L : Array Bool} {S S' : World → Prop} (e : ops = ops') (f : S = S') (h : wpAnyH Try.prog md ops' Q S' fuel L a w) : wpAnyH Try.prog md ops Q S fuel L a w := by
  subst e f; exact h
theorem ops_out {ops ops' : Array Oper} {a : Act} {w : World} {Q : Exit → Act → World → Prop} {md : Region.Mode} {fuel : Nat} {L : Array Bool} {S S' : World → Prop} (e : ops = ops') (f : S = S') (h : wpAnyH Try.prog md ops Q S fuel L a w) : wpAnyH Try.prog md ops' Q S' fuel L a w := by
  subst e f; exact h
theorem IsT.rsz {C : Array Value} {t : TV} (h : IsT C t) : (C.extract 3 36).size = 33 := by simp [h.size]
theorem IsT.ldr {C : Array Value} {t : TV} (h : IsT C t) {W : World} {b : Nat} (k : W.heap[b]? = some (.cells C 26)) : (Instr.loadAt 24 (.pointer (some ⟨b, 3, none⟩))).run Try.prog W = .ok (.agg (C.extract 3 36)) W :=
  ld_part (o := 3) (n := 33) k (by rw [h.size]; decide) Try.underlying24 rfl inf24
theorem IsT.inSize {C : Array Value} {t : TV} (h : IsT C t) : (C.extract 3 36 ++ inRest).size = 130 := by rw [Array.size_append, h.rsz]; rfl
theorem IsS.of (x y d : Int) {pl : List Int} (h : pl.length = 32) : IsS (#[.int .i64 x, .int .i64 y, .int .i64 d] ++ (U8 pl).toArray) x y d (U8 pl).toArray := by
  refine ⟨by simp [U8, h], all_one (by kernel_rfl) (U8_one pl), by simp, by simp, by simp, ?_, U8_size pl h⟩
  apply Array.ext
  · simp [U8, h]
  · intro i h1 h2
    simp
theorem info46 : (Try.prog.info? 46).map (fun i => (i.zero, i.size, i.bytes)) = some (some (.agg #[.int .i64 0, .slice none 0 0]), 2, 32) := by kernel_rfl
theorem sto32 {W : World} {b i n c n2 c2 : Nat} {p q : Option Addr} (h : W.cell? ⟨b, i, none⟩ = some (.slice p n c)) (hf : W.frozen? ⟨b, i, none⟩ = false) : (Instr.storeAt 32 (.pointer (some ⟨b, i, none⟩)) (.slice q n2 c2)).run Try.prog W = .ok () (W.setCell ⟨b, i, none⟩ (.slice q n2 c2)) := by go_simp
/-- the paths of an Htlc's output -/
def htlP (x y d : Int) (v : Array Value) (q : HV) : Array Value :=
  if q.by_ = x then pth y 0 false 0 0 q.hash ++ pth x 0 false q.ex d Z32 ++ pth y 0 false 0 0 v else pth x 0 false 0 d q.hash ++ pth y 0 false q.ex 0 Z32 ++ pth y 0 false 0 0 v
theorem htlc_any {SD v H : Array Value} {x y d : Int} {q : HV} (hS : IsS SD x y d v) (hH : IsH H q) (w : World) :
    Calls Try.prog 31 #[.agg SD, .agg H] w fun e w' => ∃ g, e = .returned (.agg #[.int .i64 q.am, .slice (some ⟨g, 0, none⟩) 3 3]) ∧ w'.heap[g]? = some (.cells (htlP x y d v q) 66) ∧ w.heap.size ≤ g ∧ Below w.heap.size w w' := by
  unfold htlP
  by_cases e : q.by_ = x
  · rw [if_pos e]; exact htlc_mine hS hH e w
  · rw [if_neg e]; exact htlc_yours hS hH e w
/-- amounts, numbers of paths and paths of a commitment's outputs -/
def om (a b : Int) (hv : Nat → HV) : Nat → Int := fun i => if i = 0 then a else if i = 1 then b else (hv (i - 2)).am
def ol : Nat → Nat := fun i => if i = 0 then 2 else if i = 1 then 1 else 3
def opth (x y d : Int) (v : Array Value) (hv : Nat → HV) : Nat → Array Value := fun i => if i = 0 then pth x 0 false 0 d Z32 ++ pth y 0 false 0 0 v else if i = 1 then pth y 0 false 0 0 Z32 else htlP x y d v (hv (i - 2))
def flat (gs : Nat → Nat) (m : Nat → Int) (l : Nat → Nat) (n : Nat) : List Value := (List.range n).flatMap fun i => [.int .i64 (m i), .slice (some ⟨gs i, 0, none⟩) (l i) (l i)]
theorem flat_succ (gs : Nat → Nat) (m : Nat → Int) (l : Nat → Nat) (n : Nat) : flat gs m l (n + 1) = flat gs m l n ++ [.int .i64 (m n), .slice (some ⟨gs n, 0, none⟩) (l n) (l n)] := by simp [flat, List.range_succ]
theorem flat_congr {gs gs' : Nat → Nat} (m : Nat → Int) (l : Nat → Nat) (n : Nat) (h : ∀ i, i < n → gs i = gs' i) : flat gs m l n = flat gs' m l n := by
  unfold flat
  refine Go.Deep.flatMap_congr_range fun i hi => ?_; rw [h i hi]
/-- a commitment's outputs lie there -/
structure Outs (W : World) (base g n cap : Nat) (m : Nat → Int) (l : Nat → Nat) (P : Nat → Array Value) : Prop where
  row : ∃ gs : Nat → Nat, Rw W base 46 2 g n cap (flat gs m l n) ∧ ∀ j, j < n → W.heap[gs j]? = some (.cells (P j) 66)
def ownN (t : TV) (x y h : Int) : Int := if h = t.b then y else subN x t.fee
def othA (t : TV) (x y h : Int) : Int := if h = t.b then subN x t.fee else y

set_option maxHeartbeats 2000000 in
theorem commit_no0 {C : Array Value} {t : TV} {x y h : Int} {pl : List Int} {ao : Option Addr} {n c : Nat} {Cs : Nat → Array Value} {hv : Nat → HV} (w : World) (hT : IsT C t) (hb : TB t) (hpl : pl.length = 32) (hH : Hs w ao n Cs hv) (hn : n ≤ 140737488355328) (hx : x ≤ 9223372036854775807) (hy : y ≤ 9223372036854775807) (hz : ∀ i, i < n → (hv i).am ≤ 9223372036854775807) (c1 : fitsB t x y n hv = false) :
    Calls Try.prog 8 #[.agg C, .int .i64 h, .agg (U8 pl).toArray, .agg #[.int .i64 x, .int .i64 y, .slice ao n c]] w fun e w' => e = .returned (.tuple #[.agg #[.slice none 0 0, .slice none 0 0], .int .i64 1]) ∧ Below w.heap.size w w' := by
  have E : Below w.heap.size w w := Below.refl _ _
  go_enter Try.func8, Try.ntmps8; have hH0 := hH; refine wq fun Q hQ => ?_; refine st_new (fun b => .pointer (some ⟨b, 0, none⟩)) (some 4) rfl rfl (ex_box rfl rfl) ?_; intro b1 W1 k1 g1 B; simp only [zp]; have ge_b1 := Nat.le_trans E.size g1; replace E := below_next E B; replace hH := hH.below B; clear B; refine st_new (fun b => .pointer (some ⟨b, 0, none⟩)) (some 6) rfl rfl (ex_box rfl rfl) ?_; intro b2 W2 k2 g2 B; simp only [zp]
  have ne_b2_b1 : b2 ≠ b1 := fun e => by have := lt_of k1; omega
  have ge_b2 := Nat.le_trans E.size g2; replace E := below_next E B; replace hH := hH.below B; replace k1 := keep B k1; clear B; refine st_new (fun b => .pointer (some ⟨b, 0, none⟩)) (some 7) rfl rfl (ex_box rfl rfl) ?_; intro b3 W3 k3 g3 B; simp only [zp]
  have ne_b3_b1 : b3 ≠ b1 := fun e => by have := lt_of k1; omega
  have ne_b3_b2 : b3 ≠ b2 := fun e => by have := lt_of k2; omega
  have ge_b3 := Nat.le_trans E.size g3; replace E := below_next E B; replace hH := hH.below B; replace k1 := keep B k1; replace k2 := keep B k2; clear B; refine st_new (fun b => .pointer (some ⟨b, 0, none⟩)) (some 8) rfl rfl (ex_alloc rfl zero34) ?_; intro b4 W4 k4 g4 B; simp only [zp]
  have ne_b4_b1 : b4 ≠ b1 := fun e => by have := lt_of k1; omega
  have ne_b4_b2 : b4 ≠ b2 := fun e => by have := lt_of k2; omega
  have ne_b4_b3 : b4 ≠ b3 := fun e => by have := lt_of k3; omega
  have ge_b4 := Nat.le_trans E.size g4; replace E := below_next E B; replace hH := hH.below B; replace k1 := keep B k1; replace k2 := keep B k2; replace k3 := keep B k3; clear B; refine sg (.int .i64 0) 9 rfl rfl rfl rfl ?_; simp only [zp]; refine st_end ?_; subst hQ; refine wp_seq ?_; refine wq fun Q hQ => ?_; refine sv (.agg C) 16 rfl rfl (ex_load (p := (.pointer (some ⟨b1, 0, none⟩))) rfl rfl (ld_all k1 Try.underlying26 rfl (inf26.trans (congrArg some (hT.size).symm)))) ?_; simp only [zp]
  refine sv (.agg #[.int .i64 x, .int .i64 y, .slice ao n c]) 17 rfl rfl (ex_load (p := (.pointer (some ⟨b3, 0, none⟩))) rfl rfl (ld_all k3 Try.underlying29 rfl inf29)) ?_; simp only [zp]; refine st_call (some 18) rfl rfl (fits_any W4 hT hb hH hn hx hy hz c1) (ex_call (f := 14) (vs := [(.agg C), (.agg #[.int .i64 x, .int .i64 y, .slice ao n c])]) rfl (cf14 _) rfl) ?_; rintro e W5 ⟨rfl, B⟩; refine ⟨_, rfl, ?_⟩; simp only [zp]; replace E := below_next E B; replace hH := hH.below B; replace k1 := keep B k1; replace k2 := keep B k2; replace k3 := keep B k3; replace k4 := keep B k4
  refine sv (.bool true) 19 rfl rfl (ex_not rfl rfl rfl) ?_; simp only [zp]; refine sm (.bool true) 20 rfl rfl rfl rfl ?_; simp only [zp]; refine sn 21 rfl rfl ?_; simp only [zp]; refine sn 22 rfl rfl ?_; simp only [zp]; refine sn 23 rfl rfl ?_; simp only [zp]; refine sn 24 rfl rfl ?_; simp only [zp]; refine sv (.bool true) 25 rfl rfl (ex_pkT rfl rfl rfl) ?_; simp only [zp]; refine sm (.bool true) 26 rfl rfl rfl rfl ?_; simp only [zp]; refine sn 27 rfl rfl ?_; simp only [zp]; refine sn 28 rfl rfl ?_; simp only [zp]; refine sn 29 rfl rfl ?_; simp only [zp]
  refine sv (.bool true) 30 rfl rfl (ex_pkT rfl rfl rfl) ?_; simp only [zp]; refine st_end ?_; subst hQ; refine wp_cond_true rfl ?_; refine wq fun Q hQ => ?_; refine sv (.agg #[.slice none 0 0, .slice none 0 0]) 31 rfl rfl (ex_build0  rfl (b34 _)) ?_; simp only [zp]; obtain ⟨W6, hst, kn, K⟩ := put_all (D := #[.slice none 0 0, .slice none 0 0]) k4 rfl inf34 (by kernel_rfl); refine st_sk rfl rfl (ex_store rfl rfl rfl hst) ?_; replace E := below_put E ge_b4 K; replace hH := hH0.below E; replace k1 := keepK K k1 (fun e => ne_tag k1 k4 (by decide) e)
  replace k2 := keepK K k2 (fun e => ne_tag k2 k4 (by decide) e); replace k3 := keepK K k3 (fun e => ne_tag k3 k4 (by decide) e); replace k4 := kn; clear kn K hst; refine sg (.int .i64 1) 9 rfl rfl rfl rfl ?_; simp only [zp]; refine st_end ?_; subst hQ; refine wp_ret ?_; refine ret_out ?_; refine bodyPost_ret (ret_ct Try.results8 _ _ b4 _ _ _ _ rfl rfl k4 Try.underlying34 rfl inf34) rfl ⟨rfl, E⟩

set_option maxHeartbeats 2000000 in
theorem commit_no1 {C : Array Value} {t : TV} {x y h : Int} {pl : List Int} {ao : Option Addr} {n c : Nat} {Cs : Nat → Array Value} {hv : Nat → HV} (w : World) (hT : IsT C t) (hb : TB t) (hpl : pl.length = 32) (hH : Hs w ao n Cs hv) (hn : n ≤ 140737488355328) (hx : x ≤ 9223372036854775807) (hy : y ≤ 9223372036854775807) (hz : ∀ i, i < n → (hv i).am ≤ 9223372036854775807) (c1 : fitsB t x y n hv = true) (c2 : ¬ (h = t.a ∨ h = t.b)) :
    Calls Try.prog 8 #[.agg C, .int .i64 h, .agg (U8 pl).toArray, .agg #[.int .i64 x, .int .i64 y, .slice ao n c]] w fun e w' => e = .returned (.tuple #[.agg #[.slice none 0 0, .slice none 0 0], .int .i64 1]) ∧ Below w.heap.size w w' := by
  have E : Below w.heap.size w w := Below.refl _ _
  go_enter Try.func8, Try.ntmps8; have hH0 := hH; refine wq fun Q hQ => ?_; refine st_new (fun b => .pointer (some ⟨b, 0, none⟩)) (some 4) rfl rfl (ex_box rfl rfl) ?_; intro b1 W1 k1 g1 B; simp only [zp]; have ge_b1 := Nat.le_trans E.size g1; replace E := below_next E B; replace hH := hH.below B; clear B; refine st_new (fun b => .pointer (some ⟨b, 0, none⟩)) (some 6) rfl rfl (ex_box rfl rfl) ?_; intro b2 W2 k2 g2 B; simp only [zp]
  have ne_b2_b1 : b2 ≠ b1 := fun e => by have := lt_of k1; omega
  have ge_b2 := Nat.le_trans E.size g2; replace E := below_next E B; replace hH := hH.below B; replace k1 := keep B k1; clear B; refine st_new (fun b => .pointer (some ⟨b, 0, none⟩)) (some 7) rfl rfl (ex_box rfl rfl) ?_; intro b3 W3 k3 g3 B; simp only [zp]
  have ne_b3_b1 : b3 ≠ b1 := fun e => by have := lt_of k1; omega
  have ne_b3_b2 : b3 ≠ b2 := fun e => by have := lt_of k2; omega
  have ge_b3 := Nat.le_trans E.size g3; replace E := below_next E B; replace hH := hH.below B; replace k1 := keep B k1; replace k2 := keep B k2; clear B; refine st_new (fun b => .pointer (some ⟨b, 0, none⟩)) (some 8) rfl rfl (ex_alloc rfl zero34) ?_; intro b4 W4 k4 g4 B; simp only [zp]
  have ne_b4_b1 : b4 ≠ b1 := fun e => by have := lt_of k1; omega
  have ne_b4_b2 : b4 ≠ b2 := fun e => by have := lt_of k2; omega
  have ne_b4_b3 : b4 ≠ b3 := fun e => by have := lt_of k3; omega
  have ge_b4 := Nat.le_trans E.size g4; replace E := below_next E B; replace hH := hH.below B; replace k1 := keep B k1; replace k2 := keep B k2; replace k3 := keep B k3; clear B; refine sg (.int .i64 0) 9 rfl rfl rfl rfl ?_; simp only [zp]; refine st_end ?_; subst hQ; refine wp_seq ?_; refine wq fun Q hQ => ?_; refine sv (.agg C) 16 rfl rfl (ex_load (p := (.pointer (some ⟨b1, 0, none⟩))) rfl rfl (ld_all k1 Try.underlying26 rfl (inf26.trans (congrArg some (hT.size).symm)))) ?_; simp only [zp]
  refine sv (.agg #[.int .i64 x, .int .i64 y, .slice ao n c]) 17 rfl rfl (ex_load (p := (.pointer (some ⟨b3, 0, none⟩))) rfl rfl (ld_all k3 Try.underlying29 rfl inf29)) ?_; simp only [zp]; refine st_call (some 18) rfl rfl (fits_any W4 hT hb hH hn hx hy hz c1) (ex_call (f := 14) (vs := [(.agg C), (.agg #[.int .i64 x, .int .i64 y, .slice ao n c])]) rfl (cf14 _) rfl) ?_; rintro e W5 ⟨rfl, B⟩; refine ⟨_, rfl, ?_⟩; simp only [zp]; replace E := below_next E B; replace hH := hH.below B; replace k1 := keep B k1; replace k2 := keep B k2; replace k3 := keep B k3; replace k4 := keep B k4
  refine sv (.bool false) 19 rfl rfl (ex_not rfl rfl rfl) ?_; simp only [zp]; refine sm (.bool false) 20 rfl rfl rfl rfl ?_; simp only [zp]; refine sv (.agg C) 21 rfl rfl (ex_load (p := (.pointer (some ⟨b1, 0, none⟩))) rfl rfl (ld_all k1 Try.underlying26 rfl (inf26.trans (congrArg some (hT.size).symm)))) ?_; simp only [zp]; refine sm (.int .i64 h) 22 rfl rfl rfl rfl ?_; simp only [zp]; refine st_call (some 23) rfl rfl (isOf_any h W5 hT (decide_eq_false c2)) (ex_call (f := 27) (vs := [(.agg C), (.int .i64 h)]) rfl (cf27 _) rfl) ?_; rintro e W6 ⟨rfl, B⟩; refine ⟨_, rfl, ?_⟩; simp only [zp]
  replace E := below_next E B; replace hH := hH.below B; replace k1 := keep B k1; replace k2 := keep B k2; replace k3 := keep B k3; replace k4 := keep B k4; refine sv (.bool true) 24 rfl rfl (ex_not rfl rfl rfl) ?_; simp only [zp]; refine sv (.bool true) 25 rfl rfl (ex_pkF rfl rfl rfl) ?_; simp only [zp]; refine sm (.bool true) 26 rfl rfl rfl rfl ?_; simp only [zp]; refine sn 27 rfl rfl ?_; simp only [zp]; refine sn 28 rfl rfl ?_; simp only [zp]; refine sn 29 rfl rfl ?_; simp only [zp]; refine sv (.bool true) 30 rfl rfl (ex_pkT rfl rfl rfl) ?_; simp only [zp]; refine st_end ?_; subst hQ
  refine wp_cond_true rfl ?_; refine wq fun Q hQ => ?_; refine sv (.agg #[.slice none 0 0, .slice none 0 0]) 31 rfl rfl (ex_build0  rfl (b34 _)) ?_; simp only [zp]; obtain ⟨W7, hst, kn, K⟩ := put_all (D := #[.slice none 0 0, .slice none 0 0]) k4 rfl inf34 (by kernel_rfl); refine st_sk rfl rfl (ex_store rfl rfl rfl hst) ?_; replace E := below_put E ge_b4 K; replace hH := hH0.below E; replace k1 := keepK K k1 (fun e => ne_tag k1 k4 (by decide) e); replace k2 := keepK K k2 (fun e => ne_tag k2 k4 (by decide) e); replace k3 := keepK K k3 (fun e => ne_tag k3 k4 (by decide) e); replace k4 := kn
  clear kn K hst; refine sg (.int .i64 1) 9 rfl rfl rfl rfl ?_; simp only [zp]; refine st_end ?_; subst hQ; refine wp_ret ?_; refine ret_out ?_; refine bodyPost_ret (ret_ct Try.results8 _ _ b4 _ _ _ _ rfl rfl k4 Try.underlying34 rfl inf34) rfl ⟨rfl, E⟩

set_option maxHeartbeats 2000000 in
theorem commit_no2 {C : Array Value} {t : TV} {x y h : Int} {pl : List Int} {ao : Option Addr} {n c : Nat} {Cs : Nat → Array Value} {hv : Nat → HV} (w : World) (hT : IsT C t) (hb : TB t) (hpl : pl.length = 32) (hH : Hs w ao n Cs hv) (hn : n ≤ 140737488355328) (hx : x ≤ 9223372036854775807) (hy : y ≤ 9223372036854775807) (hz : ∀ i, i < n → (hv i).am ≤ 9223372036854775807) (c1 : fitsB t x y n hv = true) (c2 : h = t.a ∨ h = t.b) (c3 : pl = ZL) :
    Calls Try.prog 8 #[.agg C, .int .i64 h, .agg (U8 pl).toArray, .agg #[.int .i64 x, .int .i64 y, .slice ao n c]] w fun e w' => e = .returned (.tuple #[.agg #[.slice none 0 0, .slice none 0 0], .int .i64 1]) ∧ Below w.heap.size w w' := by
  have E : Below w.heap.size w w := Below.refl _ _
  go_enter Try.func8, Try.ntmps8; have hH0 := hH; refine wq fun Q hQ => ?_; refine st_new (fun b => .pointer (some ⟨b, 0, none⟩)) (some 4) rfl rfl (ex_box rfl rfl) ?_; intro b1 W1 k1 g1 B; simp only [zp]; have ge_b1 := Nat.le_trans E.size g1; replace E := below_next E B; replace hH := hH.below B; clear B; refine st_new (fun b => .pointer (some ⟨b, 0, none⟩)) (some 6) rfl rfl (ex_box rfl rfl) ?_; intro b2 W2 k2 g2 B; simp only [zp]
  have ne_b2_b1 : b2 ≠ b1 := fun e => by have := lt_of k1; omega
  have ge_b2 := Nat.le_trans E.size g2; replace E := below_next E B; replace hH := hH.below B; replace k1 := keep B k1; clear B; refine st_new (fun b => .pointer (some ⟨b, 0, none⟩)) (some 7) rfl rfl (ex_box rfl rfl) ?_; intro b3 W3 k3 g3 B; simp only [zp]
  have ne_b3_b1 : b3 ≠ b1 := fun e => by have := lt_of k1; omega
  have ne_b3_b2 : b3 ≠ b2 := fun e => by have := lt_of k2; omega
  have ge_b3 := Nat.le_trans E.size g3; replace E := below_next E B; replace hH := hH.below B; replace k1 := keep B k1; replace k2 := keep B k2; clear B; refine st_new (fun b => .pointer (some ⟨b, 0, none⟩)) (some 8) rfl rfl (ex_alloc rfl zero34) ?_; intro b4 W4 k4 g4 B; simp only [zp]
  have ne_b4_b1 : b4 ≠ b1 := fun e => by have := lt_of k1; omega
  have ne_b4_b2 : b4 ≠ b2 := fun e => by have := lt_of k2; omega
  have ne_b4_b3 : b4 ≠ b3 := fun e => by have := lt_of k3; omega
  have ge_b4 := Nat.le_trans E.size g4; replace E := below_next E B; replace hH := hH.below B; replace k1 := keep B k1; replace k2 := keep B k2; replace k3 := keep B k3; clear B; refine sg (.int .i64 0) 9 rfl rfl rfl rfl ?_; simp only [zp]; refine st_end ?_; subst hQ; refine wp_seq ?_; refine wq fun Q hQ => ?_; refine sv (.agg C) 16 rfl rfl (ex_load (p := (.pointer (some ⟨b1, 0, none⟩))) rfl rfl (ld_all k1 Try.underlying26 rfl (inf26.trans (congrArg some (hT.size).symm)))) ?_; simp only [zp]
  refine sv (.agg #[.int .i64 x, .int .i64 y, .slice ao n c]) 17 rfl rfl (ex_load (p := (.pointer (some ⟨b3, 0, none⟩))) rfl rfl (ld_all k3 Try.underlying29 rfl inf29)) ?_; simp only [zp]; refine st_call (some 18) rfl rfl (fits_any W4 hT hb hH hn hx hy hz c1) (ex_call (f := 14) (vs := [(.agg C), (.agg #[.int .i64 x, .int .i64 y, .slice ao n c])]) rfl (cf14 _) rfl) ?_; rintro e W5 ⟨rfl, B⟩; refine ⟨_, rfl, ?_⟩; simp only [zp]; replace E := below_next E B; replace hH := hH.below B; replace k1 := keep B k1; replace k2 := keep B k2; replace k3 := keep B k3; replace k4 := keep B k4
  refine sv (.bool false) 19 rfl rfl (ex_not rfl rfl rfl) ?_; simp only [zp]; refine sm (.bool false) 20 rfl rfl rfl rfl ?_; simp only [zp]; refine sv (.agg C) 21 rfl rfl (ex_load (p := (.pointer (some ⟨b1, 0, none⟩))) rfl rfl (ld_all k1 Try.underlying26 rfl (inf26.trans (congrArg some (hT.size).symm)))) ?_; simp only [zp]; refine sm (.int .i64 h) 22 rfl rfl rfl rfl ?_; simp only [zp]; refine st_call (some 23) rfl rfl (isOf_any h W5 hT (decide_eq_true c2)) (ex_call (f := 27) (vs := [(.agg C), (.int .i64 h)]) rfl (cf27 _) rfl) ?_; rintro e W6 ⟨rfl, B⟩; refine ⟨_, rfl, ?_⟩; simp only [zp]
  replace E := below_next E B; replace hH := hH.below B; replace k1 := keep B k1; replace k2 := keep B k2; replace k3 := keep B k3; replace k4 := keep B k4; refine sv (.bool false) 24 rfl rfl (ex_not rfl rfl rfl) ?_; simp only [zp]; refine sv (.bool false) 25 rfl rfl (ex_pkF rfl rfl rfl) ?_; simp only [zp]; refine sm (.bool false) 26 rfl rfl rfl rfl ?_; simp only [zp]; refine sv (.agg (U8 pl).toArray) 27 rfl rfl (ex_load (p := (.pointer (some ⟨b2, 0, none⟩))) rfl rfl (ld_all k2 Try.underlying22 rfl (inf22.trans (congrArg some ((U8_size _ hpl)).symm)))) ?_; simp only [zp]
  refine sv (.agg Z32) 28 rfl rfl (ex_build0  rfl (b22 _)) ?_; simp only [zp]; refine sv (.bool true) 29 rfl rfl (ex_bin rfl rfl rfl (eg22 _ _ _ _ _) (eqZ _ hpl (decide_eq_true c3))) ?_; simp only [zp]; refine sv (.bool true) 30 rfl rfl (ex_pkF rfl rfl rfl) ?_; simp only [zp]; refine st_end ?_; subst hQ; refine wp_cond_true rfl ?_; refine wq fun Q hQ => ?_; refine sv (.agg #[.slice none 0 0, .slice none 0 0]) 31 rfl rfl (ex_build0  rfl (b34 _)) ?_; simp only [zp]; obtain ⟨W7, hst, kn, K⟩ := put_all (D := #[.slice none 0 0, .slice none 0 0]) k4 rfl inf34 (by kernel_rfl)
  refine st_sk rfl rfl (ex_store rfl rfl rfl hst) ?_; replace E := below_put E ge_b4 K; replace hH := hH0.below E; replace k1 := keepK K k1 (fun e => ne_tag k1 k4 (by decide) e); replace k2 := keepK K k2 (fun e => ne_tag k2 k4 (by decide) e); replace k3 := keepK K k3 (fun e => ne_tag k3 k4 (by decide) e); replace k4 := kn; clear kn K hst; refine sg (.int .i64 1) 9 rfl rfl rfl rfl ?_; simp only [zp]; refine st_end ?_; subst hQ; refine wp_ret ?_; refine ret_out ?_; refine bodyPost_ret (ret_ct Try.results8 _ _ b4 _ _ _ _ rfl rfl k4 Try.underlying34 rfl inf34) rfl ⟨rfl, E⟩

theorem commit_no {C : Array Value} {t : TV} {x y h : Int} {pl : List Int} {ao : Option Addr} {n c : Nat} {Cs : Nat → Array Value} {hv : Nat → HV} (w : World) (hT : IsT C t) (hb : TB t) (hpl : pl.length = 32) (hH : Hs w ao n Cs hv) (hn : n ≤ 140737488355328) (hx : x ≤ 9223372036854775807) (hy : y ≤ 9223372036854775807) (hz : ∀ i, i < n → (hv i).am ≤ 9223372036854775807) (hno : ¬ (fitsB t x y n hv = true ∧ (h = t.a ∨ h = t.b) ∧ pl ≠ ZL)) :
    Calls Try.prog 8 #[.agg C, .int .i64 h, .agg (U8 pl).toArray, .agg #[.int .i64 x, .int .i64 y, .slice ao n c]] w fun e w' => e = .returned (.tuple #[.agg #[.slice none 0 0, .slice none 0 0], .int .i64 1]) ∧ Below w.heap.size w w' := by
  cases c1 : fitsB t x y n hv with
  | false => exact commit_no0 w hT hb hpl hH hn hx hy hz c1
  | true =>
    by_cases c2 : h = t.a ∨ h = t.b
    · by_cases c3 : pl = ZL
      · exact commit_no2 w hT hb hpl hH hn hx hy hz c1 c2 c3
      · exact absurd ⟨c1, c2, c3⟩ hno
    · exact commit_no1 w hT hb hpl hH hn hx hy hz c1 c2
theorem fits_parts {t : TV} {x y : Int} {n : Nat} {hv : Nat → HV} (h : fitsB t x y n hv = true) : mayT t = true ∧ n ≤ 32 ∧ mayHs t n hv = true ∧ sumsB t x y n hv = true := by
  unfold fitsB at h
  simp only [Bool.and_eq_true, decide_eq_true_eq] at h; exact ⟨h.1.1.1, h.1.1.2, h.1.2, h.2⟩
theorem sums_nn {t : TV} {x y : Int} {n : Nat} {hv : Nat → HV} (h : sumsB t x y n hv = true) : ∀ i, i < n + 2 → 0 ≤ zf x y hv i := by
  have h1 := (of_decide_eq_true h).1
  unfold sumE at h1
  split at h1
  · rename_i hn
    exact of_decide_eq_true hn
  · cases h1

end Go.Proofs.Ytkhpbjafdamhaaa
