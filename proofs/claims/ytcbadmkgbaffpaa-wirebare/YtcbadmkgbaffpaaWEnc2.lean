/- The contract of wire's Encode over this seat's translation. -/
import Derived.Test.YtcbadmkgbaffpaaWEnc
namespace Go.Proofs.Ytcbadmkgbaffpaa
open Go.RowKit
set_option linter.unusedVariables false

/-- the bytes of a message -/
def encB (K : Int) (F : Nat → Fld) : List Int := [0, K] ++ recsB (recs K F)
theorem recs_len (K : Int) (F : Nat → Fld) : (recs K F).length = (fl K).length := by simp [recs]
theorem recs_at {K : Int} {F : Nat → Fld} {k i : Nat} (h : (fl K)[k]? = some i) : (recs K F)[k]? = some (2 * (i : Int) + 1, bytesF (F i)) := by simp [recs, h]
theorem recs_take {K : Int} {F : Nat → Fld} {k i : Nat} (h : (fl K)[k]? = some i) : (recs K F).take (k + 1) = (recs K F).take k ++ [(2 * (i : Int) + 1, bytesF (F i))] := by
  rw [List.take_add_one, recs_at h]; rfl

/-- records that were put together, one more behind -/
theorem src_push {w2 wr w4 w5 : World} {l v' : Value} {q : List Rq} {X : Int} {va : Option Addr} {vc k : Nat} {L : List Int} {o : Obj} (hO : wr.ownsRow w2.heap.size 39 2 l q.length (rqCells q)) (hq : ∀ r ∈ q, SrcI wr w2.heap.size r.2.1 r.2.2.1 r.2.2.2) (hB : Below w2.heap.size w2 wr) (hB4 : Below wr.heap.size wr w4)
    (hV : SrcI w4 w2.heap.size va vc L) (hk : L.length = k) (ho : w5.ownsRow w2.heap.size 39 2 v' (q.length + 1) (rqCells q ++ [.int .u64 X, .slice va k vc])) (hg : (w4.alloc o).grownBy w5 l.ownBlock) :
    w5.ownsRow w2.heap.size 39 2 v' (q ++ [(X, va, vc, L)]).length (rqCells (q ++ [(X, va, vc, L)])) ∧ (∀ r ∈ q ++ [(X, va, vc, L)], SrcI w5 w2.heap.size r.2.1 r.2.2.1 r.2.2.2) ∧ Below w2.heap.size w2 w5 := by
  have z := hB.size
  have z4 := hB4.size
  have hO4 := owns_below (owns_below hO hB4) (below_alloc w4 o)
  refine ⟨by rw [rqCells_append, List.length_append]; show w5.ownsRow _ _ _ _ _ (_ ++ [_, .slice va L.length vc]); rw [hk]; exact ho, fun r hr => ?_, ?_⟩
  · rcases List.mem_append.1 hr with hr | hr
    · exact (((hq r hr).below hB4).below (below_alloc w4 o)).grown hO4 (by decide) hg
    · rw [List.mem_singleton.1 hr]
      exact (hV.below (below_alloc w4 o)).grown hO4 (by decide) hg
  · exact ((hB.trans (hB4.mono z)).alloc (by omega) o).grown hg (by simp; omega) (fun i hi => (hO.lt i hi).1)

theorem may_num {K : Int} {F : Nat → Fld} (hm : mayB K F = true) {i : Nat} (hi12 : i < 12) : ∀ n, F i = .num n → 0 ≤ n ∧ n ≤ 9223372036854775807 := fun n hn => by
  unfold mayB at hm
  have h := allB_true.1 (Bool.and_eq_true_iff.1 hm).2 i hi12
  unfold okB at h
  rw [hn] at h
  split at h
  · have h2 := of_decide_eq_true h
    have key : ∀ k, k < 12 → 0 ≤ lo k ∧ hi k ≤ 9223372036854775807 := by decide
    have := key i hi12
    omega
  · have h2 : n = 0 := by simpa [zeroB] using h
    omega

set_option maxHeartbeats 1000000 in
theorem encode_no (K : Int) (F : Nat → Fld) (hF : Fits F) (w : World) (hG : Good w F) (hm : mayB K F = false) :
    Calls Try.prog 9 #[.agg (mc K F).toArray] w fun e w' => e = .returned (.tuple #[.slice none 0 0, .int .i64 1]) ∧ Hid (Below w.heap.size w w') := by
  have HM := hide (MsgAt.new w K hF)
  have HR := hide HM.out.range
  have HL := hide (show (Try.prog.info? 25).map (·.size) = some (mc K F).length by rw [mc_len K hF]; exact Try.info25)
  have HMY := hide (fun W => may_any K F hF hG.small W)
  rw [hm] at HMY
  clear hm hG HM
  generalize mc K F = C at *
  go_enter Try.func9, Try.ntmps9
  go_wp2_with (first | refine wpList_load_mid rfl 25 (.tmp 1) rfl w.heap.size 0 rfl C _ HR.out Try.underlying25 rfl HL.out ?_ | fail)
  refine (HMY.out _).mono ?_
  rintro e w1 ⟨rfl, hb⟩
  have HB1 := hide (((Below.refl w.heap.size w).alloc (Nat.le_refl _) (.cells C.toArray 25)).trans (hb.out.mono (by simp)))
  clear hb
  go_wp2
  go_ret2
  exact ⟨rfl, HB1⟩

theorem recsB_len (m : Nat) : ∀ (A : List (Int × List Int)), (∀ r ∈ A, r.2.length ≤ m) → (recsB A).length ≤ A.length * (18 + m)
  | [], _ => by simp [recsB]
  | r :: t, h => by
    have h1 := recsB_len m t (fun x hx => h x (List.mem_cons_of_mem _ hx))
    have h2 := h r (List.mem_cons_self ..)
    have h3 := numB_le r.1
    have h4 := numB_le (r.2.length : Int)
    show (numB r.1 ++ (numB r.2.length ++ (r.2 ++ recsB t))).length ≤ (t.length + 1) * (18 + m)
    simp only [List.length_append]
    rw [Nat.add_mul, Nat.one_mul]
    omega
theorem may_ok {K : Int} {F : Nat → Fld} (hm : mayB K F = true) : fl K ≠ [] ∧ ∀ i, i < 12 → okB K F i = true := by
  unfold mayB at hm
  have := Bool.and_eq_true_iff.1 hm
  exact ⟨of_decide_eq_true this.1, allB_true.1 this.2⟩
/-- of a message that may be each field's bytes are few -/
theorem may_bytes {w : World} {K : Int} {F : Nat → Fld} (hF : Fits F) (hG : Good w F) (hm : mayB K F = true) {i : Nat} (hi12 : i < 12) : (bytesF (F i)).length ≤ 2112 ∧ Bytes (bytesF (F i)) := by
  have hok := (may_ok hm).2 i hi12
  have hg := hG i hi12
  rcases hf : F i with n | l | ⟨a, c, l⟩
  · have h := may_num hm hi12 n hf
    refine ⟨?_, digs_bytes _⟩
    have := digs_len 8 n.toNat (by omega)
    show (digs n.toNat).length ≤ 2112
    omega
  · rw [hf] at hg
    have := (hF i hi12).2 l hf
    exact ⟨by show l.length ≤ 2112; omega, hg⟩
  · rw [hf] at hg
    refine ⟨?_, hg.2.2⟩
    show l.length ≤ 2112
    unfold okB at hok
    rw [hf] at hok
    have key : ∀ k, k < 12 → hi k ≤ 2112 ∨ form k = 0 := by decide
    have hform := (hF i hi12).1
    rw [hf] at hform
    have hk := key i hi12
    split at hok
    · have h2 := of_decide_eq_true hok
      rcases hk with hk | hk
      · omega
      · rw [← hform] at hk; cases hk
    · have h2 : (l.length : Int) = 0 := by simpa [zeroB] using hok
      omega
theorem recs_mem {K : Int} {F : Nat → Fld} {r : Int × List Int} (h : r ∈ recs K F) : ∃ i : Nat, i ∈ fl K ∧ i < 12 ∧ r = (2 * (i : Int) + 1, bytesF (F i)) := by
  unfold recs at h
  obtain ⟨i, hi, rfl⟩ := List.mem_map.1 h
  exact ⟨i, hi, fl_lt K i hi, rfl⟩
theorem recs_all {w : World} {K : Int} {F : Nat → Fld} (hF : Fits F) (hG : Good w F) (hm : mayB K F = true) : (∀ r ∈ recs K F, 0 ≤ r.1 ∧ r.1 ≤ 18446744073709551615 ∧ r.2.length ≤ 140737488351232 ∧ Bytes r.2) ∧ (recsB (recs K F)).length ≤ 12780 := by
  refine ⟨fun r hr => ?_, ?_⟩
  · obtain ⟨i, _, hi, rfl⟩ := recs_mem hr
    obtain ⟨h1, h2⟩ := may_bytes hF hG hm hi
    exact ⟨by show (0 : Int) ≤ 2 * (i : Int) + 1; omega, by show 2 * (i : Int) + 1 ≤ _; omega, by show (bytesF (F i)).length ≤ _; omega, h2⟩
  · have h := recsB_len 2112 (recs K F) (fun r hr => by obtain ⟨i, _, hi, rfl⟩ := recs_mem hr; exact (may_bytes hF hG hm hi).1)
    have h2 := fl_len K
    rw [recs_len] at h
    have : (fl K).length * (18 + 2112) ≤ 6 * (18 + 2112) := Nat.mul_le_mul_right _ h2
    omega
theorem ris_of : ∀ (A : List (Int × List Int)) (l : Int), (∀ r, A[0]? = some r → l < r.1) → (∀ k x y, A[k]? = some x → A[k + 1]? = some y → x.1 < y.1) → Ris l A
  | [], l, _, _ => trivial
  | r :: t, l, h0, h => ⟨h0 r rfl, ris_of t r.1 (fun y hy => h 0 r y rfl (by simpa using hy)) (fun k x y hx hy => h (k + 1) x y (by simpa using hx) (by simpa using hy))⟩
theorem recs_ris (K : Int) (F : Nat → Fld) : Ris (-1) (recs K F) := by
  refine ris_of _ _ (fun r hr => ?_) (fun k x y hx hy => ?_)
  · obtain ⟨i, _, _, rfl⟩ := recs_mem (List.mem_of_getElem? hr)
    show (-1 : Int) < 2 * (i : Int) + 1
    omega
  · unfold recs at hx hy
    rw [List.getElem?_map] at hx hy
    obtain ⟨i, hi, rfl⟩ := Option.map_eq_some_iff.1 hx
    obtain ⟨j, hj, rfl⟩ := Option.map_eq_some_iff.1 hy
    have := fl_rises K k (k + 1) i j hi hj (by omega)
    show 2 * (i : Int) + 1 < 2 * (j : Int) + 1
    omega

/-- Encode of the records of a message -/
theorem enc_fit {W : World} {B : Nat} {v : Value} {q : List Rq} {A : List (Int × List Int)} (h : W.ownsRow B 39 2 v q.length (rqCells q)) (hI : ∀ r ∈ q, IsB W r.2.1 r.2.2.1 r.2.2.2) (hp : plain q = A) (h0 : A ≠ []) (hl : A.length ≤ 64) (hr : Ris (-1) A)
    (ha : ∀ r ∈ A, 0 ≤ r.1 ∧ r.1 ≤ 18446744073709551615 ∧ r.2.length ≤ 140737488351232 ∧ Bytes r.2) (hs : (recsB A).length ≤ 65536) :
    Calls Try.prog 19 #[v] W fun e w' => ∃ ao cp, e = .returned (.tuple #[.slice ao (recsB A).length cp, .int .i64 0]) ∧ Hid (IsB w' ao cp (recsB A)) ∧ Hid (Below W.heap.size W w') := by
  subst hp
  have hq0 : 0 < q.length := by rw [← plain_length]; exact List.length_pos_iff.2 h0
  rw [plain_length] at hl
  obtain ⟨g, c, rfl, R⟩ := row_open h hI hq0
  have hm : ∀ k, k < q.length → ((rqAt q k).1, (rqAt q k).2.2.2) ∈ plain q := fun k hk => List.mem_of_getElem? (plain_at q k hk)
  have key := enc_ok g 0 q.length c _ _ _ _ W R hl (fun k hk => (ha _ (hm k hk)).2.2.1) (fun k hk => ⟨(ha _ (hm k hk)).1, (ha _ (hm k hk)).2.1⟩) (ris_plain q _ hr) (by rw [encL_all]; exact hs)
  rw [encL_all] at key
  refine key.mono fun e w' hh => ?_
  obtain ⟨g', rfl, ho, hb⟩ := hh
  obtain ⟨ao, cap, he, hI, _⟩ := own_isB ho.out
  cases he
  exact ⟨_, _, rfl, hI, hb⟩
end Go.Proofs.Ytcbadmkgbaffpaa
