/-
  ExF, ExG, ExH.
-/
import Derived.Test.YtonpeagedggakaaGreatExRA
import Derived.Test.YtonpeagedggakaaGreatOpenR
namespace Go.Proofs.YtonpeagedggakaaGreat
section
open Go.RowKit

noncomputable def shB (q : Rat) : Bool := decide (0 ≤ q ∧ q ≤ 1)
set_option maxHeartbeats 8000000 in
set_option maxRecDepth 100000 in
theorem rshare_q {w : World} {Bd : Nat} {x : Rc} {q : Rat} (h : Rq w Bd 1048576 x q) (hB : Bd ≤ w.heap.size) :
    Calls Tryz.prog 52 #[.agg #[.bool x.s, .slice x.A x.n x.c, .slice x.B x.m x.d]] w (RetB w (.bool (shB q))) := by
  obtain ⟨W, hW⟩ : ∃ W, W = (w.alloc (.cells #[.bool x.s, .slice x.A x.n x.c, .slice x.B x.m x.d] 28)) := ⟨_, rfl⟩
  have b_p : Box3 W (w.heap.size) (.bool x.s) (.slice x.A x.n x.c) (.slice x.B x.m x.d) := by rw [hW]; exact (Box3.new w _ _ _ rfl)
  have hwW : Below w.heap.size w W := by rw [hW]; exact ((Below.refl _ _).alloc (Nat.le_refl _) _)
  have U0 : Below W.heap.size W W := Below.refl _ _
  have c_p0 := b_p.at0 b_p.lt_size (Nat.le_refl _)
  have c_p1 := b_p.at1 b_p.lt_size (Nat.le_refl _)
  have c_p2 := b_p.at2 b_p.lt_size (Nat.le_refl _)
  clear b_p
  have RP := hide (h.upto hwW hB)
  have B := hide hwW
  clear h hwW hB
  obtain ⟨sg, hsg⟩ : ∃ v, sgn q.num = v := ⟨_, rfl⟩
  obtain ⟨cv, hcv⟩ : ∃ v, sgn (q - 1).num = v := ⟨_, rfl⟩
  have hsgh := hide hsg
  have hcvh := hide hcv
  have hbx := Below.drw_ W
  by_cases hneg : sg < 0
  · have d0 : decide ((0 : Int) ≤ sg) = false := by simp; omega
    have hres := hide (show shB q = false by
      rw [← hsg, sgnq_neg] at hneg
      simp only [shB, decide_eq_false_iff_not]
      intro h
      grind)
    clear hneg hsg hcv
    go_enter Tryz.func52, Tryz.ntmps52
    go_wp2_with fail
    rw [← hW]
    clear hW
    go_region_with (go_at_call 27; refine (rsign_q (RP.out.then_ hbx) (by omega) (Nat.le_refl _) hsgh.out).mono ?_; rintro e w7 ⟨rfl, hb7⟩; have U7 : Below W.heap.size W w7 := Below.then_ hbx hb7; have hend := hide (Below.then_ B.out U7); clear hb7)
    all_goals
      go_wp2
      go_ret
      exact ⟨by rw [hres.out]; rfl, hend.out⟩
  · have d0 : decide ((0 : Int) ≤ sg) = true := by simp; omega
    have hres := hide (show shB q = decide (cv ≤ 0) by
      rw [← hsg, sgnq_neg] at hneg
      rw [← hcv]
      unfold shB
      exact decide_eq_decide.2 ⟨fun h => cmp_le.2 h.2, fun h => ⟨by grind, cmp_le.1 h⟩⟩)
    clear hneg hsg hcv
    go_enter Tryz.func52, Tryz.ntmps52
    go_wp2_with fail
    rw [← hW]
    clear hW
    go_region_with (first | (go_at_call 27; refine (rsign_q (RP.out.then_ hbx) (by omega) (Nat.le_refl _) hsgh.out).mono ?_; rintro e w7 ⟨rfl, hb7⟩; have U7 : Below W.heap.size W w7 := Below.then_ hbx hb7; clear hb7) | (go_at_call 26; refine (whole_q (m := 1) (q := 1) rfl (by omega) (by simp)).mono ?_; rintro e w8 ⟨x8, rfl, R8, hb8⟩; have U8 : Below W.heap.size W w8 := Below.then_ U7 hb8; replace R8 := hide R8; clear hb8) | (go_at_call 29; refine (rcmp_q (RP.out.then_ U8) (by omega) R8.out.rq (by omega) (Nat.le_refl _) hcvh.out).mono ?_; rintro e w9 ⟨rfl, hb9⟩; have U9 : Below W.heap.size W w9 := Below.then_ U8 hb9; have hend := hide (Below.then_ B.out U9); clear hb9))
    all_goals
      go_wp2
      go_ret
      exact ⟨by rw [hres.out]; rfl, hend.out⟩
/-- the probabilities as a list -/
def ql (n : Nat) (q : Nat → Rat) : List Rat := (List.range n).map q
theorem ql_succ (n : Nat) (q : Nat → Rat) : ql (n + 1) q = ql n q ++ [q n] := by simp [ql, List.range_succ]
theorem ql_length (n : Nat) (q : Nat → Rat) : (ql n q).length = n := by simp [ql]
theorem ql_mem {n : Nat} {q : Nat → Rat} (h : ∀ i, i < n → shB (q i) = true) : ∀ p ∈ ql n q, 0 ≤ p ∧ p ≤ 1 := by
  intro p hp
  obtain ⟨i, hi, rfl⟩ := List.mem_map.1 hp
  have := h i (List.mem_range.1 hi)
  simpa [shB] using this
theorem dprod_snoc (ps : List Rat) (p : Rat) : dprod (ps ++ [p]) = dprod ps * p.den := by rw [dprod_append]; simp [dprod]
/-- the denominators' product is no larger than all of them together -/
theorem dprod_le {nf : Nat → Bool} {w : World} {Bd L n c : Nat} {A : Option Addr} {X : Nat → Rc} {q : Nat → Rat} (h : LQ nf w Bd L A n c X q) : ∀ {i : Nat}, i ≤ n → dprod (ql i q) ≤ pw (i + szs X i)
  | 0, _ => by simp [ql, dprod, szs, pw_zero]
  | i + 1, hi => by
    have ih := dprod_le h (i := i) (by omega)
    obtain ⟨xs, ys, h1, h2, _, _, h5⟩ := (h.nums i (by omega)).1
    have hz := (sz_rd h1 h2 h5 (i := (X i).n + (X i).m) (by omega) (by omega)).2
    have hd : (q i).den ≤ pw ((X i).n + (X i).m + 1) := Nat.le_of_lt ((dig_len_le _ _).1 hz)
    rw [ql_succ, dprod_snoc, szs, show i + 1 + (szs X i + ((X i).n + (X i).m)) = (i + szs X i) + ((X i).n + (X i).m + 1) by omega, pw_add]
    exact Nat.mul_le_mul ih hd
theorem Nq.size {w : World} {Bd L M : Nat} {x : Rc} {q : Rat} (h : Nq w Bd L x q) (hs : (dig (zmag q.num)).length ≤ M ∧ (dig q.den).length ≤ M) : Nq w Bd M x q :=
  ⟨h.1, h.2.1, h.2.2.1, by rw [← h.2.1.len]; exact hs.1, by rw [← h.2.2.1.len]; exact hs.2⟩
theorem LQ.size {w : World} {Bd L M n c : Nat} {A : Option Addr} {X : Nat → Rc} {q : Nat → Rat} (h : LQ (fun _ => true) w Bd L A n c X q) (hs : ∀ i, i < n → (dig (zmag (q i).num)).length ≤ M ∧ (dig (q i).den).length ≤ M) : LQ (fun _ => true) w Bd M A n c X q :=
  ⟨h.cap, h.cbig, h.cells, fun i hi => Pq.of_nq ((h.nums i hi).nq.size (hs i hi))⟩
def two {α : Type} (a b : α) (i : Nat) : α := if i = 0 then a else b
theorem lq_two {w : World} {L : Nat} {x y : Rc} {p q : Rat} (hx : Rq w w.heap.size L x p) (hy : Rq w w.heap.size L y q) :
    LQ (fun _ => false) (w.alloc (.cells #[.bool x.s, .slice x.A x.n x.c, .slice x.B x.m x.d, .bool y.s, .slice y.A y.n y.c, .slice y.B y.m y.d] 28)) (w.alloc (.cells #[.bool x.s, .slice x.A x.n x.c, .slice x.B x.m x.d, .bool y.s, .slice y.A y.n y.c, .slice y.B y.m y.d] 28)).heap.size L (some ⟨w.heap.size, 0, none⟩) 2 2 (two x y) (two p q) := by
  refine ⟨Nat.le_refl _, by omega, fun _ => ⟨_, rfl, by simp, fun i hi => ?_⟩, fun i hi => ⟨?_, fun e => by cases e⟩⟩
  · have hc : ∀ j, (w.alloc (.cells #[.bool x.s, .slice x.A x.n x.c, .slice x.B x.m x.d, .bool y.s, .slice y.A y.n y.c, .slice y.B y.m y.d] 28)).cell? ⟨w.heap.size, j, none⟩ = #[Value.bool x.s, .slice x.A x.n x.c, .slice x.B x.m x.d, .bool y.s, .slice y.A y.n y.c, .slice y.B y.m y.d][j]? := fun j => cell_of_row _ _ j _ _ (0, 0) (heap_alloc_new w _)
    rcases (by omega : i = 0 ∨ i = 1) with rfl | rfl
    · exact ⟨by rw [Addr.add_lit, hc]; rfl, by rw [Addr.add_lit, hc]; rfl, by rw [Addr.add_lit, hc]; rfl⟩
    · exact ⟨by rw [Addr.add_lit, hc]; rfl, by rw [Addr.add_lit, hc]; rfl, by rw [Addr.add_lit, hc]; rfl⟩
  · rcases (by omega : i = 0 ∨ i = 1) with rfl | rfl
    · exact hx.al_ _
    · exact hy.al_ _
theorem lq_one {w : World} {L : Nat} {x : Rc} {p : Rat} (hx : Nq w w.heap.size L x p) :
    LQ (fun _ => true) (w.alloc (.cells #[.bool x.s, .slice x.A x.n x.c, .slice x.B x.m x.d] 28)) (w.alloc (.cells #[.bool x.s, .slice x.A x.n x.c, .slice x.B x.m x.d] 28)).heap.size L (some ⟨w.heap.size, 0, none⟩) 1 1 (fun _ => x) (fun _ => p) := by
  refine ⟨Nat.le_refl _, by omega, fun _ => ⟨_, rfl, by simp, fun i hi => ?_⟩, fun i hi => Pq.of_nq (hx.al_ _)⟩
  have hc : ∀ j, (w.alloc (.cells #[.bool x.s, .slice x.A x.n x.c, .slice x.B x.m x.d] 28)).cell? ⟨w.heap.size, j, none⟩ = #[Value.bool x.s, .slice x.A x.n x.c, .slice x.B x.m x.d][j]? := fun j => cell_of_row _ _ j _ _ (0, 0) (heap_alloc_new w _)
  obtain rfl : i = 0 := by omega
  exact ⟨by rw [Addr.add_lit, hc]; rfl, by rw [Addr.add_lit, hc]; rfl, by rw [Addr.add_lit, hc]; rfl⟩
/-- a convolution with one trial -/
theorem cv_two {f : Nat → Rat} {p r : Rat} (k : Nat) : cv f (ex 2 (two r p)) k = st r p f k := by
  have e : ∀ i, ex 2 (two r p) i = st r p dl0 i := fun i => by
    match i with
    | 0 => simp [ex, two, st, dl0]
    | 1 => simp [ex, two, st, dl0]; grind
    | i + 2 => simp only [ex, st, dl0]; rw [if_neg (by omega)]; grind
  rw [cv_congr (fun _ _ => rfl) (fun i _ => e i), cv_st]
  exact st_congr (fun i => cv_dl0 f i) k
theorem ex_trl {n : Nat} {q y : Nat → Rat} (h : ∀ k, k < n + 1 → y k = trl (ql n q) k) (k : Nat) : ex (n + 1) y k = trl (ql n q) k := by
  unfold ex
  split
  · exact h k (by assumption)
  · rw [trl_supp (by rw [ql_length]; omega)]
theorem trl_next {n : Nat} {q y : Nat → Rat} (h : ∀ k, k < n + 1 → y k = trl (ql n q) k) (k : Nat) : cv (ex (n + 1) y) (ex 2 (two (1 - q n) (q n))) k = trl (ql (n + 1) q) k := by
  rw [cv_two, ql_succ, trl_snoc]
  exact st_congr (fun i => ex_trl h i) k
/-- Trials' error and length -/
noncomputable def trK (n : Nat) (q : Nat → Rat) : Int × Nat := if @decide (∀ i, i < n → shB (q i) = true) (Classical.propDecidable _) = true then (if 121 ≤ n then (3, 0) else (0, n + 1)) else (1, 0)
theorem trK_bad {n : Nat} {q : Nat → Rat} {i : Nat} (hi : i < n) (h : shB (q i) = false) : trK n q = (1, 0) := by
  unfold trK
  rw [if_neg]
  simp only [decide_eq_true_eq]
  intro h2
  rw [h2 i hi] at h
  cases h
theorem trK_long {n : Nat} {q : Nat → Rat} (h : ∀ i, i < n → shB (q i) = true) (hn : 121 ≤ n) : trK n q = (3, 0) := by
  unfold trK
  rw [if_pos (by simp only [decide_eq_true_eq]; exact h), if_pos hn]
theorem trK_ok {n : Nat} {q : Nat → Rat} (h : ∀ i, i < n → shB (q i) = true) (hn : ¬ 121 ≤ n) : trK n q = (0, n + 1) := by
  unfold trK
  rw [if_pos (by simp only [decide_eq_true_eq]; exact h), if_neg hn]
theorem rshare_b {w : World} {Bd : Nat} {x : Rc} {q : Rat} (h : Rq w Bd 1048576 x q) (hB : Bd ≤ w.heap.size) {b : Bool} (hb : shB q = b) :
    Calls Tryz.prog 52 #[.agg #[.bool x.s, .slice x.A x.n x.c, .slice x.B x.m x.d]] w (RetB w (.bool b)) := by rw [← hb]; exact rshare_q h hB
set_option maxHeartbeats 16000000 in
set_option maxRecDepth 100000 in
theorem rtrials_q {nf : Nat → Bool} {w : World} {Bd n c : Nat} {A : Option Addr} {X : Nat → Rc} {q : Nat → Rat} (hx : LQ nf w Bd 1048576 A n c X q) (hs : n + szs X n ≤ 1048576) (hB : Bd ≤ w.heap.size) {k : Int} {N : Nat} (hk : trK n q = (k, N)) :
    Calls Tryz.prog 19 #[.slice A n c] w (RetLE w 1048577 N (trl (ql n q)) k) := by
  have hcap := hx.cap
  have hcb := hx.cbig
  have HX := hide (hx.upto (Below.refl _ _) hB)
  have B := hide (Below.refl w.heap.size w)
  have hsh := hide hs
  have hkh := hide hk
  have hn1 : n ≤ 1048576 := by omega
  clear hx hB hs hk
  go_enter Tryz.func19, Tryz.ntmps19
  go_wp2
  go_loopw [4] (fun i wr => ∃ (j : Nat), j ≤ n ∧ i = .int .i64 j ∧ Hid (∀ i, i < j → shB (q i) = true) ∧ Hid (Below w.heap.size w wr)) (fun i _ => n - (intOf i).toNat)
  case atStart => exact ⟨0, Nat.zero_le _, rfl, hide fun i hi => by omega, B⟩
  case round =>
    obtain ⟨j, hj, rfl, hall, B2⟩ := hrel
    clear B
    by_cases hjn : j < n
    · have HW := HX.out.then_ B2.out
      obtain ⟨ad, hA, hab, e0, e1, e2⟩ := HW.at_ hjn
      subst hA
      have hj64 : (j : Int) < (n : Int) := by omega
      have RX := hide (HW.nums j hjn).1
      obtain ⟨sb, hsb⟩ : ∃ b, shB (q j) = b := ⟨_, rfl⟩
      have hsbh := hide hsb
      clear HW hab
      go_wp2_with fail
      refine (rshare_b RX.out (Nat.le_refl _) hsbh.out).mono ?_
      rintro e w5 ⟨rfl, hb5⟩
      replace B2 := hide (Below.then_ B2.out hb5)
      clear hb5 e0 e1 e2 RX
      cases sb with
      | false =>
        have hbad := hide (hkh.out.symm.trans (trK_bad hjn hsb))
        clear hsb
        simp only [Hid, Prod.mk.injEq] at hbad
        obtain ⟨rfl, rfl⟩ := hbad
        go_wp2
        go_ret2
        exact le_nil B2.out
      | true =>
        have hall2 := hide (show ∀ i, i < j + 1 → shB (q i) = true from fun i hi => by
          by_cases e : i = j
          · subst e; exact hsb
          · exact hall.out i (by omega))
        clear hsb
        go_wp2
        go_roundw
        case rel => exact ⟨j + 1, by omega, by go_num, hall2, B2⟩
        case measure => simp [intOf]; omega
    · obtain rfl : j = n := by omega
      by_cases hlong : 121 ≤ j
      · have hbad := hide (hkh.out.symm.trans (trK_long hall.out hlong))
        have d0 : decide ((121 : Int) ≤ (j : Int)) = true := by simp; omega
        clear hlong
        simp only [Hid, Prod.mk.injEq] at hbad
        obtain ⟨rfl, rfl⟩ := hbad
        go_wp2
        go_ret2
        exact le_nil B2.out
      · have hgood := hide (hkh.out.symm.trans (trK_ok hall.out hlong))
        have d0 : decide ((121 : Int) ≤ (j : Int)) = false := by simp; omega
        have hj120 : j ≤ 120 := by omega
        clear hlong
        simp only [Hid, Prod.mk.injEq] at hgood
        obtain ⟨rfl, rfl⟩ := hgood
        go_wp2_with fail
        refine (whole_q (m := 1) (q := 1) rfl (by omega) (by simp)).mono ?_
        rintro e w6 ⟨x6, rfl, R6, hb6⟩
        have hb7 : Below w6.heap.size w6 (w6.alloc (.cells #[.bool x6.s, .slice x6.A x6.n x6.c, .slice x6.B x6.m x6.d] 28)) := (Below.refl _ _).alloc (Nat.le_refl _) _
        have hO := hide ((lq_one R6).le (M := 1048577) (by omega))
        replace B2 := hide (Below.then_ (Below.then_ B2.out hb6) hb7)
        have hy0 := hide (show ∀ k, k < 0 + 1 → (fun _ => (1 : Rat)) k = trl (ql 0 q) k from fun k hk => by
          obtain rfl : k = 0 := by omega
          rfl)
        clear hb6 hb7 R6
        go_wp2
        go_loopw [5, 6] (fun s i wr => ∃ (m c' : Nat) (A' : Option Addr) (Z : Nat → Rc) (y : Nat → Rat), m ≤ j ∧ m + 1 ≤ c' ∧ c' ≤ 9223372036854775807 ∧ s = .slice A' (m + 1) c' ∧ i = .int .i64 m ∧ Hid (LQ (fun _ => true) wr wr.heap.size 1048577 A' (m + 1) c' Z y) ∧ Hid (∀ k, k < m + 1 → y k = trl (ql m q) k) ∧ Hid (Below w.heap.size w wr)) (fun _ i _ => j - (intOf i).toNat)
        case atStart => exact ⟨0, 1, _, _, _, Nat.zero_le _, by omega, by omega, rfl, rfl, hO, hy0, B2⟩
        case round =>
          obtain ⟨m, c', A', Z, y, hm, hmc, hcc, rfl, rfl, hZ, hy, B3⟩ := hrel
          clear hO B2 hy0
          by_cases hml : m < j
          · have HW := HX.out.then_ B3.out
            obtain ⟨ad, hA, hab, E0, E1, E2⟩ := HW.all hml
            subst hA
            have hm64 : (m : Int) < (j : Int) := by omega
            have RX := hide (HW.nums m hml).1
            have hbx := Below.drw_ wr
            clear HW hab
            have hsz2 := hide (show dprod (ql (m + 1) q) < pw 1048577 from by
              have h1 := dprod_le HX.out (i := m + 1) (by omega)
              have h2 := szs_mono (X := X) (show m + 1 ≤ j by omega)
              have h3 := hsh.out
              refine pw_le (i := m + 1 + szs X (m + 1) + 1) (by omega) (Nat.lt_of_le_of_lt h1 ?_)
              rw [pw_succ]
              have := pw_pos (m + 1 + szs X (m + 1))
              omega)
            have hmem := hide (ql_mem (n := m + 1) (q := q) fun i hi => hall.out i (by omega))
            go_wp2_with fail
            go_region_with (first | (go_at_call 26; refine (whole_q (m := 1) (q := 1) rfl (by omega) (by simp)).mono ?_; rintro e w8 ⟨x8, rfl, R8, hb8⟩; have U8 : Below wr.heap.size wr w8 := Below.then_ hbx hb8; replace R8 := hide R8; clear hb8) | (go_at_call 34; refine (rsub_q R8.out.rq (by omega) (RX.out.then_ U8) (by omega) (Nat.le_refl _) rfl).mono ?_; rintro e w9 ⟨x9, rfl, R9, hb9⟩; have U9 : Below wr.heap.size wr w9 := Below.then_ U8 hb9; replace R9 := hide R9; clear hb9) | (go_at_call 53; refine (rproduct_q (LQ.then_ (hZ.out.then_ U9) ((Below.refl _ _).alloc (Nat.le_refl _) _)) (lq_two (R9.out.rq) ((RX.out.then_ U9).le (by omega))) (Nat.le_refl _) ⟨by omega, by omega⟩ ⟨by omega, by omega⟩ (by omega)).mono ?_; rintro e w10 ⟨g, Z2, z2, rfl, hO2, hz2, hb10⟩; have B4 := hide (Below.then_ (Below.then_ (Below.then_ B3.out U9) ((Below.refl _ _).alloc (Nat.le_refl _) _)) hb10); replace hO2 := hide hO2; replace hz2 := hide hz2; clear hb10))
            all_goals
              obtain ⟨A6, c6, e6, hR6⟩ := hO2.out.rd
              simp only [Value.slice.injEq, true_and] at e6
              obtain ⟨rfl, rfl⟩ := e6
              have hyn := hide (show ∀ k, k < m + 1 + 1 → z2 k = trl (ql (m + 1) q) k from fun k hk => by rw [hz2.out k (by omega)]; exact trl_next hy.out k)
              have hR7 := hide (show LQ (fun _ => true) w10 w10.heap.size 1048577 (some ⟨g, 0, none⟩) (m + 1 + 1) (m + 1 + 1) Z2 z2 from hR6.size fun i hi => by
                rw [hyn.out i hi]
                exact sz_in (in_trl hmem.out i) (trl_le_one hmem.out i) (dprod_pos _) hsz2.out (by omega))
              clear hR6 hO2 hz2 E0 E1 E2
              go_wp2
              go_roundw
              case rel => exact ⟨m + 1, m + 1 + 1, _, Z2, z2, by omega, by omega, by omega, by go_num, by go_num, hR7, hyn, B4⟩
              case measure => simp [intOf]; omega
          · obtain rfl : m = j := by omega
            go_wp2
            go_ret2
            exact ⟨_, _, Z, y, rfl, hZ.out, hy.out, B3.out⟩
end

section
open Go.RowKit

/-- a ratio and an error were handed back -/
def RetRE (w : World) (L : Nat) (q : Rat) (k : Int) (e : Ending) (w' : World) : Prop :=
  ∃ x : Rc, e = .returned (.tuple #[.agg #[.bool x.s, .slice x.A x.n x.c, .slice x.B x.m x.d], .int .i64 k]) ∧ (k = 0 → Nq w' w'.heap.size L x q) ∧ (k ≠ 0 → x = zeroRc) ∧ Below w.heap.size w w'
set_option maxHeartbeats 8000000 in
set_option maxRecDepth 100000 in
theorem rmean_q {nf : Nat → Bool} {w : World} {Bd n c : Nat} {A : Option Addr} {X : Nat → Rc} {q : Nat → Rat} (hx : LQ nf w Bd 1048576 A n c X q) (hB : Bd ≤ w.heap.size) {ra : Bool} (hra : vlB n q = ra) :
    Calls Tryz.prog 8 #[.slice A n c] w (RetRE w 126900000 (qs (mq 1 q) n) (if ra = true then 0 else 1)) := by
  obtain ⟨W, hW⟩ : ∃ W, W = (w.alloc (.cells #[.bool false, .slice none 0 0, .slice none 0 0] 28)) := ⟨_, rfl⟩
  have b_r : Box3 W w.heap.size (.bool false) (.slice none 0 0) (.slice none 0 0) := by rw [hW]; exact Box3.new w _ _ _ rfl
  have hwW : Below w.heap.size w W := by rw [hW]; exact (Below.refl _ _).alloc (Nat.le_refl _) _
  have HX := hide (hx.upto hwW hB)
  have hcap := hx.cap
  have hcb := hx.cbig
  have B := hide hwW
  clear hx hwW hB
  have U0 : Below W.heap.size W W := Below.refl _ _
  have c_r0 := b_r.at0 b_r.lt_size (Nat.le_refl _)
  have c_r1 := b_r.at1 b_r.lt_size (Nat.le_refl _)
  have c_r2 := b_r.at2 b_r.lt_size (Nat.le_refl _)
  have f_r0 := b_r.free0 b_r.lt_size (Nat.le_refl _)
  have f_r1 := b_r.free1 b_r.lt_size (Nat.le_refl _)
  have f_r2 := b_r.free2 b_r.lt_size (Nat.le_refl _)
  have l_r := b_r.lt b_r.lt_size (Nat.le_refl _)
  clear b_r
  have hrah := hide hra
  cases ra with
  | false =>
    clear hra
    go_enter Tryz.func8, Tryz.ntmps8
    go_wp2_with fail
    rw [← hW]
    clear hW
    refine (rvalid_q HX.out (Nat.le_refl _)).mono ?_
    rw [hrah.out]
    rintro e w1 ⟨rfl, hb⟩
    have U1 : Below W.heap.size W w1 := Below.then_ U0 hb
    replace B := hide (Below.then_ B.out hb)
    clear hb
    go_wp2
    exact bodyPost_ret (v := .tuple #[.agg #[.bool false, .slice none 0 0, .slice none 0 0], .int .i64 1]) (by simp [results, Tryz.results8, go_sem, c_r0 _ U1, c_r1 _ U1, c_r2 _ U1]) rfl ⟨zeroRc, rfl, fun h => by simp at h, fun _ => rfl, ((B.out.setCell (Nat.le_refl _) _).setCell (Nat.le_refl _) _).setCell (Nat.le_refl _) _⟩
  | true =>
    have h121 := (vl_len hra).1.2
    clear hra
    go_enter Tryz.func8, Tryz.ntmps8
    go_wp2_with fail
    rw [← hW]
    clear hW
    refine (rvalid_q HX.out (Nat.le_refl _)).mono ?_
    rw [hrah.out]
    rintro e w1 ⟨rfl, hb⟩
    have U1 : Below W.heap.size W w1 := Below.then_ U0 hb
    replace B := hide (Below.then_ B.out hb)
    replace HX := hide (HX.out.then_ hb)
    clear hb
    go_wp2_with fail
    refine (rmoment_q HX.out (Nat.le_refl _) h121 (d := 1) rfl (by omega)).mono ?_
    rintro e w2 ⟨x2, rfl, R2, hb⟩
    have U2 : Below W.heap.size W w2 := Below.then_ U1 hb
    replace B := hide (Below.then_ B.out hb)
    replace R2 := hide R2
    clear hb
    go_wp2
    exact bodyPost_ret (v := .tuple #[.agg #[.bool x2.s, .slice x2.A x2.n x2.c, .slice x2.B x2.m x2.d], .int .i64 0]) (by simp [results, Tryz.results8, go_sem, c_r0 _ U2, c_r1 _ U2, c_r2 _ U2]) rfl ⟨x2, rfl, fun _ => R2.out.set3 (y := zeroRc) (c_r0 _ U2) (c_r1 _ U2) (c_r2 _ U2) _ _ _, fun h => absurd rfl h, ((B.out.setCell (Nat.le_refl _) _).setCell (Nat.le_refl _) _).setCell (Nat.le_refl _) _⟩
set_option maxHeartbeats 8000000 in
set_option maxRecDepth 100000 in
theorem rvariance_q {nf : Nat → Bool} {w : World} {Bd n c : Nat} {A : Option Addr} {X : Nat → Rc} {q : Nat → Rat} (hx : LQ nf w Bd 1048576 A n c X q) (hB : Bd ≤ w.heap.size) {ra : Bool} (hra : vlB n q = ra) :
    Calls Tryz.prog 13 #[.slice A n c] w (RetRE w 400000000 (qs (mq 2 q) n - qs (mq 1 q) n * qs (mq 1 q) n) (if ra = true then 0 else 1)) := by
  obtain ⟨W, hW⟩ : ∃ W, W = (w.alloc (.cells #[.bool false, .slice none 0 0, .slice none 0 0] 28)) := ⟨_, rfl⟩
  have b_r : Box3 W w.heap.size (.bool false) (.slice none 0 0) (.slice none 0 0) := by rw [hW]; exact Box3.new w _ _ _ rfl
  have hwW : Below w.heap.size w W := by rw [hW]; exact (Below.refl _ _).alloc (Nat.le_refl _) _
  have HX := hide (hx.upto hwW hB)
  have hcap := hx.cap
  have hcb := hx.cbig
  have B := hide hwW
  clear hx hwW hB
  have U0 : Below W.heap.size W W := Below.refl _ _
  have c_r0 := b_r.at0 b_r.lt_size (Nat.le_refl _)
  have c_r1 := b_r.at1 b_r.lt_size (Nat.le_refl _)
  have c_r2 := b_r.at2 b_r.lt_size (Nat.le_refl _)
  have f_r0 := b_r.free0 b_r.lt_size (Nat.le_refl _)
  have f_r1 := b_r.free1 b_r.lt_size (Nat.le_refl _)
  have f_r2 := b_r.free2 b_r.lt_size (Nat.le_refl _)
  have l_r := b_r.lt b_r.lt_size (Nat.le_refl _)
  clear b_r
  have hrah := hide hra
  cases ra with
  | false =>
    clear hra
    go_enter Tryz.func13, Tryz.ntmps13
    go_wp2_with fail
    rw [← hW]
    clear hW
    refine (rvalid_q HX.out (Nat.le_refl _)).mono ?_
    rw [hrah.out]
    rintro e w1 ⟨rfl, hb⟩
    have U1 : Below W.heap.size W w1 := Below.then_ U0 hb
    replace B := hide (Below.then_ B.out hb)
    clear hb
    go_wp2
    exact bodyPost_ret (v := .tuple #[.agg #[.bool false, .slice none 0 0, .slice none 0 0], .int .i64 1]) (by simp [results, Tryz.results13, go_sem, c_r0 _ U1, c_r1 _ U1, c_r2 _ U1]) rfl ⟨zeroRc, rfl, fun h => by simp at h, fun _ => rfl, ((B.out.setCell (Nat.le_refl _) _).setCell (Nat.le_refl _) _).setCell (Nat.le_refl _) _⟩
  | true =>
    have h121 := (vl_len hra).1.2
    clear hra
    go_enter Tryz.func13, Tryz.ntmps13
    go_wp2_with fail
    rw [← hW]
    clear hW
    refine (rvalid_q HX.out (Nat.le_refl _)).mono ?_
    rw [hrah.out]
    rintro e w1 ⟨rfl, hb⟩
    have U1 : Below W.heap.size W w1 := Below.then_ U0 hb
    replace B := hide (Below.then_ B.out hb)
    replace HX := hide (HX.out.then_ hb)
    clear hb
    go_wp2_with fail
    refine (rmoment_q HX.out (Nat.le_refl _) h121 (d := 1) rfl (by omega)).mono ?_
    rintro e w2 ⟨x2, rfl, R2, hb⟩
    have U2 : Below W.heap.size W w2 := Below.then_ U1 hb
    replace B := hide (Below.then_ B.out hb)
    have hal : Below w2.heap.size w2 (w2.alloc (.cells #[.bool x2.s, .slice x2.A x2.n x2.c, .slice x2.B x2.m x2.d] 28)) := (Below.refl _ _).alloc (Nat.le_refl _) _
    have hM := hide (SumQ.start B.out R2)
    replace HX := hide ((HX.out.then_ hb).then_ hal)
    have U3 := Below.then_ U2 hal
    replace B := hide (Below.then_ B.out hal)
    clear hb hal R2
    go_wp2_with fail
    obtain ⟨V, hV⟩ : ∃ V, V = w2.alloc (.cells #[.bool x2.s, .slice x2.A x2.n x2.c, .slice x2.B x2.m x2.d] 28) := ⟨_, rfl⟩
    obtain ⟨g, hg⟩ : ∃ g, g = w2.heap.size := ⟨_, rfl⟩
    rw [← hV, ← hg] at hM
    rw [← hV] at HX U3 B ⊢
    rw [← hg]
    have hgw : w.heap.size ≠ g := by have := l_r _ U2; omega
    clear hV hg
    have hbx := Below.drw_ V
    have hgb := hM.out.box
    have c_g0 := hgb.at0 hgb.lt_size (Nat.le_refl _)
    have c_g1 := hgb.at1 hgb.lt_size (Nat.le_refl _)
    have c_g2 := hgb.at2 hgb.lt_size (Nat.le_refl _)
    have RM := hide hM.out.num.rq
    clear hgb
    go_region_with (first | (go_at_call 25; refine (rmoment_q (HX.out.then_ hbx) (Nat.le_refl _) h121 (d := 2) rfl (by omega)).mono ?_; rintro e w4 ⟨x4, rfl, R4, hb4⟩; have U4 : Below V.heap.size V w4 := Below.then_ hbx hb4; replace R4 := hide R4; clear hb4) | (go_at_call 35; refine (rmul_q (RM.out.then_ U4) (by omega) (RM.out.then_ U4) (by omega) (Nat.le_refl _) rfl).mono ?_; rintro e w5 ⟨x5, rfl, R5, hb5⟩; have U5 : Below V.heap.size V w5 := Below.then_ U4 hb5; replace R4 := hide (R4.out.then_ hb5); replace R5 := hide R5; clear hb5) | (go_at_call 34; refine (rsub_q R4.out.rq (by omega) R5.out.rq (by omega) (Nat.le_refl _) rfl).mono ?_; rintro e w6 ⟨x6, rfl, R6, hb6⟩; have U6 : Below V.heap.size V w6 := Below.then_ U5 hb6; have U7 : Below W.heap.size W w6 := Below.then_ U3 U6; have B7 := hide (Below.then_ B.out U6); replace R6 := hide R6; clear hb6))
    all_goals
      go_wp2
      exact bodyPost_ret (v := .tuple #[.agg #[.bool x6.s, .slice x6.A x6.n x6.c, .slice x6.B x6.m x6.d], .int .i64 0]) (by simp [results, Tryz.results13, go_sem, c_r0 _ U7, c_r1 _ U7, c_r2 _ U7]) rfl ⟨x6, rfl, fun _ => (R6.out.le (by omega)).set3 (y := zeroRc) (c_r0 _ U7) (c_r1 _ U7) (c_r2 _ U7) _ _ _, fun h => absurd rfl h, ((B7.out.setCell (Nat.le_refl _) _).setCell (Nat.le_refl _) _).setCell (Nat.le_refl _) _⟩
end

section
open Go.RowKit

set_option maxHeartbeats 8000000 in
set_option maxRecDepth 100000 in
theorem rfraction_q {w : World} {Bd : Nat} {x y : Nc} {a b : Nat} (hx : Nv w Bd x a) (hy : Nv w Bd y b) (hB : Bd ≤ w.heap.size) (hb0 : b ≠ 0) {q : Rat} (hq : Rat.divInt (a : Int) (b : Int) = q) :
    Calls Tryz.prog 45 #[.slice x.A x.n x.c, .slice y.A y.n y.c] w (RetN w 1000000 q) := by
  obtain ⟨W, hW⟩ : ∃ W, W = (w.alloc (.cells #[.bool false, .slice none 0 0, .slice none 0 0] 28)) := ⟨_, rfl⟩
  have b_r : Box3 W w.heap.size (.bool false) (.slice none 0 0) (.slice none 0 0) := by rw [hW]; exact Box3.new w _ _ _ rfl
  have hwW : Below w.heap.size w W := by rw [hW]; exact (Below.refl _ _).alloc (Nat.le_refl _) _
  obtain ⟨xs, h1, h2, h3⟩ := hx
  obtain ⟨ys, k1, k2, k3⟩ := hy
  have RX := hide (h1.upto hwW hB)
  have RY := hide (k1.upto hwW hB)
  have ha := pw_le h3 h1.lt
  have hb := pw_le k3 k1.lt
  rw [h2] at ha
  rw [k2] at hb
  have hsz := hide (sz_divInt hq (i := 1000000) (by simpa [zmag] using ha) (by simpa [zmag] using hb) (by omega))
  have hq' := hide (show Rat.divInt (iv false (val xs)) (iv false (val ys)) = q by rw [h2, k2]; simpa [iv] using hq)
  have hok := hide (show decide (iv false (val ys) ≠ 0) = true by rw [k2]; simp [iv, hb0])
  have B := hide hwW
  have U0 : Below W.heap.size W W := Below.refl _ _
  have c_r0 := b_r.at0 b_r.lt_size (Nat.le_refl _)
  have c_r1 := b_r.at1 b_r.lt_size (Nat.le_refl _)
  have c_r2 := b_r.at2 b_r.lt_size (Nat.le_refl _)
  have f_r0 := b_r.free0 b_r.lt_size (Nat.le_refl _)
  have f_r1 := b_r.free1 b_r.lt_size (Nat.le_refl _)
  have f_r2 := b_r.free2 b_r.lt_size (Nat.le_refl _)
  have l_r := b_r.lt b_r.lt_size (Nat.le_refl _)
  clear b_r hwW h1 h2 k1 k2 ha hb hq hB hb0
  go_enter Tryz.func45, Tryz.ntmps45
  go_wp2_with fail
  rw [← hW]
  clear hW
  refine (rmake_any RX.out (by omega) RY.out (by omega) (Nat.le_refl _) hq'.out hok.out).mono ?_
  rintro e w1 ⟨A6, c6, B6, d6, rfl, R6, R7, hb1⟩
  obtain ⟨z, hz⟩ : ∃ z : Rc, z = ⟨zneg q.num, A6, (dig (zmag q.num)).length, c6, B6, (dig q.den).length, d6⟩ := ⟨_, rfl⟩
  have RN := hide (show Nq w1 w1.heap.size 1000000 z q by rw [hz]; exact ⟨rfl, R6, R7, hsz.out.1, hsz.out.2⟩)
  have z1 : zneg q.num = z.s := by rw [hz]
  have z2 : Value.slice A6 (dig (zmag q.num)).length c6 = .slice z.A z.n z.c := by rw [hz]
  have z3 : Value.slice B6 (dig q.den).length d6 = .slice z.B z.m z.d := by rw [hz]
  rw [z1, z2, z3]
  clear z1 z2 z3 hz R6 R7
  have U1 : Below W.heap.size W w1 := Below.then_ U0 hb1
  have hal : Below w1.heap.size w1 (w1.alloc (.cells #[.bool z.s, .slice z.A z.n z.c, .slice z.B z.m z.d] 28)) := (Below.refl _ _).alloc (Nat.le_refl _) _
  have U2 : Below W.heap.size W (w1.alloc (.cells #[.bool z.s, .slice z.A z.n z.c, .slice z.B z.m z.d] 28)) := Below.then_ U1 hal
  replace B := hide (Below.then_ (Below.then_ B.out hb1) hal)
  replace RN := hide (RN.out.then_ hal)
  have hl := l_r w1 U1
  clear hb1 hal
  go_wp2
  have e : ((((w1.setCell ⟨w.heap.size, 0, none⟩ (.bool z.s)).setCell ⟨w.heap.size, 1, none⟩ (.slice z.A z.n z.c)).setCell ⟨w.heap.size, 2, none⟩ (.slice z.B z.m z.d)).alloc (.cells #[.bool z.s, .slice z.A z.n z.c, .slice z.B z.m z.d] 28)) = ((((w1.alloc (.cells #[.bool z.s, .slice z.A z.n z.c, .slice z.B z.m z.d] 28)).setCell ⟨w.heap.size, 0, none⟩ (.bool z.s)).setCell ⟨w.heap.size, 1, none⟩ (.slice z.A z.n z.c)).setCell ⟨w.heap.size, 2, none⟩ (.slice z.B z.m z.d)) := by
    rw [World.setCell_alloc_past _ _ _ _ hl, World.setCell_alloc_past _ _ _ _ (by simpa using hl), World.setCell_alloc_past _ _ _ _ (by simpa using hl)]
  rw [e]
  exact bodyPost_ret (v := .agg #[.bool z.s, .slice z.A z.n z.c, .slice z.B z.m z.d]) (by simp [results, Tryz.results45, go_sem, c_r0 _ U2, c_r1 _ U2, c_r2 _ U2]) rfl (RetN.box (x := z) B.out (Nat.le_refl _) (c_r0 _ U2) (c_r1 _ U2) (c_r2 _ U2) RN.out)
end
end Go.Proofs.YtonpeagedggakaaGreat
