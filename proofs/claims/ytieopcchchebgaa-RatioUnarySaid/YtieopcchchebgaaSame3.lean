/-
  limbs, same, large of the laws of ratio.
-/
import Derived.Test.YtieopcchchebgaaRat
namespace Go.Proofs.Ytieopcchchebgaa
open Go.RowKit


theorem drw_q (W : World) (q : Nat) : Below W.heap.size W (W.drewN q) := below_drewN (Below.refl _ _) q

set_option maxHeartbeats 4000000 in
theorem limbs_any {w : World} {Bd : Nat} {A A' : Option Addr} {n c n' c' : Nat} {xs ys : List Nat} {r : Bool} (h : Rd w Bd A n c xs) (h' : Rd w Bd A' n' c' ys) (hr : decide (xs = ys) = r) :
    Calls Try.prog 28 #[.slice A n c, .slice A' n' c'] w (RetB w (.bool r)) := by
  have hl := h.len
  have hl' := h'.len
  have hbig := h.big
  have hbig' := h'.big
  have hcap := h.cap
  have hcap' := h'.cap
  have R := hide h
  have R' := hide h'
  clear h h'
  by_cases hn : n = n'
  · subst hn
    replace hr := hide hr
    go_enter Try.func28, Try.ntmps28
    replace hl := hide hl
    replace hl' := hide hl'
    go_wp2
    go_loopw [5] (fun i wr => ∃ k : Nat, k ≤ n ∧ i = .int .i64 k ∧ Hid (∀ j, j < k → lm xs j = lm ys j) ∧ ∃ q, wr = w.drewN q) (fun i _ => n - (intOf i).toNat)
    case atStart => exact ⟨0, Nat.zero_le _, rfl, hide (fun j hj => by omega), 0, rfl⟩
    case round =>
      obtain ⟨k, hk, rfl, hj, q, rfl⟩ := hrel
      by_cases hkl : k < n
      · obtain ⟨ad, hA, hadb, hca⟩ := R.out.at_ hkl
        obtain ⟨ad', hA', hadb', hca'⟩ := R'.out.at_ hkl
        subst hA hA'
        by_cases he : lm xs k = lm ys k
        · have hne : ((lm xs k : Int) != (lm ys k : Int)) = false := by rw [he]; simp
          have he' := hide he
          clear he
          go_wp2_with fail
          go_quiet (fail)
          go_wp2
          go_roundw
          case rel => exact ⟨k + 1, by omega, by go_num, hide (fun j hj' => by rcases Nat.lt_succ_iff_lt_or_eq.1 hj' with h | h; exact hj.out j h; rw [h]; exact he'.out), _, rfl⟩
          case measure => simp [intOf]; omega
        · have hne : ((lm xs k : Int) != (lm ys k : Int)) = true := by simp; omega
          have hrf : r = false := by rw [← hr.out]; exact decide_eq_false (fun h => he (by rw [h]))
          replace hrf := hide hrf
          clear he
          go_wp2_with fail
          go_quiet (fail)
          go_wp2
          go_ret
          rw [hrf.out]
          exact ⟨rfl, below_drewN (drw_q _ _) _⟩
      · obtain rfl : k = n := by omega
        have hrt : r = true := by rw [← hr.out]; exact decide_eq_true (lm_ext (by rw [hl.out, hl'.out]) (fun j h => hj.out j (by rw [hl.out] at h; exact h)))
        replace hrt := hide hrt
        go_wp2
        go_ret
        rw [hrt.out]
        exact ⟨rfl, drw_q _ _⟩
  · obtain rfl : r = false := by rw [← hr]; exact decide_eq_false (fun h => hn (by rw [← hl, ← hl', h]))
    have hne : ((n : Int) != (n' : Int)) = true := by simp; omega
    clear hl hl' hn
    go_enter Try.func28, Try.ntmps28
    go_wp2
    go_ret
    exact ⟨rfl, Below.refl _ _⟩

set_option maxHeartbeats 4000000 in
theorem same_sign {w : World} {Bd : Nat} {A_a : Option Addr} {n_a c_a : Nat} {x_a : List Nat} {s_a : Bool} {A_ad : Option Addr} {n_ad c_ad : Nat} {x_ad : List Nat} {A_b : Option Addr} {n_b c_b : Nat} {x_b : List Nat} {s_b : Bool} {A_bd : Option Addr} {n_bd c_bd : Nat} {x_bd : List Nat} (h_a : Rd w Bd A_a n_a c_a x_a) (h_ad : Rd w Bd A_ad n_ad c_ad x_ad) (h_b : Rd w Bd A_b n_b c_b x_b) (h_bd : Rd w Bd A_bd n_bd c_bd x_bd) (hB : Bd ≤ w.heap.size) (hs : (s_a == s_b) = false) :
    Calls Try.prog 14 #[.agg #[.bool s_a, .slice A_a n_a c_a, .slice A_ad n_ad c_ad], .agg #[.bool s_b, .slice A_b n_b c_b, .slice A_bd n_bd c_bd]] w (RetB w (.bool false)) := by
  obtain ⟨W, hW⟩ : ∃ W, W = ((w.alloc (.cells #[.bool s_a, .slice A_a n_a c_a, .slice A_ad n_ad c_ad] 27)).alloc (.cells #[.bool s_b, .slice A_b n_b c_b, .slice A_bd n_bd c_bd] 27)) := ⟨_, rfl⟩
  have b_a : Box3 W (w.heap.size) (.bool s_a) (.slice A_a n_a c_a) (.slice A_ad n_ad c_ad) := by rw [hW]; exact ((Box3.new w _ _ _ rfl).al _)
  have b_b : Box3 W (w.heap.size + 1) (.bool s_b) (.slice A_b n_b c_b) (.slice A_bd n_bd c_bd) := by rw [hW]; exact (Box3.new _ _ _ _ (by simp))
  have hwW : Below w.heap.size w W := by rw [hW]; exact (((Below.refl _ _).alloc (Nat.le_refl _) _).alloc (by simp) _)
  have R_a := hide (Rd.upto h_a hwW hB)
  clear h_a
  have R_ad := hide (Rd.upto h_ad hwW hB)
  clear h_ad
  have R_b := hide (Rd.upto h_b hwW hB)
  clear h_b
  have R_bd := hide (Rd.upto h_bd hwW hB)
  clear h_bd
  have B := hide hwW
  clear hwW
  clear hB
  have U0 : Below W.heap.size W W := Below.refl _ _
  have c_a0 := b_a.at0 b_a.lt_size (Nat.le_refl _)
  have c_a1 := b_a.at1 b_a.lt_size (Nat.le_refl _)
  have c_a2 := b_a.at2 b_a.lt_size (Nat.le_refl _)
  replace b_a := hide b_a
  have c_b0 := b_b.at0 b_b.lt_size (Nat.le_refl _)
  have c_b1 := b_b.at1 b_b.lt_size (Nat.le_refl _)
  have c_b2 := b_b.at2 b_b.lt_size (Nat.le_refl _)
  replace b_b := hide b_b
  go_enter Try.func14, Try.ntmps14
  go_wp2_with fail
  rw [← hW]
  clear hW
  go_wp2
  go_ret
  exact ⟨rfl, B.out⟩

set_option maxHeartbeats 4000000 in
theorem same_num {w : World} {Bd : Nat} {A_a : Option Addr} {n_a c_a : Nat} {x_a : List Nat} {s_a : Bool} {A_ad : Option Addr} {n_ad c_ad : Nat} {x_ad : List Nat} {A_b : Option Addr} {n_b c_b : Nat} {x_b : List Nat} {s_b : Bool} {A_bd : Option Addr} {n_bd c_bd : Nat} {x_bd : List Nat} (h_a : Rd w Bd A_a n_a c_a x_a) (h_ad : Rd w Bd A_ad n_ad c_ad x_ad) (h_b : Rd w Bd A_b n_b c_b x_b) (h_bd : Rd w Bd A_bd n_bd c_bd x_bd) (hB : Bd ≤ w.heap.size) (hs : (s_a == s_b) = true) (hx : x_a ≠ x_b) :
    Calls Try.prog 14 #[.agg #[.bool s_a, .slice A_a n_a c_a, .slice A_ad n_ad c_ad], .agg #[.bool s_b, .slice A_b n_b c_b, .slice A_bd n_bd c_bd]] w (RetB w (.bool false)) := by
  have h1 : decide (x_a = x_b) = false := decide_eq_false hx
  replace h1 := hide h1
  clear hx
  obtain ⟨W, hW⟩ : ∃ W, W = ((w.alloc (.cells #[.bool s_a, .slice A_a n_a c_a, .slice A_ad n_ad c_ad] 27)).alloc (.cells #[.bool s_b, .slice A_b n_b c_b, .slice A_bd n_bd c_bd] 27)) := ⟨_, rfl⟩
  have b_a : Box3 W (w.heap.size) (.bool s_a) (.slice A_a n_a c_a) (.slice A_ad n_ad c_ad) := by rw [hW]; exact ((Box3.new w _ _ _ rfl).al _)
  have b_b : Box3 W (w.heap.size + 1) (.bool s_b) (.slice A_b n_b c_b) (.slice A_bd n_bd c_bd) := by rw [hW]; exact (Box3.new _ _ _ _ (by simp))
  have hwW : Below w.heap.size w W := by rw [hW]; exact (((Below.refl _ _).alloc (Nat.le_refl _) _).alloc (by simp) _)
  have R_a := hide (Rd.upto h_a hwW hB)
  clear h_a
  have R_ad := hide (Rd.upto h_ad hwW hB)
  clear h_ad
  have R_b := hide (Rd.upto h_b hwW hB)
  clear h_b
  have R_bd := hide (Rd.upto h_bd hwW hB)
  clear h_bd
  have B := hide hwW
  clear hwW
  clear hB
  have U0 : Below W.heap.size W W := Below.refl _ _
  have c_a0 := b_a.at0 b_a.lt_size (Nat.le_refl _)
  have c_a1 := b_a.at1 b_a.lt_size (Nat.le_refl _)
  have c_a2 := b_a.at2 b_a.lt_size (Nat.le_refl _)
  replace b_a := hide b_a
  have c_b0 := b_b.at0 b_b.lt_size (Nat.le_refl _)
  have c_b1 := b_b.at1 b_b.lt_size (Nat.le_refl _)
  have c_b2 := b_b.at2 b_b.lt_size (Nat.le_refl _)
  replace b_b := hide b_b
  go_enter Try.func14, Try.ntmps14
  go_wp2_with fail
  rw [← hW]
  clear hW
  refine (limbs_any R_a.out R_b.out h1.out).mono ?_
  rintro e w1 ⟨rfl, hb⟩
  replace R_a := hide (Rd.then_ R_a.out hb)
  replace R_ad := hide (Rd.then_ R_ad.out hb)
  replace R_b := hide (Rd.then_ R_b.out hb)
  replace R_bd := hide (Rd.then_ R_bd.out hb)
  have U1 : Below W.heap.size W w1 := Below.then_ U0 hb
  replace B := hide (Below.then_ B.out hb)
  clear hb
  go_wp2
  go_ret
  exact ⟨rfl, B.out⟩

set_option maxHeartbeats 4000000 in
theorem same_den {w : World} {Bd : Nat} {A_a : Option Addr} {n_a c_a : Nat} {x_a : List Nat} {s_a : Bool} {A_ad : Option Addr} {n_ad c_ad : Nat} {x_ad : List Nat} {A_b : Option Addr} {n_b c_b : Nat} {x_b : List Nat} {s_b : Bool} {A_bd : Option Addr} {n_bd c_bd : Nat} {x_bd : List Nat} (h_a : Rd w Bd A_a n_a c_a x_a) (h_ad : Rd w Bd A_ad n_ad c_ad x_ad) (h_b : Rd w Bd A_b n_b c_b x_b) (h_bd : Rd w Bd A_bd n_bd c_bd x_bd) (hB : Bd ≤ w.heap.size) {r : Bool} (hs : (s_a == s_b) = true) (hx : x_a = x_b) (hr : decide (x_ad = x_bd) = r) :
    Calls Try.prog 14 #[.agg #[.bool s_a, .slice A_a n_a c_a, .slice A_ad n_ad c_ad], .agg #[.bool s_b, .slice A_b n_b c_b, .slice A_bd n_bd c_bd]] w (RetB w (.bool r)) := by
  have h1 : decide (x_a = x_b) = true := decide_eq_true hx
  replace h1 := hide h1
  replace hr := hide hr
  clear hx
  obtain ⟨W, hW⟩ : ∃ W, W = ((w.alloc (.cells #[.bool s_a, .slice A_a n_a c_a, .slice A_ad n_ad c_ad] 27)).alloc (.cells #[.bool s_b, .slice A_b n_b c_b, .slice A_bd n_bd c_bd] 27)) := ⟨_, rfl⟩
  have b_a : Box3 W (w.heap.size) (.bool s_a) (.slice A_a n_a c_a) (.slice A_ad n_ad c_ad) := by rw [hW]; exact ((Box3.new w _ _ _ rfl).al _)
  have b_b : Box3 W (w.heap.size + 1) (.bool s_b) (.slice A_b n_b c_b) (.slice A_bd n_bd c_bd) := by rw [hW]; exact (Box3.new _ _ _ _ (by simp))
  have hwW : Below w.heap.size w W := by rw [hW]; exact (((Below.refl _ _).alloc (Nat.le_refl _) _).alloc (by simp) _)
  have R_a := hide (Rd.upto h_a hwW hB)
  clear h_a
  have R_ad := hide (Rd.upto h_ad hwW hB)
  clear h_ad
  have R_b := hide (Rd.upto h_b hwW hB)
  clear h_b
  have R_bd := hide (Rd.upto h_bd hwW hB)
  clear h_bd
  have B := hide hwW
  clear hwW
  clear hB
  have U0 : Below W.heap.size W W := Below.refl _ _
  have c_a0 := b_a.at0 b_a.lt_size (Nat.le_refl _)
  have c_a1 := b_a.at1 b_a.lt_size (Nat.le_refl _)
  have c_a2 := b_a.at2 b_a.lt_size (Nat.le_refl _)
  replace b_a := hide b_a
  have c_b0 := b_b.at0 b_b.lt_size (Nat.le_refl _)
  have c_b1 := b_b.at1 b_b.lt_size (Nat.le_refl _)
  have c_b2 := b_b.at2 b_b.lt_size (Nat.le_refl _)
  replace b_b := hide b_b
  go_enter Try.func14, Try.ntmps14
  go_wp2_with fail
  rw [← hW]
  clear hW
  refine (limbs_any R_a.out R_b.out h1.out).mono ?_
  rintro e w1 ⟨rfl, hb⟩
  replace R_a := hide (Rd.then_ R_a.out hb)
  replace R_ad := hide (Rd.then_ R_ad.out hb)
  replace R_b := hide (Rd.then_ R_b.out hb)
  replace R_bd := hide (Rd.then_ R_bd.out hb)
  have U1 : Below W.heap.size W w1 := Below.then_ U0 hb
  replace B := hide (Below.then_ B.out hb)
  clear hb
  go_wp2_with fail
  refine (limbs_any R_ad.out R_bd.out hr.out).mono ?_
  rintro e w2 ⟨rfl, hb⟩
  replace R_a := hide (Rd.then_ R_a.out hb)
  replace R_ad := hide (Rd.then_ R_ad.out hb)
  replace R_b := hide (Rd.then_ R_b.out hb)
  replace R_bd := hide (Rd.then_ R_bd.out hb)
  have U2 : Below W.heap.size W w2 := Below.then_ U1 hb
  replace B := hide (Below.then_ B.out hb)
  clear hb
  go_wp2
  go_ret
  exact ⟨rfl, B.out⟩

theorem same_any {w : World} {Bd : Nat} {A_a : Option Addr} {n_a c_a : Nat} {x_a : List Nat} {s_a : Bool} {A_ad : Option Addr} {n_ad c_ad : Nat} {x_ad : List Nat} {A_b : Option Addr} {n_b c_b : Nat} {x_b : List Nat} {s_b : Bool} {A_bd : Option Addr} {n_bd c_bd : Nat} {x_bd : List Nat} (h_a : Rd w Bd A_a n_a c_a x_a) (h_ad : Rd w Bd A_ad n_ad c_ad x_ad) (h_b : Rd w Bd A_b n_b c_b x_b) (h_bd : Rd w Bd A_bd n_bd c_bd x_bd) (hB : Bd ≤ w.heap.size) {r : Bool} (hr : decide (s_a = s_b ∧ x_a = x_b ∧ x_ad = x_bd) = r) : Calls Try.prog 14 #[.agg #[.bool s_a, .slice A_a n_a c_a, .slice A_ad n_ad c_ad], .agg #[.bool s_b, .slice A_b n_b c_b, .slice A_bd n_bd c_bd]] w (RetB w (.bool r)) := by
  by_cases h1 : s_a = s_b
  · by_cases h2 : x_a = x_b
    · exact same_den h_a h_ad h_b h_bd hB (by simpa using h1) h2 (by rw [← hr]; exact decide_eq_decide.2 ⟨fun h => ⟨h1, h2, h⟩, fun h => h.2.2⟩)
    · rw [decide_eq_false (fun h => h2 h.2.1)] at hr
      subst hr
      exact same_num h_a h_ad h_b h_bd hB (by simpa using h1) h2
  · rw [decide_eq_false (fun h => h1 h.1)] at hr
    subst hr
    exact same_sign h_a h_ad h_b h_bd hB (by simpa using h1)

theorem same_q {w : World} {Bd : Nat} {A_a : Option Addr} {c_a : Nat} {A_ad : Option Addr} {c_ad : Nat} {A_b : Option Addr} {c_b : Nat} {A_bd : Option Addr} {c_bd : Nat} {p q : Rat} (h_a : Rd w Bd A_a (dig (zmag p.num)).length c_a (dig (zmag p.num))) (h_ad : Rd w Bd A_ad (dig p.den).length c_ad (dig p.den)) (h_b : Rd w Bd A_b (dig (zmag q.num)).length c_b (dig (zmag q.num))) (h_bd : Rd w Bd A_bd (dig q.den).length c_bd (dig q.den)) (hB : Bd ≤ w.heap.size) {r : Bool} (hr : decide (p = q) = r) : Calls Try.prog 14 #[.agg #[.bool (zneg p.num), .slice A_a (dig (zmag p.num)).length c_a, .slice A_ad (dig p.den).length c_ad], .agg #[.bool (zneg q.num), .slice A_b (dig (zmag q.num)).length c_b, .slice A_bd (dig q.den).length c_bd]] w (RetB w (.bool r)) := by
  refine same_any h_a h_ad h_b h_bd hB ?_
  rw [← hr]
  refine decide_eq_decide.2 ⟨fun h => ?_, fun h => by rw [h]; exact ⟨rfl, rfl, rfl⟩⟩
  have h1 := qv_eta p
  rw [h.1, h.2.1, h.2.2, qv_eta] at h1
  exact h1.symm
theorem same_t {w : World} {Bd : Nat} {A_a : Option Addr} {c_a : Nat} {A_ad : Option Addr} {c_ad : Nat} {A_b : Option Addr} {c_b : Nat} {A_bd : Option Addr} {c_bd : Nat} {p q : Rat} (h_a : Rd w Bd A_a (dig (zmag p.num)).length c_a (dig (zmag p.num))) (h_ad : Rd w Bd A_ad (dig p.den).length c_ad (dig p.den)) (h_b : Rd w Bd A_b (dig (zmag q.num)).length c_b (dig (zmag q.num))) (h_bd : Rd w Bd A_bd (dig q.den).length c_bd (dig q.den)) (hB : Bd ≤ w.heap.size) (hr : p = q) : Calls Try.prog 14 #[.agg #[.bool (zneg p.num), .slice A_a (dig (zmag p.num)).length c_a, .slice A_ad (dig p.den).length c_ad], .agg #[.bool (zneg q.num), .slice A_b (dig (zmag q.num)).length c_b, .slice A_bd (dig q.den).length c_bd]] w (RetB w (.bool true)) := same_q h_a h_ad h_b h_bd hB (decide_eq_true hr)

set_option maxHeartbeats 1000000 in
theorem large_no {w : World} {A_a A_ad : Option Addr} {n_a c_a n_ad c_ad : Nat} {s_a : Bool} (g1 : n_a ≤ 40) (g2 : n_ad ≤ 40) :
    Calls Try.prog 17 #[.agg #[.bool s_a, .slice A_a n_a c_a, .slice A_ad n_ad c_ad]] w (RetB w (.bool false)) := by
  have h1 : decide ((40 : Int) < (n_a : Int)) = false := by simp; omega
  have h2 : decide ((40 : Int) < (n_ad : Int)) = false := by simp; omega
  replace h1 := hide h1
  replace h2 := hide h2
  obtain ⟨W, hW⟩ : ∃ W, W = (w.alloc (.cells #[.bool s_a, .slice A_a n_a c_a, .slice A_ad n_ad c_ad] 27)) := ⟨_, rfl⟩
  have b_a : Box3 W (w.heap.size) (.bool s_a) (.slice A_a n_a c_a) (.slice A_ad n_ad c_ad) := by rw [hW]; exact (Box3.new w _ _ _ rfl)
  have hwW : Below w.heap.size w W := by rw [hW]; exact ((Below.refl _ _).alloc (Nat.le_refl _) _)
  have B := hide hwW
  clear hwW
  have U0 : Below W.heap.size W W := Below.refl _ _
  have c_a0 := b_a.at0 b_a.lt_size (Nat.le_refl _)
  have c_a1 := b_a.at1 b_a.lt_size (Nat.le_refl _)
  have c_a2 := b_a.at2 b_a.lt_size (Nat.le_refl _)
  replace b_a := hide b_a
  go_enter Try.func17, Try.ntmps17
  go_wp2_with fail
  rw [← hW]
  clear hW
  go_wp2
  go_ret
  exact ⟨by first | rfl | (rw [h1.out, h2.out]; rfl), B.out⟩

set_option maxHeartbeats 1000000 in
theorem large_den {w : World} {A_a A_ad : Option Addr} {n_a c_a n_ad c_ad : Nat} {s_a : Bool} (g1 : n_a ≤ 40) (g2 : ¬ n_ad ≤ 40) :
    Calls Try.prog 17 #[.agg #[.bool s_a, .slice A_a n_a c_a, .slice A_ad n_ad c_ad]] w (RetB w (.bool true)) := by
  have h1 : decide ((40 : Int) < (n_a : Int)) = false := by simp; omega
  have h2 : decide ((40 : Int) < (n_ad : Int)) = true := by simp; omega
  replace h1 := hide h1
  replace h2 := hide h2
  obtain ⟨W, hW⟩ : ∃ W, W = (w.alloc (.cells #[.bool s_a, .slice A_a n_a c_a, .slice A_ad n_ad c_ad] 27)) := ⟨_, rfl⟩
  have b_a : Box3 W (w.heap.size) (.bool s_a) (.slice A_a n_a c_a) (.slice A_ad n_ad c_ad) := by rw [hW]; exact (Box3.new w _ _ _ rfl)
  have hwW : Below w.heap.size w W := by rw [hW]; exact ((Below.refl _ _).alloc (Nat.le_refl _) _)
  have B := hide hwW
  clear hwW
  have U0 : Below W.heap.size W W := Below.refl _ _
  have c_a0 := b_a.at0 b_a.lt_size (Nat.le_refl _)
  have c_a1 := b_a.at1 b_a.lt_size (Nat.le_refl _)
  have c_a2 := b_a.at2 b_a.lt_size (Nat.le_refl _)
  replace b_a := hide b_a
  go_enter Try.func17, Try.ntmps17
  go_wp2_with fail
  rw [← hW]
  clear hW
  go_wp2
  go_ret
  exact ⟨by first | rfl | (rw [h1.out, h2.out]; rfl), B.out⟩

set_option maxHeartbeats 1000000 in
theorem large_num {w : World} {A_a A_ad : Option Addr} {n_a c_a n_ad c_ad : Nat} {s_a : Bool} (g1 : ¬ n_a ≤ 40) :
    Calls Try.prog 17 #[.agg #[.bool s_a, .slice A_a n_a c_a, .slice A_ad n_ad c_ad]] w (RetB w (.bool true)) := by
  have h1 : decide ((40 : Int) < (n_a : Int)) = true := by simp; omega
  replace h1 := hide h1
  obtain ⟨W, hW⟩ : ∃ W, W = (w.alloc (.cells #[.bool s_a, .slice A_a n_a c_a, .slice A_ad n_ad c_ad] 27)) := ⟨_, rfl⟩
  have b_a : Box3 W (w.heap.size) (.bool s_a) (.slice A_a n_a c_a) (.slice A_ad n_ad c_ad) := by rw [hW]; exact (Box3.new w _ _ _ rfl)
  have hwW : Below w.heap.size w W := by rw [hW]; exact ((Below.refl _ _).alloc (Nat.le_refl _) _)
  have B := hide hwW
  clear hwW
  have U0 : Below W.heap.size W W := Below.refl _ _
  have c_a0 := b_a.at0 b_a.lt_size (Nat.le_refl _)
  have c_a1 := b_a.at1 b_a.lt_size (Nat.le_refl _)
  have c_a2 := b_a.at2 b_a.lt_size (Nat.le_refl _)
  replace b_a := hide b_a
  go_enter Try.func17, Try.ntmps17
  go_wp2_with fail
  rw [← hW]
  clear hW
  go_wp2
  go_ret
  exact ⟨by first | rfl | (rw [h1.out]; rfl), B.out⟩

end Go.Proofs.Ytieopcchchebgaa
