/-
  Rat3, Rat4.
-/
import Derived.Test.YtdihgmbldnekhaaRatA
namespace Go.Proofs.Ytdihgmbldnekhaa
section
open Go.RowKit


theorem qv_div (s s' : Bool) (m d : Nat) : qv (!(s == s')) m d = Rat.divInt (iv s m) (iv s' d) := by
  unfold qv
  cases s'
  · rw [iv_false, Rat.divInt_ofNat]; cases s <;> rfl
  · rw [iv_true, Rat.divInt_neg', Rat.divInt_ofNat, ← iv_not]; cases s <;> rfl
/-- the absolute value -/
def qabs (q : Rat) : Rat := if q.num < 0 then -q else q
theorem qabs_qv (s : Bool) (m d : Nat) : qabs (qv s m d) = qv false m d := by
  unfold qabs
  by_cases hd : d = 0
  · subst hd; rw [qv_zero, qv_zero]; rfl
  · have h := sgn_mk (a := iv s m) hd
    have h2 : (mkRat (iv s m) d).num < 0 ↔ iv s m < 0 := by rw [← sgn_neg_iff, ← sgn_neg_iff, h]
    unfold qv
    by_cases hn : iv s m < 0
    · rw [if_pos (h2.2 hn), mk_neg, ← iv_not]
      cases s
      · rw [iv_false] at hn; omega
      · rfl
    · rw [if_neg (fun h => hn (h2.1 h))]
      cases s
      · rfl
      · rw [iv_true] at hn
        obtain rfl : m = 0 := by omega
        rfl

set_option maxHeartbeats 4000000 in
theorem pmake_0 {w : World} {Bd : Nat} {A_a : Option Addr} {n_a c_a : Nat} {x_a : List Nat} {s_a : Bool} {A_b : Option Addr} {n_b c_b : Nat} {x_b : List Nat} {s_b : Bool} (h_a : Rd w Bd A_a n_a c_a x_a) (_g_a : n_a ≤ 10000000000) (h_b : Rd w Bd A_b n_b c_b x_b) (_g_b : n_b ≤ 10000000000) (hB : Bd ≤ w.heap.size) {q : Rat} (h0 : val x_b = 0) (hq : (0 : Rat) = q) :
    Calls Try.prog 71 #[.agg #[.bool s_a, .slice A_a n_a c_a], .agg #[.bool s_b, .slice A_b n_b c_b]] w (RetRatB w q false) := by
  have hp : sgn (iv s_b (val x_b)) = 0 := by rw [h0, iv_zero, sgn_zero]
  replace hp := hide hp
  replace hq := hide hq
  clear h0
  obtain ⟨W, hW⟩ : ∃ W, W = (((w.alloc (.cells #[.bool s_a, .slice A_a n_a c_a] 25)).alloc (.cells #[.bool s_b, .slice A_b n_b c_b] 25)).alloc (.cells #[.bool false, .slice none 0 0, .slice none 0 0] 27)) := ⟨_, rfl⟩
  have b_a : Box W (w.heap.size) (.bool s_a) (.slice A_a n_a c_a) := by rw [hW]; exact (((Box.new w _ _ rfl).al _).al _)
  have b_b : Box W (w.heap.size + 1) (.bool s_b) (.slice A_b n_b c_b) := by rw [hW]; exact ((Box.new _ _ _ (by simp)).al _)
  have b_r0 : Box3 W (w.heap.size + 1 + 1) (.bool false) (.slice none 0 0) (.slice none 0 0) := by rw [hW]; exact (Box3.new _ _ _ _ (by simp))
  have hwW : Below w.heap.size w W := by rw [hW]; exact ((((Below.refl _ _).alloc (Nat.le_refl _) _).alloc (by simp) _).alloc (by simp; omega) _)
  have R_a := hide (Rd.upto h_a hwW hB)
  clear h_a
  have R_b := hide (Rd.upto h_b hwW hB)
  clear h_b
  have B := hide hwW
  clear hwW
  clear hB
  have U0 : Below W.heap.size W W := Below.refl _ _
  have c_a0 := b_a.at0 b_a.lt_size (Nat.le_refl _)
  have c_a1 := b_a.at1 b_a.lt_size (Nat.le_refl _)
  replace b_a := hide b_a
  have c_b0 := b_b.at0 b_b.lt_size (Nat.le_refl _)
  have c_b1 := b_b.at1 b_b.lt_size (Nat.le_refl _)
  replace b_b := hide b_b
  have c_r00 := b_r0.at0 b_r0.lt_size (Nat.le_refl _)
  have c_r01 := b_r0.at1 b_r0.lt_size (Nat.le_refl _)
  have c_r02 := b_r0.at2 b_r0.lt_size (Nat.le_refl _)
  have f_r00 := b_r0.free0 b_r0.lt_size (Nat.le_refl _)
  have f_r01 := b_r0.free1 b_r0.lt_size (Nat.le_refl _)
  have f_r02 := b_r0.free2 b_r0.lt_size (Nat.le_refl _)
  have l_r0 := b_r0.lt b_r0.lt_size (Nat.le_refl _)
  replace b_r0 := hide b_r0
  go_enter Try.func71, Try.ntmps71
  go_wp2_with fail
  rw [← hW]
  clear hW
  refine (isign_any _ _ _ _ _ _ _ R_b.out (Nat.le_refl _)).mono ?_
  rw [hp.out]
  rintro e w1 ⟨rfl, hb⟩
  replace R_a := hide (Rd.then_ R_a.out hb)
  replace R_b := hide (Rd.then_ R_b.out hb)
  have U1 : Below W.heap.size W w1 := Below.then_ U0 hb
  replace B := hide (Below.then_ B.out hb)
  clear hb
  go_wp2_with fail
  refine (zero_any hq.out).mono ?_
  rintro e w2 ⟨A_q, c_q, A_qd, c_qd, rfl, R_q, R_qd, hb⟩
  replace R_a := hide (Rd.then_ R_a.out hb)
  replace R_b := hide (Rd.then_ R_b.out hb)
  have U2 : Below W.heap.size W w2 := Below.then_ U1 hb
  replace B := hide (Below.then_ B.out hb)
  replace R_q := hide R_q
  replace R_qd := hide R_qd
  clear hb
  go_wp2
  exact bodyPost_ret (v := .tuple #[.agg #[.bool (zneg q.num), .slice A_q (dig (zmag q.num)).length c_q, .slice A_qd (dig q.den).length c_qd], .bool false]) (by simp [results, Try.results71, go_sem, c_r00 _ U2, c_r01 _ U2, c_r02 _ U2]) rfl (RetRatB.box B.out (by omega) (c_r00 _ U2) (c_r01 _ U2) (c_r02 _ U2) R_q.out R_qd.out)

set_option maxHeartbeats 4000000 in
theorem pmake_1 {w : World} {Bd : Nat} {A_a : Option Addr} {n_a c_a : Nat} {x_a : List Nat} {s_a : Bool} {A_b : Option Addr} {n_b c_b : Nat} {x_b : List Nat} {s_b : Bool} (h_a : Rd w Bd A_a n_a c_a x_a) (g_a : n_a ≤ 10000000000) (h_b : Rd w Bd A_b n_b c_b x_b) (g_b : n_b ≤ 10000000000) (hB : Bd ≤ w.heap.size) {q : Rat} (h0 : val x_b ≠ 0) (hq : qv (!(s_a == s_b)) (val x_a) (val x_b) = q) :
    Calls Try.prog 71 #[.agg #[.bool s_a, .slice A_a n_a c_a], .agg #[.bool s_b, .slice A_b n_b c_b]] w (RetRatB w q true) := by
  obtain ⟨p, hp⟩ : ∃ p, sgn (iv s_b (val x_b)) = p := ⟨_, rfl⟩
  have hp0 : (p == 0) = false := by have := sgn_iv s_b h0; rw [hp] at this; rw [this]; cases s_b <;> rfl
  replace hp := hide hp
  replace hq := hide hq
  clear h0
  obtain ⟨W, hW⟩ : ∃ W, W = (((w.alloc (.cells #[.bool s_a, .slice A_a n_a c_a] 25)).alloc (.cells #[.bool s_b, .slice A_b n_b c_b] 25)).alloc (.cells #[.bool false, .slice none 0 0, .slice none 0 0] 27)) := ⟨_, rfl⟩
  have b_a : Box W (w.heap.size) (.bool s_a) (.slice A_a n_a c_a) := by rw [hW]; exact (((Box.new w _ _ rfl).al _).al _)
  have b_b : Box W (w.heap.size + 1) (.bool s_b) (.slice A_b n_b c_b) := by rw [hW]; exact ((Box.new _ _ _ (by simp)).al _)
  have b_r0 : Box3 W (w.heap.size + 1 + 1) (.bool false) (.slice none 0 0) (.slice none 0 0) := by rw [hW]; exact (Box3.new _ _ _ _ (by simp))
  have hwW : Below w.heap.size w W := by rw [hW]; exact ((((Below.refl _ _).alloc (Nat.le_refl _) _).alloc (by simp) _).alloc (by simp; omega) _)
  have R_a := hide (Rd.upto h_a hwW hB)
  clear h_a
  have R_b := hide (Rd.upto h_b hwW hB)
  clear h_b
  have B := hide hwW
  clear hwW
  clear hB
  have U0 : Below W.heap.size W W := Below.refl _ _
  have c_a0 := b_a.at0 b_a.lt_size (Nat.le_refl _)
  have c_a1 := b_a.at1 b_a.lt_size (Nat.le_refl _)
  replace b_a := hide b_a
  have c_b0 := b_b.at0 b_b.lt_size (Nat.le_refl _)
  have c_b1 := b_b.at1 b_b.lt_size (Nat.le_refl _)
  replace b_b := hide b_b
  have c_r00 := b_r0.at0 b_r0.lt_size (Nat.le_refl _)
  have c_r01 := b_r0.at1 b_r0.lt_size (Nat.le_refl _)
  have c_r02 := b_r0.at2 b_r0.lt_size (Nat.le_refl _)
  have f_r00 := b_r0.free0 b_r0.lt_size (Nat.le_refl _)
  have f_r01 := b_r0.free1 b_r0.lt_size (Nat.le_refl _)
  have f_r02 := b_r0.free2 b_r0.lt_size (Nat.le_refl _)
  have l_r0 := b_r0.lt b_r0.lt_size (Nat.le_refl _)
  replace b_r0 := hide b_r0
  go_enter Try.func71, Try.ntmps71
  go_wp2_with fail
  rw [← hW]
  clear hW
  refine (isign_any _ _ _ _ _ _ _ R_b.out (Nat.le_refl _)).mono ?_
  rw [hp.out]
  rintro e w1 ⟨rfl, hb⟩
  replace R_a := hide (Rd.then_ R_a.out hb)
  replace R_b := hide (Rd.then_ R_b.out hb)
  have U1 : Below W.heap.size W w1 := Below.then_ U0 hb
  replace B := hide (Below.then_ B.out hb)
  clear hb
  go_wp2_with fail
  refine (reduced_any R_a.out g_a R_b.out g_b (Nat.le_refl _) hq.out).mono ?_
  rintro e w2 ⟨A_q, c_q, A_qd, c_qd, rfl, R_q, R_qd, hb⟩
  replace R_a := hide (Rd.then_ R_a.out hb)
  replace R_b := hide (Rd.then_ R_b.out hb)
  have U2 : Below W.heap.size W w2 := Below.then_ U1 hb
  replace B := hide (Below.then_ B.out hb)
  replace R_q := hide R_q
  replace R_qd := hide R_qd
  clear hb
  go_wp2
  exact bodyPost_ret (v := .tuple #[.agg #[.bool (zneg q.num), .slice A_q (dig (zmag q.num)).length c_q, .slice A_qd (dig q.den).length c_qd], .bool true]) (by simp [results, Try.results71, go_sem, c_r00 _ U2, c_r01 _ U2, c_r02 _ U2]) rfl (RetRatB.box B.out (by omega) (c_r00 _ U2) (c_r01 _ U2) (c_r02 _ U2) R_q.out R_qd.out)

theorem pmake_any {w : World} {Bd : Nat} {A_a : Option Addr} {n_a c_a : Nat} {x_a : List Nat} {s_a : Bool} {A_b : Option Addr} {n_b c_b : Nat} {x_b : List Nat} {s_b : Bool} (h_a : Rd w Bd A_a n_a c_a x_a) (g_a : n_a ≤ 10000000000) (h_b : Rd w Bd A_b n_b c_b x_b) (g_b : n_b ≤ 10000000000) (hB : Bd ≤ w.heap.size) {q : Rat} {ok : Bool} (hq : Rat.divInt (iv s_a (val x_a)) (iv s_b (val x_b)) = q) (hok : decide (iv s_b (val x_b) ≠ 0) = ok) :
    Calls Try.prog 71 #[.agg #[.bool s_a, .slice A_a n_a c_a], .agg #[.bool s_b, .slice A_b n_b c_b]] w (RetRatB w q ok) := by
  by_cases h0 : val x_b = 0
  · rw [h0, iv_zero] at hq hok
    rw [← hok]
    exact pmake_0 h_a g_a h_b g_b hB h0 (by rw [← hq, Rat.divInt_zero])
  · have h1 : iv s_b (val x_b) ≠ 0 := fun h => h0 (by have := congrArg zmag h; rw [zmag_iv] at this; exact this)
    rw [decide_eq_true h1] at hok
    subst hok
    exact pmake_1 h_a g_a h_b g_b hB h0 (by rw [← hq, qv_div])

set_option maxHeartbeats 4000000 in
theorem pof_any {w : World} {x y : Int}  {q : Rat} {ok : Bool} (hx0 : -9223372036854775808 ≤ x) (hx1 : x ≤ 9223372036854775807) (hy0 : -9223372036854775808 ≤ y) (hy1 : y ≤ 9223372036854775807) (hq : Rat.divInt x y = q) (hok : decide (y ≠ 0) = ok) :
    Calls Try.prog 38 #[.int .i64 x, .int .i64 y] w (RetRatB w q ok) := by
  have e_q : Rat.divInt (iv (zneg x) (val (dig (zmag x)))) (iv (zneg y) (val (dig (zmag y)))) = q := by rw [ivz, ivz]; exact hq
  have e_ok : decide (iv (zneg y) (val (dig (zmag y))) ≠ 0) = ok := by rw [ivz]; exact hok
  have lx : (dig (zmag x)).length ≤ 10000000000 := zl (pw_le (i := 3) (by omega) (by unfold zmag; simp only [pw]; omega))
  have ly : (dig (zmag y)).length ≤ 10000000000 := zl (pw_le (i := 3) (by omega) (by unfold zmag; simp only [pw]; omega))
  clear hq hok
  replace e_q := hide e_q
  replace e_ok := hide e_ok
  replace lx := hide lx
  replace ly := hide ly
  replace hx0 := hide hx0
  replace hx1 := hide hx1
  replace hy0 := hide hy0
  replace hy1 := hide hy1
  obtain ⟨W, hW⟩ : ∃ W, W = (w.alloc (.cells #[.bool false, .slice none 0 0, .slice none 0 0] 27)) := ⟨_, rfl⟩
  have b_r0 : Box3 W (w.heap.size) (.bool false) (.slice none 0 0) (.slice none 0 0) := by rw [hW]; exact (Box3.new w _ _ _ rfl)
  have hwW : Below w.heap.size w W := by rw [hW]; exact ((Below.refl _ _).alloc (Nat.le_refl _) _)
  have B := hide hwW
  clear hwW
  have U0 : Below W.heap.size W W := Below.refl _ _
  have c_r00 := b_r0.at0 b_r0.lt_size (Nat.le_refl _)
  have c_r01 := b_r0.at1 b_r0.lt_size (Nat.le_refl _)
  have c_r02 := b_r0.at2 b_r0.lt_size (Nat.le_refl _)
  have f_r00 := b_r0.free0 b_r0.lt_size (Nat.le_refl _)
  have f_r01 := b_r0.free1 b_r0.lt_size (Nat.le_refl _)
  have f_r02 := b_r0.free2 b_r0.lt_size (Nat.le_refl _)
  have l_r0 := b_r0.lt b_r0.lt_size (Nat.le_refl _)
  replace b_r0 := hide b_r0
  go_enter Try.func38, Try.ntmps38
  go_wp2_with fail
  rw [← hW]
  clear hW
  refine (iof_any _ _ hx0.out hx1.out).mono ?_
  rintro e w1 ⟨A_x, c_x, rfl, R_x, hb⟩
  have U1 : Below W.heap.size W w1 := Below.then_ U0 hb
  replace B := hide (Below.then_ B.out hb)
  replace R_x := hide R_x
  clear hb
  go_wp2_with fail
  refine (iof_any _ _ hy0.out hy1.out).mono ?_
  rintro e w2 ⟨A_y, c_y, rfl, R_y, hb⟩
  replace R_x := hide (Rd.then_ R_x.out hb)
  have U2 : Below W.heap.size W w2 := Below.then_ U1 hb
  replace B := hide (Below.then_ B.out hb)
  replace R_y := hide R_y
  clear hb
  go_wp2_with fail
  refine (pmake_any R_x.out lx.out R_y.out ly.out (Nat.le_refl _) e_q.out e_ok.out).mono ?_
  rintro e w3 ⟨A_q, c_q, A_qd, c_qd, rfl, R_q, R_qd, hb⟩
  replace R_x := hide (Rd.then_ R_x.out hb)
  replace R_y := hide (Rd.then_ R_y.out hb)
  have U3 : Below W.heap.size W w3 := Below.then_ U2 hb
  replace B := hide (Below.then_ B.out hb)
  replace R_q := hide R_q
  replace R_qd := hide R_qd
  clear hb
  go_wp2
  exact bodyPost_ret (v := .tuple #[.agg #[.bool (zneg q.num), .slice A_q (dig (zmag q.num)).length c_q, .slice A_qd (dig q.den).length c_qd], .bool ok]) (by simp [results, Try.results38, go_sem, c_r00 _ U3, c_r01 _ U3, c_r02 _ U3]) rfl (RetRatB.box B.out (by omega) (c_r00 _ U3) (c_r01 _ U3) (c_r02 _ U3) R_q.out R_qd.out)

set_option maxHeartbeats 4000000 in
theorem pnorm_any {w : World} {Bd : Nat} {A_a : Option Addr} {n_a c_a : Nat} {x_a : List Nat} {s_a : Bool} {A_ad : Option Addr} {n_ad c_ad : Nat} {x_ad : List Nat} (h_a : Rd w Bd A_a n_a c_a x_a) (g_a : n_a ≤ 10000000000) (h_ad : Rd w Bd A_ad n_ad c_ad x_ad) (g_ad : n_ad ≤ 10000000000) (hB : Bd ≤ w.heap.size) {q : Rat} (hq : qv s_a (val x_a) (val x_ad) = q) :
    Calls Try.prog 78 #[.agg #[.bool s_a, .slice A_a n_a c_a, .slice A_ad n_ad c_ad]] w (RetRat w q) := by
  replace hq := hide hq
  obtain ⟨W, hW⟩ : ∃ W, W = ((w.alloc (.cells #[.bool s_a, .slice A_a n_a c_a, .slice A_ad n_ad c_ad] 27)).alloc (.cells #[.bool false, .slice none 0 0, .slice none 0 0] 27)) := ⟨_, rfl⟩
  have b_a : Box3 W (w.heap.size) (.bool s_a) (.slice A_a n_a c_a) (.slice A_ad n_ad c_ad) := by rw [hW]; exact ((Box3.new w _ _ _ rfl).al _)
  have b_r0 : Box3 W (w.heap.size + 1) (.bool false) (.slice none 0 0) (.slice none 0 0) := by rw [hW]; exact (Box3.new _ _ _ _ (by simp))
  have hwW : Below w.heap.size w W := by rw [hW]; exact (((Below.refl _ _).alloc (Nat.le_refl _) _).alloc (by simp) _)
  have R_a := hide (Rd.upto h_a hwW hB)
  clear h_a
  have R_ad := hide (Rd.upto h_ad hwW hB)
  clear h_ad
  have B := hide hwW
  clear hwW
  clear hB
  have U0 : Below W.heap.size W W := Below.refl _ _
  have c_a0 := b_a.at0 b_a.lt_size (Nat.le_refl _)
  have c_a1 := b_a.at1 b_a.lt_size (Nat.le_refl _)
  have c_a2 := b_a.at2 b_a.lt_size (Nat.le_refl _)
  replace b_a := hide b_a
  have c_r00 := b_r0.at0 b_r0.lt_size (Nat.le_refl _)
  have c_r01 := b_r0.at1 b_r0.lt_size (Nat.le_refl _)
  have c_r02 := b_r0.at2 b_r0.lt_size (Nat.le_refl _)
  have f_r00 := b_r0.free0 b_r0.lt_size (Nat.le_refl _)
  have f_r01 := b_r0.free1 b_r0.lt_size (Nat.le_refl _)
  have f_r02 := b_r0.free2 b_r0.lt_size (Nat.le_refl _)
  have l_r0 := b_r0.lt b_r0.lt_size (Nat.le_refl _)
  replace b_r0 := hide b_r0
  go_enter Try.func78, Try.ntmps78
  go_wp2_with fail
  rw [← hW]
  clear hW
  refine (reduced_any R_a.out g_a R_ad.out g_ad (Nat.le_refl _) hq.out).mono ?_
  rintro e w1 ⟨A_q, c_q, A_qd, c_qd, rfl, R_q, R_qd, hb⟩
  replace R_a := hide (Rd.then_ R_a.out hb)
  replace R_ad := hide (Rd.then_ R_ad.out hb)
  have U1 : Below W.heap.size W w1 := Below.then_ U0 hb
  replace B := hide (Below.then_ B.out hb)
  replace R_q := hide R_q
  replace R_qd := hide R_qd
  clear hb
  go_wp2
  exact bodyPost_ret (v := .agg #[.bool (zneg q.num), .slice A_q (dig (zmag q.num)).length c_q, .slice A_qd (dig q.den).length c_qd]) (by simp [results, Try.results78, go_sem, c_r00 _ U1, c_r01 _ U1, c_r02 _ U1]) rfl (RetRat.box B.out (by omega) (c_r00 _ U1) (c_r01 _ U1) (c_r02 _ U1) R_q.out R_qd.out)

set_option maxHeartbeats 4000000 in
theorem pcmp_any {w : World} {Bd : Nat} {A_a : Option Addr} {n_a c_a : Nat} {x_a : List Nat} {s_a : Bool} {A_ad : Option Addr} {n_ad c_ad : Nat} {x_ad : List Nat} {A_b : Option Addr} {n_b c_b : Nat} {x_b : List Nat} {s_b : Bool} {A_bd : Option Addr} {n_bd c_bd : Nat} {x_bd : List Nat} (h_a : Rd w Bd A_a n_a c_a x_a) (g_a : n_a ≤ 1000000000) (h_ad : Rd w Bd A_ad n_ad c_ad x_ad) (g_ad : n_ad ≤ 1000000000) (h_b : Rd w Bd A_b n_b c_b x_b) (g_b : n_b ≤ 1000000000) (h_bd : Rd w Bd A_bd n_bd c_bd x_bd) (g_bd : n_bd ≤ 1000000000) (hB : Bd ≤ w.heap.size) {k : Int} (hk : sgn (qv s_a (val x_a) (val x_ad) - qv s_b (val x_b) (val x_bd)).num = k) :
    Calls Try.prog 19 #[.agg #[.bool s_a, .slice A_a n_a c_a, .slice A_ad n_ad c_ad], .agg #[.bool s_b, .slice A_b n_b c_b, .slice A_bd n_bd c_bd]] w (RetB w (.int .i64 k)) := by
  replace hk := hide hk
  obtain ⟨W, hW⟩ : ∃ W, W = ((w.alloc (.cells #[.bool s_a, .slice A_a n_a c_a, .slice A_ad n_ad c_ad] 27)).alloc (.cells #[.bool s_b, .slice A_b n_b c_b, .slice A_bd n_bd c_bd] 27)) := ⟨_, rfl⟩
  have b_a : Box3 W (w.heap.size) (.bool s_a) (.slice A_a n_a c_a) (.slice A_ad n_ad c_ad) := by rw [hW]; exact ((Box3.new w _ _ _ rfl).al _)
  have b_b : Box3 W (w.heap.size + 1) (.bool s_b) (.slice A_b n_b c_b) (.slice A_bd n_bd c_bd) := by rw [hW]; exact (Box3.new _ _ _ _ (by simp))
  have hwW : Below w.heap.size w W := by rw [hW]; exact (((Below.refl _ _).alloc (Nat.le_refl _) _).alloc (by simp) _)
  have R_a := hide (Rd.upto h_a hwW hB)
  clear h_a
  have R_ad := hide (Rd.upto h_ad hwW hB)
  clear h_ad
  have R_b := hide (Rd.upto h_b hwW hB)
  clear h_b
  have R_bd := hide (Rd.upto h_bd hwW hB)
  clear h_bd
  have B := hide hwW
  clear hwW
  clear hB
  have U0 : Below W.heap.size W W := Below.refl _ _
  have c_a0 := b_a.at0 b_a.lt_size (Nat.le_refl _)
  have c_a1 := b_a.at1 b_a.lt_size (Nat.le_refl _)
  have c_a2 := b_a.at2 b_a.lt_size (Nat.le_refl _)
  replace b_a := hide b_a
  have c_b0 := b_b.at0 b_b.lt_size (Nat.le_refl _)
  have c_b1 := b_b.at1 b_b.lt_size (Nat.le_refl _)
  have c_b2 := b_b.at2 b_b.lt_size (Nat.le_refl _)
  replace b_b := hide b_b
  go_enter Try.func19, Try.ntmps19
  go_wp2_with fail
  rw [← hW]
  clear hW
  refine (parts_any R_a.out g_a R_ad.out g_ad (Nat.le_refl _) rfl).mono ?_
  rintro e w1 ⟨s_1, A_1, n_1, c_1, x_1, A_2, n_2, c_2, x_2, rfl, R_1, R_2, g_1, g_2, h_2, q_1, hb⟩
  replace R_a := hide (Rd.then_ R_a.out hb)
  replace R_ad := hide (Rd.then_ R_ad.out hb)
  replace R_b := hide (Rd.then_ R_b.out hb)
  replace R_bd := hide (Rd.then_ R_bd.out hb)
  have U1 : Below W.heap.size W w1 := Below.then_ U0 hb
  replace B := hide (Below.then_ B.out hb)
  replace R_1 := hide R_1
  replace R_2 := hide R_2
  replace h_2 := hide h_2
  replace q_1 := hide q_1
  clear hb
  have hbx : Below w1.heap.size w1 (w1.alloc (.cells #[.bool s_1, .slice A_1 n_1 c_1] 25)) := ((Below.refl _ _).alloc (Nat.le_refl _) _)
  have Ux := Below.then_ U1 hbx
  go_wp2_with fail
  obtain ⟨V1, hV⟩ : ∃ V, V = (w1.alloc (.cells #[.bool s_1, .slice A_1 n_1 c_1] 25)) := ⟨_, rfl⟩
  obtain ⟨g_1, hg_1⟩ : ∃ g, g = w1.heap.size := ⟨_, rfl⟩
  rw [← hV]
  rw [← hV] at hbx Ux
  rw [← hg_1]
  have b_1 : Box V1 g_1 (.bool s_1) (.slice A_1 n_1 c_1) := by rw [hV]; exact (Box.new _ _ _ hg_1)
  clear hV
  have ne_a_1 : w.heap.size ≠ g_1 := by have := (b_a.out.lt b_a.out.lt_size (Nat.le_refl _)) _ U1; omega
  replace ne_a_1 := hide ne_a_1
  have ne_b_1 : w.heap.size + 1 ≠ g_1 := by have := (b_b.out.lt b_b.out.lt_size (Nat.le_refl _)) _ U1; omega
  replace ne_b_1 := hide ne_b_1
  have ge_1 : w.heap.size ≤ g_1 := by have := B.out.size; omega
  replace ge_1 := hide ge_1
  clear hg_1
  replace R_a := hide (Rd.then_ R_a.out hbx)
  replace R_ad := hide (Rd.then_ R_ad.out hbx)
  replace R_b := hide (Rd.then_ R_b.out hbx)
  replace R_bd := hide (Rd.then_ R_bd.out hbx)
  replace R_1 := hide (Rd.then_ R_1.out hbx)
  replace R_2 := hide (Rd.then_ R_2.out hbx)
  have U2 : Below W.heap.size W V1 := Below.then_ U1 hbx
  replace B := hide (Below.then_ B.out hbx)
  clear hbx
  replace b_a := hide (Box3.keep b_a.out U2)
  clear c_a0 c_a1 c_a2
  replace b_b := hide (Box3.keep b_b.out U2)
  clear c_b0 c_b1 c_b2
  replace b_1 := hide b_1
  have U3 : Below V1.heap.size V1 V1 := Below.refl _ _
  have c_a0 := b_a.out.at0 b_a.out.lt_size (Nat.le_refl _)
  have c_a1 := b_a.out.at1 b_a.out.lt_size (Nat.le_refl _)
  have c_a2 := b_a.out.at2 b_a.out.lt_size (Nat.le_refl _)
  have c_b0 := b_b.out.at0 b_b.out.lt_size (Nat.le_refl _)
  have c_b1 := b_b.out.at1 b_b.out.lt_size (Nat.le_refl _)
  have c_b2 := b_b.out.at2 b_b.out.lt_size (Nat.le_refl _)
  have c_10 := b_1.out.at0 b_1.out.lt_size (Nat.le_refl _)
  have c_11 := b_1.out.at1 b_1.out.lt_size (Nat.le_refl _)
  refine (parts_any R_b.out g_b R_bd.out g_bd (Nat.le_refl _) rfl).mono ?_
  rintro e w2 ⟨s_3, A_3, n_3, c_3, x_3, A_4, n_4, c_4, x_4, rfl, R_3, R_4, g_3, g_4, h_4, q_3, hb⟩
  replace R_a := hide (Rd.then_ R_a.out hb)
  replace R_ad := hide (Rd.then_ R_ad.out hb)
  replace R_b := hide (Rd.then_ R_b.out hb)
  replace R_bd := hide (Rd.then_ R_bd.out hb)
  replace R_1 := hide (Rd.then_ R_1.out hb)
  replace R_2 := hide (Rd.then_ R_2.out hb)
  have U4 : Below V1.heap.size V1 w2 := Below.then_ U3 hb
  replace B := hide (Below.then_ B.out hb)
  replace R_3 := hide R_3
  replace R_4 := hide R_4
  replace h_4 := hide h_4
  replace q_3 := hide q_3
  clear hb
  have hbx : Below w2.heap.size w2 (w2.alloc (.cells #[.bool s_3, .slice A_3 n_3 c_3] 25)) := ((Below.refl _ _).alloc (Nat.le_refl _) _)
  have Ux := Below.then_ U4 hbx
  go_wp2_with fail
  obtain ⟨V4, hV⟩ : ∃ V, V = (w2.alloc (.cells #[.bool s_3, .slice A_3 n_3 c_3] 25)) := ⟨_, rfl⟩
  obtain ⟨g_3, hg_3⟩ : ∃ g, g = w2.heap.size := ⟨_, rfl⟩
  rw [← hV]
  rw [← hV] at hbx Ux
  rw [← hg_3]
  have b_3 : Box V4 g_3 (.bool s_3) (.slice A_3 n_3 c_3) := by rw [hV]; exact (Box.new _ _ _ hg_3)
  clear hV
  have ne_a_3 : w.heap.size ≠ g_3 := by have := (b_a.out.lt b_a.out.lt_size (Nat.le_refl _)) _ U4; omega
  replace ne_a_3 := hide ne_a_3
  have ne_b_3 : w.heap.size + 1 ≠ g_3 := by have := (b_b.out.lt b_b.out.lt_size (Nat.le_refl _)) _ U4; omega
  replace ne_b_3 := hide ne_b_3
  have ne_1_3 : g_1 ≠ g_3 := by have := (b_1.out.lt b_1.out.lt_size (Nat.le_refl _)) _ U4; omega
  replace ne_1_3 := hide ne_1_3
  have ge_3 : w.heap.size ≤ g_3 := by have := B.out.size; omega
  replace ge_3 := hide ge_3
  clear hg_3
  replace R_a := hide (Rd.then_ R_a.out hbx)
  replace R_ad := hide (Rd.then_ R_ad.out hbx)
  replace R_b := hide (Rd.then_ R_b.out hbx)
  replace R_bd := hide (Rd.then_ R_bd.out hbx)
  replace R_1 := hide (Rd.then_ R_1.out hbx)
  replace R_2 := hide (Rd.then_ R_2.out hbx)
  replace R_3 := hide (Rd.then_ R_3.out hbx)
  replace R_4 := hide (Rd.then_ R_4.out hbx)
  have U5 : Below V1.heap.size V1 V4 := Below.then_ U4 hbx
  replace B := hide (Below.then_ B.out hbx)
  clear hbx
  replace b_a := hide (Box3.keep b_a.out U5)
  clear c_a0 c_a1 c_a2
  replace b_b := hide (Box3.keep b_b.out U5)
  clear c_b0 c_b1 c_b2
  replace b_1 := hide (Box.keep b_1.out U5)
  clear c_10 c_11
  replace b_3 := hide b_3
  have U6 : Below V4.heap.size V4 V4 := Below.refl _ _
  have c_a0 := b_a.out.at0 b_a.out.lt_size (Nat.le_refl _)
  have c_a1 := b_a.out.at1 b_a.out.lt_size (Nat.le_refl _)
  have c_a2 := b_a.out.at2 b_a.out.lt_size (Nat.le_refl _)
  have c_b0 := b_b.out.at0 b_b.out.lt_size (Nat.le_refl _)
  have c_b1 := b_b.out.at1 b_b.out.lt_size (Nat.le_refl _)
  have c_b2 := b_b.out.at2 b_b.out.lt_size (Nat.le_refl _)
  have c_10 := b_1.out.at0 b_1.out.lt_size (Nat.le_refl _)
  have c_11 := b_1.out.at1 b_1.out.lt_size (Nat.le_refl _)
  have c_30 := b_3.out.at0 b_3.out.lt_size (Nat.le_refl _)
  have c_31 := b_3.out.at1 b_3.out.lt_size (Nat.le_refl _)
  obtain ⟨z1, e_z1⟩ : ∃ v, iv s_1 (val x_1) * (val x_4 : Int) = v := ⟨_, rfl⟩
  replace e_z1 := hide e_z1
  have l_z1 : zmag z1 < pw (n_1 + n_4) := by rw [← e_z1.out]; exact zl_mul (zl_iv R_1.out.lt) (zl_nat R_4.out.lt)
  replace l_z1 := hide l_z1
  obtain ⟨z3, e_z3⟩ : ∃ v, iv s_3 (val x_3) * (val x_2 : Int) = v := ⟨_, rfl⟩
  replace e_z3 := hide e_z3
  have l_z3 : zmag z3 < pw (n_3 + n_2) := by rw [← e_z3.out]; exact zl_mul (zl_iv R_3.out.lt) (zl_nat R_2.out.lt)
  replace l_z3 := hide l_z3
  have g14 : n_1 + n_4 ≤ 70368744177664 := by omega
  replace g14 := hide g14
  have g32 : n_3 + n_2 ≤ 70368744177664 := by omega
  replace g32 := hide g32
  have e_k : sgn (iv (zneg z1) (val (dig (zmag z1))) - iv (zneg z3) (val (dig (zmag z3)))) = k := by rw [ivz, ivz, ← hk.out, ← q_1.out, ← q_3.out]; unfold qv; rw [mk_cmp h_2.out h_4.out, e_z1.out, e_z3.out]
  replace e_k := hide e_k
  have hd := Below.drw_ V4
  replace R_a := hide (Rd.then_ R_a.out hd)
  replace R_ad := hide (Rd.then_ R_ad.out hd)
  replace R_b := hide (Rd.then_ R_b.out hd)
  replace R_bd := hide (Rd.then_ R_bd.out hd)
  replace R_1 := hide (Rd.then_ R_1.out hd)
  replace R_2 := hide (Rd.then_ R_2.out hd)
  replace R_3 := hide (Rd.then_ R_3.out hd)
  replace R_4 := hide (Rd.then_ R_4.out hd)
  have U7 : Below V4.heap.size V4 (V4.drew) := Below.then_ U6 hd
  replace B := hide (Below.then_ B.out hd)
  clear hd
  have tok1 : True := trivial
  go_region_held3 (fun w' => Below V4.heap.size V4 w') (assumption)
    (first
      | (go_at_call 63; (have _t := tok1; (with_reducible refine (times_any R_1.out (by omega) R_4.out (by omega) (Nat.le_refl _) e_z1.out).mono ?_); rintro e w3 ⟨A_z1, c_z1, rfl, R_z1, hb⟩; replace R_a := hide (Rd.then_ R_a.out hb); replace R_ad := hide (Rd.then_ R_ad.out hb); replace R_b := hide (Rd.then_ R_b.out hb); replace R_bd := hide (Rd.then_ R_bd.out hb); replace R_1 := hide (Rd.then_ R_1.out hb); replace R_2 := hide (Rd.then_ R_2.out hb); replace R_3 := hide (Rd.then_ R_3.out hb); replace R_4 := hide (Rd.then_ R_4.out hb); have U8 : Below V4.heap.size V4 w3 := Below.then_ U7 hb; replace B := hide (Below.then_ B.out hb); replace R_z1 := hide R_z1; clear hb; have tok2 : True := trivial; clear _t tok1))
      | (go_at_call 63; (have _t := tok2; (with_reducible refine (times_any R_3.out (by omega) R_2.out (by omega) (Nat.le_refl _) e_z3.out).mono ?_); rintro e w4 ⟨A_z3, c_z3, rfl, R_z3, hb⟩; replace R_a := hide (Rd.then_ R_a.out hb); replace R_ad := hide (Rd.then_ R_ad.out hb); replace R_b := hide (Rd.then_ R_b.out hb); replace R_bd := hide (Rd.then_ R_bd.out hb); replace R_1 := hide (Rd.then_ R_1.out hb); replace R_2 := hide (Rd.then_ R_2.out hb); replace R_3 := hide (Rd.then_ R_3.out hb); replace R_4 := hide (Rd.then_ R_4.out hb); replace R_z1 := hide (Rd.then_ R_z1.out hb); have U9 : Below V4.heap.size V4 w4 := Below.then_ U8 hb; replace B := hide (Below.then_ B.out hb); replace R_z3 := hide R_z3; clear hb; have tok3 : True := trivial; clear _t tok2))
      | (go_at_call 62; (have _t := tok3; (with_reducible refine (icmp_any _ _ _ _ _ _ _ _ _ _ _ _ R_z1.out R_z3.out (Nat.le_refl _)).mono ?_); rw [e_k.out]; rintro e w5 ⟨rfl, hb⟩; replace R_a := hide (Rd.then_ R_a.out hb); replace R_ad := hide (Rd.then_ R_ad.out hb); replace R_b := hide (Rd.then_ R_b.out hb); replace R_bd := hide (Rd.then_ R_bd.out hb); replace R_1 := hide (Rd.then_ R_1.out hb); replace R_2 := hide (Rd.then_ R_2.out hb); replace R_3 := hide (Rd.then_ R_3.out hb); replace R_4 := hide (Rd.then_ R_4.out hb); replace R_z1 := hide (Rd.then_ R_z1.out hb); replace R_z3 := hide (Rd.then_ R_z3.out hb); have U10 : Below V4.heap.size V4 w5 := Below.then_ U9 hb; replace B := hide (Below.then_ B.out hb); clear hb; have tok4 : True := trivial; clear _t tok3)))
  clear tok4
  go_wp2
  go_ret
  exact ⟨rfl, B.out⟩

set_option maxHeartbeats 4000000 in
theorem psign_any {w : World} {Bd : Nat} {A_a : Option Addr} {n_a c_a : Nat} {x_a : List Nat} {s_a : Bool} {A_ad : Option Addr} {n_ad c_ad : Nat} {x_ad : List Nat} (h_a : Rd w Bd A_a n_a c_a x_a) (g_a : n_a ≤ 1000000000) (h_ad : Rd w Bd A_ad n_ad c_ad x_ad) (g_ad : n_ad ≤ 1000000000) (hB : Bd ≤ w.heap.size) {k : Int} (hk : sgn (qv s_a (val x_a) (val x_ad)).num = k) :
    Calls Try.prog 39 #[.agg #[.bool s_a, .slice A_a n_a c_a, .slice A_ad n_ad c_ad]] w (RetB w (.int .i64 k)) := by
  replace hk := hide hk
  obtain ⟨W, hW⟩ : ∃ W, W = (w.alloc (.cells #[.bool s_a, .slice A_a n_a c_a, .slice A_ad n_ad c_ad] 27)) := ⟨_, rfl⟩
  have b_a : Box3 W (w.heap.size) (.bool s_a) (.slice A_a n_a c_a) (.slice A_ad n_ad c_ad) := by rw [hW]; exact (Box3.new w _ _ _ rfl)
  have hwW : Below w.heap.size w W := by rw [hW]; exact ((Below.refl _ _).alloc (Nat.le_refl _) _)
  have R_a := hide (Rd.upto h_a hwW hB)
  clear h_a
  have R_ad := hide (Rd.upto h_ad hwW hB)
  clear h_ad
  have B := hide hwW
  clear hwW
  clear hB
  have U0 : Below W.heap.size W W := Below.refl _ _
  have c_a0 := b_a.at0 b_a.lt_size (Nat.le_refl _)
  have c_a1 := b_a.at1 b_a.lt_size (Nat.le_refl _)
  have c_a2 := b_a.at2 b_a.lt_size (Nat.le_refl _)
  replace b_a := hide b_a
  go_enter Try.func39, Try.ntmps39
  go_wp2_with fail
  rw [← hW]
  clear hW
  refine (parts_any R_a.out g_a R_ad.out g_ad (Nat.le_refl _) rfl).mono ?_
  rintro e w1 ⟨s_1, A_1, n_1, c_1, x_1, A_2, n_2, c_2, x_2, rfl, R_1, R_2, g_1, g_2, h_2, q_1, hb⟩
  replace R_a := hide (Rd.then_ R_a.out hb)
  replace R_ad := hide (Rd.then_ R_ad.out hb)
  have U1 : Below W.heap.size W w1 := Below.then_ U0 hb
  replace B := hide (Below.then_ B.out hb)
  replace R_1 := hide R_1
  replace R_2 := hide R_2
  replace h_2 := hide h_2
  replace q_1 := hide q_1
  clear hb
  have hbx : Below w1.heap.size w1 (w1.alloc (.cells #[.bool s_1, .slice A_1 n_1 c_1] 25)) := ((Below.refl _ _).alloc (Nat.le_refl _) _)
  have Ux := Below.then_ U1 hbx
  go_wp2_with fail
  obtain ⟨V1, hV⟩ : ∃ V, V = (w1.alloc (.cells #[.bool s_1, .slice A_1 n_1 c_1] 25)) := ⟨_, rfl⟩
  obtain ⟨g_1, hg_1⟩ : ∃ g, g = w1.heap.size := ⟨_, rfl⟩
  rw [← hV]
  rw [← hV] at hbx Ux
  rw [← hg_1]
  have b_1 : Box V1 g_1 (.bool s_1) (.slice A_1 n_1 c_1) := by rw [hV]; exact (Box.new _ _ _ hg_1)
  clear hV
  have ne_a_1 : w.heap.size ≠ g_1 := by have := (b_a.out.lt b_a.out.lt_size (Nat.le_refl _)) _ U1; omega
  replace ne_a_1 := hide ne_a_1
  have ge_1 : w.heap.size ≤ g_1 := by have := B.out.size; omega
  replace ge_1 := hide ge_1
  clear hg_1
  replace R_a := hide (Rd.then_ R_a.out hbx)
  replace R_ad := hide (Rd.then_ R_ad.out hbx)
  replace R_1 := hide (Rd.then_ R_1.out hbx)
  replace R_2 := hide (Rd.then_ R_2.out hbx)
  have U2 : Below W.heap.size W V1 := Below.then_ U1 hbx
  replace B := hide (Below.then_ B.out hbx)
  clear hbx
  replace b_a := hide (Box3.keep b_a.out U2)
  clear c_a0 c_a1 c_a2
  replace b_1 := hide b_1
  have U3 : Below V1.heap.size V1 V1 := Below.refl _ _
  have c_a0 := b_a.out.at0 b_a.out.lt_size (Nat.le_refl _)
  have c_a1 := b_a.out.at1 b_a.out.lt_size (Nat.le_refl _)
  have c_a2 := b_a.out.at2 b_a.out.lt_size (Nat.le_refl _)
  have c_10 := b_1.out.at0 b_1.out.lt_size (Nat.le_refl _)
  have c_11 := b_1.out.at1 b_1.out.lt_size (Nat.le_refl _)
  have e_k : sgn (iv s_1 (val x_1)) = k := by rw [← hk.out, ← q_1.out]; unfold qv; rw [sgn_mk h_2.out]
  replace e_k := hide e_k
  refine (isign_any _ _ _ _ _ _ _ R_1.out (Nat.le_refl _)).mono ?_
  rw [e_k.out]
  rintro e w2 ⟨rfl, hb⟩
  replace R_a := hide (Rd.then_ R_a.out hb)
  replace R_ad := hide (Rd.then_ R_ad.out hb)
  replace R_1 := hide (Rd.then_ R_1.out hb)
  replace R_2 := hide (Rd.then_ R_2.out hb)
  have U4 : Below V1.heap.size V1 w2 := Below.then_ U3 hb
  replace B := hide (Below.then_ B.out hb)
  clear hb
  go_wp2
  go_ret
  exact ⟨rfl, B.out⟩

end

section
open Go.RowKit


set_option maxHeartbeats 4000000 in
theorem padd_any {w : World} {Bd : Nat} {A_a : Option Addr} {n_a c_a : Nat} {x_a : List Nat} {s_a : Bool} {A_ad : Option Addr} {n_ad c_ad : Nat} {x_ad : List Nat} {A_b : Option Addr} {n_b c_b : Nat} {x_b : List Nat} {s_b : Bool} {A_bd : Option Addr} {n_bd c_bd : Nat} {x_bd : List Nat} (h_a : Rd w Bd A_a n_a c_a x_a) (g_a : n_a ≤ 1000000000) (h_ad : Rd w Bd A_ad n_ad c_ad x_ad) (g_ad : n_ad ≤ 1000000000) (h_b : Rd w Bd A_b n_b c_b x_b) (g_b : n_b ≤ 1000000000) (h_bd : Rd w Bd A_bd n_bd c_bd x_bd) (g_bd : n_bd ≤ 1000000000) (hB : Bd ≤ w.heap.size) {q : Rat} (hq : qv s_a (val x_a) (val x_ad) + qv s_b (val x_b) (val x_bd) = q) :
    Calls Try.prog 64 #[.agg #[.bool s_a, .slice A_a n_a c_a, .slice A_ad n_ad c_ad], .agg #[.bool s_b, .slice A_b n_b c_b, .slice A_bd n_bd c_bd]] w (RetRat w q) := by
  replace hq := hide hq
  obtain ⟨W, hW⟩ : ∃ W, W = (((w.alloc (.cells #[.bool s_a, .slice A_a n_a c_a, .slice A_ad n_ad c_ad] 27)).alloc (.cells #[.bool s_b, .slice A_b n_b c_b, .slice A_bd n_bd c_bd] 27)).alloc (.cells #[.bool false, .slice none 0 0, .slice none 0 0] 27)) := ⟨_, rfl⟩
  have b_a : Box3 W (w.heap.size) (.bool s_a) (.slice A_a n_a c_a) (.slice A_ad n_ad c_ad) := by rw [hW]; exact (((Box3.new w _ _ _ rfl).al _).al _)
  have b_b : Box3 W (w.heap.size + 1) (.bool s_b) (.slice A_b n_b c_b) (.slice A_bd n_bd c_bd) := by rw [hW]; exact ((Box3.new _ _ _ _ (by simp)).al _)
  have b_r0 : Box3 W (w.heap.size + 1 + 1) (.bool false) (.slice none 0 0) (.slice none 0 0) := by rw [hW]; exact (Box3.new _ _ _ _ (by simp))
  have hwW : Below w.heap.size w W := by rw [hW]; exact ((((Below.refl _ _).alloc (Nat.le_refl _) _).alloc (by simp) _).alloc (by simp; omega) _)
  have R_a := hide (Rd.upto h_a hwW hB)
  clear h_a
  have R_ad := hide (Rd.upto h_ad hwW hB)
  clear h_ad
  have R_b := hide (Rd.upto h_b hwW hB)
  clear h_b
  have R_bd := hide (Rd.upto h_bd hwW hB)
  clear h_bd
  have B := hide hwW
  clear hwW
  clear hB
  have U0 : Below W.heap.size W W := Below.refl _ _
  have c_a0 := b_a.at0 b_a.lt_size (Nat.le_refl _)
  have c_a1 := b_a.at1 b_a.lt_size (Nat.le_refl _)
  have c_a2 := b_a.at2 b_a.lt_size (Nat.le_refl _)
  replace b_a := hide b_a
  have c_b0 := b_b.at0 b_b.lt_size (Nat.le_refl _)
  have c_b1 := b_b.at1 b_b.lt_size (Nat.le_refl _)
  have c_b2 := b_b.at2 b_b.lt_size (Nat.le_refl _)
  replace b_b := hide b_b
  have c_r00 := b_r0.at0 b_r0.lt_size (Nat.le_refl _)
  have c_r01 := b_r0.at1 b_r0.lt_size (Nat.le_refl _)
  have c_r02 := b_r0.at2 b_r0.lt_size (Nat.le_refl _)
  have f_r00 := b_r0.free0 b_r0.lt_size (Nat.le_refl _)
  have f_r01 := b_r0.free1 b_r0.lt_size (Nat.le_refl _)
  have f_r02 := b_r0.free2 b_r0.lt_size (Nat.le_refl _)
  have l_r0 := b_r0.lt b_r0.lt_size (Nat.le_refl _)
  replace b_r0 := hide b_r0
  go_enter Try.func64, Try.ntmps64
  go_wp2_with fail
  rw [← hW]
  clear hW
  refine (parts_any R_a.out g_a R_ad.out g_ad (Nat.le_refl _) rfl).mono ?_
  rintro e w1 ⟨s_1, A_1, n_1, c_1, x_1, A_2, n_2, c_2, x_2, rfl, R_1, R_2, g_1, g_2, h_2, q_1, hb⟩
  replace R_a := hide (Rd.then_ R_a.out hb)
  replace R_ad := hide (Rd.then_ R_ad.out hb)
  replace R_b := hide (Rd.then_ R_b.out hb)
  replace R_bd := hide (Rd.then_ R_bd.out hb)
  have U1 : Below W.heap.size W w1 := Below.then_ U0 hb
  replace B := hide (Below.then_ B.out hb)
  replace R_1 := hide R_1
  replace R_2 := hide R_2
  replace h_2 := hide h_2
  replace q_1 := hide q_1
  clear hb
  have hbx : Below w1.heap.size w1 (w1.alloc (.cells #[.bool s_1, .slice A_1 n_1 c_1] 25)) := ((Below.refl _ _).alloc (Nat.le_refl _) _)
  have Ux := Below.then_ U1 hbx
  go_wp2_with fail
  obtain ⟨V1, hV⟩ : ∃ V, V = (w1.alloc (.cells #[.bool s_1, .slice A_1 n_1 c_1] 25)) := ⟨_, rfl⟩
  obtain ⟨g_1, hg_1⟩ : ∃ g, g = w1.heap.size := ⟨_, rfl⟩
  rw [← hV]
  rw [← hV] at hbx Ux
  rw [← hg_1]
  have b_1 : Box V1 g_1 (.bool s_1) (.slice A_1 n_1 c_1) := by rw [hV]; exact (Box.new _ _ _ hg_1)
  clear hV
  have ne_1_r0 : g_1 ≠ w.heap.size + 1 + 1 := by have := l_r0 _ U1; omega
  replace ne_1_r0 := hide ne_1_r0
  have ne_a_1 : w.heap.size ≠ g_1 := by have := (b_a.out.lt b_a.out.lt_size (Nat.le_refl _)) _ U1; omega
  replace ne_a_1 := hide ne_a_1
  have ne_b_1 : w.heap.size + 1 ≠ g_1 := by have := (b_b.out.lt b_b.out.lt_size (Nat.le_refl _)) _ U1; omega
  replace ne_b_1 := hide ne_b_1
  have ne_r0_1 := hide (Ne.symm ne_1_r0.out)
  have ge_1 : w.heap.size ≤ g_1 := by have := B.out.size; omega
  replace ge_1 := hide ge_1
  clear hg_1
  replace R_a := hide (Rd.then_ R_a.out hbx)
  replace R_ad := hide (Rd.then_ R_ad.out hbx)
  replace R_b := hide (Rd.then_ R_b.out hbx)
  replace R_bd := hide (Rd.then_ R_bd.out hbx)
  replace R_1 := hide (Rd.then_ R_1.out hbx)
  replace R_2 := hide (Rd.then_ R_2.out hbx)
  have U2 : Below W.heap.size W V1 := Below.then_ U1 hbx
  replace B := hide (Below.then_ B.out hbx)
  clear hbx
  replace b_a := hide (Box3.keep b_a.out U2)
  clear c_a0 c_a1 c_a2
  replace b_b := hide (Box3.keep b_b.out U2)
  clear c_b0 c_b1 c_b2
  replace b_r0 := hide (Box3.keep b_r0.out U2)
  clear c_r00 c_r01 c_r02 f_r00 f_r01 f_r02 l_r0
  replace b_1 := hide b_1
  have U3 : Below V1.heap.size V1 V1 := Below.refl _ _
  have c_a0 := b_a.out.at0 b_a.out.lt_size (Nat.le_refl _)
  have c_a1 := b_a.out.at1 b_a.out.lt_size (Nat.le_refl _)
  have c_a2 := b_a.out.at2 b_a.out.lt_size (Nat.le_refl _)
  have c_b0 := b_b.out.at0 b_b.out.lt_size (Nat.le_refl _)
  have c_b1 := b_b.out.at1 b_b.out.lt_size (Nat.le_refl _)
  have c_b2 := b_b.out.at2 b_b.out.lt_size (Nat.le_refl _)
  have c_r00 := b_r0.out.at0 b_r0.out.lt_size (Nat.le_refl _)
  have c_r01 := b_r0.out.at1 b_r0.out.lt_size (Nat.le_refl _)
  have c_r02 := b_r0.out.at2 b_r0.out.lt_size (Nat.le_refl _)
  have f_r00 := b_r0.out.free0 b_r0.out.lt_size (Nat.le_refl _)
  have f_r01 := b_r0.out.free1 b_r0.out.lt_size (Nat.le_refl _)
  have f_r02 := b_r0.out.free2 b_r0.out.lt_size (Nat.le_refl _)
  have l_r0 := b_r0.out.lt b_r0.out.lt_size (Nat.le_refl _)
  have c_10 := b_1.out.at0 b_1.out.lt_size (Nat.le_refl _)
  have c_11 := b_1.out.at1 b_1.out.lt_size (Nat.le_refl _)
  refine (parts_any R_b.out g_b R_bd.out g_bd (Nat.le_refl _) rfl).mono ?_
  rintro e w2 ⟨s_3, A_3, n_3, c_3, x_3, A_4, n_4, c_4, x_4, rfl, R_3, R_4, g_3, g_4, h_4, q_3, hb⟩
  replace R_a := hide (Rd.then_ R_a.out hb)
  replace R_ad := hide (Rd.then_ R_ad.out hb)
  replace R_b := hide (Rd.then_ R_b.out hb)
  replace R_bd := hide (Rd.then_ R_bd.out hb)
  replace R_1 := hide (Rd.then_ R_1.out hb)
  replace R_2 := hide (Rd.then_ R_2.out hb)
  have U4 : Below V1.heap.size V1 w2 := Below.then_ U3 hb
  replace B := hide (Below.then_ B.out hb)
  replace R_3 := hide R_3
  replace R_4 := hide R_4
  replace h_4 := hide h_4
  replace q_3 := hide q_3
  clear hb
  have hbx : Below w2.heap.size w2 (w2.alloc (.cells #[.bool s_3, .slice A_3 n_3 c_3] 25)) := ((Below.refl _ _).alloc (Nat.le_refl _) _)
  have Ux := Below.then_ U4 hbx
  go_wp2_with fail
  obtain ⟨V4, hV⟩ : ∃ V, V = (w2.alloc (.cells #[.bool s_3, .slice A_3 n_3 c_3] 25)) := ⟨_, rfl⟩
  obtain ⟨g_3, hg_3⟩ : ∃ g, g = w2.heap.size := ⟨_, rfl⟩
  rw [← hV]
  rw [← hV] at hbx Ux
  rw [← hg_3]
  have b_3 : Box V4 g_3 (.bool s_3) (.slice A_3 n_3 c_3) := by rw [hV]; exact (Box.new _ _ _ hg_3)
  clear hV
  have ne_3_r0 : g_3 ≠ w.heap.size + 1 + 1 := by have := l_r0 _ U4; omega
  replace ne_3_r0 := hide ne_3_r0
  have ne_a_3 : w.heap.size ≠ g_3 := by have := (b_a.out.lt b_a.out.lt_size (Nat.le_refl _)) _ U4; omega
  replace ne_a_3 := hide ne_a_3
  have ne_b_3 : w.heap.size + 1 ≠ g_3 := by have := (b_b.out.lt b_b.out.lt_size (Nat.le_refl _)) _ U4; omega
  replace ne_b_3 := hide ne_b_3
  have ne_r0_3 := hide (Ne.symm ne_3_r0.out)
  have ne_1_3 : g_1 ≠ g_3 := by have := (b_1.out.lt b_1.out.lt_size (Nat.le_refl _)) _ U4; omega
  replace ne_1_3 := hide ne_1_3
  have ge_3 : w.heap.size ≤ g_3 := by have := B.out.size; omega
  replace ge_3 := hide ge_3
  clear hg_3
  replace R_a := hide (Rd.then_ R_a.out hbx)
  replace R_ad := hide (Rd.then_ R_ad.out hbx)
  replace R_b := hide (Rd.then_ R_b.out hbx)
  replace R_bd := hide (Rd.then_ R_bd.out hbx)
  replace R_1 := hide (Rd.then_ R_1.out hbx)
  replace R_2 := hide (Rd.then_ R_2.out hbx)
  replace R_3 := hide (Rd.then_ R_3.out hbx)
  replace R_4 := hide (Rd.then_ R_4.out hbx)
  have U5 : Below V1.heap.size V1 V4 := Below.then_ U4 hbx
  replace B := hide (Below.then_ B.out hbx)
  clear hbx
  replace b_a := hide (Box3.keep b_a.out U5)
  clear c_a0 c_a1 c_a2
  replace b_b := hide (Box3.keep b_b.out U5)
  clear c_b0 c_b1 c_b2
  replace b_r0 := hide (Box3.keep b_r0.out U5)
  clear c_r00 c_r01 c_r02 f_r00 f_r01 f_r02 l_r0
  replace b_1 := hide (Box.keep b_1.out U5)
  clear c_10 c_11
  replace b_3 := hide b_3
  have U6 : Below V4.heap.size V4 V4 := Below.refl _ _
  have c_a0 := b_a.out.at0 b_a.out.lt_size (Nat.le_refl _)
  have c_a1 := b_a.out.at1 b_a.out.lt_size (Nat.le_refl _)
  have c_a2 := b_a.out.at2 b_a.out.lt_size (Nat.le_refl _)
  have c_b0 := b_b.out.at0 b_b.out.lt_size (Nat.le_refl _)
  have c_b1 := b_b.out.at1 b_b.out.lt_size (Nat.le_refl _)
  have c_b2 := b_b.out.at2 b_b.out.lt_size (Nat.le_refl _)
  have c_r00 := b_r0.out.at0 b_r0.out.lt_size (Nat.le_refl _)
  have c_r01 := b_r0.out.at1 b_r0.out.lt_size (Nat.le_refl _)
  have c_r02 := b_r0.out.at2 b_r0.out.lt_size (Nat.le_refl _)
  have f_r00 := b_r0.out.free0 b_r0.out.lt_size (Nat.le_refl _)
  have f_r01 := b_r0.out.free1 b_r0.out.lt_size (Nat.le_refl _)
  have f_r02 := b_r0.out.free2 b_r0.out.lt_size (Nat.le_refl _)
  have l_r0 := b_r0.out.lt b_r0.out.lt_size (Nat.le_refl _)
  have c_10 := b_1.out.at0 b_1.out.lt_size (Nat.le_refl _)
  have c_11 := b_1.out.at1 b_1.out.lt_size (Nat.le_refl _)
  have c_30 := b_3.out.at0 b_3.out.lt_size (Nat.le_refl _)
  have c_31 := b_3.out.at1 b_3.out.lt_size (Nat.le_refl _)
  obtain ⟨z1, e_z1⟩ : ∃ v, iv s_1 (val x_1) * (val x_4 : Int) = v := ⟨_, rfl⟩
  replace e_z1 := hide e_z1
  have l_z1 : zmag z1 < pw (n_1 + n_4) := by rw [← e_z1.out]; exact zl_mul (zl_iv R_1.out.lt) (zl_nat R_4.out.lt)
  replace l_z1 := hide l_z1
  obtain ⟨z3, e_z3⟩ : ∃ v, iv s_3 (val x_3) * (val x_2 : Int) = v := ⟨_, rfl⟩
  replace e_z3 := hide e_z3
  have l_z3 : zmag z3 < pw (n_3 + n_2) := by rw [← e_z3.out]; exact zl_mul (zl_iv R_3.out.lt) (zl_nat R_2.out.lt)
  replace l_z3 := hide l_z3
  have g14 : n_1 + n_4 ≤ 70368744177664 := by omega
  replace g14 := hide g14
  have g32 : n_3 + n_2 ≤ 70368744177664 := by omega
  replace g32 := hide g32
  obtain ⟨z5, e_z5⟩ : ∃ v, iv (zneg z1) (val (dig (zmag z1))) + iv (zneg z3) (val (dig (zmag z3))) = v := ⟨_, rfl⟩
  replace e_z5 := hide e_z5
  have l_z5 : zmag z5 < pw (max (n_1 + n_4) (n_3 + n_2) + 1) := by rw [← e_z5.out, ivz, ivz]; exact zl_add l_z1.out l_z3.out
  replace l_z5 := hide l_z5
  obtain ⟨d5, e_d5⟩ : ∃ v, val x_2 * val x_4 = v := ⟨_, rfl⟩
  replace e_d5 := hide e_d5
  have l_d5 : d5 < pw (n_2 + n_4) := by rw [← e_d5.out]; exact lt_mul R_2.out.lt R_4.out.lt
  replace l_d5 := hide l_d5
  have e_q : qv (zneg z5) (val (dig (zmag z5))) (val (dig d5)) = q := by rw [qvz, ← hq.out, ← q_1.out, ← q_3.out]; unfold qv; rw [mk_add h_2.out h_4.out, e_z1.out, e_z3.out, ← e_z5.out, e_d5.out, ivz, ivz]
  replace e_q := hide e_q
  have g24 : n_2 + n_4 ≤ 70368744177664 := by omega
  replace g24 := hide g24
  have gz1 : (dig (zmag z1)).length + 1 ≤ 70368744177664 := by have := zl l_z1.out; omega
  replace gz1 := hide gz1
  have gz3 : (dig (zmag z3)).length + 1 ≤ 70368744177664 := by have := zl l_z3.out; omega
  replace gz3 := hide gz3
  have gz5 : (dig (zmag z5)).length ≤ 10000000000 := by have := zl l_z5.out; omega
  replace gz5 := hide gz5
  have gd5 : (dig d5).length ≤ 10000000000 := by have := dl l_d5.out; omega
  replace gd5 := hide gd5
  have k_a0 := b_a.out.but0 (g1 := w.heap.size + 1 + 1) (g2 := w.heap.size + 1 + 1) (by omega) (by omega)
  have k_a1 := b_a.out.but1 (g1 := w.heap.size + 1 + 1) (g2 := w.heap.size + 1 + 1) (by omega) (by omega)
  have k_a2 := b_a.out.but2 (g1 := w.heap.size + 1 + 1) (g2 := w.heap.size + 1 + 1) (by omega) (by omega)
  have k_b0 := b_b.out.but0 (g1 := w.heap.size + 1 + 1) (g2 := w.heap.size + 1 + 1) (by omega) (by omega)
  have k_b1 := b_b.out.but1 (g1 := w.heap.size + 1 + 1) (g2 := w.heap.size + 1 + 1) (by omega) (by omega)
  have k_b2 := b_b.out.but2 (g1 := w.heap.size + 1 + 1) (g2 := w.heap.size + 1 + 1) (by omega) (by omega)
  have k_10 := b_1.out.but0 (g1 := w.heap.size + 1 + 1) (g2 := w.heap.size + 1 + 1) ne_1_r0.out ne_1_r0.out
  have k_11 := b_1.out.but1 (g1 := w.heap.size + 1 + 1) (g2 := w.heap.size + 1 + 1) ne_1_r0.out ne_1_r0.out
  have k_30 := b_3.out.but0 (g1 := w.heap.size + 1 + 1) (g2 := w.heap.size + 1 + 1) ne_3_r0.out ne_3_r0.out
  have k_31 := b_3.out.but1 (g1 := w.heap.size + 1 + 1) (g2 := w.heap.size + 1 + 1) ne_3_r0.out ne_3_r0.out
  have hd := Below.drw_ V4
  replace R_a := hide (Rd.then_ R_a.out hd)
  replace R_ad := hide (Rd.then_ R_ad.out hd)
  replace R_b := hide (Rd.then_ R_b.out hd)
  replace R_bd := hide (Rd.then_ R_bd.out hd)
  replace R_1 := hide (Rd.then_ R_1.out hd)
  replace R_2 := hide (Rd.then_ R_2.out hd)
  replace R_3 := hide (Rd.then_ R_3.out hd)
  replace R_4 := hide (Rd.then_ R_4.out hd)
  have U7 : Below V4.heap.size V4 (V4.drew) := Below.then_ U6 hd
  replace B := hide (Below.then_ B.out hd)
  have K7 : KeptBut (w.heap.size + 1 + 1) (w.heap.size + 1 + 1) V4.heap.size V4 (V4.drew) := KeptBut.below U7
  clear hd
  have tok1 : True := trivial
  go_region_held3 (fun w' => KeptBut (w.heap.size + 1 + 1) (w.heap.size + 1 + 1) V4.heap.size V4 w') (first | assumption | (with_reducible exact KeptBut.drw _) | ((repeat (first | (with_reducible refine KeptBut.set0 ?_ _) | (with_reducible refine KeptBut.drew_ ?_))); first | assumption | (with_reducible exact KeptBut.refl _ _ _ _)))
    (first
      | (go_at_call 63; (have _t := tok1; (with_reducible refine (times_any R_1.out (by omega) R_4.out (by omega) (Nat.le_refl _) e_z1.out).mono ?_); rintro e w3 ⟨A_z1, c_z1, rfl, R_z1, hb⟩; replace R_a := hide (Rd.then_ R_a.out hb); replace R_ad := hide (Rd.then_ R_ad.out hb); replace R_b := hide (Rd.then_ R_b.out hb); replace R_bd := hide (Rd.then_ R_bd.out hb); replace R_1 := hide (Rd.then_ R_1.out hb); replace R_2 := hide (Rd.then_ R_2.out hb); replace R_3 := hide (Rd.then_ R_3.out hb); replace R_4 := hide (Rd.then_ R_4.out hb); have U8 : Below V4.heap.size V4 w3 := Below.then_ U7 hb; replace B := hide (Below.then_ B.out hb); have K8 : KeptBut (w.heap.size + 1 + 1) (w.heap.size + 1 + 1) V4.heap.size V4 w3 := KeptBut.below U8; replace R_z1 := hide R_z1; clear hb; have tok2 : True := trivial; clear _t tok1))
      | (go_at_call 63; (have _t := tok2; (with_reducible refine (times_any R_3.out (by omega) R_2.out (by omega) (Nat.le_refl _) e_z3.out).mono ?_); rintro e w4 ⟨A_z3, c_z3, rfl, R_z3, hb⟩; replace R_a := hide (Rd.then_ R_a.out hb); replace R_ad := hide (Rd.then_ R_ad.out hb); replace R_b := hide (Rd.then_ R_b.out hb); replace R_bd := hide (Rd.then_ R_bd.out hb); replace R_1 := hide (Rd.then_ R_1.out hb); replace R_2 := hide (Rd.then_ R_2.out hb); replace R_3 := hide (Rd.then_ R_3.out hb); replace R_4 := hide (Rd.then_ R_4.out hb); replace R_z1 := hide (Rd.then_ R_z1.out hb); have U9 : Below V4.heap.size V4 w4 := Below.then_ U8 hb; replace B := hide (Below.then_ B.out hb); have K9 : KeptBut (w.heap.size + 1 + 1) (w.heap.size + 1 + 1) V4.heap.size V4 w4 := KeptBut.below U9; replace R_z3 := hide R_z3; clear hb; have tok3 : True := trivial; clear _t tok2))
      | (go_at_call 96; (have _t := tok3; (with_reducible refine (iadd_any _ _ _ _ _ _ _ _ _ _ _ _ R_z1.out R_z3.out (Nat.le_refl _) gz1.out gz3.out).mono ?_); rw [e_z5.out]; rintro e w5 ⟨A_z5, c_z5, rfl, R_z5, hb⟩; replace R_a := hide (Rd.then_ R_a.out hb); replace R_ad := hide (Rd.then_ R_ad.out hb); replace R_b := hide (Rd.then_ R_b.out hb); replace R_bd := hide (Rd.then_ R_bd.out hb); replace R_1 := hide (Rd.then_ R_1.out hb); replace R_2 := hide (Rd.then_ R_2.out hb); replace R_3 := hide (Rd.then_ R_3.out hb); replace R_4 := hide (Rd.then_ R_4.out hb); replace R_z1 := hide (Rd.then_ R_z1.out hb); replace R_z3 := hide (Rd.then_ R_z3.out hb); have U10 : Below V4.heap.size V4 w5 := Below.then_ U9 hb; replace B := hide (Below.then_ B.out hb); have K10 : KeptBut (w.heap.size + 1 + 1) (w.heap.size + 1 + 1) V4.heap.size V4 w5 := KeptBut.below U10; replace R_z5 := hide R_z5; clear hb; have tok4 : True := trivial; clear _t tok3))
      | (go_at_call 52; (have _t := tok4; (with_reducible refine (mul_any _ _ _ _ _ _ _ _ _ _ R_2.out R_4.out (Nat.le_refl _) g24.out).mono ?_); rw [e_d5.out]; rintro e w6 ⟨A_d5, c_d5, rfl, R_d5, hb⟩; replace R_a := hide (Rd.then_ R_a.out hb); replace R_ad := hide (Rd.then_ R_ad.out hb); replace R_b := hide (Rd.then_ R_b.out hb); replace R_bd := hide (Rd.then_ R_bd.out hb); replace R_1 := hide (Rd.then_ R_1.out hb); replace R_2 := hide (Rd.then_ R_2.out hb); replace R_3 := hide (Rd.then_ R_3.out hb); replace R_4 := hide (Rd.then_ R_4.out hb); replace R_z1 := hide (Rd.then_ R_z1.out hb); replace R_z3 := hide (Rd.then_ R_z3.out hb); replace R_z5 := hide (Rd.then_ R_z5.out hb); have U11 : Below V4.heap.size V4 w6 := Below.then_ U10 hb; replace B := hide (Below.then_ B.out hb); have K11 : KeptBut (w.heap.size + 1 + 1) (w.heap.size + 1 + 1) V4.heap.size V4 w6 := KeptBut.below U11; replace R_d5 := hide R_d5; clear hb; have tok5 : True := trivial; clear _t tok4))
      | (go_at_call 59; (have _t := tok5; (with_reducible refine (reduced_any R_z5.out gz5.out R_d5.out gd5.out (Nat.le_refl _) e_q.out).mono ?_); rintro e w7 ⟨A_q, c_q, A_qd, c_qd, rfl, R_q, R_qd, hb⟩; replace R_a := hide (Rd.then_ R_a.out hb); replace R_ad := hide (Rd.then_ R_ad.out hb); replace R_b := hide (Rd.then_ R_b.out hb); replace R_bd := hide (Rd.then_ R_bd.out hb); replace R_1 := hide (Rd.then_ R_1.out hb); replace R_2 := hide (Rd.then_ R_2.out hb); replace R_3 := hide (Rd.then_ R_3.out hb); replace R_4 := hide (Rd.then_ R_4.out hb); replace R_z1 := hide (Rd.then_ R_z1.out hb); replace R_z3 := hide (Rd.then_ R_z3.out hb); replace R_z5 := hide (Rd.then_ R_z5.out hb); replace R_d5 := hide (Rd.then_ R_d5.out hb); have U12 : Below V4.heap.size V4 w7 := Below.then_ U11 hb; replace B := hide (Below.then_ B.out hb); have K12 : KeptBut (w.heap.size + 1 + 1) (w.heap.size + 1 + 1) V4.heap.size V4 w7 := KeptBut.below U12; replace R_q := hide R_q; replace R_qd := hide R_qd; clear hb; have tok6 : True := trivial; clear _t tok5)))
  clear tok6
  clear k_a0 k_a1 k_a2
  clear k_b0 k_b1 k_b2
  clear k_10 k_11
  clear k_30 k_31
  go_wp2
  exact bodyPost_ret (v := .agg #[.bool (zneg q.num), .slice A_q (dig (zmag q.num)).length c_q, .slice A_qd (dig q.den).length c_qd]) (by simp [results, Try.results64, go_sem, c_r00 _ U12, c_r01 _ U12, c_r02 _ U12]) rfl (RetRat.box B.out (by omega) (c_r00 _ U12) (c_r01 _ U12) (c_r02 _ U12) R_q.out R_qd.out)

set_option maxHeartbeats 4000000 in
theorem psub_any {w : World} {Bd : Nat} {A_a : Option Addr} {n_a c_a : Nat} {x_a : List Nat} {s_a : Bool} {A_ad : Option Addr} {n_ad c_ad : Nat} {x_ad : List Nat} {A_b : Option Addr} {n_b c_b : Nat} {x_b : List Nat} {s_b : Bool} {A_bd : Option Addr} {n_bd c_bd : Nat} {x_bd : List Nat} (h_a : Rd w Bd A_a n_a c_a x_a) (g_a : n_a ≤ 1000000000) (h_ad : Rd w Bd A_ad n_ad c_ad x_ad) (g_ad : n_ad ≤ 1000000000) (h_b : Rd w Bd A_b n_b c_b x_b) (g_b : n_b ≤ 1000000000) (h_bd : Rd w Bd A_bd n_bd c_bd x_bd) (g_bd : n_bd ≤ 1000000000) (hB : Bd ≤ w.heap.size) {q : Rat} (hq : qv s_a (val x_a) (val x_ad) - qv s_b (val x_b) (val x_bd) = q) :
    Calls Try.prog 20 #[.agg #[.bool s_a, .slice A_a n_a c_a, .slice A_ad n_ad c_ad], .agg #[.bool s_b, .slice A_b n_b c_b, .slice A_bd n_bd c_bd]] w (RetRat w q) := by
  obtain ⟨z1, e_z1⟩ : ∃ v, -iv s_b (val x_b) = v := ⟨_, rfl⟩
  replace e_z1 := hide e_z1
  have e_q : qv s_a (val x_a) (val x_ad) + qv (zneg z1) (val (dig (zmag z1))) (val x_bd) = q := by rw [← hq, Rat.sub_eq_add_neg, qvz', ← e_z1.out]; unfold qv; rw [mk_neg]
  replace e_q := hide e_q
  have gz1 : (dig (zmag z1)).length ≤ 1000000000 := by have := zl (zl_neg (zl_iv (s := s_b) h_b.lt)); rw [e_z1.out] at this; omega
  replace gz1 := hide gz1
  clear hq
  obtain ⟨W, hW⟩ : ∃ W, W = (((w.alloc (.cells #[.bool s_a, .slice A_a n_a c_a, .slice A_ad n_ad c_ad] 27)).alloc (.cells #[.bool s_b, .slice A_b n_b c_b, .slice A_bd n_bd c_bd] 27)).alloc (.cells #[.bool false, .slice none 0 0, .slice none 0 0] 27)) := ⟨_, rfl⟩
  have b_a : Box3 W (w.heap.size) (.bool s_a) (.slice A_a n_a c_a) (.slice A_ad n_ad c_ad) := by rw [hW]; exact (((Box3.new w _ _ _ rfl).al _).al _)
  have b_b : Box3 W (w.heap.size + 1) (.bool s_b) (.slice A_b n_b c_b) (.slice A_bd n_bd c_bd) := by rw [hW]; exact ((Box3.new _ _ _ _ (by simp)).al _)
  have b_r0 : Box3 W (w.heap.size + 1 + 1) (.bool false) (.slice none 0 0) (.slice none 0 0) := by rw [hW]; exact (Box3.new _ _ _ _ (by simp))
  have hwW : Below w.heap.size w W := by rw [hW]; exact ((((Below.refl _ _).alloc (Nat.le_refl _) _).alloc (by simp) _).alloc (by simp; omega) _)
  have R_a := hide (Rd.upto h_a hwW hB)
  clear h_a
  have R_ad := hide (Rd.upto h_ad hwW hB)
  clear h_ad
  have R_b := hide (Rd.upto h_b hwW hB)
  clear h_b
  have R_bd := hide (Rd.upto h_bd hwW hB)
  clear h_bd
  have B := hide hwW
  clear hwW
  clear hB
  have U0 : Below W.heap.size W W := Below.refl _ _
  have c_a0 := b_a.at0 b_a.lt_size (Nat.le_refl _)
  have c_a1 := b_a.at1 b_a.lt_size (Nat.le_refl _)
  have c_a2 := b_a.at2 b_a.lt_size (Nat.le_refl _)
  replace b_a := hide b_a
  have c_b0 := b_b.at0 b_b.lt_size (Nat.le_refl _)
  have c_b1 := b_b.at1 b_b.lt_size (Nat.le_refl _)
  have c_b2 := b_b.at2 b_b.lt_size (Nat.le_refl _)
  replace b_b := hide b_b
  have c_r00 := b_r0.at0 b_r0.lt_size (Nat.le_refl _)
  have c_r01 := b_r0.at1 b_r0.lt_size (Nat.le_refl _)
  have c_r02 := b_r0.at2 b_r0.lt_size (Nat.le_refl _)
  have f_r00 := b_r0.free0 b_r0.lt_size (Nat.le_refl _)
  have f_r01 := b_r0.free1 b_r0.lt_size (Nat.le_refl _)
  have f_r02 := b_r0.free2 b_r0.lt_size (Nat.le_refl _)
  have l_r0 := b_r0.lt b_r0.lt_size (Nat.le_refl _)
  replace b_r0 := hide b_r0
  go_enter Try.func20, Try.ntmps20
  go_wp2_with fail
  rw [← hW]
  clear hW
  have k_a0 := b_a.out.but0 (g1 := w.heap.size + 1 + 1) (g2 := w.heap.size + 1 + 1) (by omega) (by omega)
  have k_a1 := b_a.out.but1 (g1 := w.heap.size + 1 + 1) (g2 := w.heap.size + 1 + 1) (by omega) (by omega)
  have k_a2 := b_a.out.but2 (g1 := w.heap.size + 1 + 1) (g2 := w.heap.size + 1 + 1) (by omega) (by omega)
  have k_b0 := b_b.out.but0 (g1 := w.heap.size + 1 + 1) (g2 := w.heap.size + 1 + 1) (by omega) (by omega)
  have k_b1 := b_b.out.but1 (g1 := w.heap.size + 1 + 1) (g2 := w.heap.size + 1 + 1) (by omega) (by omega)
  have k_b2 := b_b.out.but2 (g1 := w.heap.size + 1 + 1) (g2 := w.heap.size + 1 + 1) (by omega) (by omega)
  have hd := Below.drw_ W
  replace R_a := hide (Rd.then_ R_a.out hd)
  replace R_ad := hide (Rd.then_ R_ad.out hd)
  replace R_b := hide (Rd.then_ R_b.out hd)
  replace R_bd := hide (Rd.then_ R_bd.out hd)
  have U1 : Below W.heap.size W (W.drew) := Below.then_ U0 hd
  replace B := hide (Below.then_ B.out hd)
  have K1 : KeptBut (w.heap.size + 1 + 1) (w.heap.size + 1 + 1) W.heap.size W (W.drew) := KeptBut.below U1
  clear hd
  have tok1 : True := trivial
  go_region_held3 (fun w' => KeptBut (w.heap.size + 1 + 1) (w.heap.size + 1 + 1) W.heap.size W w') (first | assumption | (with_reducible exact KeptBut.drw _) | ((repeat (first | (with_reducible refine KeptBut.set0 ?_ _) | (with_reducible refine KeptBut.drew_ ?_))); first | assumption | (with_reducible exact KeptBut.refl _ _ _ _)))
    (first
      | (go_at_call 65; (have _t := tok1; (with_reducible refine (ineg_any _ _ _ _ _ _ _ R_b.out (Nat.le_refl _)).mono ?_); rw [e_z1.out]; rintro e w1 ⟨A_z1, c_z1, rfl, R_z1, hb⟩; replace R_a := hide (Rd.then_ R_a.out hb); replace R_ad := hide (Rd.then_ R_ad.out hb); replace R_b := hide (Rd.then_ R_b.out hb); replace R_bd := hide (Rd.then_ R_bd.out hb); have U2 : Below W.heap.size W w1 := Below.then_ U1 hb; replace B := hide (Below.then_ B.out hb); have K2 : KeptBut (w.heap.size + 1 + 1) (w.heap.size + 1 + 1) W.heap.size W w1 := KeptBut.below U2; replace R_z1 := hide R_z1; clear hb; have tok2 : True := trivial; clear _t tok1))
      | (go_at_call 64; (have _t := tok2; (with_reducible refine (padd_any R_a.out g_a R_ad.out g_ad R_z1.out gz1.out R_bd.out g_bd (Nat.le_refl _) e_q.out).mono ?_); rintro e w2 ⟨A_q, c_q, A_qd, c_qd, rfl, R_q, R_qd, hb⟩; replace R_a := hide (Rd.then_ R_a.out hb); replace R_ad := hide (Rd.then_ R_ad.out hb); replace R_b := hide (Rd.then_ R_b.out hb); replace R_bd := hide (Rd.then_ R_bd.out hb); replace R_z1 := hide (Rd.then_ R_z1.out hb); have U3 : Below W.heap.size W w2 := Below.then_ U2 hb; replace B := hide (Below.then_ B.out hb); have K3 : KeptBut (w.heap.size + 1 + 1) (w.heap.size + 1 + 1) W.heap.size W w2 := KeptBut.below U3; replace R_q := hide R_q; replace R_qd := hide R_qd; clear hb; have tok3 : True := trivial; clear _t tok2)))
  clear tok3
  clear k_a0 k_a1 k_a2
  clear k_b0 k_b1 k_b2
  go_wp2
  exact bodyPost_ret (v := .agg #[.bool (zneg q.num), .slice A_q (dig (zmag q.num)).length c_q, .slice A_qd (dig q.den).length c_qd]) (by simp [results, Try.results20, go_sem, c_r00 _ U3, c_r01 _ U3, c_r02 _ U3]) rfl (RetRat.box B.out (by omega) (c_r00 _ U3) (c_r01 _ U3) (c_r02 _ U3) R_q.out R_qd.out)

set_option maxHeartbeats 4000000 in
theorem pmul_any {w : World} {Bd : Nat} {A_a : Option Addr} {n_a c_a : Nat} {x_a : List Nat} {s_a : Bool} {A_ad : Option Addr} {n_ad c_ad : Nat} {x_ad : List Nat} {A_b : Option Addr} {n_b c_b : Nat} {x_b : List Nat} {s_b : Bool} {A_bd : Option Addr} {n_bd c_bd : Nat} {x_bd : List Nat} (h_a : Rd w Bd A_a n_a c_a x_a) (g_a : n_a ≤ 1000000000) (h_ad : Rd w Bd A_ad n_ad c_ad x_ad) (g_ad : n_ad ≤ 1000000000) (h_b : Rd w Bd A_b n_b c_b x_b) (g_b : n_b ≤ 1000000000) (h_bd : Rd w Bd A_bd n_bd c_bd x_bd) (g_bd : n_bd ≤ 1000000000) (hB : Bd ≤ w.heap.size) {q : Rat} (hq : qv s_a (val x_a) (val x_ad) * qv s_b (val x_b) (val x_bd) = q) :
    Calls Try.prog 17 #[.agg #[.bool s_a, .slice A_a n_a c_a, .slice A_ad n_ad c_ad], .agg #[.bool s_b, .slice A_b n_b c_b, .slice A_bd n_bd c_bd]] w (RetRat w q) := by
  obtain ⟨z1, e_z1⟩ : ∃ v, iv s_a (val x_a) * iv s_b (val x_b) = v := ⟨_, rfl⟩
  replace e_z1 := hide e_z1
  obtain ⟨d1, e_d1⟩ : ∃ v, val x_ad * val x_bd = v := ⟨_, rfl⟩
  replace e_d1 := hide e_d1
  have e_q : qv (zneg z1) (val (dig (zmag z1))) (val (dig d1)) = q := by rw [qvz, ← hq, ← e_z1.out, ← e_d1.out]; unfold qv; rw [mk_mul]
  replace e_q := hide e_q
  have gz1 : (dig (zmag z1)).length ≤ 10000000000 := by have := zl (zl_mul (zl_iv (s := s_a) h_a.lt) (zl_iv (s := s_b) h_b.lt)); rw [e_z1.out] at this; omega
  replace gz1 := hide gz1
  have gd1 : (dig d1).length ≤ 10000000000 := by have := dl (lt_mul h_ad.lt h_bd.lt); rw [e_d1.out] at this; omega
  replace gd1 := hide gd1
  have g1 : n_a + n_b ≤ 70368744177664 := by omega
  replace g1 := hide g1
  have g2 : n_ad + n_bd ≤ 70368744177664 := by omega
  replace g2 := hide g2
  clear hq
  obtain ⟨W, hW⟩ : ∃ W, W = (((w.alloc (.cells #[.bool s_a, .slice A_a n_a c_a, .slice A_ad n_ad c_ad] 27)).alloc (.cells #[.bool s_b, .slice A_b n_b c_b, .slice A_bd n_bd c_bd] 27)).alloc (.cells #[.bool false, .slice none 0 0, .slice none 0 0] 27)) := ⟨_, rfl⟩
  have b_a : Box3 W (w.heap.size) (.bool s_a) (.slice A_a n_a c_a) (.slice A_ad n_ad c_ad) := by rw [hW]; exact (((Box3.new w _ _ _ rfl).al _).al _)
  have b_b : Box3 W (w.heap.size + 1) (.bool s_b) (.slice A_b n_b c_b) (.slice A_bd n_bd c_bd) := by rw [hW]; exact ((Box3.new _ _ _ _ (by simp)).al _)
  have b_r0 : Box3 W (w.heap.size + 1 + 1) (.bool false) (.slice none 0 0) (.slice none 0 0) := by rw [hW]; exact (Box3.new _ _ _ _ (by simp))
  have hwW : Below w.heap.size w W := by rw [hW]; exact ((((Below.refl _ _).alloc (Nat.le_refl _) _).alloc (by simp) _).alloc (by simp; omega) _)
  have R_a := hide (Rd.upto h_a hwW hB)
  clear h_a
  have R_ad := hide (Rd.upto h_ad hwW hB)
  clear h_ad
  have R_b := hide (Rd.upto h_b hwW hB)
  clear h_b
  have R_bd := hide (Rd.upto h_bd hwW hB)
  clear h_bd
  have B := hide hwW
  clear hwW
  clear hB
  have U0 : Below W.heap.size W W := Below.refl _ _
  have c_a0 := b_a.at0 b_a.lt_size (Nat.le_refl _)
  have c_a1 := b_a.at1 b_a.lt_size (Nat.le_refl _)
  have c_a2 := b_a.at2 b_a.lt_size (Nat.le_refl _)
  replace b_a := hide b_a
  have c_b0 := b_b.at0 b_b.lt_size (Nat.le_refl _)
  have c_b1 := b_b.at1 b_b.lt_size (Nat.le_refl _)
  have c_b2 := b_b.at2 b_b.lt_size (Nat.le_refl _)
  replace b_b := hide b_b
  have c_r00 := b_r0.at0 b_r0.lt_size (Nat.le_refl _)
  have c_r01 := b_r0.at1 b_r0.lt_size (Nat.le_refl _)
  have c_r02 := b_r0.at2 b_r0.lt_size (Nat.le_refl _)
  have f_r00 := b_r0.free0 b_r0.lt_size (Nat.le_refl _)
  have f_r01 := b_r0.free1 b_r0.lt_size (Nat.le_refl _)
  have f_r02 := b_r0.free2 b_r0.lt_size (Nat.le_refl _)
  have l_r0 := b_r0.lt b_r0.lt_size (Nat.le_refl _)
  replace b_r0 := hide b_r0
  go_enter Try.func17, Try.ntmps17
  go_wp2_with fail
  rw [← hW]
  clear hW
  have k_a0 := b_a.out.but0 (g1 := w.heap.size + 1 + 1) (g2 := w.heap.size + 1 + 1) (by omega) (by omega)
  have k_a1 := b_a.out.but1 (g1 := w.heap.size + 1 + 1) (g2 := w.heap.size + 1 + 1) (by omega) (by omega)
  have k_a2 := b_a.out.but2 (g1 := w.heap.size + 1 + 1) (g2 := w.heap.size + 1 + 1) (by omega) (by omega)
  have k_b0 := b_b.out.but0 (g1 := w.heap.size + 1 + 1) (g2 := w.heap.size + 1 + 1) (by omega) (by omega)
  have k_b1 := b_b.out.but1 (g1 := w.heap.size + 1 + 1) (g2 := w.heap.size + 1 + 1) (by omega) (by omega)
  have k_b2 := b_b.out.but2 (g1 := w.heap.size + 1 + 1) (g2 := w.heap.size + 1 + 1) (by omega) (by omega)
  have hd := Below.drw_ W
  replace R_a := hide (Rd.then_ R_a.out hd)
  replace R_ad := hide (Rd.then_ R_ad.out hd)
  replace R_b := hide (Rd.then_ R_b.out hd)
  replace R_bd := hide (Rd.then_ R_bd.out hd)
  have U1 : Below W.heap.size W (W.drew) := Below.then_ U0 hd
  replace B := hide (Below.then_ B.out hd)
  have K1 : KeptBut (w.heap.size + 1 + 1) (w.heap.size + 1 + 1) W.heap.size W (W.drew) := KeptBut.below U1
  clear hd
  have tok1 : True := trivial
  go_region_held3 (fun w' => KeptBut (w.heap.size + 1 + 1) (w.heap.size + 1 + 1) W.heap.size W w') (first | assumption | (with_reducible exact KeptBut.drw _) | ((repeat (first | (with_reducible refine KeptBut.set0 ?_ _) | (with_reducible refine KeptBut.drew_ ?_))); first | assumption | (with_reducible exact KeptBut.refl _ _ _ _)))
    (first
      | (go_at_call 60; (have _t := tok1; (with_reducible refine (imul_any _ _ _ _ _ _ _ _ _ _ _ _ R_a.out R_b.out (Nat.le_refl _) g1.out).mono ?_); rw [e_z1.out]; rintro e w1 ⟨A_z1, c_z1, rfl, R_z1, hb⟩; replace R_a := hide (Rd.then_ R_a.out hb); replace R_ad := hide (Rd.then_ R_ad.out hb); replace R_b := hide (Rd.then_ R_b.out hb); replace R_bd := hide (Rd.then_ R_bd.out hb); have U2 : Below W.heap.size W w1 := Below.then_ U1 hb; replace B := hide (Below.then_ B.out hb); have K2 : KeptBut (w.heap.size + 1 + 1) (w.heap.size + 1 + 1) W.heap.size W w1 := KeptBut.below U2; replace R_z1 := hide R_z1; clear hb; have tok2 : True := trivial; clear _t tok1))
      | (go_at_call 52; (have _t := tok2; (with_reducible refine (mul_any _ _ _ _ _ _ _ _ _ _ R_ad.out R_bd.out (Nat.le_refl _) g2.out).mono ?_); rw [e_d1.out]; rintro e w2 ⟨A_d1, c_d1, rfl, R_d1, hb⟩; replace R_a := hide (Rd.then_ R_a.out hb); replace R_ad := hide (Rd.then_ R_ad.out hb); replace R_b := hide (Rd.then_ R_b.out hb); replace R_bd := hide (Rd.then_ R_bd.out hb); replace R_z1 := hide (Rd.then_ R_z1.out hb); have U3 : Below W.heap.size W w2 := Below.then_ U2 hb; replace B := hide (Below.then_ B.out hb); have K3 : KeptBut (w.heap.size + 1 + 1) (w.heap.size + 1 + 1) W.heap.size W w2 := KeptBut.below U3; replace R_d1 := hide R_d1; clear hb; have tok3 : True := trivial; clear _t tok2))
      | (go_at_call 59; (have _t := tok3; (with_reducible refine (reduced_any R_z1.out gz1.out R_d1.out gd1.out (Nat.le_refl _) e_q.out).mono ?_); rintro e w3 ⟨A_q, c_q, A_qd, c_qd, rfl, R_q, R_qd, hb⟩; replace R_a := hide (Rd.then_ R_a.out hb); replace R_ad := hide (Rd.then_ R_ad.out hb); replace R_b := hide (Rd.then_ R_b.out hb); replace R_bd := hide (Rd.then_ R_bd.out hb); replace R_z1 := hide (Rd.then_ R_z1.out hb); replace R_d1 := hide (Rd.then_ R_d1.out hb); have U4 : Below W.heap.size W w3 := Below.then_ U3 hb; replace B := hide (Below.then_ B.out hb); have K4 : KeptBut (w.heap.size + 1 + 1) (w.heap.size + 1 + 1) W.heap.size W w3 := KeptBut.below U4; replace R_q := hide R_q; replace R_qd := hide R_qd; clear hb; have tok4 : True := trivial; clear _t tok3)))
  clear tok4
  clear k_a0 k_a1 k_a2
  clear k_b0 k_b1 k_b2
  go_wp2
  exact bodyPost_ret (v := .agg #[.bool (zneg q.num), .slice A_q (dig (zmag q.num)).length c_q, .slice A_qd (dig q.den).length c_qd]) (by simp [results, Try.results17, go_sem, c_r00 _ U4, c_r01 _ U4, c_r02 _ U4]) rfl (RetRat.box B.out (by omega) (c_r00 _ U4) (c_r01 _ U4) (c_r02 _ U4) R_q.out R_qd.out)

end
end Go.Proofs.Ytdihgmbldnekhaa
