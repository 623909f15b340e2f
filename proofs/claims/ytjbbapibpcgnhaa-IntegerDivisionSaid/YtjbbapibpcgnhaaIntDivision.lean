/-
  The walk of examboardlaw02.IntegerDivision.
-/
import Derived.Test.YtjbbapibpcgnhaaIntLaw
namespace Go.Proofs.Ytjbbapibpcgnhaa
open Go.RowKit

theorem fr_between {s s' : Bool} {x y : Nat} (h0 : y ≠ 0) : (0 < iv s' y → 0 ≤ fr s s' x y ∧ fr s s' x y < iv s' y) ∧ (iv s' y < 0 → iv s' y < fr s s' x y ∧ fr s s' x y ≤ 0) := by
  have hl := Nat.mod_lt x (Nat.pos_of_ne_zero h0)
  by_cases hs : s = s'
  · subst hs
    rw [fr_same]
    generalize x % y = r at *
    cases s
    · rw [iv_false, iv_false]; omega
    · rw [iv_true, iv_true]; omega
  · by_cases hm : x % y = 0
    · rw [fr_whole hs hm]; omega
    · rw [fr_below hs hm h0]
      generalize x % y = r at *
      cases s'
      · rw [iv_false, iv_false]; omega
      · rw [iv_true, iv_true]; omega
theorem fr_len {s s' : Bool} {x y : Nat} (h0 : y ≠ 0) : zmag (fr s s' x y) ≤ y := by
  have h := fr_between (s := s) (s' := s') (x := x) h0
  unfold zmag
  cases s'
  · rw [iv_false] at h; omega
  · rw [iv_true] at h; omega

set_option maxRecDepth 100000 in
set_option maxHeartbeats 4000000 in
theorem idivision_zero (w : World) (sa : Bool) (Aa : Option Addr) (na ca : Nat) (xa : List Nat) (sb : Bool) (Ab : Option Addr) (nb cb : Nat) (xb : List Nat) (h_a : Rd w w.heap.size Aa na ca xa) (k_a : na ≤ 35184372087808) (h_b : Rd w w.heap.size Ab nb cb xb) (k_b : nb ≤ 35184372087808) (hb0 : val xb = 0) :
    Calls Try.prog 7 #[.agg #[.bool sa, .slice Aa na ca], .agg #[.bool sb, .slice Ab nb cb]] w fun e w' => e = .returned (.bool true) ∧ Below w.heap.size w w' := by
  obtain ⟨K, hK⟩ : ∃ K, K = 35184372087808 := ⟨_, rfl⟩
  obtain ⟨a, za⟩ : ∃ z : Int, iv sa (val xa) = z := ⟨_, rfl⟩
  have Pa : zmag a < pw K := zlt_of za (by have h1 := val_lt h_a.limbs; have h2 := pw_mono (show xa.length ≤ K by have := h_a.len; omega); omega)
  have L_a : na ≤ K := by omega
  obtain ⟨b, zb⟩ : ∃ z : Int, iv sb (val xb) = z := ⟨_, rfl⟩
  have Pb : zmag b < pw K := zlt_of zb (by have h1 := val_lt h_b.limbs; have h2 := pw_mono (show xb.length ≤ K by have := h_b.len; omega); omega)
  have L_b : nb ≤ K := by omega
  have e0 : sgn (iv sb (val xb)) = 0 := by rw [hb0, iv_zero]; rfl
  replace za := hide za
  replace Pa := hide Pa
  replace L_a := hide L_a
  replace zb := hide zb
  replace Pb := hide Pb
  replace L_b := hide L_b
  replace e0 := hide e0
  replace hb0 := hide hb0
  have hKle : K ≤ 35184372087808 := by omega
  clear hK
  clear k_a k_b
  obtain ⟨W, hW⟩ : ∃ W, W = ((w.alloc (.cells #[.bool sa, .slice Aa na ca] 25)).alloc (.cells #[.bool sb, .slice Ab nb cb] 25)) := ⟨_, rfl⟩
  have b_a : Box W (w.heap.size) (.bool sa) (.slice Aa na ca) := by rw [hW]; exact ((Box.new w _ _ rfl).al _)
  have b_b : Box W (w.heap.size + 1) (.bool sb) (.slice Ab nb cb) := by rw [hW]; exact (Box.new _ _ _ (by simp))
  have hwW : Below w.heap.size w W := by rw [hW]; exact (((Below.refl _ _).alloc (Nat.le_refl _) _).alloc (by simp) _)
  have R_a := hide (Rd.then_ h_a hwW)
  clear h_a
  have R_b := hide (Rd.then_ h_b hwW)
  clear h_b
  have B := hide hwW
  clear hwW
  have U0 : Below W.heap.size W W := Below.refl _ _
  have c_a0 := b_a.at0 b_a.lt_size (Nat.le_refl _)
  have c_a1 := b_a.at1 b_a.lt_size (Nat.le_refl _)
  replace b_a := hide b_a
  have c_b0 := b_b.at0 b_b.lt_size (Nat.le_refl _)
  have c_b1 := b_b.at1 b_b.lt_size (Nat.le_refl _)
  replace b_b := hide b_b
  go_enter Try.func7, Try.ntmps7
  go_wp2_with fail
  rw [← hW]
  clear hW
  refine (idiv_zero _ _ _ _ _ _ _ _ _ _ _ _ R_a.out R_b.out (Nat.le_refl _) hb0.out).mono ?_
  rintro e w1 ⟨A_q, c_q, A_r, c_r, rfl, R_q, R_r, hb⟩
  replace R_a := hide (Rd.then_ R_a.out hb)
  replace R_b := hide (Rd.then_ R_b.out hb)
  have U1 : Below W.heap.size W w1 := Below.then_ U0 hb
  replace B := hide (Below.then_ B.out hb)
  replace R_q := hide R_q
  replace R_r := hide R_r
  clear hb
  have hbx : Below w1.heap.size w1 ((w1.alloc (.cells #[.bool (zneg 0), .slice A_q (dig (zmag 0)).length c_q] 25)).alloc (.cells #[.bool (zneg 0), .slice A_r (dig (zmag 0)).length c_r] 25)) := (((Below.refl _ _).alloc (Nat.le_refl _) _).alloc (by simp) _)
  have Ux := Below.then_ U1 hbx
  go_wp2_with fail
  obtain ⟨V1, hV⟩ : ∃ V, V = ((w1.alloc (.cells #[.bool (zneg 0), .slice A_q (dig (zmag 0)).length c_q] 25)).alloc (.cells #[.bool (zneg 0), .slice A_r (dig (zmag 0)).length c_r] 25)) := ⟨_, rfl⟩
  obtain ⟨g_q, hg_q⟩ : ∃ g, g = w1.heap.size := ⟨_, rfl⟩
  obtain ⟨g_r, hg_r⟩ : ∃ g, g = w1.heap.size + 1 := ⟨_, rfl⟩
  rw [← hV]
  rw [← hV] at hbx Ux
  rw [← hg_r]
  rw [← hg_q]
  have b_q : Box V1 g_q (.bool (zneg 0)) (.slice A_q (dig (zmag 0)).length c_q) := by rw [hV]; exact ((Box.new _ _ _ hg_q).al _)
  have b_r : Box V1 g_r (.bool (zneg 0)) (.slice A_r (dig (zmag 0)).length c_r) := by rw [hV]; exact (Box.new _ _ _ (by rw [hg_r]; simp))
  clear hV
  clear hg_q
  clear hg_r
  replace R_a := hide (Rd.then_ R_a.out hbx)
  replace R_b := hide (Rd.then_ R_b.out hbx)
  replace R_q := hide (Rd.then_ R_q.out hbx)
  replace R_r := hide (Rd.then_ R_r.out hbx)
  have U2 : Below W.heap.size W V1 := Below.then_ U1 hbx
  replace B := hide (Below.then_ B.out hbx)
  clear hbx
  replace b_a := hide (Box.keep b_a.out U2)
  clear c_a0 c_a1
  replace b_b := hide (Box.keep b_b.out U2)
  clear c_b0 c_b1
  replace b_q := hide b_q
  replace b_r := hide b_r
  have U3 : Below V1.heap.size V1 V1 := Below.refl _ _
  have c_a0 := b_a.out.at0 b_a.out.lt_size (Nat.le_refl _)
  have c_a1 := b_a.out.at1 b_a.out.lt_size (Nat.le_refl _)
  have c_b0 := b_b.out.at0 b_b.out.lt_size (Nat.le_refl _)
  have c_b1 := b_b.out.at1 b_b.out.lt_size (Nat.le_refl _)
  have c_q0 := b_q.out.at0 b_q.out.lt_size (Nat.le_refl _)
  have c_q1 := b_q.out.at1 b_q.out.lt_size (Nat.le_refl _)
  have c_r0 := b_r.out.at0 b_r.out.lt_size (Nat.le_refl _)
  have c_r1 := b_r.out.at1 b_r.out.lt_size (Nat.le_refl _)
  refine (isign_any _ _ _ _ _ _ _ R_b.out (Nat.le_refl _)).mono ?_
  rw [e0.out]
  rintro e w2 ⟨rfl, hb⟩
  replace R_a := hide (Rd.then_ R_a.out hb)
  replace R_b := hide (Rd.then_ R_b.out hb)
  replace R_q := hide (Rd.then_ R_q.out hb)
  replace R_r := hide (Rd.then_ R_r.out hb)
  have U4 : Below V1.heap.size V1 w2 := Below.then_ U3 hb
  replace B := hide (Below.then_ B.out hb)
  clear hb
  go_wp2_with fail
  refine (same_eq _ _ _ _ _ _ _ _ _ _ [] R_q.out (Rd.empty _ _ none (c := 0) (by omega)) rfl dz0).mono ?_
  rintro e w3 ⟨rfl, hb⟩
  replace R_a := hide (Rd.then_ R_a.out hb)
  replace R_b := hide (Rd.then_ R_b.out hb)
  replace R_q := hide (Rd.then_ R_q.out hb)
  replace R_r := hide (Rd.then_ R_r.out hb)
  have U5 : Below V1.heap.size V1 w3 := Below.then_ U4 hb
  replace B := hide (Below.then_ B.out hb)
  clear hb
  go_wp2_with fail
  refine (same_eq _ _ _ _ _ _ _ _ _ _ [] R_r.out (Rd.empty _ _ none (c := 0) (by omega)) rfl dz0).mono ?_
  rintro e w4 ⟨rfl, hb⟩
  replace R_a := hide (Rd.then_ R_a.out hb)
  replace R_b := hide (Rd.then_ R_b.out hb)
  replace R_q := hide (Rd.then_ R_q.out hb)
  replace R_r := hide (Rd.then_ R_r.out hb)
  have U6 : Below V1.heap.size V1 w4 := Below.then_ U5 hb
  replace B := hide (Below.then_ B.out hb)
  clear hb
  go_wp2_with fail
  refine (awake_any _).mono ?_
  rintro e w5 ⟨rfl, hb⟩
  replace R_a := hide (Rd.then_ R_a.out hb)
  replace R_b := hide (Rd.then_ R_b.out hb)
  replace R_q := hide (Rd.then_ R_q.out hb)
  replace R_r := hide (Rd.then_ R_r.out hb)
  have U7 : Below V1.heap.size V1 w5 := Below.then_ U6 hb
  replace B := hide (Below.then_ B.out hb)
  clear hb
  go_wp2
  go_ret
  exact ⟨rfl, B.out⟩

set_option maxRecDepth 100000 in
set_option maxHeartbeats 4000000 in
theorem idivision_whole (w : World) (sa : Bool) (Aa : Option Addr) (na ca : Nat) (xa : List Nat) (sb : Bool) (Ab : Option Addr) (nb cb : Nat) (xb : List Nat) (h_a : Rd w w.heap.size Aa na ca xa) (k_a : na ≤ 35184372087808) (h_b : Rd w w.heap.size Ab nb cb xb) (k_b : nb ≤ 35184372087808) (hb0 : val xb ≠ 0) (hr0 : fr sa sb (val xa) (val xb) = 0) :
    Calls Try.prog 7 #[.agg #[.bool sa, .slice Aa na ca], .agg #[.bool sb, .slice Ab nb cb]] w fun e w' => e = .returned (.bool true) ∧ Below w.heap.size w w' := by
  obtain ⟨K, hK⟩ : ∃ K, K = 35184372087808 := ⟨_, rfl⟩
  obtain ⟨a, za⟩ : ∃ z : Int, iv sa (val xa) = z := ⟨_, rfl⟩
  have Pa : zmag a < pw K := zlt_of za (by have h1 := val_lt h_a.limbs; have h2 := pw_mono (show xa.length ≤ K by have := h_a.len; omega); omega)
  have L_a : na ≤ K := by omega
  obtain ⟨b, zb⟩ : ∃ z : Int, iv sb (val xb) = z := ⟨_, rfl⟩
  have Pb : zmag b < pw K := zlt_of zb (by have h1 := val_lt h_b.limbs; have h2 := pw_mono (show xb.length ≤ K by have := h_b.len; omega); omega)
  have L_b : nb ≤ K := by omega
  have hfb := fr_between (s := sa) (s' := sb) (x := val xa) hb0
  have hfl := fr_len (s := sa) (s' := sb) (x := val xa) hb0
  have hql := fq_len sa sb (val xa) (val xb)
  have hax := dig_len_val h_a.limbs
  have hbx := dig_len_val h_b.limbs
  rw [h_a.len] at hax
  rw [h_b.len] at hbx
  have hrd : fr sa sb (val xa) (val xb) = a - b * fq sa sb (val xa) (val xb) := by unfold fr; rw [za, zb]
  obtain ⟨q, e5⟩ : ∃ z : Int, fq sa sb (val xa) (val xb) = z := ⟨_, rfl⟩
  obtain ⟨r, e6⟩ : ∃ z : Int, fr sa sb (val xa) (val xb) = z := ⟨_, rfl⟩
  rw [e6] at hfb hfl hrd
  rw [e5] at hql hrd
  rw [e6] at hr0
  have L_q : (dig (zmag q)).length ≤ K + 1 := by omega
  have L_r : (dig (zmag r)).length ≤ K := by have := dig_len_mono hfl; omega
  have Pq : zmag q < pw (K + 1) := (dig_len_le _ _).1 L_q
  obtain ⟨bq, dbq⟩ : ∃ z : Int, z = b * q := ⟨_, rfl⟩
  have Pbq : zmag bq < pw (K + (K + 1)) := by rw [dbq]; exact zlt_mul Pb Pq
  have L_bq : (dig (zmag bq)).length ≤ K + (K + 1) := zlen Pbq
  have e7 : iv sb (val xb) * iv (zneg q) (val (dig (zmag q))) = bq := by
    first
      | (simp only [val_ieta, zb]; done)
      | (simp only [val_ieta, zb]; first | rfl | (rw [dbq]))
      | (rw [dbq])
  have e8 : iv (zneg bq) (val (dig (zmag bq))) + iv (zneg r) (val (dig (zmag r))) = a := by
    first
      | (simp only [val_ieta]; done)
      | (simp only [val_ieta]; first | rfl | (rw [dbq]; omega))
      | (rw [dbq]; omega)
  have e9 : iv sa (val xa) = a := by
    first
      | (simp only [za]; done)
      | (simp only [za]; first | rfl | (rfl))
      | (rfl)
  subst hr0
  have e10 : sgn (iv (zneg 0) (val (dig (zmag 0)))) = 0 := by rw [val_ieta]; rfl
  obtain ⟨sb0, e11⟩ : ∃ z : Int, sgn (iv sb (val xb)) = z := ⟨_, rfl⟩
  have hsb : sb0 ≠ 0 := by rw [← e11]; intro h; have := (sgn_zero_iff _).1 h; cases sb <;> simp [iv] at this <;> omega
  have hsb1 : (sb0 == 0) = false := by simpa using hsb
  clear hsb
  clear hfb hfl hql hax hbx hrd
  replace za := hide za
  replace Pa := hide Pa
  replace L_a := hide L_a
  replace zb := hide zb
  replace Pb := hide Pb
  replace L_b := hide L_b
  replace e5 := hide e5
  replace e6 := hide e6
  replace L_q := hide L_q
  replace L_r := hide L_r
  replace Pq := hide Pq
  replace L_bq := hide L_bq
  replace Pbq := hide Pbq
  replace dbq := hide dbq
  replace e7 := hide e7
  replace e8 := hide e8
  replace e9 := hide e9
  replace e10 := hide e10
  replace e11 := hide e11
  replace hb0 := hide hb0
  have hKle : K ≤ 35184372087808 := by omega
  clear hK
  clear k_a k_b
  obtain ⟨W, hW⟩ : ∃ W, W = ((w.alloc (.cells #[.bool sa, .slice Aa na ca] 25)).alloc (.cells #[.bool sb, .slice Ab nb cb] 25)) := ⟨_, rfl⟩
  have b_a : Box W (w.heap.size) (.bool sa) (.slice Aa na ca) := by rw [hW]; exact ((Box.new w _ _ rfl).al _)
  have b_b : Box W (w.heap.size + 1) (.bool sb) (.slice Ab nb cb) := by rw [hW]; exact (Box.new _ _ _ (by simp))
  have hwW : Below w.heap.size w W := by rw [hW]; exact (((Below.refl _ _).alloc (Nat.le_refl _) _).alloc (by simp) _)
  have R_a := hide (Rd.then_ h_a hwW)
  clear h_a
  have R_b := hide (Rd.then_ h_b hwW)
  clear h_b
  have B := hide hwW
  clear hwW
  have U0 : Below W.heap.size W W := Below.refl _ _
  have c_a0 := b_a.at0 b_a.lt_size (Nat.le_refl _)
  have c_a1 := b_a.at1 b_a.lt_size (Nat.le_refl _)
  replace b_a := hide b_a
  have c_b0 := b_b.at0 b_b.lt_size (Nat.le_refl _)
  have c_b1 := b_b.at1 b_b.lt_size (Nat.le_refl _)
  replace b_b := hide b_b
  go_enter Try.func7, Try.ntmps7
  go_wp2_with fail
  rw [← hW]
  clear hW
  refine (idiv_any _ _ _ _ _ _ _ _ _ _ _ _ R_a.out R_b.out (Nat.le_refl _) (by have := L_a.out; omega) hb0.out).mono ?_
  rw [e5.out, e6.out]
  rintro e w1 ⟨A_q, c_q, A_r, c_r, rfl, R_q, R_r, hb⟩
  replace R_a := hide (Rd.then_ R_a.out hb)
  replace R_b := hide (Rd.then_ R_b.out hb)
  have U1 : Below W.heap.size W w1 := Below.then_ U0 hb
  replace B := hide (Below.then_ B.out hb)
  replace R_q := hide R_q
  replace R_r := hide R_r
  clear hb
  have hbx : Below w1.heap.size w1 ((w1.alloc (.cells #[.bool (zneg q), .slice A_q (dig (zmag q)).length c_q] 25)).alloc (.cells #[.bool (zneg 0), .slice A_r (dig (zmag 0)).length c_r] 25)) := (((Below.refl _ _).alloc (Nat.le_refl _) _).alloc (by simp) _)
  have Ux := Below.then_ U1 hbx
  go_wp2_with fail
  obtain ⟨V1, hV⟩ : ∃ V, V = ((w1.alloc (.cells #[.bool (zneg q), .slice A_q (dig (zmag q)).length c_q] 25)).alloc (.cells #[.bool (zneg 0), .slice A_r (dig (zmag 0)).length c_r] 25)) := ⟨_, rfl⟩
  obtain ⟨g_q, hg_q⟩ : ∃ g, g = w1.heap.size := ⟨_, rfl⟩
  obtain ⟨g_r, hg_r⟩ : ∃ g, g = w1.heap.size + 1 := ⟨_, rfl⟩
  rw [← hV]
  rw [← hV] at hbx Ux
  rw [← hg_r]
  rw [← hg_q]
  have b_q : Box V1 g_q (.bool (zneg q)) (.slice A_q (dig (zmag q)).length c_q) := by rw [hV]; exact ((Box.new _ _ _ hg_q).al _)
  have b_r : Box V1 g_r (.bool (zneg 0)) (.slice A_r (dig (zmag 0)).length c_r) := by rw [hV]; exact (Box.new _ _ _ (by rw [hg_r]; simp))
  clear hV
  clear hg_q
  clear hg_r
  replace R_a := hide (Rd.then_ R_a.out hbx)
  replace R_b := hide (Rd.then_ R_b.out hbx)
  replace R_q := hide (Rd.then_ R_q.out hbx)
  replace R_r := hide (Rd.then_ R_r.out hbx)
  have U2 : Below W.heap.size W V1 := Below.then_ U1 hbx
  replace B := hide (Below.then_ B.out hbx)
  clear hbx
  replace b_a := hide (Box.keep b_a.out U2)
  clear c_a0 c_a1
  replace b_b := hide (Box.keep b_b.out U2)
  clear c_b0 c_b1
  replace b_q := hide b_q
  replace b_r := hide b_r
  have U3 : Below V1.heap.size V1 V1 := Below.refl _ _
  have c_a0 := b_a.out.at0 b_a.out.lt_size (Nat.le_refl _)
  have c_a1 := b_a.out.at1 b_a.out.lt_size (Nat.le_refl _)
  have c_b0 := b_b.out.at0 b_b.out.lt_size (Nat.le_refl _)
  have c_b1 := b_b.out.at1 b_b.out.lt_size (Nat.le_refl _)
  have c_q0 := b_q.out.at0 b_q.out.lt_size (Nat.le_refl _)
  have c_q1 := b_q.out.at1 b_q.out.lt_size (Nat.le_refl _)
  have c_r0 := b_r.out.at0 b_r.out.lt_size (Nat.le_refl _)
  have c_r1 := b_r.out.at1 b_r.out.lt_size (Nat.le_refl _)
  refine (isign_any _ _ _ _ _ _ _ R_b.out (Nat.le_refl _)).mono ?_
  rw [e11.out]
  rintro e w2 ⟨rfl, hb⟩
  replace R_a := hide (Rd.then_ R_a.out hb)
  replace R_b := hide (Rd.then_ R_b.out hb)
  replace R_q := hide (Rd.then_ R_q.out hb)
  replace R_r := hide (Rd.then_ R_r.out hb)
  have U4 : Below V1.heap.size V1 w2 := Below.then_ U3 hb
  replace B := hide (Below.then_ B.out hb)
  clear hb
  go_wp2_with fail
  have hd := Below.drw_ w2
  replace R_a := hide (Rd.then_ R_a.out hd)
  replace R_b := hide (Rd.then_ R_b.out hd)
  replace R_q := hide (Rd.then_ R_q.out hd)
  replace R_r := hide (Rd.then_ R_r.out hd)
  have U5 : Below V1.heap.size V1 (w2.drew) := Below.then_ U4 hd
  replace B := hide (Below.then_ B.out hd)
  clear hd
  have tok1 : True := trivial
  go_region_held3 (fun w' => Below V1.heap.size V1 w') (assumption)
    (first
      | (go_at_call 30; (have _t := tok1; (with_reducible refine (imul_any _ _ _ _ _ _ _ _ _ _ _ _ R_b.out R_q.out (Nat.le_refl _) (by have := L_b.out; have := L_q.out; omega)).mono ?_); rw [e7.out]; rintro e w3 ⟨A_x1, c_x1, rfl, R_x1, hb⟩; replace R_a := hide (Rd.then_ R_a.out hb); replace R_b := hide (Rd.then_ R_b.out hb); replace R_q := hide (Rd.then_ R_q.out hb); replace R_r := hide (Rd.then_ R_r.out hb); have U6 : Below V1.heap.size V1 w3 := Below.then_ U5 hb; replace B := hide (Below.then_ B.out hb); replace R_x1 := hide R_x1; clear hb; have tok2 : True := trivial; clear _t tok1))
      | (go_at_call 26; (have _t := tok2; (with_reducible refine (iadd_any _ _ _ _ _ _ _ _ _ _ _ _ R_x1.out R_r.out (Nat.le_refl _) (by have := L_bq.out; omega) (by have := L_r.out; omega)).mono ?_); rw [e8.out]; rintro e w4 ⟨A_x2, c_x2, rfl, R_x2, hb⟩; replace R_a := hide (Rd.then_ R_a.out hb); replace R_b := hide (Rd.then_ R_b.out hb); replace R_q := hide (Rd.then_ R_q.out hb); replace R_r := hide (Rd.then_ R_r.out hb); replace R_x1 := hide (Rd.then_ R_x1.out hb); have U7 : Below V1.heap.size V1 w4 := Below.then_ U6 hb; replace B := hide (Below.then_ B.out hb); replace R_x2 := hide R_x2; clear hb; have tok3 : True := trivial; clear _t tok2))
      | (go_at_call 19; (have _t := tok3; (with_reducible refine (inorm_any _ _ _ _ _ _ _ R_a.out (Nat.le_refl _)).mono ?_); rw [e9.out]; rintro e w5 ⟨A_x3, c_x3, rfl, R_x3, hb⟩; replace R_a := hide (Rd.then_ R_a.out hb); replace R_b := hide (Rd.then_ R_b.out hb); replace R_q := hide (Rd.then_ R_q.out hb); replace R_r := hide (Rd.then_ R_r.out hb); replace R_x1 := hide (Rd.then_ R_x1.out hb); replace R_x2 := hide (Rd.then_ R_x2.out hb); have U8 : Below V1.heap.size V1 w5 := Below.then_ U7 hb; replace B := hide (Below.then_ B.out hb); replace R_x3 := hide R_x3; clear hb; have tok4 : True := trivial; clear _t tok3))
      | (go_at_call 14; (have _t := tok4; (with_reducible refine (same_eq _ _ _ _ _ _ _ _ _ _ _ R_x2.out R_x3.out rfl rfl).mono ?_); rintro e w6 ⟨rfl, hb⟩; replace R_a := hide (Rd.then_ R_a.out hb); replace R_b := hide (Rd.then_ R_b.out hb); replace R_q := hide (Rd.then_ R_q.out hb); replace R_r := hide (Rd.then_ R_r.out hb); replace R_x1 := hide (Rd.then_ R_x1.out hb); replace R_x2 := hide (Rd.then_ R_x2.out hb); replace R_x3 := hide (Rd.then_ R_x3.out hb); have U9 : Below V1.heap.size V1 w6 := Below.then_ U8 hb; replace B := hide (Below.then_ B.out hb); clear hb; have tok5 : True := trivial; clear _t tok4; clear R_x1; clear R_x2; clear R_x3)))
  clear tok5
  go_wp2_with fail
  refine (isign_any _ _ _ _ _ _ _ R_r.out (Nat.le_refl _)).mono ?_
  rw [e10.out]
  rintro e w7 ⟨rfl, hb⟩
  replace R_a := hide (Rd.then_ R_a.out hb)
  replace R_b := hide (Rd.then_ R_b.out hb)
  replace R_q := hide (Rd.then_ R_q.out hb)
  replace R_r := hide (Rd.then_ R_r.out hb)
  have U10 : Below V1.heap.size V1 w7 := Below.then_ U9 hb
  replace B := hide (Below.then_ B.out hb)
  clear hb
  go_wp2_with fail
  refine (awake_any _).mono ?_
  rintro e w8 ⟨rfl, hb⟩
  replace R_a := hide (Rd.then_ R_a.out hb)
  replace R_b := hide (Rd.then_ R_b.out hb)
  replace R_q := hide (Rd.then_ R_q.out hb)
  replace R_r := hide (Rd.then_ R_r.out hb)
  have U11 : Below V1.heap.size V1 w8 := Below.then_ U10 hb
  replace B := hide (Below.then_ B.out hb)
  clear hb
  go_wp2
  go_ret
  exact ⟨rfl, B.out⟩

set_option maxRecDepth 100000 in
set_option maxHeartbeats 4000000 in
theorem idivision_part (w : World) (sa : Bool) (Aa : Option Addr) (na ca : Nat) (xa : List Nat) (sb : Bool) (Ab : Option Addr) (nb cb : Nat) (xb : List Nat) (h_a : Rd w w.heap.size Aa na ca xa) (k_a : na ≤ 35184372087808) (h_b : Rd w w.heap.size Ab nb cb xb) (k_b : nb ≤ 35184372087808) (hb0 : val xb ≠ 0) (hr0 : fr sa sb (val xa) (val xb) ≠ 0) (v : Int) (hvv : (v = 1 ∧ 0 < iv sb (val xb)) ∨ (v = -1 ∧ iv sb (val xb) < 0)) :
    Calls Try.prog 7 #[.agg #[.bool sa, .slice Aa na ca], .agg #[.bool sb, .slice Ab nb cb]] w fun e w' => e = .returned (.bool true) ∧ Below w.heap.size w w' := by
  obtain ⟨K, hK⟩ : ∃ K, K = 35184372087808 := ⟨_, rfl⟩
  obtain ⟨a, za⟩ : ∃ z : Int, iv sa (val xa) = z := ⟨_, rfl⟩
  have Pa : zmag a < pw K := zlt_of za (by have h1 := val_lt h_a.limbs; have h2 := pw_mono (show xa.length ≤ K by have := h_a.len; omega); omega)
  have L_a : na ≤ K := by omega
  obtain ⟨b, zb⟩ : ∃ z : Int, iv sb (val xb) = z := ⟨_, rfl⟩
  have Pb : zmag b < pw K := zlt_of zb (by have h1 := val_lt h_b.limbs; have h2 := pw_mono (show xb.length ≤ K by have := h_b.len; omega); omega)
  have L_b : nb ≤ K := by omega
  have hfb := fr_between (s := sa) (s' := sb) (x := val xa) hb0
  have hfl := fr_len (s := sa) (s' := sb) (x := val xa) hb0
  have hql := fq_len sa sb (val xa) (val xb)
  have hax := dig_len_val h_a.limbs
  have hbx := dig_len_val h_b.limbs
  rw [h_a.len] at hax
  rw [h_b.len] at hbx
  have hrd : fr sa sb (val xa) (val xb) = a - b * fq sa sb (val xa) (val xb) := by unfold fr; rw [za, zb]
  obtain ⟨q, e5⟩ : ∃ z : Int, fq sa sb (val xa) (val xb) = z := ⟨_, rfl⟩
  obtain ⟨r, e6⟩ : ∃ z : Int, fr sa sb (val xa) (val xb) = z := ⟨_, rfl⟩
  rw [e6] at hfb hfl hrd
  rw [e5] at hql hrd
  rw [e6] at hr0
  have L_q : (dig (zmag q)).length ≤ K + 1 := by omega
  have L_r : (dig (zmag r)).length ≤ K := by have := dig_len_mono hfl; omega
  have Pq : zmag q < pw (K + 1) := (dig_len_le _ _).1 L_q
  obtain ⟨bq, dbq⟩ : ∃ z : Int, z = b * q := ⟨_, rfl⟩
  have Pbq : zmag bq < pw (K + (K + 1)) := by rw [dbq]; exact zlt_mul Pb Pq
  have L_bq : (dig (zmag bq)).length ≤ K + (K + 1) := zlen Pbq
  have e7 : iv sb (val xb) * iv (zneg q) (val (dig (zmag q))) = bq := by
    first
      | (simp only [val_ieta, zb]; done)
      | (simp only [val_ieta, zb]; first | rfl | (rw [dbq]))
      | (rw [dbq])
  have e8 : iv (zneg bq) (val (dig (zmag bq))) + iv (zneg r) (val (dig (zmag r))) = a := by
    first
      | (simp only [val_ieta]; done)
      | (simp only [val_ieta]; first | rfl | (rw [dbq]; omega))
      | (rw [dbq]; omega)
  have e9 : iv sa (val xa) = a := by
    first
      | (simp only [za]; done)
      | (simp only [za]; first | rfl | (rfl))
      | (rfl)
  have e10 : sgn (iv (zneg r) (val (dig (zmag r)))) = v := by rw [val_ieta]; rcases hvv with ⟨rfl, hbs⟩ | ⟨rfl, hbs⟩; exact (sgn_pos_iff _).2 (by omega); exact (sgn_neg_iff _).2 (by omega)
  have e11 : sgn (iv sb (val xb)) = v := by rcases hvv with ⟨rfl, hbs⟩ | ⟨rfl, hbs⟩; exact (sgn_pos_iff _).2 hbs; exact (sgn_neg_iff _).2 hbs
  have e12 : sgn (iv (zneg r) (val (dig (zmag r))) - iv sb (val xb)) = -v := by rw [val_ieta]; rcases hvv with ⟨rfl, hbs⟩ | ⟨rfl, hbs⟩; exact (sgn_neg_iff _).2 (by omega); exact (sgn_pos_iff _).2 (by omega)
  have hv1 : -1 ≤ v := by omega
  have hv2 : v ≤ 1 := by omega
  have hv0 : (v == 0) = false := by simp; omega
  clear hvv
  clear hfb hfl hql hax hbx hrd
  replace za := hide za
  replace Pa := hide Pa
  replace L_a := hide L_a
  replace zb := hide zb
  replace Pb := hide Pb
  replace L_b := hide L_b
  replace e5 := hide e5
  replace e6 := hide e6
  replace L_q := hide L_q
  replace L_r := hide L_r
  replace Pq := hide Pq
  replace L_bq := hide L_bq
  replace Pbq := hide Pbq
  replace dbq := hide dbq
  replace e7 := hide e7
  replace e8 := hide e8
  replace e9 := hide e9
  replace e10 := hide e10
  replace e11 := hide e11
  replace e12 := hide e12
  replace hr0 := hide hr0
  replace hb0 := hide hb0
  have hKle : K ≤ 35184372087808 := by omega
  clear hK
  clear k_a k_b
  obtain ⟨W, hW⟩ : ∃ W, W = ((w.alloc (.cells #[.bool sa, .slice Aa na ca] 25)).alloc (.cells #[.bool sb, .slice Ab nb cb] 25)) := ⟨_, rfl⟩
  have b_a : Box W (w.heap.size) (.bool sa) (.slice Aa na ca) := by rw [hW]; exact ((Box.new w _ _ rfl).al _)
  have b_b : Box W (w.heap.size + 1) (.bool sb) (.slice Ab nb cb) := by rw [hW]; exact (Box.new _ _ _ (by simp))
  have hwW : Below w.heap.size w W := by rw [hW]; exact (((Below.refl _ _).alloc (Nat.le_refl _) _).alloc (by simp) _)
  have R_a := hide (Rd.then_ h_a hwW)
  clear h_a
  have R_b := hide (Rd.then_ h_b hwW)
  clear h_b
  have B := hide hwW
  clear hwW
  have U0 : Below W.heap.size W W := Below.refl _ _
  have c_a0 := b_a.at0 b_a.lt_size (Nat.le_refl _)
  have c_a1 := b_a.at1 b_a.lt_size (Nat.le_refl _)
  replace b_a := hide b_a
  have c_b0 := b_b.at0 b_b.lt_size (Nat.le_refl _)
  have c_b1 := b_b.at1 b_b.lt_size (Nat.le_refl _)
  replace b_b := hide b_b
  go_enter Try.func7, Try.ntmps7
  go_wp2_with fail
  rw [← hW]
  clear hW
  refine (idiv_any _ _ _ _ _ _ _ _ _ _ _ _ R_a.out R_b.out (Nat.le_refl _) (by have := L_a.out; omega) hb0.out).mono ?_
  rw [e5.out, e6.out]
  rintro e w1 ⟨A_q, c_q, A_r, c_r, rfl, R_q, R_r, hb⟩
  replace R_a := hide (Rd.then_ R_a.out hb)
  replace R_b := hide (Rd.then_ R_b.out hb)
  have U1 : Below W.heap.size W w1 := Below.then_ U0 hb
  replace B := hide (Below.then_ B.out hb)
  replace R_q := hide R_q
  replace R_r := hide R_r
  clear hb
  have hbx : Below w1.heap.size w1 ((w1.alloc (.cells #[.bool (zneg q), .slice A_q (dig (zmag q)).length c_q] 25)).alloc (.cells #[.bool (zneg r), .slice A_r (dig (zmag r)).length c_r] 25)) := (((Below.refl _ _).alloc (Nat.le_refl _) _).alloc (by simp) _)
  have Ux := Below.then_ U1 hbx
  go_wp2_with fail
  obtain ⟨V1, hV⟩ : ∃ V, V = ((w1.alloc (.cells #[.bool (zneg q), .slice A_q (dig (zmag q)).length c_q] 25)).alloc (.cells #[.bool (zneg r), .slice A_r (dig (zmag r)).length c_r] 25)) := ⟨_, rfl⟩
  obtain ⟨g_q, hg_q⟩ : ∃ g, g = w1.heap.size := ⟨_, rfl⟩
  obtain ⟨g_r, hg_r⟩ : ∃ g, g = w1.heap.size + 1 := ⟨_, rfl⟩
  rw [← hV]
  rw [← hV] at hbx Ux
  rw [← hg_r]
  rw [← hg_q]
  have b_q : Box V1 g_q (.bool (zneg q)) (.slice A_q (dig (zmag q)).length c_q) := by rw [hV]; exact ((Box.new _ _ _ hg_q).al _)
  have b_r : Box V1 g_r (.bool (zneg r)) (.slice A_r (dig (zmag r)).length c_r) := by rw [hV]; exact (Box.new _ _ _ (by rw [hg_r]; simp))
  clear hV
  clear hg_q
  clear hg_r
  replace R_a := hide (Rd.then_ R_a.out hbx)
  replace R_b := hide (Rd.then_ R_b.out hbx)
  replace R_q := hide (Rd.then_ R_q.out hbx)
  replace R_r := hide (Rd.then_ R_r.out hbx)
  have U2 : Below W.heap.size W V1 := Below.then_ U1 hbx
  replace B := hide (Below.then_ B.out hbx)
  clear hbx
  replace b_a := hide (Box.keep b_a.out U2)
  clear c_a0 c_a1
  replace b_b := hide (Box.keep b_b.out U2)
  clear c_b0 c_b1
  replace b_q := hide b_q
  replace b_r := hide b_r
  have U3 : Below V1.heap.size V1 V1 := Below.refl _ _
  have c_a0 := b_a.out.at0 b_a.out.lt_size (Nat.le_refl _)
  have c_a1 := b_a.out.at1 b_a.out.lt_size (Nat.le_refl _)
  have c_b0 := b_b.out.at0 b_b.out.lt_size (Nat.le_refl _)
  have c_b1 := b_b.out.at1 b_b.out.lt_size (Nat.le_refl _)
  have c_q0 := b_q.out.at0 b_q.out.lt_size (Nat.le_refl _)
  have c_q1 := b_q.out.at1 b_q.out.lt_size (Nat.le_refl _)
  have c_r0 := b_r.out.at0 b_r.out.lt_size (Nat.le_refl _)
  have c_r1 := b_r.out.at1 b_r.out.lt_size (Nat.le_refl _)
  refine (isign_any _ _ _ _ _ _ _ R_b.out (Nat.le_refl _)).mono ?_
  rw [e11.out]
  rintro e w2 ⟨rfl, hb⟩
  replace R_a := hide (Rd.then_ R_a.out hb)
  replace R_b := hide (Rd.then_ R_b.out hb)
  replace R_q := hide (Rd.then_ R_q.out hb)
  replace R_r := hide (Rd.then_ R_r.out hb)
  have U4 : Below V1.heap.size V1 w2 := Below.then_ U3 hb
  replace B := hide (Below.then_ B.out hb)
  clear hb
  go_wp2_with fail
  have hd := Below.drw_ w2
  replace R_a := hide (Rd.then_ R_a.out hd)
  replace R_b := hide (Rd.then_ R_b.out hd)
  replace R_q := hide (Rd.then_ R_q.out hd)
  replace R_r := hide (Rd.then_ R_r.out hd)
  have U5 : Below V1.heap.size V1 (w2.drew) := Below.then_ U4 hd
  replace B := hide (Below.then_ B.out hd)
  clear hd
  have tok1 : True := trivial
  go_region_held3 (fun w' => Below V1.heap.size V1 w') (assumption)
    (first
      | (go_at_call 30; (have _t := tok1; (with_reducible refine (imul_any _ _ _ _ _ _ _ _ _ _ _ _ R_b.out R_q.out (Nat.le_refl _) (by have := L_b.out; have := L_q.out; omega)).mono ?_); rw [e7.out]; rintro e w3 ⟨A_x1, c_x1, rfl, R_x1, hb⟩; replace R_a := hide (Rd.then_ R_a.out hb); replace R_b := hide (Rd.then_ R_b.out hb); replace R_q := hide (Rd.then_ R_q.out hb); replace R_r := hide (Rd.then_ R_r.out hb); have U6 : Below V1.heap.size V1 w3 := Below.then_ U5 hb; replace B := hide (Below.then_ B.out hb); replace R_x1 := hide R_x1; clear hb; have tok2 : True := trivial; clear _t tok1))
      | (go_at_call 26; (have _t := tok2; (with_reducible refine (iadd_any _ _ _ _ _ _ _ _ _ _ _ _ R_x1.out R_r.out (Nat.le_refl _) (by have := L_bq.out; omega) (by have := L_r.out; omega)).mono ?_); rw [e8.out]; rintro e w4 ⟨A_x2, c_x2, rfl, R_x2, hb⟩; replace R_a := hide (Rd.then_ R_a.out hb); replace R_b := hide (Rd.then_ R_b.out hb); replace R_q := hide (Rd.then_ R_q.out hb); replace R_r := hide (Rd.then_ R_r.out hb); replace R_x1 := hide (Rd.then_ R_x1.out hb); have U7 : Below V1.heap.size V1 w4 := Below.then_ U6 hb; replace B := hide (Below.then_ B.out hb); replace R_x2 := hide R_x2; clear hb; have tok3 : True := trivial; clear _t tok2))
      | (go_at_call 19; (have _t := tok3; (with_reducible refine (inorm_any _ _ _ _ _ _ _ R_a.out (Nat.le_refl _)).mono ?_); rw [e9.out]; rintro e w5 ⟨A_x3, c_x3, rfl, R_x3, hb⟩; replace R_a := hide (Rd.then_ R_a.out hb); replace R_b := hide (Rd.then_ R_b.out hb); replace R_q := hide (Rd.then_ R_q.out hb); replace R_r := hide (Rd.then_ R_r.out hb); replace R_x1 := hide (Rd.then_ R_x1.out hb); replace R_x2 := hide (Rd.then_ R_x2.out hb); have U8 : Below V1.heap.size V1 w5 := Below.then_ U7 hb; replace B := hide (Below.then_ B.out hb); replace R_x3 := hide R_x3; clear hb; have tok4 : True := trivial; clear _t tok3))
      | (go_at_call 14; (have _t := tok4; (with_reducible refine (same_eq _ _ _ _ _ _ _ _ _ _ _ R_x2.out R_x3.out rfl rfl).mono ?_); rintro e w6 ⟨rfl, hb⟩; replace R_a := hide (Rd.then_ R_a.out hb); replace R_b := hide (Rd.then_ R_b.out hb); replace R_q := hide (Rd.then_ R_q.out hb); replace R_r := hide (Rd.then_ R_r.out hb); replace R_x1 := hide (Rd.then_ R_x1.out hb); replace R_x2 := hide (Rd.then_ R_x2.out hb); replace R_x3 := hide (Rd.then_ R_x3.out hb); have U9 : Below V1.heap.size V1 w6 := Below.then_ U8 hb; replace B := hide (Below.then_ B.out hb); clear hb; have tok5 : True := trivial; clear _t tok4; clear R_x1; clear R_x2; clear R_x3)))
  clear tok5
  go_wp2_with fail
  refine (isign_any _ _ _ _ _ _ _ R_r.out (Nat.le_refl _)).mono ?_
  rw [e10.out]
  rintro e w7 ⟨rfl, hb⟩
  replace R_a := hide (Rd.then_ R_a.out hb)
  replace R_b := hide (Rd.then_ R_b.out hb)
  replace R_q := hide (Rd.then_ R_q.out hb)
  replace R_r := hide (Rd.then_ R_r.out hb)
  have U10 : Below V1.heap.size V1 w7 := Below.then_ U9 hb
  replace B := hide (Below.then_ B.out hb)
  clear hb
  go_wp2_with fail
  have hwv : IntKind.i64.wrap (-v) = -v := by simp [IntKind.wrap, IntKind.bits, IntKind.signed]; omega
  have hd := Below.drw_ w7
  replace R_a := hide (Rd.then_ R_a.out hd)
  replace R_b := hide (Rd.then_ R_b.out hd)
  replace R_q := hide (Rd.then_ R_q.out hd)
  replace R_r := hide (Rd.then_ R_r.out hd)
  have U11 : Below V1.heap.size V1 (w7.drew) := Below.then_ U10 hd
  replace B := hide (Below.then_ B.out hd)
  clear hd
  have tok6 : True := trivial
  go_region_held3 (fun w' => Below V1.heap.size V1 w') (assumption)
    (first
      | (go_at_call 12; (have _t := tok6; (with_reducible refine (isign_any _ _ _ _ _ _ _ R_r.out (Nat.le_refl _)).mono ?_); rw [e10.out]; rintro e w8 ⟨rfl, hb⟩; replace R_a := hide (Rd.then_ R_a.out hb); replace R_b := hide (Rd.then_ R_b.out hb); replace R_q := hide (Rd.then_ R_q.out hb); replace R_r := hide (Rd.then_ R_r.out hb); have U12 : Below V1.heap.size V1 w8 := Below.then_ U11 hb; replace B := hide (Below.then_ B.out hb); clear hb; have tok7 : True := trivial; clear _t tok6))
      | (go_at_call 12; (have _t := tok7; (with_reducible refine (isign_any _ _ _ _ _ _ _ R_b.out (Nat.le_refl _)).mono ?_); rw [e11.out]; rintro e w9 ⟨rfl, hb⟩; replace R_a := hide (Rd.then_ R_a.out hb); replace R_b := hide (Rd.then_ R_b.out hb); replace R_q := hide (Rd.then_ R_q.out hb); replace R_r := hide (Rd.then_ R_r.out hb); have U13 : Below V1.heap.size V1 w9 := Below.then_ U12 hb; replace B := hide (Below.then_ B.out hb); clear hb; have tok8 : True := trivial; clear _t tok7))
      | (go_at_call 24; (have _t := tok8; (with_reducible refine (icmp_any _ _ _ _ _ _ _ _ _ _ _ _ R_r.out R_b.out (Nat.le_refl _)).mono ?_); rw [e12.out]; rintro e w10 ⟨rfl, hb⟩; replace R_a := hide (Rd.then_ R_a.out hb); replace R_b := hide (Rd.then_ R_b.out hb); replace R_q := hide (Rd.then_ R_q.out hb); replace R_r := hide (Rd.then_ R_r.out hb); have U14 : Below V1.heap.size V1 w10 := Below.then_ U13 hb; replace B := hide (Below.then_ B.out hb); clear hb; have tok9 : True := trivial; clear _t tok8))
      | (go_at_call 12; (have _t := tok9; (with_reducible refine (isign_any _ _ _ _ _ _ _ R_b.out (Nat.le_refl _)).mono ?_); rw [e11.out]; rintro e w11 ⟨rfl, hb⟩; replace R_a := hide (Rd.then_ R_a.out hb); replace R_b := hide (Rd.then_ R_b.out hb); replace R_q := hide (Rd.then_ R_q.out hb); replace R_r := hide (Rd.then_ R_r.out hb); have U15 : Below V1.heap.size V1 w11 := Below.then_ U14 hb; replace B := hide (Below.then_ B.out hb); clear hb; have tok10 : True := trivial; clear _t tok9))
      | (go_at_call 23; (have _t := tok10; (with_reducible refine (awake_any _).mono ?_); rintro e w12 ⟨rfl, hb⟩; replace R_a := hide (Rd.then_ R_a.out hb); replace R_b := hide (Rd.then_ R_b.out hb); replace R_q := hide (Rd.then_ R_q.out hb); replace R_r := hide (Rd.then_ R_r.out hb); have U16 : Below V1.heap.size V1 w12 := Below.then_ U15 hb; replace B := hide (Below.then_ B.out hb); clear hb; have tok11 : True := trivial; clear _t tok10)))
  clear tok11
  go_wp2
  go_ret
  exact ⟨rfl, B.out⟩

set_option maxRecDepth 100000 in
set_option maxHeartbeats 4000000 in
theorem idivision_walk (w : World) (sa : Bool) (Aa : Option Addr) (na ca : Nat) (xa : List Nat) (sb : Bool) (Ab : Option Addr) (nb cb : Nat) (xb : List Nat) (h_a : Rd w w.heap.size Aa na ca xa) (k_a : na ≤ 35184372087808) (h_b : Rd w w.heap.size Ab nb cb xb) (k_b : nb ≤ 35184372087808) :
    Calls Try.prog 7 #[.agg #[.bool sa, .slice Aa na ca], .agg #[.bool sb, .slice Ab nb cb]] w fun e w' => e = .returned (.bool true) ∧ Below w.heap.size w w' := by
  by_cases h0 : val xb = 0
  · exact idivision_zero w sa Aa na ca xa sb Ab nb cb xb h_a k_a h_b k_b h0
  · by_cases hr : fr sa sb (val xa) (val xb) = 0
    · exact idivision_whole w sa Aa na ca xa sb Ab nb cb xb h_a k_a h_b k_b h0 hr
    · by_cases hb : 0 < iv sb (val xb)
      · exact idivision_part w sa Aa na ca xa sb Ab nb cb xb h_a k_a h_b k_b h0 hr 1 (Or.inl ⟨rfl, hb⟩)
      · exact idivision_part w sa Aa na ca xa sb Ab nb cb xb h_a k_a h_b k_b h0 hr (-1) (Or.inr ⟨rfl, by cases sb <;> simp [iv] at * <;> omega⟩)

end Go.Proofs.Ytjbbapibpcgnhaa
