/-
  The walk of examboardlaw02.IntegerOrder.
-/
import Derived.Test.YtjbbapibpcgnhaaIntLaw
namespace Go.Proofs.Ytjbbapibpcgnhaa
open Go.RowKit

theorem same_ne (w : World) (z z' : Int) (A A' : Option Addr) (c c' : Nat) (h : Rd w w.heap.size A (dig (zmag z)).length c (dig (zmag z))) (h' : Rd w w.heap.size A' (dig (zmag z')).length c' (dig (zmag z'))) (hne : z ≠ z') :
    Calls Try.prog 14 #[.agg #[.bool (zneg z), .slice A (dig (zmag z)).length c], .agg #[.bool (zneg z'), .slice A' (dig (zmag z')).length c']] w (RetB w (.bool false)) := by
  have := same_gen w (zneg z) (zneg z') A A' _ c _ c' _ _ h h'
  rw [decide_eq_false (fun hx => hne (by rw [← iv_eta z, ← iv_eta z', hx.1, dig_inj hx.2]))] at this
  exact this

set_option maxRecDepth 100000 in
set_option maxHeartbeats 4000000 in
theorem iorder_gt (w : World) (sa : Bool) (Aa : Option Addr) (na ca : Nat) (xa : List Nat) (sb : Bool) (Ab : Option Addr) (nb cb : Nat) (xb : List Nat) (sc : Bool) (Ac : Option Addr) (nc cc : Nat) (xc : List Nat) (h_a : Rd w w.heap.size Aa na ca xa) (k_a : na ≤ 35184372087808) (h_b : Rd w w.heap.size Ab nb cb xb) (k_b : nb ≤ 35184372087808) (h_c : Rd w w.heap.size Ac nc cc xc) (k_c : nc ≤ 35184372087808) (hp0 : iv sa (val xa) ≠ iv sb (val xb)) (hgt : 0 < iv sa (val xa) - iv sb (val xb)) :
    Calls Try.prog 8 #[.agg #[.bool sa, .slice Aa na ca], .agg #[.bool sb, .slice Ab nb cb], .agg #[.bool sc, .slice Ac nc cc]] w fun e w' => e = .returned (.bool true) ∧ Below w.heap.size w w' := by
  obtain ⟨K, hK⟩ : ∃ K, K = 35184372087808 := ⟨_, rfl⟩
  obtain ⟨a, za⟩ : ∃ z : Int, iv sa (val xa) = z := ⟨_, rfl⟩
  have Pa : zmag a < pw K := zlt_of za (by have h1 := val_lt h_a.limbs; have h2 := pw_mono (show xa.length ≤ K by have := h_a.len; omega); omega)
  have L_a : na ≤ K := by omega
  obtain ⟨b, zb⟩ : ∃ z : Int, iv sb (val xb) = z := ⟨_, rfl⟩
  have Pb : zmag b < pw K := zlt_of zb (by have h1 := val_lt h_b.limbs; have h2 := pw_mono (show xb.length ≤ K by have := h_b.len; omega); omega)
  have L_b : nb ≤ K := by omega
  obtain ⟨c, zc⟩ : ∃ z : Int, iv sc (val xc) = z := ⟨_, rfl⟩
  have Pc : zmag c < pw K := zlt_of zc (by have h1 := val_lt h_c.limbs; have h2 := pw_mono (show xc.length ≤ K by have := h_c.len; omega); omega)
  have L_c : nc ≤ K := by omega
  rw [za, zb] at hp0
  rw [za, zb] at hgt
  obtain ⟨p, hp⟩ : ∃ z : Int, sgn (a - b) = z := ⟨_, rfl⟩
  obtain ⟨q, hq⟩ : ∃ z : Int, sgn (b - c) = z := ⟨_, rfl⟩
  obtain ⟨u, hu⟩ : ∃ z : Int, sgn (a - c) = z := ⟨_, rfl⟩
  obtain ⟨v, hv⟩ : ∃ z : Int, sgn c = z := ⟨_, rfl⟩
  obtain ⟨s1, ds1⟩ : ∃ z : Int, z = a + c := ⟨_, rfl⟩
  have Ps1 : zmag s1 < pw (max K K + 1) := by rw [ds1]; exact zlt_add Pa Pc
  have L_s1 : (dig (zmag s1)).length ≤ max K K + 1 := zlen Ps1
  obtain ⟨s2, ds2⟩ : ∃ z : Int, z = b + c := ⟨_, rfl⟩
  have Ps2 : zmag s2 < pw (max K K + 1) := by rw [ds2]; exact zlt_add Pb Pc
  have L_s2 : (dig (zmag s2)).length ≤ max K K + 1 := zlen Ps2
  obtain ⟨d, dd⟩ : ∃ z : Int, z = a - b := ⟨_, rfl⟩
  have Pd : zmag d < pw (max K K + 1) := by rw [dd]; exact zlt_sub Pa Pb
  have L_d : (dig (zmag d)).length ≤ max K K + 1 := zlen Pd
  obtain ⟨m1, dm1⟩ : ∃ z : Int, z = a * c := ⟨_, rfl⟩
  have Pm1 : zmag m1 < pw (K + K) := by rw [dm1]; exact zlt_mul Pa Pc
  have L_m1 : (dig (zmag m1)).length ≤ K + K := zlen Pm1
  obtain ⟨m2, dm2⟩ : ∃ z : Int, z = b * c := ⟨_, rfl⟩
  have Pm2 : zmag m2 < pw (K + K) := by rw [dm2]; exact zlt_mul Pb Pc
  have L_m2 : (dig (zmag m2)).length ≤ K + K := zlen Pm2
  have e1 : sgn (iv sa (val xa) - iv sb (val xb)) = p := by
    first
      | (simp only [za, zb]; done)
      | (simp only [za, zb]; first | rfl | (exact hp))
      | (exact hp)
  have e2 : sgn (iv sb (val xb) - iv sa (val xa)) = -p := by
    first
      | (simp only [za, zb]; done)
      | (simp only [za, zb]; first | rfl | (rw [← hp]; exact sgn_neg' _ _))
      | (rw [← hp]; exact sgn_neg' _ _)
  have e3 : iv sa (val xa) = a := by
    first
      | (simp only [za]; done)
      | (simp only [za]; first | rfl | (rfl))
      | (rfl)
  have e4 : iv sb (val xb) = b := by
    first
      | (simp only [zb]; done)
      | (simp only [zb]; first | rfl | (rfl))
      | (rfl)
  have e5 : sgn (iv sb (val xb) - iv sc (val xc)) = q := by
    first
      | (simp only [zb, zc]; done)
      | (simp only [zb, zc]; first | rfl | (exact hq))
      | (exact hq)
  have e6 : sgn (iv sa (val xa) - iv sc (val xc)) = u := by
    first
      | (simp only [za, zc]; done)
      | (simp only [za, zc]; first | rfl | (exact hu))
      | (exact hu)
  have e7 : iv sa (val xa) + iv sc (val xc) = s1 := by
    first
      | (simp only [za, zc]; done)
      | (simp only [za, zc]; first | rfl | (rw [ds1]))
      | (rw [ds1])
  have e8 : iv sb (val xb) + iv sc (val xc) = s2 := by
    first
      | (simp only [zb, zc]; done)
      | (simp only [zb, zc]; first | rfl | (rw [ds2]))
      | (rw [ds2])
  have e9 : sgn (iv (zneg s1) (val (dig (zmag s1))) - iv (zneg s2) (val (dig (zmag s2)))) = p := by
    first
      | (simp only [val_ieta]; done)
      | (simp only [val_ieta]; first | rfl | (rw [ds1, ds2, ← hp]; exact sgn_shift _ _ _))
      | (rw [ds1, ds2, ← hp]; exact sgn_shift _ _ _)
  have e10 : iv sa (val xa) - iv sb (val xb) = d := by
    first
      | (simp only [za, zb]; done)
      | (simp only [za, zb]; first | rfl | (rw [dd]))
      | (rw [dd])
  have e11 : sgn (iv (zneg d) (val (dig (zmag d)))) = p := by
    first
      | (simp only [val_ieta]; done)
      | (simp only [val_ieta]; first | rfl | (rw [dd]; exact hp))
      | (rw [dd]; exact hp)
  have e12 : iv sa (val xa) * iv sc (val xc) = m1 := by
    first
      | (simp only [za, zc]; done)
      | (simp only [za, zc]; first | rfl | (rw [dm1]))
      | (rw [dm1])
  have e13 : iv sb (val xb) * iv sc (val xc) = m2 := by
    first
      | (simp only [zb, zc]; done)
      | (simp only [zb, zc]; first | rfl | (rw [dm2]))
      | (rw [dm2])
  have e14 : sgn (iv (zneg m1) (val (dig (zmag m1))) - iv (zneg m2) (val (dig (zmag m2)))) = p * v := by
    first
      | (simp only [val_ieta]; done)
      | (simp only [val_ieta]; first | rfl | (rw [dm1, dm2, ← hp, ← hv]; exact sgn_scale _ _ _))
      | (rw [dm1, dm2, ← hp, ← hv]; exact sgn_scale _ _ _)
  have e15 : sgn (iv sc (val xc)) = v := by
    first
      | (simp only [zc]; done)
      | (simp only [zc]; first | rfl | (exact hv))
      | (exact hv)
  have bp := sgn_bound (a - b)
  have bq := sgn_bound (b - c)
  have bu := sgn_bound (a - c)
  have bv := sgn_bound c
  have tp := sgn_three (a - b)
  have tq := sgn_three (b - c)
  have tu := sgn_three (a - c)
  rw [hp] at bp tp
  rw [hq] at bq tq
  rw [hu] at bu tu
  rw [hv] at bv
  have p1 : -1 ≤ p := bp.1
  have p2 : p ≤ 1 := bp.2
  have pz : (p == 0) = false := by simp; omega
  have d1 : decide (p < -1) = false := decide_eq_false (by omega)
  have d2 : decide (1 < p) = false := decide_eq_false (by omega)
  have wp : IntKind.i64.wrap (-p) = -p := wrap_one (by omega) (by omega)
  have wv : IntKind.i64.wrap (p * v) = p * v := wrap_one (mul_one_bound bp.1 bp.2 bv.1 bv.2).1 (mul_one_bound bp.1 bp.2 bv.1 bv.2).2
  have pl : decide (p ≤ 0) = false := decide_eq_false (by omega)
  clear bp bq bu bv tp tq tu hp hq hu hv hgt
  replace za := hide za
  replace Pa := hide Pa
  replace L_a := hide L_a
  replace zb := hide zb
  replace Pb := hide Pb
  replace L_b := hide L_b
  replace zc := hide zc
  replace Pc := hide Pc
  replace L_c := hide L_c
  replace L_s1 := hide L_s1
  replace Ps1 := hide Ps1
  replace ds1 := hide ds1
  replace L_s2 := hide L_s2
  replace Ps2 := hide Ps2
  replace ds2 := hide ds2
  replace L_d := hide L_d
  replace Pd := hide Pd
  replace dd := hide dd
  replace L_m1 := hide L_m1
  replace Pm1 := hide Pm1
  replace dm1 := hide dm1
  replace L_m2 := hide L_m2
  replace Pm2 := hide Pm2
  replace dm2 := hide dm2
  replace e1 := hide e1
  replace e2 := hide e2
  replace e3 := hide e3
  replace e4 := hide e4
  replace e5 := hide e5
  replace e6 := hide e6
  replace e7 := hide e7
  replace e8 := hide e8
  replace e9 := hide e9
  replace e10 := hide e10
  replace e11 := hide e11
  replace e12 := hide e12
  replace e13 := hide e13
  replace e14 := hide e14
  replace e15 := hide e15
  replace hp0 := hide hp0
  replace wp := hide wp
  replace wv := hide wv
  have hKle : K ≤ 35184372087808 := by omega
  clear hK
  clear k_a k_b k_c
  obtain ⟨W, hW⟩ : ∃ W, W = (((w.alloc (.cells #[.bool sa, .slice Aa na ca] 25)).alloc (.cells #[.bool sb, .slice Ab nb cb] 25)).alloc (.cells #[.bool sc, .slice Ac nc cc] 25)) := ⟨_, rfl⟩
  have b_a : Box W (w.heap.size) (.bool sa) (.slice Aa na ca) := by rw [hW]; exact (((Box.new w _ _ rfl).al _).al _)
  have b_b : Box W (w.heap.size + 1) (.bool sb) (.slice Ab nb cb) := by rw [hW]; exact ((Box.new _ _ _ (by simp)).al _)
  have b_c : Box W (w.heap.size + 1 + 1) (.bool sc) (.slice Ac nc cc) := by rw [hW]; exact (Box.new _ _ _ (by simp))
  have hwW : Below w.heap.size w W := by rw [hW]; exact ((((Below.refl _ _).alloc (Nat.le_refl _) _).alloc (by simp) _).alloc (by simp; omega) _)
  have R_a := hide (Rd.then_ h_a hwW)
  clear h_a
  have R_b := hide (Rd.then_ h_b hwW)
  clear h_b
  have R_c := hide (Rd.then_ h_c hwW)
  clear h_c
  have B := hide hwW
  clear hwW
  have U0 : Below W.heap.size W W := Below.refl _ _
  have c_a0 := b_a.at0 b_a.lt_size (Nat.le_refl _)
  have c_a1 := b_a.at1 b_a.lt_size (Nat.le_refl _)
  replace b_a := hide b_a
  have c_b0 := b_b.at0 b_b.lt_size (Nat.le_refl _)
  have c_b1 := b_b.at1 b_b.lt_size (Nat.le_refl _)
  replace b_b := hide b_b
  have c_c0 := b_c.at0 b_c.lt_size (Nat.le_refl _)
  have c_c1 := b_c.at1 b_c.lt_size (Nat.le_refl _)
  replace b_c := hide b_c
  go_enter Try.func8, Try.ntmps8
  go_wp2_with fail
  rw [← hW]
  clear hW
  refine (icmp_any _ _ _ _ _ _ _ _ _ _ _ _ R_a.out R_b.out (Nat.le_refl _)).mono ?_
  rw [e1.out]
  rintro e w1 ⟨rfl, hb⟩
  replace R_a := hide (Rd.then_ R_a.out hb)
  replace R_b := hide (Rd.then_ R_b.out hb)
  replace R_c := hide (Rd.then_ R_c.out hb)
  have U1 : Below W.heap.size W w1 := Below.then_ U0 hb
  replace B := hide (Below.then_ B.out hb)
  clear hb
  go_wp2_with fail
  have wp' := wp.out
  have hd := Below.drw_ w1
  replace R_a := hide (Rd.then_ R_a.out hd)
  replace R_b := hide (Rd.then_ R_b.out hd)
  replace R_c := hide (Rd.then_ R_c.out hd)
  have U2 : Below W.heap.size W (w1.drew) := Below.then_ U1 hd
  replace B := hide (Below.then_ B.out hd)
  clear hd
  have tok1 : True := trivial
  go_region_held3 (fun w' => Below W.heap.size W w') (assumption)
    (first
      | (go_at_call 24; (have _t := tok1; (with_reducible refine (icmp_any _ _ _ _ _ _ _ _ _ _ _ _ R_b.out R_a.out (Nat.le_refl _)).mono ?_); rw [e2.out]; rintro e w2 ⟨rfl, hb⟩; replace R_a := hide (Rd.then_ R_a.out hb); replace R_b := hide (Rd.then_ R_b.out hb); replace R_c := hide (Rd.then_ R_c.out hb); have U3 : Below W.heap.size W w2 := Below.then_ U2 hb; replace B := hide (Below.then_ B.out hb); clear hb; have tok2 : True := trivial; clear _t tok1))
      | (go_at_call 19; (have _t := tok2; (with_reducible refine (inorm_any _ _ _ _ _ _ _ R_a.out (Nat.le_refl _)).mono ?_); rw [e3.out]; rintro e w3 ⟨A_x1, c_x1, rfl, R_x1, hb⟩; replace R_a := hide (Rd.then_ R_a.out hb); replace R_b := hide (Rd.then_ R_b.out hb); replace R_c := hide (Rd.then_ R_c.out hb); have U4 : Below W.heap.size W w3 := Below.then_ U3 hb; replace B := hide (Below.then_ B.out hb); replace R_x1 := hide R_x1; clear hb; have tok3 : True := trivial; clear _t tok2))
      | (go_at_call 19; (have _t := tok3; (with_reducible refine (inorm_any _ _ _ _ _ _ _ R_b.out (Nat.le_refl _)).mono ?_); rw [e4.out]; rintro e w4 ⟨A_x2, c_x2, rfl, R_x2, hb⟩; replace R_a := hide (Rd.then_ R_a.out hb); replace R_b := hide (Rd.then_ R_b.out hb); replace R_c := hide (Rd.then_ R_c.out hb); replace R_x1 := hide (Rd.then_ R_x1.out hb); have U5 : Below W.heap.size W w4 := Below.then_ U4 hb; replace B := hide (Below.then_ B.out hb); replace R_x2 := hide R_x2; clear hb; have tok4 : True := trivial; clear _t tok3))
      | (go_at_call 14; (have _t := tok4; (with_reducible refine (same_ne _ _ _ _ _ _ _ R_x1.out R_x2.out hp0.out).mono ?_); rintro e w5 ⟨rfl, hb⟩; replace R_a := hide (Rd.then_ R_a.out hb); replace R_b := hide (Rd.then_ R_b.out hb); replace R_c := hide (Rd.then_ R_c.out hb); replace R_x1 := hide (Rd.then_ R_x1.out hb); replace R_x2 := hide (Rd.then_ R_x2.out hb); have U6 : Below W.heap.size W w5 := Below.then_ U5 hb; replace B := hide (Below.then_ B.out hb); clear hb; have tok5 : True := trivial; clear _t tok4; clear R_x1; clear R_x2)))
  clear tok5
  clear wp'
  go_wp2_with fail
  have hd := Below.drw_ w5
  replace R_a := hide (Rd.then_ R_a.out hd)
  replace R_b := hide (Rd.then_ R_b.out hd)
  replace R_c := hide (Rd.then_ R_c.out hd)
  have U7 : Below W.heap.size W (w5.drew) := Below.then_ U6 hd
  replace B := hide (Below.then_ B.out hd)
  clear hd
  have tok6 : True := trivial
  go_region_held3 (fun w' => Below W.heap.size W w') (assumption)
    (first
      | (go_at_call 26; (have _t := tok6; (with_reducible refine (iadd_any _ _ _ _ _ _ _ _ _ _ _ _ R_a.out R_c.out (Nat.le_refl _) (by have := L_a.out; omega) (by have := L_c.out; omega)).mono ?_); rw [e7.out]; rintro e w6 ⟨A_x1, c_x1, rfl, R_x1, hb⟩; replace R_a := hide (Rd.then_ R_a.out hb); replace R_b := hide (Rd.then_ R_b.out hb); replace R_c := hide (Rd.then_ R_c.out hb); have U8 : Below W.heap.size W w6 := Below.then_ U7 hb; replace B := hide (Below.then_ B.out hb); replace R_x1 := hide R_x1; clear hb; have tok7 : True := trivial; clear _t tok6))
      | (go_at_call 26; (have _t := tok7; (with_reducible refine (iadd_any _ _ _ _ _ _ _ _ _ _ _ _ R_b.out R_c.out (Nat.le_refl _) (by have := L_b.out; omega) (by have := L_c.out; omega)).mono ?_); rw [e8.out]; rintro e w7 ⟨A_x2, c_x2, rfl, R_x2, hb⟩; replace R_a := hide (Rd.then_ R_a.out hb); replace R_b := hide (Rd.then_ R_b.out hb); replace R_c := hide (Rd.then_ R_c.out hb); replace R_x1 := hide (Rd.then_ R_x1.out hb); have U9 : Below W.heap.size W w7 := Below.then_ U8 hb; replace B := hide (Below.then_ B.out hb); replace R_x2 := hide R_x2; clear hb; have tok8 : True := trivial; clear _t tok7))
      | (go_at_call 24; (have _t := tok8; (with_reducible refine (icmp_any _ _ _ _ _ _ _ _ _ _ _ _ R_x1.out R_x2.out (Nat.le_refl _)).mono ?_); rw [e9.out]; rintro e w8 ⟨rfl, hb⟩; replace R_a := hide (Rd.then_ R_a.out hb); replace R_b := hide (Rd.then_ R_b.out hb); replace R_c := hide (Rd.then_ R_c.out hb); replace R_x1 := hide (Rd.then_ R_x1.out hb); replace R_x2 := hide (Rd.then_ R_x2.out hb); have U10 : Below W.heap.size W w8 := Below.then_ U9 hb; replace B := hide (Below.then_ B.out hb); clear hb; have tok9 : True := trivial; clear _t tok8; clear R_x1; clear R_x2))
      | (go_at_call 28; (have _t := tok9; (with_reducible refine (isub_any _ _ _ _ _ _ _ _ _ _ _ _ R_a.out R_b.out (Nat.le_refl _) (by have := L_a.out; omega) (by have := L_b.out; omega)).mono ?_); rw [e10.out]; rintro e w9 ⟨A_x1, c_x1, rfl, R_x1, hb⟩; replace R_a := hide (Rd.then_ R_a.out hb); replace R_b := hide (Rd.then_ R_b.out hb); replace R_c := hide (Rd.then_ R_c.out hb); have U11 : Below W.heap.size W w9 := Below.then_ U10 hb; replace B := hide (Below.then_ B.out hb); replace R_x1 := hide R_x1; clear hb; have tok10 : True := trivial; clear _t tok9))
      | (go_at_call 12; (have _t := tok10; (with_reducible refine (isign_any _ _ _ _ _ _ _ R_x1.out (Nat.le_refl _)).mono ?_); rw [e11.out]; rintro e w10 ⟨rfl, hb⟩; replace R_a := hide (Rd.then_ R_a.out hb); replace R_b := hide (Rd.then_ R_b.out hb); replace R_c := hide (Rd.then_ R_c.out hb); replace R_x1 := hide (Rd.then_ R_x1.out hb); have U12 : Below W.heap.size W w10 := Below.then_ U11 hb; replace B := hide (Below.then_ B.out hb); clear hb; have tok11 : True := trivial; clear _t tok10; clear R_x1)))
  clear tok11
  go_wp2_with fail
  have m1s : na + nc ≤ 70368744177664 := (by have := L_a.out; have := L_c.out; omega)
  have m2s : nb + nc ≤ 70368744177664 := (by have := L_b.out; have := L_c.out; omega)
  replace m1s := hide m1s
  replace m2s := hide m2s
  have wv' := wv.out
  have hd := Below.drw_ w10
  replace R_a := hide (Rd.then_ R_a.out hd)
  replace R_b := hide (Rd.then_ R_b.out hd)
  replace R_c := hide (Rd.then_ R_c.out hd)
  have U13 : Below W.heap.size W (w10.drew) := Below.then_ U12 hd
  replace B := hide (Below.then_ B.out hd)
  clear hd
  have tok12 : True := trivial
  go_region_held3 (fun w' => Below W.heap.size W w') (assumption)
    (first
      | (go_at_call 30; (have _t := tok12; (with_reducible refine (imul_any _ _ _ _ _ _ _ _ _ _ _ _ R_a.out R_c.out (Nat.le_refl _) m1s.out).mono ?_); rw [e12.out]; rintro e w11 ⟨A_x1, c_x1, rfl, R_x1, hb⟩; replace R_a := hide (Rd.then_ R_a.out hb); replace R_b := hide (Rd.then_ R_b.out hb); replace R_c := hide (Rd.then_ R_c.out hb); have U14 : Below W.heap.size W w11 := Below.then_ U13 hb; replace B := hide (Below.then_ B.out hb); replace R_x1 := hide R_x1; clear hb; have tok13 : True := trivial; clear _t tok12))
      | (go_at_call 30; (have _t := tok13; (with_reducible refine (imul_any _ _ _ _ _ _ _ _ _ _ _ _ R_b.out R_c.out (Nat.le_refl _) m2s.out).mono ?_); rw [e13.out]; rintro e w12 ⟨A_x2, c_x2, rfl, R_x2, hb⟩; replace R_a := hide (Rd.then_ R_a.out hb); replace R_b := hide (Rd.then_ R_b.out hb); replace R_c := hide (Rd.then_ R_c.out hb); replace R_x1 := hide (Rd.then_ R_x1.out hb); have U15 : Below W.heap.size W w12 := Below.then_ U14 hb; replace B := hide (Below.then_ B.out hb); replace R_x2 := hide R_x2; clear hb; have tok14 : True := trivial; clear _t tok13))
      | (go_at_call 24; (have _t := tok14; (with_reducible refine (icmp_any _ _ _ _ _ _ _ _ _ _ _ _ R_x1.out R_x2.out (Nat.le_refl _)).mono ?_); rw [e14.out]; rintro e w13 ⟨rfl, hb⟩; replace R_a := hide (Rd.then_ R_a.out hb); replace R_b := hide (Rd.then_ R_b.out hb); replace R_c := hide (Rd.then_ R_c.out hb); replace R_x1 := hide (Rd.then_ R_x1.out hb); replace R_x2 := hide (Rd.then_ R_x2.out hb); have U16 : Below W.heap.size W w13 := Below.then_ U15 hb; replace B := hide (Below.then_ B.out hb); clear hb; have tok15 : True := trivial; clear _t tok14; clear R_x1; clear R_x2))
      | (go_at_call 12; (have _t := tok15; (with_reducible refine (isign_any _ _ _ _ _ _ _ R_c.out (Nat.le_refl _)).mono ?_); rw [e15.out]; rintro e w14 ⟨rfl, hb⟩; replace R_a := hide (Rd.then_ R_a.out hb); replace R_b := hide (Rd.then_ R_b.out hb); replace R_c := hide (Rd.then_ R_c.out hb); have U17 : Below W.heap.size W w14 := Below.then_ U16 hb; replace B := hide (Below.then_ B.out hb); clear hb; have tok16 : True := trivial; clear _t tok15))
      | (go_at_call 23; (have _t := tok16; (with_reducible refine (awake_any _).mono ?_); rintro e w15 ⟨rfl, hb⟩; replace R_a := hide (Rd.then_ R_a.out hb); replace R_b := hide (Rd.then_ R_b.out hb); replace R_c := hide (Rd.then_ R_c.out hb); have U18 : Below W.heap.size W w15 := Below.then_ U17 hb; replace B := hide (Below.then_ B.out hb); clear hb; have tok17 : True := trivial; clear _t tok16)))
  clear tok17
  go_wp2
  go_ret
  exact ⟨rfl, B.out⟩

set_option maxRecDepth 100000 in
set_option maxHeartbeats 4000000 in
theorem iorder_eqq (w : World) (sa : Bool) (Aa : Option Addr) (na ca : Nat) (xa : List Nat) (sb : Bool) (Ab : Option Addr) (nb cb : Nat) (xb : List Nat) (sc : Bool) (Ac : Option Addr) (nc cc : Nat) (xc : List Nat) (h_a : Rd w w.heap.size Aa na ca xa) (k_a : na ≤ 35184372087808) (h_b : Rd w w.heap.size Ab nb cb xb) (k_b : nb ≤ 35184372087808) (h_c : Rd w w.heap.size Ac nc cc xc) (k_c : nc ≤ 35184372087808) (hp0 : iv sa (val xa) = iv sb (val xb)) (_hle : iv sa (val xa) - iv sb (val xb) ≤ 0) (hq0 : 0 < iv sb (val xb) - iv sc (val xc)) :
    Calls Try.prog 8 #[.agg #[.bool sa, .slice Aa na ca], .agg #[.bool sb, .slice Ab nb cb], .agg #[.bool sc, .slice Ac nc cc]] w fun e w' => e = .returned (.bool true) ∧ Below w.heap.size w w' := by
  obtain ⟨K, hK⟩ : ∃ K, K = 35184372087808 := ⟨_, rfl⟩
  obtain ⟨a, za⟩ : ∃ z : Int, iv sa (val xa) = z := ⟨_, rfl⟩
  have Pa : zmag a < pw K := zlt_of za (by have h1 := val_lt h_a.limbs; have h2 := pw_mono (show xa.length ≤ K by have := h_a.len; omega); omega)
  have L_a : na ≤ K := by omega
  obtain ⟨b, zb⟩ : ∃ z : Int, iv sb (val xb) = z := ⟨_, rfl⟩
  have Pb : zmag b < pw K := zlt_of zb (by have h1 := val_lt h_b.limbs; have h2 := pw_mono (show xb.length ≤ K by have := h_b.len; omega); omega)
  have L_b : nb ≤ K := by omega
  obtain ⟨c, zc⟩ : ∃ z : Int, iv sc (val xc) = z := ⟨_, rfl⟩
  have Pc : zmag c < pw K := zlt_of zc (by have h1 := val_lt h_c.limbs; have h2 := pw_mono (show xc.length ≤ K by have := h_c.len; omega); omega)
  have L_c : nc ≤ K := by omega
  rw [za, zb] at hp0
  rw [zb, zc] at hq0
  obtain ⟨p, hp⟩ : ∃ z : Int, sgn (a - b) = z := ⟨_, rfl⟩
  obtain ⟨q, hq⟩ : ∃ z : Int, sgn (b - c) = z := ⟨_, rfl⟩
  obtain ⟨u, hu⟩ : ∃ z : Int, sgn (a - c) = z := ⟨_, rfl⟩
  obtain ⟨v, hv⟩ : ∃ z : Int, sgn c = z := ⟨_, rfl⟩
  obtain ⟨s1, ds1⟩ : ∃ z : Int, z = a + c := ⟨_, rfl⟩
  have Ps1 : zmag s1 < pw (max K K + 1) := by rw [ds1]; exact zlt_add Pa Pc
  have L_s1 : (dig (zmag s1)).length ≤ max K K + 1 := zlen Ps1
  obtain ⟨s2, ds2⟩ : ∃ z : Int, z = b + c := ⟨_, rfl⟩
  have Ps2 : zmag s2 < pw (max K K + 1) := by rw [ds2]; exact zlt_add Pb Pc
  have L_s2 : (dig (zmag s2)).length ≤ max K K + 1 := zlen Ps2
  obtain ⟨d, dd⟩ : ∃ z : Int, z = a - b := ⟨_, rfl⟩
  have Pd : zmag d < pw (max K K + 1) := by rw [dd]; exact zlt_sub Pa Pb
  have L_d : (dig (zmag d)).length ≤ max K K + 1 := zlen Pd
  obtain ⟨m1, dm1⟩ : ∃ z : Int, z = a * c := ⟨_, rfl⟩
  have Pm1 : zmag m1 < pw (K + K) := by rw [dm1]; exact zlt_mul Pa Pc
  have L_m1 : (dig (zmag m1)).length ≤ K + K := zlen Pm1
  obtain ⟨m2, dm2⟩ : ∃ z : Int, z = b * c := ⟨_, rfl⟩
  have Pm2 : zmag m2 < pw (K + K) := by rw [dm2]; exact zlt_mul Pb Pc
  have L_m2 : (dig (zmag m2)).length ≤ K + K := zlen Pm2
  have e1 : sgn (iv sa (val xa) - iv sb (val xb)) = p := by
    first
      | (simp only [za, zb]; done)
      | (simp only [za, zb]; first | rfl | (exact hp))
      | (exact hp)
  have e2 : sgn (iv sb (val xb) - iv sa (val xa)) = -p := by
    first
      | (simp only [za, zb]; done)
      | (simp only [za, zb]; first | rfl | (rw [← hp]; exact sgn_neg' _ _))
      | (rw [← hp]; exact sgn_neg' _ _)
  have e3 : iv sa (val xa) = a := by
    first
      | (simp only [za]; done)
      | (simp only [za]; first | rfl | (rfl))
      | (rfl)
  have e4 : iv sb (val xb) = b := by
    first
      | (simp only [zb]; done)
      | (simp only [zb]; first | rfl | (rfl))
      | (rfl)
  have e5 : sgn (iv sb (val xb) - iv sc (val xc)) = q := by
    first
      | (simp only [zb, zc]; done)
      | (simp only [zb, zc]; first | rfl | (exact hq))
      | (exact hq)
  have e6 : sgn (iv sa (val xa) - iv sc (val xc)) = u := by
    first
      | (simp only [za, zc]; done)
      | (simp only [za, zc]; first | rfl | (exact hu))
      | (exact hu)
  have e7 : iv sa (val xa) + iv sc (val xc) = s1 := by
    first
      | (simp only [za, zc]; done)
      | (simp only [za, zc]; first | rfl | (rw [ds1]))
      | (rw [ds1])
  have e8 : iv sb (val xb) + iv sc (val xc) = s2 := by
    first
      | (simp only [zb, zc]; done)
      | (simp only [zb, zc]; first | rfl | (rw [ds2]))
      | (rw [ds2])
  have e9 : sgn (iv (zneg s1) (val (dig (zmag s1))) - iv (zneg s2) (val (dig (zmag s2)))) = p := by
    first
      | (simp only [val_ieta]; done)
      | (simp only [val_ieta]; first | rfl | (rw [ds1, ds2, ← hp]; exact sgn_shift _ _ _))
      | (rw [ds1, ds2, ← hp]; exact sgn_shift _ _ _)
  have e10 : iv sa (val xa) - iv sb (val xb) = d := by
    first
      | (simp only [za, zb]; done)
      | (simp only [za, zb]; first | rfl | (rw [dd]))
      | (rw [dd])
  have e11 : sgn (iv (zneg d) (val (dig (zmag d)))) = p := by
    first
      | (simp only [val_ieta]; done)
      | (simp only [val_ieta]; first | rfl | (rw [dd]; exact hp))
      | (rw [dd]; exact hp)
  have e12 : iv sa (val xa) * iv sc (val xc) = m1 := by
    first
      | (simp only [za, zc]; done)
      | (simp only [za, zc]; first | rfl | (rw [dm1]))
      | (rw [dm1])
  have e13 : iv sb (val xb) * iv sc (val xc) = m2 := by
    first
      | (simp only [zb, zc]; done)
      | (simp only [zb, zc]; first | rfl | (rw [dm2]))
      | (rw [dm2])
  have e14 : sgn (iv (zneg m1) (val (dig (zmag m1))) - iv (zneg m2) (val (dig (zmag m2)))) = p * v := by
    first
      | (simp only [val_ieta]; done)
      | (simp only [val_ieta]; first | rfl | (rw [dm1, dm2, ← hp, ← hv]; exact sgn_scale _ _ _))
      | (rw [dm1, dm2, ← hp, ← hv]; exact sgn_scale _ _ _)
  have e15 : sgn (iv sc (val xc)) = v := by
    first
      | (simp only [zc]; done)
      | (simp only [zc]; first | rfl | (exact hv))
      | (exact hv)
  have bp := sgn_bound (a - b)
  have bq := sgn_bound (b - c)
  have bu := sgn_bound (a - c)
  have bv := sgn_bound c
  have tp := sgn_three (a - b)
  have tq := sgn_three (b - c)
  have tu := sgn_three (a - c)
  rw [hp] at bp tp
  rw [hq] at bq tq
  rw [hu] at bu tu
  rw [hv] at bv
  have p1 : -1 ≤ p := bp.1
  have p2 : p ≤ 1 := bp.2
  have pz : (p == 0) = true := by simp; omega
  have d1 : decide (p < -1) = false := decide_eq_false (by omega)
  have d2 : decide (1 < p) = false := decide_eq_false (by omega)
  have wp : IntKind.i64.wrap (-p) = -p := wrap_one (by omega) (by omega)
  have wv : IntKind.i64.wrap (p * v) = p * v := wrap_one (mul_one_bound bp.1 bp.2 bv.1 bv.2).1 (mul_one_bound bp.1 bp.2 bv.1 bv.2).2
  have pl : decide (p ≤ 0) = true := decide_eq_true (by omega)
  have ql : decide (q ≤ 0) = false := decide_eq_false (by omega)
  clear bp bq bu bv tp tq tu hp hq hu hv hq0
  replace za := hide za
  replace Pa := hide Pa
  replace L_a := hide L_a
  replace zb := hide zb
  replace Pb := hide Pb
  replace L_b := hide L_b
  replace zc := hide zc
  replace Pc := hide Pc
  replace L_c := hide L_c
  replace L_s1 := hide L_s1
  replace Ps1 := hide Ps1
  replace ds1 := hide ds1
  replace L_s2 := hide L_s2
  replace Ps2 := hide Ps2
  replace ds2 := hide ds2
  replace L_d := hide L_d
  replace Pd := hide Pd
  replace dd := hide dd
  replace L_m1 := hide L_m1
  replace Pm1 := hide Pm1
  replace dm1 := hide dm1
  replace L_m2 := hide L_m2
  replace Pm2 := hide Pm2
  replace dm2 := hide dm2
  replace e1 := hide e1
  replace e2 := hide e2
  replace e3 := hide e3
  replace e4 := hide e4
  replace e5 := hide e5
  replace e6 := hide e6
  replace e7 := hide e7
  replace e8 := hide e8
  replace e9 := hide e9
  replace e10 := hide e10
  replace e11 := hide e11
  replace e12 := hide e12
  replace e13 := hide e13
  replace e14 := hide e14
  replace e15 := hide e15
  replace hp0 := hide hp0
  replace wp := hide wp
  replace wv := hide wv
  have hKle : K ≤ 35184372087808 := by omega
  clear hK
  clear k_a k_b k_c
  obtain ⟨W, hW⟩ : ∃ W, W = (((w.alloc (.cells #[.bool sa, .slice Aa na ca] 25)).alloc (.cells #[.bool sb, .slice Ab nb cb] 25)).alloc (.cells #[.bool sc, .slice Ac nc cc] 25)) := ⟨_, rfl⟩
  have b_a : Box W (w.heap.size) (.bool sa) (.slice Aa na ca) := by rw [hW]; exact (((Box.new w _ _ rfl).al _).al _)
  have b_b : Box W (w.heap.size + 1) (.bool sb) (.slice Ab nb cb) := by rw [hW]; exact ((Box.new _ _ _ (by simp)).al _)
  have b_c : Box W (w.heap.size + 1 + 1) (.bool sc) (.slice Ac nc cc) := by rw [hW]; exact (Box.new _ _ _ (by simp))
  have hwW : Below w.heap.size w W := by rw [hW]; exact ((((Below.refl _ _).alloc (Nat.le_refl _) _).alloc (by simp) _).alloc (by simp; omega) _)
  have R_a := hide (Rd.then_ h_a hwW)
  clear h_a
  have R_b := hide (Rd.then_ h_b hwW)
  clear h_b
  have R_c := hide (Rd.then_ h_c hwW)
  clear h_c
  have B := hide hwW
  clear hwW
  have U0 : Below W.heap.size W W := Below.refl _ _
  have c_a0 := b_a.at0 b_a.lt_size (Nat.le_refl _)
  have c_a1 := b_a.at1 b_a.lt_size (Nat.le_refl _)
  replace b_a := hide b_a
  have c_b0 := b_b.at0 b_b.lt_size (Nat.le_refl _)
  have c_b1 := b_b.at1 b_b.lt_size (Nat.le_refl _)
  replace b_b := hide b_b
  have c_c0 := b_c.at0 b_c.lt_size (Nat.le_refl _)
  have c_c1 := b_c.at1 b_c.lt_size (Nat.le_refl _)
  replace b_c := hide b_c
  go_enter Try.func8, Try.ntmps8
  go_wp2_with fail
  rw [← hW]
  clear hW
  refine (icmp_any _ _ _ _ _ _ _ _ _ _ _ _ R_a.out R_b.out (Nat.le_refl _)).mono ?_
  rw [e1.out]
  rintro e w1 ⟨rfl, hb⟩
  replace R_a := hide (Rd.then_ R_a.out hb)
  replace R_b := hide (Rd.then_ R_b.out hb)
  replace R_c := hide (Rd.then_ R_c.out hb)
  have U1 : Below W.heap.size W w1 := Below.then_ U0 hb
  replace B := hide (Below.then_ B.out hb)
  clear hb
  go_wp2_with fail
  have wp' := wp.out
  have hd := Below.drw_ w1
  replace R_a := hide (Rd.then_ R_a.out hd)
  replace R_b := hide (Rd.then_ R_b.out hd)
  replace R_c := hide (Rd.then_ R_c.out hd)
  have U2 : Below W.heap.size W (w1.drew) := Below.then_ U1 hd
  replace B := hide (Below.then_ B.out hd)
  clear hd
  have tok1 : True := trivial
  go_region_held3 (fun w' => Below W.heap.size W w') (assumption)
    (first
      | (go_at_call 24; (have _t := tok1; (with_reducible refine (icmp_any _ _ _ _ _ _ _ _ _ _ _ _ R_b.out R_a.out (Nat.le_refl _)).mono ?_); rw [e2.out]; rintro e w2 ⟨rfl, hb⟩; replace R_a := hide (Rd.then_ R_a.out hb); replace R_b := hide (Rd.then_ R_b.out hb); replace R_c := hide (Rd.then_ R_c.out hb); have U3 : Below W.heap.size W w2 := Below.then_ U2 hb; replace B := hide (Below.then_ B.out hb); clear hb; have tok2 : True := trivial; clear _t tok1))
      | (go_at_call 19; (have _t := tok2; (with_reducible refine (inorm_any _ _ _ _ _ _ _ R_a.out (Nat.le_refl _)).mono ?_); rw [e3.out]; rintro e w3 ⟨A_x1, c_x1, rfl, R_x1, hb⟩; replace R_a := hide (Rd.then_ R_a.out hb); replace R_b := hide (Rd.then_ R_b.out hb); replace R_c := hide (Rd.then_ R_c.out hb); have U4 : Below W.heap.size W w3 := Below.then_ U3 hb; replace B := hide (Below.then_ B.out hb); replace R_x1 := hide R_x1; clear hb; have tok3 : True := trivial; clear _t tok2))
      | (go_at_call 19; (have _t := tok3; (with_reducible refine (inorm_any _ _ _ _ _ _ _ R_b.out (Nat.le_refl _)).mono ?_); rw [e4.out]; rintro e w4 ⟨A_x2, c_x2, rfl, R_x2, hb⟩; replace R_a := hide (Rd.then_ R_a.out hb); replace R_b := hide (Rd.then_ R_b.out hb); replace R_c := hide (Rd.then_ R_c.out hb); replace R_x1 := hide (Rd.then_ R_x1.out hb); have U5 : Below W.heap.size W w4 := Below.then_ U4 hb; replace B := hide (Below.then_ B.out hb); replace R_x2 := hide R_x2; clear hb; have tok4 : True := trivial; clear _t tok3))
      | (go_at_call 14; (have _t := tok4; (with_reducible refine (same_eq _ _ _ _ _ _ _ _ _ _ _ R_x1.out R_x2.out (by rw [hp0.out]) (by rw [hp0.out])).mono ?_); rintro e w5 ⟨rfl, hb⟩; replace R_a := hide (Rd.then_ R_a.out hb); replace R_b := hide (Rd.then_ R_b.out hb); replace R_c := hide (Rd.then_ R_c.out hb); replace R_x1 := hide (Rd.then_ R_x1.out hb); replace R_x2 := hide (Rd.then_ R_x2.out hb); have U6 : Below W.heap.size W w5 := Below.then_ U5 hb; replace B := hide (Below.then_ B.out hb); clear hb; have tok5 : True := trivial; clear _t tok4; clear R_x1; clear R_x2)))
  clear tok5
  clear wp'
  go_wp2_with fail
  refine (icmp_any _ _ _ _ _ _ _ _ _ _ _ _ R_b.out R_c.out (Nat.le_refl _)).mono ?_
  rw [e5.out]
  rintro e w6 ⟨rfl, hb⟩
  replace R_a := hide (Rd.then_ R_a.out hb)
  replace R_b := hide (Rd.then_ R_b.out hb)
  replace R_c := hide (Rd.then_ R_c.out hb)
  have U7 : Below W.heap.size W w6 := Below.then_ U6 hb
  replace B := hide (Below.then_ B.out hb)
  clear hb
  go_wp2_with fail
  have hd := Below.drw_ w6
  replace R_a := hide (Rd.then_ R_a.out hd)
  replace R_b := hide (Rd.then_ R_b.out hd)
  replace R_c := hide (Rd.then_ R_c.out hd)
  have U8 : Below W.heap.size W (w6.drew) := Below.then_ U7 hd
  replace B := hide (Below.then_ B.out hd)
  clear hd
  have tok6 : True := trivial
  go_region_held3 (fun w' => Below W.heap.size W w') (assumption)
    (first
      | (go_at_call 26; (have _t := tok6; (with_reducible refine (iadd_any _ _ _ _ _ _ _ _ _ _ _ _ R_a.out R_c.out (Nat.le_refl _) (by have := L_a.out; omega) (by have := L_c.out; omega)).mono ?_); rw [e7.out]; rintro e w7 ⟨A_x1, c_x1, rfl, R_x1, hb⟩; replace R_a := hide (Rd.then_ R_a.out hb); replace R_b := hide (Rd.then_ R_b.out hb); replace R_c := hide (Rd.then_ R_c.out hb); have U9 : Below W.heap.size W w7 := Below.then_ U8 hb; replace B := hide (Below.then_ B.out hb); replace R_x1 := hide R_x1; clear hb; have tok7 : True := trivial; clear _t tok6))
      | (go_at_call 26; (have _t := tok7; (with_reducible refine (iadd_any _ _ _ _ _ _ _ _ _ _ _ _ R_b.out R_c.out (Nat.le_refl _) (by have := L_b.out; omega) (by have := L_c.out; omega)).mono ?_); rw [e8.out]; rintro e w8 ⟨A_x2, c_x2, rfl, R_x2, hb⟩; replace R_a := hide (Rd.then_ R_a.out hb); replace R_b := hide (Rd.then_ R_b.out hb); replace R_c := hide (Rd.then_ R_c.out hb); replace R_x1 := hide (Rd.then_ R_x1.out hb); have U10 : Below W.heap.size W w8 := Below.then_ U9 hb; replace B := hide (Below.then_ B.out hb); replace R_x2 := hide R_x2; clear hb; have tok8 : True := trivial; clear _t tok7))
      | (go_at_call 24; (have _t := tok8; (with_reducible refine (icmp_any _ _ _ _ _ _ _ _ _ _ _ _ R_x1.out R_x2.out (Nat.le_refl _)).mono ?_); rw [e9.out]; rintro e w9 ⟨rfl, hb⟩; replace R_a := hide (Rd.then_ R_a.out hb); replace R_b := hide (Rd.then_ R_b.out hb); replace R_c := hide (Rd.then_ R_c.out hb); replace R_x1 := hide (Rd.then_ R_x1.out hb); replace R_x2 := hide (Rd.then_ R_x2.out hb); have U11 : Below W.heap.size W w9 := Below.then_ U10 hb; replace B := hide (Below.then_ B.out hb); clear hb; have tok9 : True := trivial; clear _t tok8; clear R_x1; clear R_x2))
      | (go_at_call 28; (have _t := tok9; (with_reducible refine (isub_any _ _ _ _ _ _ _ _ _ _ _ _ R_a.out R_b.out (Nat.le_refl _) (by have := L_a.out; omega) (by have := L_b.out; omega)).mono ?_); rw [e10.out]; rintro e w10 ⟨A_x1, c_x1, rfl, R_x1, hb⟩; replace R_a := hide (Rd.then_ R_a.out hb); replace R_b := hide (Rd.then_ R_b.out hb); replace R_c := hide (Rd.then_ R_c.out hb); have U12 : Below W.heap.size W w10 := Below.then_ U11 hb; replace B := hide (Below.then_ B.out hb); replace R_x1 := hide R_x1; clear hb; have tok10 : True := trivial; clear _t tok9))
      | (go_at_call 12; (have _t := tok10; (with_reducible refine (isign_any _ _ _ _ _ _ _ R_x1.out (Nat.le_refl _)).mono ?_); rw [e11.out]; rintro e w11 ⟨rfl, hb⟩; replace R_a := hide (Rd.then_ R_a.out hb); replace R_b := hide (Rd.then_ R_b.out hb); replace R_c := hide (Rd.then_ R_c.out hb); replace R_x1 := hide (Rd.then_ R_x1.out hb); have U13 : Below W.heap.size W w11 := Below.then_ U12 hb; replace B := hide (Below.then_ B.out hb); clear hb; have tok11 : True := trivial; clear _t tok10; clear R_x1)))
  clear tok11
  go_wp2_with fail
  have m1s : na + nc ≤ 70368744177664 := (by have := L_a.out; have := L_c.out; omega)
  have m2s : nb + nc ≤ 70368744177664 := (by have := L_b.out; have := L_c.out; omega)
  replace m1s := hide m1s
  replace m2s := hide m2s
  have wv' := wv.out
  have hd := Below.drw_ w11
  replace R_a := hide (Rd.then_ R_a.out hd)
  replace R_b := hide (Rd.then_ R_b.out hd)
  replace R_c := hide (Rd.then_ R_c.out hd)
  have U14 : Below W.heap.size W (w11.drew) := Below.then_ U13 hd
  replace B := hide (Below.then_ B.out hd)
  clear hd
  have tok12 : True := trivial
  go_region_held3 (fun w' => Below W.heap.size W w') (assumption)
    (first
      | (go_at_call 30; (have _t := tok12; (with_reducible refine (imul_any _ _ _ _ _ _ _ _ _ _ _ _ R_a.out R_c.out (Nat.le_refl _) m1s.out).mono ?_); rw [e12.out]; rintro e w12 ⟨A_x1, c_x1, rfl, R_x1, hb⟩; replace R_a := hide (Rd.then_ R_a.out hb); replace R_b := hide (Rd.then_ R_b.out hb); replace R_c := hide (Rd.then_ R_c.out hb); have U15 : Below W.heap.size W w12 := Below.then_ U14 hb; replace B := hide (Below.then_ B.out hb); replace R_x1 := hide R_x1; clear hb; have tok13 : True := trivial; clear _t tok12))
      | (go_at_call 30; (have _t := tok13; (with_reducible refine (imul_any _ _ _ _ _ _ _ _ _ _ _ _ R_b.out R_c.out (Nat.le_refl _) m2s.out).mono ?_); rw [e13.out]; rintro e w13 ⟨A_x2, c_x2, rfl, R_x2, hb⟩; replace R_a := hide (Rd.then_ R_a.out hb); replace R_b := hide (Rd.then_ R_b.out hb); replace R_c := hide (Rd.then_ R_c.out hb); replace R_x1 := hide (Rd.then_ R_x1.out hb); have U16 : Below W.heap.size W w13 := Below.then_ U15 hb; replace B := hide (Below.then_ B.out hb); replace R_x2 := hide R_x2; clear hb; have tok14 : True := trivial; clear _t tok13))
      | (go_at_call 24; (have _t := tok14; (with_reducible refine (icmp_any _ _ _ _ _ _ _ _ _ _ _ _ R_x1.out R_x2.out (Nat.le_refl _)).mono ?_); rw [e14.out]; rintro e w14 ⟨rfl, hb⟩; replace R_a := hide (Rd.then_ R_a.out hb); replace R_b := hide (Rd.then_ R_b.out hb); replace R_c := hide (Rd.then_ R_c.out hb); replace R_x1 := hide (Rd.then_ R_x1.out hb); replace R_x2 := hide (Rd.then_ R_x2.out hb); have U17 : Below W.heap.size W w14 := Below.then_ U16 hb; replace B := hide (Below.then_ B.out hb); clear hb; have tok15 : True := trivial; clear _t tok14; clear R_x1; clear R_x2))
      | (go_at_call 12; (have _t := tok15; (with_reducible refine (isign_any _ _ _ _ _ _ _ R_c.out (Nat.le_refl _)).mono ?_); rw [e15.out]; rintro e w15 ⟨rfl, hb⟩; replace R_a := hide (Rd.then_ R_a.out hb); replace R_b := hide (Rd.then_ R_b.out hb); replace R_c := hide (Rd.then_ R_c.out hb); have U18 : Below W.heap.size W w15 := Below.then_ U17 hb; replace B := hide (Below.then_ B.out hb); clear hb; have tok16 : True := trivial; clear _t tok15))
      | (go_at_call 23; (have _t := tok16; (with_reducible refine (awake_any _).mono ?_); rintro e w16 ⟨rfl, hb⟩; replace R_a := hide (Rd.then_ R_a.out hb); replace R_b := hide (Rd.then_ R_b.out hb); replace R_c := hide (Rd.then_ R_c.out hb); have U19 : Below W.heap.size W w16 := Below.then_ U18 hb; replace B := hide (Below.then_ B.out hb); clear hb; have tok17 : True := trivial; clear _t tok16)))
  clear tok17
  go_wp2
  go_ret
  exact ⟨rfl, B.out⟩

set_option maxRecDepth 100000 in
set_option maxHeartbeats 4000000 in
theorem iorder_ltq (w : World) (sa : Bool) (Aa : Option Addr) (na ca : Nat) (xa : List Nat) (sb : Bool) (Ab : Option Addr) (nb cb : Nat) (xb : List Nat) (sc : Bool) (Ac : Option Addr) (nc cc : Nat) (xc : List Nat) (h_a : Rd w w.heap.size Aa na ca xa) (k_a : na ≤ 35184372087808) (h_b : Rd w w.heap.size Ab nb cb xb) (k_b : nb ≤ 35184372087808) (h_c : Rd w w.heap.size Ac nc cc xc) (k_c : nc ≤ 35184372087808) (hp0 : iv sa (val xa) ≠ iv sb (val xb)) (hle : iv sa (val xa) - iv sb (val xb) ≤ 0) (hq0 : 0 < iv sb (val xb) - iv sc (val xc)) :
    Calls Try.prog 8 #[.agg #[.bool sa, .slice Aa na ca], .agg #[.bool sb, .slice Ab nb cb], .agg #[.bool sc, .slice Ac nc cc]] w fun e w' => e = .returned (.bool true) ∧ Below w.heap.size w w' := by
  obtain ⟨K, hK⟩ : ∃ K, K = 35184372087808 := ⟨_, rfl⟩
  obtain ⟨a, za⟩ : ∃ z : Int, iv sa (val xa) = z := ⟨_, rfl⟩
  have Pa : zmag a < pw K := zlt_of za (by have h1 := val_lt h_a.limbs; have h2 := pw_mono (show xa.length ≤ K by have := h_a.len; omega); omega)
  have L_a : na ≤ K := by omega
  obtain ⟨b, zb⟩ : ∃ z : Int, iv sb (val xb) = z := ⟨_, rfl⟩
  have Pb : zmag b < pw K := zlt_of zb (by have h1 := val_lt h_b.limbs; have h2 := pw_mono (show xb.length ≤ K by have := h_b.len; omega); omega)
  have L_b : nb ≤ K := by omega
  obtain ⟨c, zc⟩ : ∃ z : Int, iv sc (val xc) = z := ⟨_, rfl⟩
  have Pc : zmag c < pw K := zlt_of zc (by have h1 := val_lt h_c.limbs; have h2 := pw_mono (show xc.length ≤ K by have := h_c.len; omega); omega)
  have L_c : nc ≤ K := by omega
  rw [za, zb] at hp0
  rw [za, zb] at hle
  rw [zb, zc] at hq0
  obtain ⟨p, hp⟩ : ∃ z : Int, sgn (a - b) = z := ⟨_, rfl⟩
  obtain ⟨q, hq⟩ : ∃ z : Int, sgn (b - c) = z := ⟨_, rfl⟩
  obtain ⟨u, hu⟩ : ∃ z : Int, sgn (a - c) = z := ⟨_, rfl⟩
  obtain ⟨v, hv⟩ : ∃ z : Int, sgn c = z := ⟨_, rfl⟩
  obtain ⟨s1, ds1⟩ : ∃ z : Int, z = a + c := ⟨_, rfl⟩
  have Ps1 : zmag s1 < pw (max K K + 1) := by rw [ds1]; exact zlt_add Pa Pc
  have L_s1 : (dig (zmag s1)).length ≤ max K K + 1 := zlen Ps1
  obtain ⟨s2, ds2⟩ : ∃ z : Int, z = b + c := ⟨_, rfl⟩
  have Ps2 : zmag s2 < pw (max K K + 1) := by rw [ds2]; exact zlt_add Pb Pc
  have L_s2 : (dig (zmag s2)).length ≤ max K K + 1 := zlen Ps2
  obtain ⟨d, dd⟩ : ∃ z : Int, z = a - b := ⟨_, rfl⟩
  have Pd : zmag d < pw (max K K + 1) := by rw [dd]; exact zlt_sub Pa Pb
  have L_d : (dig (zmag d)).length ≤ max K K + 1 := zlen Pd
  obtain ⟨m1, dm1⟩ : ∃ z : Int, z = a * c := ⟨_, rfl⟩
  have Pm1 : zmag m1 < pw (K + K) := by rw [dm1]; exact zlt_mul Pa Pc
  have L_m1 : (dig (zmag m1)).length ≤ K + K := zlen Pm1
  obtain ⟨m2, dm2⟩ : ∃ z : Int, z = b * c := ⟨_, rfl⟩
  have Pm2 : zmag m2 < pw (K + K) := by rw [dm2]; exact zlt_mul Pb Pc
  have L_m2 : (dig (zmag m2)).length ≤ K + K := zlen Pm2
  have e1 : sgn (iv sa (val xa) - iv sb (val xb)) = p := by
    first
      | (simp only [za, zb]; done)
      | (simp only [za, zb]; first | rfl | (exact hp))
      | (exact hp)
  have e2 : sgn (iv sb (val xb) - iv sa (val xa)) = -p := by
    first
      | (simp only [za, zb]; done)
      | (simp only [za, zb]; first | rfl | (rw [← hp]; exact sgn_neg' _ _))
      | (rw [← hp]; exact sgn_neg' _ _)
  have e3 : iv sa (val xa) = a := by
    first
      | (simp only [za]; done)
      | (simp only [za]; first | rfl | (rfl))
      | (rfl)
  have e4 : iv sb (val xb) = b := by
    first
      | (simp only [zb]; done)
      | (simp only [zb]; first | rfl | (rfl))
      | (rfl)
  have e5 : sgn (iv sb (val xb) - iv sc (val xc)) = q := by
    first
      | (simp only [zb, zc]; done)
      | (simp only [zb, zc]; first | rfl | (exact hq))
      | (exact hq)
  have e6 : sgn (iv sa (val xa) - iv sc (val xc)) = u := by
    first
      | (simp only [za, zc]; done)
      | (simp only [za, zc]; first | rfl | (exact hu))
      | (exact hu)
  have e7 : iv sa (val xa) + iv sc (val xc) = s1 := by
    first
      | (simp only [za, zc]; done)
      | (simp only [za, zc]; first | rfl | (rw [ds1]))
      | (rw [ds1])
  have e8 : iv sb (val xb) + iv sc (val xc) = s2 := by
    first
      | (simp only [zb, zc]; done)
      | (simp only [zb, zc]; first | rfl | (rw [ds2]))
      | (rw [ds2])
  have e9 : sgn (iv (zneg s1) (val (dig (zmag s1))) - iv (zneg s2) (val (dig (zmag s2)))) = p := by
    first
      | (simp only [val_ieta]; done)
      | (simp only [val_ieta]; first | rfl | (rw [ds1, ds2, ← hp]; exact sgn_shift _ _ _))
      | (rw [ds1, ds2, ← hp]; exact sgn_shift _ _ _)
  have e10 : iv sa (val xa) - iv sb (val xb) = d := by
    first
      | (simp only [za, zb]; done)
      | (simp only [za, zb]; first | rfl | (rw [dd]))
      | (rw [dd])
  have e11 : sgn (iv (zneg d) (val (dig (zmag d)))) = p := by
    first
      | (simp only [val_ieta]; done)
      | (simp only [val_ieta]; first | rfl | (rw [dd]; exact hp))
      | (rw [dd]; exact hp)
  have e12 : iv sa (val xa) * iv sc (val xc) = m1 := by
    first
      | (simp only [za, zc]; done)
      | (simp only [za, zc]; first | rfl | (rw [dm1]))
      | (rw [dm1])
  have e13 : iv sb (val xb) * iv sc (val xc) = m2 := by
    first
      | (simp only [zb, zc]; done)
      | (simp only [zb, zc]; first | rfl | (rw [dm2]))
      | (rw [dm2])
  have e14 : sgn (iv (zneg m1) (val (dig (zmag m1))) - iv (zneg m2) (val (dig (zmag m2)))) = p * v := by
    first
      | (simp only [val_ieta]; done)
      | (simp only [val_ieta]; first | rfl | (rw [dm1, dm2, ← hp, ← hv]; exact sgn_scale _ _ _))
      | (rw [dm1, dm2, ← hp, ← hv]; exact sgn_scale _ _ _)
  have e15 : sgn (iv sc (val xc)) = v := by
    first
      | (simp only [zc]; done)
      | (simp only [zc]; first | rfl | (exact hv))
      | (exact hv)
  have bp := sgn_bound (a - b)
  have bq := sgn_bound (b - c)
  have bu := sgn_bound (a - c)
  have bv := sgn_bound c
  have tp := sgn_three (a - b)
  have tq := sgn_three (b - c)
  have tu := sgn_three (a - c)
  rw [hp] at bp tp
  rw [hq] at bq tq
  rw [hu] at bu tu
  rw [hv] at bv
  have p1 : -1 ≤ p := bp.1
  have p2 : p ≤ 1 := bp.2
  have pz : (p == 0) = false := by simp; omega
  have d1 : decide (p < -1) = false := decide_eq_false (by omega)
  have d2 : decide (1 < p) = false := decide_eq_false (by omega)
  have wp : IntKind.i64.wrap (-p) = -p := wrap_one (by omega) (by omega)
  have wv : IntKind.i64.wrap (p * v) = p * v := wrap_one (mul_one_bound bp.1 bp.2 bv.1 bv.2).1 (mul_one_bound bp.1 bp.2 bv.1 bv.2).2
  have pl : decide (p ≤ 0) = true := decide_eq_true (by omega)
  have ql : decide (q ≤ 0) = false := decide_eq_false (by omega)
  clear bp bq bu bv tp tq tu hp hq hu hv hq0 hle
  replace za := hide za
  replace Pa := hide Pa
  replace L_a := hide L_a
  replace zb := hide zb
  replace Pb := hide Pb
  replace L_b := hide L_b
  replace zc := hide zc
  replace Pc := hide Pc
  replace L_c := hide L_c
  replace L_s1 := hide L_s1
  replace Ps1 := hide Ps1
  replace ds1 := hide ds1
  replace L_s2 := hide L_s2
  replace Ps2 := hide Ps2
  replace ds2 := hide ds2
  replace L_d := hide L_d
  replace Pd := hide Pd
  replace dd := hide dd
  replace L_m1 := hide L_m1
  replace Pm1 := hide Pm1
  replace dm1 := hide dm1
  replace L_m2 := hide L_m2
  replace Pm2 := hide Pm2
  replace dm2 := hide dm2
  replace e1 := hide e1
  replace e2 := hide e2
  replace e3 := hide e3
  replace e4 := hide e4
  replace e5 := hide e5
  replace e6 := hide e6
  replace e7 := hide e7
  replace e8 := hide e8
  replace e9 := hide e9
  replace e10 := hide e10
  replace e11 := hide e11
  replace e12 := hide e12
  replace e13 := hide e13
  replace e14 := hide e14
  replace e15 := hide e15
  replace hp0 := hide hp0
  replace wp := hide wp
  replace wv := hide wv
  have hKle : K ≤ 35184372087808 := by omega
  clear hK
  clear k_a k_b k_c
  obtain ⟨W, hW⟩ : ∃ W, W = (((w.alloc (.cells #[.bool sa, .slice Aa na ca] 25)).alloc (.cells #[.bool sb, .slice Ab nb cb] 25)).alloc (.cells #[.bool sc, .slice Ac nc cc] 25)) := ⟨_, rfl⟩
  have b_a : Box W (w.heap.size) (.bool sa) (.slice Aa na ca) := by rw [hW]; exact (((Box.new w _ _ rfl).al _).al _)
  have b_b : Box W (w.heap.size + 1) (.bool sb) (.slice Ab nb cb) := by rw [hW]; exact ((Box.new _ _ _ (by simp)).al _)
  have b_c : Box W (w.heap.size + 1 + 1) (.bool sc) (.slice Ac nc cc) := by rw [hW]; exact (Box.new _ _ _ (by simp))
  have hwW : Below w.heap.size w W := by rw [hW]; exact ((((Below.refl _ _).alloc (Nat.le_refl _) _).alloc (by simp) _).alloc (by simp; omega) _)
  have R_a := hide (Rd.then_ h_a hwW)
  clear h_a
  have R_b := hide (Rd.then_ h_b hwW)
  clear h_b
  have R_c := hide (Rd.then_ h_c hwW)
  clear h_c
  have B := hide hwW
  clear hwW
  have U0 : Below W.heap.size W W := Below.refl _ _
  have c_a0 := b_a.at0 b_a.lt_size (Nat.le_refl _)
  have c_a1 := b_a.at1 b_a.lt_size (Nat.le_refl _)
  replace b_a := hide b_a
  have c_b0 := b_b.at0 b_b.lt_size (Nat.le_refl _)
  have c_b1 := b_b.at1 b_b.lt_size (Nat.le_refl _)
  replace b_b := hide b_b
  have c_c0 := b_c.at0 b_c.lt_size (Nat.le_refl _)
  have c_c1 := b_c.at1 b_c.lt_size (Nat.le_refl _)
  replace b_c := hide b_c
  go_enter Try.func8, Try.ntmps8
  go_wp2_with fail
  rw [← hW]
  clear hW
  refine (icmp_any _ _ _ _ _ _ _ _ _ _ _ _ R_a.out R_b.out (Nat.le_refl _)).mono ?_
  rw [e1.out]
  rintro e w1 ⟨rfl, hb⟩
  replace R_a := hide (Rd.then_ R_a.out hb)
  replace R_b := hide (Rd.then_ R_b.out hb)
  replace R_c := hide (Rd.then_ R_c.out hb)
  have U1 : Below W.heap.size W w1 := Below.then_ U0 hb
  replace B := hide (Below.then_ B.out hb)
  clear hb
  go_wp2_with fail
  have wp' := wp.out
  have hd := Below.drw_ w1
  replace R_a := hide (Rd.then_ R_a.out hd)
  replace R_b := hide (Rd.then_ R_b.out hd)
  replace R_c := hide (Rd.then_ R_c.out hd)
  have U2 : Below W.heap.size W (w1.drew) := Below.then_ U1 hd
  replace B := hide (Below.then_ B.out hd)
  clear hd
  have tok1 : True := trivial
  go_region_held3 (fun w' => Below W.heap.size W w') (assumption)
    (first
      | (go_at_call 24; (have _t := tok1; (with_reducible refine (icmp_any _ _ _ _ _ _ _ _ _ _ _ _ R_b.out R_a.out (Nat.le_refl _)).mono ?_); rw [e2.out]; rintro e w2 ⟨rfl, hb⟩; replace R_a := hide (Rd.then_ R_a.out hb); replace R_b := hide (Rd.then_ R_b.out hb); replace R_c := hide (Rd.then_ R_c.out hb); have U3 : Below W.heap.size W w2 := Below.then_ U2 hb; replace B := hide (Below.then_ B.out hb); clear hb; have tok2 : True := trivial; clear _t tok1))
      | (go_at_call 19; (have _t := tok2; (with_reducible refine (inorm_any _ _ _ _ _ _ _ R_a.out (Nat.le_refl _)).mono ?_); rw [e3.out]; rintro e w3 ⟨A_x1, c_x1, rfl, R_x1, hb⟩; replace R_a := hide (Rd.then_ R_a.out hb); replace R_b := hide (Rd.then_ R_b.out hb); replace R_c := hide (Rd.then_ R_c.out hb); have U4 : Below W.heap.size W w3 := Below.then_ U3 hb; replace B := hide (Below.then_ B.out hb); replace R_x1 := hide R_x1; clear hb; have tok3 : True := trivial; clear _t tok2))
      | (go_at_call 19; (have _t := tok3; (with_reducible refine (inorm_any _ _ _ _ _ _ _ R_b.out (Nat.le_refl _)).mono ?_); rw [e4.out]; rintro e w4 ⟨A_x2, c_x2, rfl, R_x2, hb⟩; replace R_a := hide (Rd.then_ R_a.out hb); replace R_b := hide (Rd.then_ R_b.out hb); replace R_c := hide (Rd.then_ R_c.out hb); replace R_x1 := hide (Rd.then_ R_x1.out hb); have U5 : Below W.heap.size W w4 := Below.then_ U4 hb; replace B := hide (Below.then_ B.out hb); replace R_x2 := hide R_x2; clear hb; have tok4 : True := trivial; clear _t tok3))
      | (go_at_call 14; (have _t := tok4; (with_reducible refine (same_ne _ _ _ _ _ _ _ R_x1.out R_x2.out hp0.out).mono ?_); rintro e w5 ⟨rfl, hb⟩; replace R_a := hide (Rd.then_ R_a.out hb); replace R_b := hide (Rd.then_ R_b.out hb); replace R_c := hide (Rd.then_ R_c.out hb); replace R_x1 := hide (Rd.then_ R_x1.out hb); replace R_x2 := hide (Rd.then_ R_x2.out hb); have U6 : Below W.heap.size W w5 := Below.then_ U5 hb; replace B := hide (Below.then_ B.out hb); clear hb; have tok5 : True := trivial; clear _t tok4; clear R_x1; clear R_x2)))
  clear tok5
  clear wp'
  go_wp2_with fail
  refine (icmp_any _ _ _ _ _ _ _ _ _ _ _ _ R_b.out R_c.out (Nat.le_refl _)).mono ?_
  rw [e5.out]
  rintro e w6 ⟨rfl, hb⟩
  replace R_a := hide (Rd.then_ R_a.out hb)
  replace R_b := hide (Rd.then_ R_b.out hb)
  replace R_c := hide (Rd.then_ R_c.out hb)
  have U7 : Below W.heap.size W w6 := Below.then_ U6 hb
  replace B := hide (Below.then_ B.out hb)
  clear hb
  go_wp2_with fail
  have hd := Below.drw_ w6
  replace R_a := hide (Rd.then_ R_a.out hd)
  replace R_b := hide (Rd.then_ R_b.out hd)
  replace R_c := hide (Rd.then_ R_c.out hd)
  have U8 : Below W.heap.size W (w6.drew) := Below.then_ U7 hd
  replace B := hide (Below.then_ B.out hd)
  clear hd
  have tok6 : True := trivial
  go_region_held3 (fun w' => Below W.heap.size W w') (assumption)
    (first
      | (go_at_call 26; (have _t := tok6; (with_reducible refine (iadd_any _ _ _ _ _ _ _ _ _ _ _ _ R_a.out R_c.out (Nat.le_refl _) (by have := L_a.out; omega) (by have := L_c.out; omega)).mono ?_); rw [e7.out]; rintro e w7 ⟨A_x1, c_x1, rfl, R_x1, hb⟩; replace R_a := hide (Rd.then_ R_a.out hb); replace R_b := hide (Rd.then_ R_b.out hb); replace R_c := hide (Rd.then_ R_c.out hb); have U9 : Below W.heap.size W w7 := Below.then_ U8 hb; replace B := hide (Below.then_ B.out hb); replace R_x1 := hide R_x1; clear hb; have tok7 : True := trivial; clear _t tok6))
      | (go_at_call 26; (have _t := tok7; (with_reducible refine (iadd_any _ _ _ _ _ _ _ _ _ _ _ _ R_b.out R_c.out (Nat.le_refl _) (by have := L_b.out; omega) (by have := L_c.out; omega)).mono ?_); rw [e8.out]; rintro e w8 ⟨A_x2, c_x2, rfl, R_x2, hb⟩; replace R_a := hide (Rd.then_ R_a.out hb); replace R_b := hide (Rd.then_ R_b.out hb); replace R_c := hide (Rd.then_ R_c.out hb); replace R_x1 := hide (Rd.then_ R_x1.out hb); have U10 : Below W.heap.size W w8 := Below.then_ U9 hb; replace B := hide (Below.then_ B.out hb); replace R_x2 := hide R_x2; clear hb; have tok8 : True := trivial; clear _t tok7))
      | (go_at_call 24; (have _t := tok8; (with_reducible refine (icmp_any _ _ _ _ _ _ _ _ _ _ _ _ R_x1.out R_x2.out (Nat.le_refl _)).mono ?_); rw [e9.out]; rintro e w9 ⟨rfl, hb⟩; replace R_a := hide (Rd.then_ R_a.out hb); replace R_b := hide (Rd.then_ R_b.out hb); replace R_c := hide (Rd.then_ R_c.out hb); replace R_x1 := hide (Rd.then_ R_x1.out hb); replace R_x2 := hide (Rd.then_ R_x2.out hb); have U11 : Below W.heap.size W w9 := Below.then_ U10 hb; replace B := hide (Below.then_ B.out hb); clear hb; have tok9 : True := trivial; clear _t tok8; clear R_x1; clear R_x2))
      | (go_at_call 28; (have _t := tok9; (with_reducible refine (isub_any _ _ _ _ _ _ _ _ _ _ _ _ R_a.out R_b.out (Nat.le_refl _) (by have := L_a.out; omega) (by have := L_b.out; omega)).mono ?_); rw [e10.out]; rintro e w10 ⟨A_x1, c_x1, rfl, R_x1, hb⟩; replace R_a := hide (Rd.then_ R_a.out hb); replace R_b := hide (Rd.then_ R_b.out hb); replace R_c := hide (Rd.then_ R_c.out hb); have U12 : Below W.heap.size W w10 := Below.then_ U11 hb; replace B := hide (Below.then_ B.out hb); replace R_x1 := hide R_x1; clear hb; have tok10 : True := trivial; clear _t tok9))
      | (go_at_call 12; (have _t := tok10; (with_reducible refine (isign_any _ _ _ _ _ _ _ R_x1.out (Nat.le_refl _)).mono ?_); rw [e11.out]; rintro e w11 ⟨rfl, hb⟩; replace R_a := hide (Rd.then_ R_a.out hb); replace R_b := hide (Rd.then_ R_b.out hb); replace R_c := hide (Rd.then_ R_c.out hb); replace R_x1 := hide (Rd.then_ R_x1.out hb); have U13 : Below W.heap.size W w11 := Below.then_ U12 hb; replace B := hide (Below.then_ B.out hb); clear hb; have tok11 : True := trivial; clear _t tok10; clear R_x1)))
  clear tok11
  go_wp2_with fail
  have m1s : na + nc ≤ 70368744177664 := (by have := L_a.out; have := L_c.out; omega)
  have m2s : nb + nc ≤ 70368744177664 := (by have := L_b.out; have := L_c.out; omega)
  replace m1s := hide m1s
  replace m2s := hide m2s
  have wv' := wv.out
  have hd := Below.drw_ w11
  replace R_a := hide (Rd.then_ R_a.out hd)
  replace R_b := hide (Rd.then_ R_b.out hd)
  replace R_c := hide (Rd.then_ R_c.out hd)
  have U14 : Below W.heap.size W (w11.drew) := Below.then_ U13 hd
  replace B := hide (Below.then_ B.out hd)
  clear hd
  have tok12 : True := trivial
  go_region_held3 (fun w' => Below W.heap.size W w') (assumption)
    (first
      | (go_at_call 30; (have _t := tok12; (with_reducible refine (imul_any _ _ _ _ _ _ _ _ _ _ _ _ R_a.out R_c.out (Nat.le_refl _) m1s.out).mono ?_); rw [e12.out]; rintro e w12 ⟨A_x1, c_x1, rfl, R_x1, hb⟩; replace R_a := hide (Rd.then_ R_a.out hb); replace R_b := hide (Rd.then_ R_b.out hb); replace R_c := hide (Rd.then_ R_c.out hb); have U15 : Below W.heap.size W w12 := Below.then_ U14 hb; replace B := hide (Below.then_ B.out hb); replace R_x1 := hide R_x1; clear hb; have tok13 : True := trivial; clear _t tok12))
      | (go_at_call 30; (have _t := tok13; (with_reducible refine (imul_any _ _ _ _ _ _ _ _ _ _ _ _ R_b.out R_c.out (Nat.le_refl _) m2s.out).mono ?_); rw [e13.out]; rintro e w13 ⟨A_x2, c_x2, rfl, R_x2, hb⟩; replace R_a := hide (Rd.then_ R_a.out hb); replace R_b := hide (Rd.then_ R_b.out hb); replace R_c := hide (Rd.then_ R_c.out hb); replace R_x1 := hide (Rd.then_ R_x1.out hb); have U16 : Below W.heap.size W w13 := Below.then_ U15 hb; replace B := hide (Below.then_ B.out hb); replace R_x2 := hide R_x2; clear hb; have tok14 : True := trivial; clear _t tok13))
      | (go_at_call 24; (have _t := tok14; (with_reducible refine (icmp_any _ _ _ _ _ _ _ _ _ _ _ _ R_x1.out R_x2.out (Nat.le_refl _)).mono ?_); rw [e14.out]; rintro e w14 ⟨rfl, hb⟩; replace R_a := hide (Rd.then_ R_a.out hb); replace R_b := hide (Rd.then_ R_b.out hb); replace R_c := hide (Rd.then_ R_c.out hb); replace R_x1 := hide (Rd.then_ R_x1.out hb); replace R_x2 := hide (Rd.then_ R_x2.out hb); have U17 : Below W.heap.size W w14 := Below.then_ U16 hb; replace B := hide (Below.then_ B.out hb); clear hb; have tok15 : True := trivial; clear _t tok14; clear R_x1; clear R_x2))
      | (go_at_call 12; (have _t := tok15; (with_reducible refine (isign_any _ _ _ _ _ _ _ R_c.out (Nat.le_refl _)).mono ?_); rw [e15.out]; rintro e w15 ⟨rfl, hb⟩; replace R_a := hide (Rd.then_ R_a.out hb); replace R_b := hide (Rd.then_ R_b.out hb); replace R_c := hide (Rd.then_ R_c.out hb); have U18 : Below W.heap.size W w15 := Below.then_ U17 hb; replace B := hide (Below.then_ B.out hb); clear hb; have tok16 : True := trivial; clear _t tok15))
      | (go_at_call 23; (have _t := tok16; (with_reducible refine (awake_any _).mono ?_); rintro e w16 ⟨rfl, hb⟩; replace R_a := hide (Rd.then_ R_a.out hb); replace R_b := hide (Rd.then_ R_b.out hb); replace R_c := hide (Rd.then_ R_c.out hb); have U19 : Below W.heap.size W w16 := Below.then_ U18 hb; replace B := hide (Below.then_ B.out hb); clear hb; have tok17 : True := trivial; clear _t tok16)))
  clear tok17
  go_wp2
  go_ret
  exact ⟨rfl, B.out⟩

set_option maxRecDepth 100000 in
set_option maxHeartbeats 4000000 in
theorem iorder_equ (w : World) (sa : Bool) (Aa : Option Addr) (na ca : Nat) (xa : List Nat) (sb : Bool) (Ab : Option Addr) (nb cb : Nat) (xb : List Nat) (sc : Bool) (Ac : Option Addr) (nc cc : Nat) (xc : List Nat) (h_a : Rd w w.heap.size Aa na ca xa) (k_a : na ≤ 35184372087808) (h_b : Rd w w.heap.size Ab nb cb xb) (k_b : nb ≤ 35184372087808) (h_c : Rd w w.heap.size Ac nc cc xc) (k_c : nc ≤ 35184372087808) (hp0 : iv sa (val xa) = iv sb (val xb)) (_hle : iv sa (val xa) - iv sb (val xb) ≤ 0) (hq0 : iv sb (val xb) - iv sc (val xc) ≤ 0) :
    Calls Try.prog 8 #[.agg #[.bool sa, .slice Aa na ca], .agg #[.bool sb, .slice Ab nb cb], .agg #[.bool sc, .slice Ac nc cc]] w fun e w' => e = .returned (.bool true) ∧ Below w.heap.size w w' := by
  obtain ⟨K, hK⟩ : ∃ K, K = 35184372087808 := ⟨_, rfl⟩
  obtain ⟨a, za⟩ : ∃ z : Int, iv sa (val xa) = z := ⟨_, rfl⟩
  have Pa : zmag a < pw K := zlt_of za (by have h1 := val_lt h_a.limbs; have h2 := pw_mono (show xa.length ≤ K by have := h_a.len; omega); omega)
  have L_a : na ≤ K := by omega
  obtain ⟨b, zb⟩ : ∃ z : Int, iv sb (val xb) = z := ⟨_, rfl⟩
  have Pb : zmag b < pw K := zlt_of zb (by have h1 := val_lt h_b.limbs; have h2 := pw_mono (show xb.length ≤ K by have := h_b.len; omega); omega)
  have L_b : nb ≤ K := by omega
  obtain ⟨c, zc⟩ : ∃ z : Int, iv sc (val xc) = z := ⟨_, rfl⟩
  have Pc : zmag c < pw K := zlt_of zc (by have h1 := val_lt h_c.limbs; have h2 := pw_mono (show xc.length ≤ K by have := h_c.len; omega); omega)
  have L_c : nc ≤ K := by omega
  rw [za, zb] at hp0
  rw [zb, zc] at hq0
  obtain ⟨p, hp⟩ : ∃ z : Int, sgn (a - b) = z := ⟨_, rfl⟩
  obtain ⟨q, hq⟩ : ∃ z : Int, sgn (b - c) = z := ⟨_, rfl⟩
  obtain ⟨u, hu⟩ : ∃ z : Int, sgn (a - c) = z := ⟨_, rfl⟩
  obtain ⟨v, hv⟩ : ∃ z : Int, sgn c = z := ⟨_, rfl⟩
  obtain ⟨s1, ds1⟩ : ∃ z : Int, z = a + c := ⟨_, rfl⟩
  have Ps1 : zmag s1 < pw (max K K + 1) := by rw [ds1]; exact zlt_add Pa Pc
  have L_s1 : (dig (zmag s1)).length ≤ max K K + 1 := zlen Ps1
  obtain ⟨s2, ds2⟩ : ∃ z : Int, z = b + c := ⟨_, rfl⟩
  have Ps2 : zmag s2 < pw (max K K + 1) := by rw [ds2]; exact zlt_add Pb Pc
  have L_s2 : (dig (zmag s2)).length ≤ max K K + 1 := zlen Ps2
  obtain ⟨d, dd⟩ : ∃ z : Int, z = a - b := ⟨_, rfl⟩
  have Pd : zmag d < pw (max K K + 1) := by rw [dd]; exact zlt_sub Pa Pb
  have L_d : (dig (zmag d)).length ≤ max K K + 1 := zlen Pd
  obtain ⟨m1, dm1⟩ : ∃ z : Int, z = a * c := ⟨_, rfl⟩
  have Pm1 : zmag m1 < pw (K + K) := by rw [dm1]; exact zlt_mul Pa Pc
  have L_m1 : (dig (zmag m1)).length ≤ K + K := zlen Pm1
  obtain ⟨m2, dm2⟩ : ∃ z : Int, z = b * c := ⟨_, rfl⟩
  have Pm2 : zmag m2 < pw (K + K) := by rw [dm2]; exact zlt_mul Pb Pc
  have L_m2 : (dig (zmag m2)).length ≤ K + K := zlen Pm2
  have e1 : sgn (iv sa (val xa) - iv sb (val xb)) = p := by
    first
      | (simp only [za, zb]; done)
      | (simp only [za, zb]; first | rfl | (exact hp))
      | (exact hp)
  have e2 : sgn (iv sb (val xb) - iv sa (val xa)) = -p := by
    first
      | (simp only [za, zb]; done)
      | (simp only [za, zb]; first | rfl | (rw [← hp]; exact sgn_neg' _ _))
      | (rw [← hp]; exact sgn_neg' _ _)
  have e3 : iv sa (val xa) = a := by
    first
      | (simp only [za]; done)
      | (simp only [za]; first | rfl | (rfl))
      | (rfl)
  have e4 : iv sb (val xb) = b := by
    first
      | (simp only [zb]; done)
      | (simp only [zb]; first | rfl | (rfl))
      | (rfl)
  have e5 : sgn (iv sb (val xb) - iv sc (val xc)) = q := by
    first
      | (simp only [zb, zc]; done)
      | (simp only [zb, zc]; first | rfl | (exact hq))
      | (exact hq)
  have e6 : sgn (iv sa (val xa) - iv sc (val xc)) = u := by
    first
      | (simp only [za, zc]; done)
      | (simp only [za, zc]; first | rfl | (exact hu))
      | (exact hu)
  have e7 : iv sa (val xa) + iv sc (val xc) = s1 := by
    first
      | (simp only [za, zc]; done)
      | (simp only [za, zc]; first | rfl | (rw [ds1]))
      | (rw [ds1])
  have e8 : iv sb (val xb) + iv sc (val xc) = s2 := by
    first
      | (simp only [zb, zc]; done)
      | (simp only [zb, zc]; first | rfl | (rw [ds2]))
      | (rw [ds2])
  have e9 : sgn (iv (zneg s1) (val (dig (zmag s1))) - iv (zneg s2) (val (dig (zmag s2)))) = p := by
    first
      | (simp only [val_ieta]; done)
      | (simp only [val_ieta]; first | rfl | (rw [ds1, ds2, ← hp]; exact sgn_shift _ _ _))
      | (rw [ds1, ds2, ← hp]; exact sgn_shift _ _ _)
  have e10 : iv sa (val xa) - iv sb (val xb) = d := by
    first
      | (simp only [za, zb]; done)
      | (simp only [za, zb]; first | rfl | (rw [dd]))
      | (rw [dd])
  have e11 : sgn (iv (zneg d) (val (dig (zmag d)))) = p := by
    first
      | (simp only [val_ieta]; done)
      | (simp only [val_ieta]; first | rfl | (rw [dd]; exact hp))
      | (rw [dd]; exact hp)
  have e12 : iv sa (val xa) * iv sc (val xc) = m1 := by
    first
      | (simp only [za, zc]; done)
      | (simp only [za, zc]; first | rfl | (rw [dm1]))
      | (rw [dm1])
  have e13 : iv sb (val xb) * iv sc (val xc) = m2 := by
    first
      | (simp only [zb, zc]; done)
      | (simp only [zb, zc]; first | rfl | (rw [dm2]))
      | (rw [dm2])
  have e14 : sgn (iv (zneg m1) (val (dig (zmag m1))) - iv (zneg m2) (val (dig (zmag m2)))) = p * v := by
    first
      | (simp only [val_ieta]; done)
      | (simp only [val_ieta]; first | rfl | (rw [dm1, dm2, ← hp, ← hv]; exact sgn_scale _ _ _))
      | (rw [dm1, dm2, ← hp, ← hv]; exact sgn_scale _ _ _)
  have e15 : sgn (iv sc (val xc)) = v := by
    first
      | (simp only [zc]; done)
      | (simp only [zc]; first | rfl | (exact hv))
      | (exact hv)
  have bp := sgn_bound (a - b)
  have bq := sgn_bound (b - c)
  have bu := sgn_bound (a - c)
  have bv := sgn_bound c
  have tp := sgn_three (a - b)
  have tq := sgn_three (b - c)
  have tu := sgn_three (a - c)
  rw [hp] at bp tp
  rw [hq] at bq tq
  rw [hu] at bu tu
  rw [hv] at bv
  have p1 : -1 ≤ p := bp.1
  have p2 : p ≤ 1 := bp.2
  have pz : (p == 0) = true := by simp; omega
  have d1 : decide (p < -1) = false := decide_eq_false (by omega)
  have d2 : decide (1 < p) = false := decide_eq_false (by omega)
  have wp : IntKind.i64.wrap (-p) = -p := wrap_one (by omega) (by omega)
  have wv : IntKind.i64.wrap (p * v) = p * v := wrap_one (mul_one_bound bp.1 bp.2 bv.1 bv.2).1 (mul_one_bound bp.1 bp.2 bv.1 bv.2).2
  have pl : decide (p ≤ 0) = true := decide_eq_true (by omega)
  have ql : decide (q ≤ 0) = true := decide_eq_true (by omega)
  have ul : decide (0 < u) = false := decide_eq_false (by omega)
  clear bp bq bu bv tp tq tu hp hq hu hv hq0
  replace za := hide za
  replace Pa := hide Pa
  replace L_a := hide L_a
  replace zb := hide zb
  replace Pb := hide Pb
  replace L_b := hide L_b
  replace zc := hide zc
  replace Pc := hide Pc
  replace L_c := hide L_c
  replace L_s1 := hide L_s1
  replace Ps1 := hide Ps1
  replace ds1 := hide ds1
  replace L_s2 := hide L_s2
  replace Ps2 := hide Ps2
  replace ds2 := hide ds2
  replace L_d := hide L_d
  replace Pd := hide Pd
  replace dd := hide dd
  replace L_m1 := hide L_m1
  replace Pm1 := hide Pm1
  replace dm1 := hide dm1
  replace L_m2 := hide L_m2
  replace Pm2 := hide Pm2
  replace dm2 := hide dm2
  replace e1 := hide e1
  replace e2 := hide e2
  replace e3 := hide e3
  replace e4 := hide e4
  replace e5 := hide e5
  replace e6 := hide e6
  replace e7 := hide e7
  replace e8 := hide e8
  replace e9 := hide e9
  replace e10 := hide e10
  replace e11 := hide e11
  replace e12 := hide e12
  replace e13 := hide e13
  replace e14 := hide e14
  replace e15 := hide e15
  replace hp0 := hide hp0
  replace wp := hide wp
  replace wv := hide wv
  have hKle : K ≤ 35184372087808 := by omega
  clear hK
  clear k_a k_b k_c
  obtain ⟨W, hW⟩ : ∃ W, W = (((w.alloc (.cells #[.bool sa, .slice Aa na ca] 25)).alloc (.cells #[.bool sb, .slice Ab nb cb] 25)).alloc (.cells #[.bool sc, .slice Ac nc cc] 25)) := ⟨_, rfl⟩
  have b_a : Box W (w.heap.size) (.bool sa) (.slice Aa na ca) := by rw [hW]; exact (((Box.new w _ _ rfl).al _).al _)
  have b_b : Box W (w.heap.size + 1) (.bool sb) (.slice Ab nb cb) := by rw [hW]; exact ((Box.new _ _ _ (by simp)).al _)
  have b_c : Box W (w.heap.size + 1 + 1) (.bool sc) (.slice Ac nc cc) := by rw [hW]; exact (Box.new _ _ _ (by simp))
  have hwW : Below w.heap.size w W := by rw [hW]; exact ((((Below.refl _ _).alloc (Nat.le_refl _) _).alloc (by simp) _).alloc (by simp; omega) _)
  have R_a := hide (Rd.then_ h_a hwW)
  clear h_a
  have R_b := hide (Rd.then_ h_b hwW)
  clear h_b
  have R_c := hide (Rd.then_ h_c hwW)
  clear h_c
  have B := hide hwW
  clear hwW
  have U0 : Below W.heap.size W W := Below.refl _ _
  have c_a0 := b_a.at0 b_a.lt_size (Nat.le_refl _)
  have c_a1 := b_a.at1 b_a.lt_size (Nat.le_refl _)
  replace b_a := hide b_a
  have c_b0 := b_b.at0 b_b.lt_size (Nat.le_refl _)
  have c_b1 := b_b.at1 b_b.lt_size (Nat.le_refl _)
  replace b_b := hide b_b
  have c_c0 := b_c.at0 b_c.lt_size (Nat.le_refl _)
  have c_c1 := b_c.at1 b_c.lt_size (Nat.le_refl _)
  replace b_c := hide b_c
  go_enter Try.func8, Try.ntmps8
  go_wp2_with fail
  rw [← hW]
  clear hW
  refine (icmp_any _ _ _ _ _ _ _ _ _ _ _ _ R_a.out R_b.out (Nat.le_refl _)).mono ?_
  rw [e1.out]
  rintro e w1 ⟨rfl, hb⟩
  replace R_a := hide (Rd.then_ R_a.out hb)
  replace R_b := hide (Rd.then_ R_b.out hb)
  replace R_c := hide (Rd.then_ R_c.out hb)
  have U1 : Below W.heap.size W w1 := Below.then_ U0 hb
  replace B := hide (Below.then_ B.out hb)
  clear hb
  go_wp2_with fail
  have wp' := wp.out
  have hd := Below.drw_ w1
  replace R_a := hide (Rd.then_ R_a.out hd)
  replace R_b := hide (Rd.then_ R_b.out hd)
  replace R_c := hide (Rd.then_ R_c.out hd)
  have U2 : Below W.heap.size W (w1.drew) := Below.then_ U1 hd
  replace B := hide (Below.then_ B.out hd)
  clear hd
  have tok1 : True := trivial
  go_region_held3 (fun w' => Below W.heap.size W w') (assumption)
    (first
      | (go_at_call 24; (have _t := tok1; (with_reducible refine (icmp_any _ _ _ _ _ _ _ _ _ _ _ _ R_b.out R_a.out (Nat.le_refl _)).mono ?_); rw [e2.out]; rintro e w2 ⟨rfl, hb⟩; replace R_a := hide (Rd.then_ R_a.out hb); replace R_b := hide (Rd.then_ R_b.out hb); replace R_c := hide (Rd.then_ R_c.out hb); have U3 : Below W.heap.size W w2 := Below.then_ U2 hb; replace B := hide (Below.then_ B.out hb); clear hb; have tok2 : True := trivial; clear _t tok1))
      | (go_at_call 19; (have _t := tok2; (with_reducible refine (inorm_any _ _ _ _ _ _ _ R_a.out (Nat.le_refl _)).mono ?_); rw [e3.out]; rintro e w3 ⟨A_x1, c_x1, rfl, R_x1, hb⟩; replace R_a := hide (Rd.then_ R_a.out hb); replace R_b := hide (Rd.then_ R_b.out hb); replace R_c := hide (Rd.then_ R_c.out hb); have U4 : Below W.heap.size W w3 := Below.then_ U3 hb; replace B := hide (Below.then_ B.out hb); replace R_x1 := hide R_x1; clear hb; have tok3 : True := trivial; clear _t tok2))
      | (go_at_call 19; (have _t := tok3; (with_reducible refine (inorm_any _ _ _ _ _ _ _ R_b.out (Nat.le_refl _)).mono ?_); rw [e4.out]; rintro e w4 ⟨A_x2, c_x2, rfl, R_x2, hb⟩; replace R_a := hide (Rd.then_ R_a.out hb); replace R_b := hide (Rd.then_ R_b.out hb); replace R_c := hide (Rd.then_ R_c.out hb); replace R_x1 := hide (Rd.then_ R_x1.out hb); have U5 : Below W.heap.size W w4 := Below.then_ U4 hb; replace B := hide (Below.then_ B.out hb); replace R_x2 := hide R_x2; clear hb; have tok4 : True := trivial; clear _t tok3))
      | (go_at_call 14; (have _t := tok4; (with_reducible refine (same_eq _ _ _ _ _ _ _ _ _ _ _ R_x1.out R_x2.out (by rw [hp0.out]) (by rw [hp0.out])).mono ?_); rintro e w5 ⟨rfl, hb⟩; replace R_a := hide (Rd.then_ R_a.out hb); replace R_b := hide (Rd.then_ R_b.out hb); replace R_c := hide (Rd.then_ R_c.out hb); replace R_x1 := hide (Rd.then_ R_x1.out hb); replace R_x2 := hide (Rd.then_ R_x2.out hb); have U6 : Below W.heap.size W w5 := Below.then_ U5 hb; replace B := hide (Below.then_ B.out hb); clear hb; have tok5 : True := trivial; clear _t tok4; clear R_x1; clear R_x2)))
  clear tok5
  clear wp'
  go_wp2_with fail
  refine (icmp_any _ _ _ _ _ _ _ _ _ _ _ _ R_b.out R_c.out (Nat.le_refl _)).mono ?_
  rw [e5.out]
  rintro e w6 ⟨rfl, hb⟩
  replace R_a := hide (Rd.then_ R_a.out hb)
  replace R_b := hide (Rd.then_ R_b.out hb)
  replace R_c := hide (Rd.then_ R_c.out hb)
  have U7 : Below W.heap.size W w6 := Below.then_ U6 hb
  replace B := hide (Below.then_ B.out hb)
  clear hb
  go_wp2_with fail
  refine (icmp_any _ _ _ _ _ _ _ _ _ _ _ _ R_a.out R_c.out (Nat.le_refl _)).mono ?_
  rw [e6.out]
  rintro e w7 ⟨rfl, hb⟩
  replace R_a := hide (Rd.then_ R_a.out hb)
  replace R_b := hide (Rd.then_ R_b.out hb)
  replace R_c := hide (Rd.then_ R_c.out hb)
  have U8 : Below W.heap.size W w7 := Below.then_ U7 hb
  replace B := hide (Below.then_ B.out hb)
  clear hb
  go_wp2_with fail
  have hd := Below.drw_ w7
  replace R_a := hide (Rd.then_ R_a.out hd)
  replace R_b := hide (Rd.then_ R_b.out hd)
  replace R_c := hide (Rd.then_ R_c.out hd)
  have U9 : Below W.heap.size W (w7.drew) := Below.then_ U8 hd
  replace B := hide (Below.then_ B.out hd)
  clear hd
  have tok6 : True := trivial
  go_region_held3 (fun w' => Below W.heap.size W w') (assumption)
    (first
      | (go_at_call 26; (have _t := tok6; (with_reducible refine (iadd_any _ _ _ _ _ _ _ _ _ _ _ _ R_a.out R_c.out (Nat.le_refl _) (by have := L_a.out; omega) (by have := L_c.out; omega)).mono ?_); rw [e7.out]; rintro e w8 ⟨A_x1, c_x1, rfl, R_x1, hb⟩; replace R_a := hide (Rd.then_ R_a.out hb); replace R_b := hide (Rd.then_ R_b.out hb); replace R_c := hide (Rd.then_ R_c.out hb); have U10 : Below W.heap.size W w8 := Below.then_ U9 hb; replace B := hide (Below.then_ B.out hb); replace R_x1 := hide R_x1; clear hb; have tok7 : True := trivial; clear _t tok6))
      | (go_at_call 26; (have _t := tok7; (with_reducible refine (iadd_any _ _ _ _ _ _ _ _ _ _ _ _ R_b.out R_c.out (Nat.le_refl _) (by have := L_b.out; omega) (by have := L_c.out; omega)).mono ?_); rw [e8.out]; rintro e w9 ⟨A_x2, c_x2, rfl, R_x2, hb⟩; replace R_a := hide (Rd.then_ R_a.out hb); replace R_b := hide (Rd.then_ R_b.out hb); replace R_c := hide (Rd.then_ R_c.out hb); replace R_x1 := hide (Rd.then_ R_x1.out hb); have U11 : Below W.heap.size W w9 := Below.then_ U10 hb; replace B := hide (Below.then_ B.out hb); replace R_x2 := hide R_x2; clear hb; have tok8 : True := trivial; clear _t tok7))
      | (go_at_call 24; (have _t := tok8; (with_reducible refine (icmp_any _ _ _ _ _ _ _ _ _ _ _ _ R_x1.out R_x2.out (Nat.le_refl _)).mono ?_); rw [e9.out]; rintro e w10 ⟨rfl, hb⟩; replace R_a := hide (Rd.then_ R_a.out hb); replace R_b := hide (Rd.then_ R_b.out hb); replace R_c := hide (Rd.then_ R_c.out hb); replace R_x1 := hide (Rd.then_ R_x1.out hb); replace R_x2 := hide (Rd.then_ R_x2.out hb); have U12 : Below W.heap.size W w10 := Below.then_ U11 hb; replace B := hide (Below.then_ B.out hb); clear hb; have tok9 : True := trivial; clear _t tok8; clear R_x1; clear R_x2))
      | (go_at_call 28; (have _t := tok9; (with_reducible refine (isub_any _ _ _ _ _ _ _ _ _ _ _ _ R_a.out R_b.out (Nat.le_refl _) (by have := L_a.out; omega) (by have := L_b.out; omega)).mono ?_); rw [e10.out]; rintro e w11 ⟨A_x1, c_x1, rfl, R_x1, hb⟩; replace R_a := hide (Rd.then_ R_a.out hb); replace R_b := hide (Rd.then_ R_b.out hb); replace R_c := hide (Rd.then_ R_c.out hb); have U13 : Below W.heap.size W w11 := Below.then_ U12 hb; replace B := hide (Below.then_ B.out hb); replace R_x1 := hide R_x1; clear hb; have tok10 : True := trivial; clear _t tok9))
      | (go_at_call 12; (have _t := tok10; (with_reducible refine (isign_any _ _ _ _ _ _ _ R_x1.out (Nat.le_refl _)).mono ?_); rw [e11.out]; rintro e w12 ⟨rfl, hb⟩; replace R_a := hide (Rd.then_ R_a.out hb); replace R_b := hide (Rd.then_ R_b.out hb); replace R_c := hide (Rd.then_ R_c.out hb); replace R_x1 := hide (Rd.then_ R_x1.out hb); have U14 : Below W.heap.size W w12 := Below.then_ U13 hb; replace B := hide (Below.then_ B.out hb); clear hb; have tok11 : True := trivial; clear _t tok10; clear R_x1)))
  clear tok11
  go_wp2_with fail
  have m1s : na + nc ≤ 70368744177664 := (by have := L_a.out; have := L_c.out; omega)
  have m2s : nb + nc ≤ 70368744177664 := (by have := L_b.out; have := L_c.out; omega)
  replace m1s := hide m1s
  replace m2s := hide m2s
  have wv' := wv.out
  have hd := Below.drw_ w12
  replace R_a := hide (Rd.then_ R_a.out hd)
  replace R_b := hide (Rd.then_ R_b.out hd)
  replace R_c := hide (Rd.then_ R_c.out hd)
  have U15 : Below W.heap.size W (w12.drew) := Below.then_ U14 hd
  replace B := hide (Below.then_ B.out hd)
  clear hd
  have tok12 : True := trivial
  go_region_held3 (fun w' => Below W.heap.size W w') (assumption)
    (first
      | (go_at_call 30; (have _t := tok12; (with_reducible refine (imul_any _ _ _ _ _ _ _ _ _ _ _ _ R_a.out R_c.out (Nat.le_refl _) m1s.out).mono ?_); rw [e12.out]; rintro e w13 ⟨A_x1, c_x1, rfl, R_x1, hb⟩; replace R_a := hide (Rd.then_ R_a.out hb); replace R_b := hide (Rd.then_ R_b.out hb); replace R_c := hide (Rd.then_ R_c.out hb); have U16 : Below W.heap.size W w13 := Below.then_ U15 hb; replace B := hide (Below.then_ B.out hb); replace R_x1 := hide R_x1; clear hb; have tok13 : True := trivial; clear _t tok12))
      | (go_at_call 30; (have _t := tok13; (with_reducible refine (imul_any _ _ _ _ _ _ _ _ _ _ _ _ R_b.out R_c.out (Nat.le_refl _) m2s.out).mono ?_); rw [e13.out]; rintro e w14 ⟨A_x2, c_x2, rfl, R_x2, hb⟩; replace R_a := hide (Rd.then_ R_a.out hb); replace R_b := hide (Rd.then_ R_b.out hb); replace R_c := hide (Rd.then_ R_c.out hb); replace R_x1 := hide (Rd.then_ R_x1.out hb); have U17 : Below W.heap.size W w14 := Below.then_ U16 hb; replace B := hide (Below.then_ B.out hb); replace R_x2 := hide R_x2; clear hb; have tok14 : True := trivial; clear _t tok13))
      | (go_at_call 24; (have _t := tok14; (with_reducible refine (icmp_any _ _ _ _ _ _ _ _ _ _ _ _ R_x1.out R_x2.out (Nat.le_refl _)).mono ?_); rw [e14.out]; rintro e w15 ⟨rfl, hb⟩; replace R_a := hide (Rd.then_ R_a.out hb); replace R_b := hide (Rd.then_ R_b.out hb); replace R_c := hide (Rd.then_ R_c.out hb); replace R_x1 := hide (Rd.then_ R_x1.out hb); replace R_x2 := hide (Rd.then_ R_x2.out hb); have U18 : Below W.heap.size W w15 := Below.then_ U17 hb; replace B := hide (Below.then_ B.out hb); clear hb; have tok15 : True := trivial; clear _t tok14; clear R_x1; clear R_x2))
      | (go_at_call 12; (have _t := tok15; (with_reducible refine (isign_any _ _ _ _ _ _ _ R_c.out (Nat.le_refl _)).mono ?_); rw [e15.out]; rintro e w16 ⟨rfl, hb⟩; replace R_a := hide (Rd.then_ R_a.out hb); replace R_b := hide (Rd.then_ R_b.out hb); replace R_c := hide (Rd.then_ R_c.out hb); have U19 : Below W.heap.size W w16 := Below.then_ U18 hb; replace B := hide (Below.then_ B.out hb); clear hb; have tok16 : True := trivial; clear _t tok15))
      | (go_at_call 23; (have _t := tok16; (with_reducible refine (awake_any _).mono ?_); rintro e w17 ⟨rfl, hb⟩; replace R_a := hide (Rd.then_ R_a.out hb); replace R_b := hide (Rd.then_ R_b.out hb); replace R_c := hide (Rd.then_ R_c.out hb); have U20 : Below W.heap.size W w17 := Below.then_ U19 hb; replace B := hide (Below.then_ B.out hb); clear hb; have tok17 : True := trivial; clear _t tok16)))
  clear tok17
  go_wp2
  go_ret
  exact ⟨rfl, B.out⟩

set_option maxRecDepth 100000 in
set_option maxHeartbeats 4000000 in
theorem iorder_ltu (w : World) (sa : Bool) (Aa : Option Addr) (na ca : Nat) (xa : List Nat) (sb : Bool) (Ab : Option Addr) (nb cb : Nat) (xb : List Nat) (sc : Bool) (Ac : Option Addr) (nc cc : Nat) (xc : List Nat) (h_a : Rd w w.heap.size Aa na ca xa) (k_a : na ≤ 35184372087808) (h_b : Rd w w.heap.size Ab nb cb xb) (k_b : nb ≤ 35184372087808) (h_c : Rd w w.heap.size Ac nc cc xc) (k_c : nc ≤ 35184372087808) (hp0 : iv sa (val xa) ≠ iv sb (val xb)) (hle : iv sa (val xa) - iv sb (val xb) ≤ 0) (hq0 : iv sb (val xb) - iv sc (val xc) ≤ 0) :
    Calls Try.prog 8 #[.agg #[.bool sa, .slice Aa na ca], .agg #[.bool sb, .slice Ab nb cb], .agg #[.bool sc, .slice Ac nc cc]] w fun e w' => e = .returned (.bool true) ∧ Below w.heap.size w w' := by
  obtain ⟨K, hK⟩ : ∃ K, K = 35184372087808 := ⟨_, rfl⟩
  obtain ⟨a, za⟩ : ∃ z : Int, iv sa (val xa) = z := ⟨_, rfl⟩
  have Pa : zmag a < pw K := zlt_of za (by have h1 := val_lt h_a.limbs; have h2 := pw_mono (show xa.length ≤ K by have := h_a.len; omega); omega)
  have L_a : na ≤ K := by omega
  obtain ⟨b, zb⟩ : ∃ z : Int, iv sb (val xb) = z := ⟨_, rfl⟩
  have Pb : zmag b < pw K := zlt_of zb (by have h1 := val_lt h_b.limbs; have h2 := pw_mono (show xb.length ≤ K by have := h_b.len; omega); omega)
  have L_b : nb ≤ K := by omega
  obtain ⟨c, zc⟩ : ∃ z : Int, iv sc (val xc) = z := ⟨_, rfl⟩
  have Pc : zmag c < pw K := zlt_of zc (by have h1 := val_lt h_c.limbs; have h2 := pw_mono (show xc.length ≤ K by have := h_c.len; omega); omega)
  have L_c : nc ≤ K := by omega
  rw [za, zb] at hp0
  rw [za, zb] at hle
  rw [zb, zc] at hq0
  obtain ⟨p, hp⟩ : ∃ z : Int, sgn (a - b) = z := ⟨_, rfl⟩
  obtain ⟨q, hq⟩ : ∃ z : Int, sgn (b - c) = z := ⟨_, rfl⟩
  obtain ⟨u, hu⟩ : ∃ z : Int, sgn (a - c) = z := ⟨_, rfl⟩
  obtain ⟨v, hv⟩ : ∃ z : Int, sgn c = z := ⟨_, rfl⟩
  obtain ⟨s1, ds1⟩ : ∃ z : Int, z = a + c := ⟨_, rfl⟩
  have Ps1 : zmag s1 < pw (max K K + 1) := by rw [ds1]; exact zlt_add Pa Pc
  have L_s1 : (dig (zmag s1)).length ≤ max K K + 1 := zlen Ps1
  obtain ⟨s2, ds2⟩ : ∃ z : Int, z = b + c := ⟨_, rfl⟩
  have Ps2 : zmag s2 < pw (max K K + 1) := by rw [ds2]; exact zlt_add Pb Pc
  have L_s2 : (dig (zmag s2)).length ≤ max K K + 1 := zlen Ps2
  obtain ⟨d, dd⟩ : ∃ z : Int, z = a - b := ⟨_, rfl⟩
  have Pd : zmag d < pw (max K K + 1) := by rw [dd]; exact zlt_sub Pa Pb
  have L_d : (dig (zmag d)).length ≤ max K K + 1 := zlen Pd
  obtain ⟨m1, dm1⟩ : ∃ z : Int, z = a * c := ⟨_, rfl⟩
  have Pm1 : zmag m1 < pw (K + K) := by rw [dm1]; exact zlt_mul Pa Pc
  have L_m1 : (dig (zmag m1)).length ≤ K + K := zlen Pm1
  obtain ⟨m2, dm2⟩ : ∃ z : Int, z = b * c := ⟨_, rfl⟩
  have Pm2 : zmag m2 < pw (K + K) := by rw [dm2]; exact zlt_mul Pb Pc
  have L_m2 : (dig (zmag m2)).length ≤ K + K := zlen Pm2
  have e1 : sgn (iv sa (val xa) - iv sb (val xb)) = p := by
    first
      | (simp only [za, zb]; done)
      | (simp only [za, zb]; first | rfl | (exact hp))
      | (exact hp)
  have e2 : sgn (iv sb (val xb) - iv sa (val xa)) = -p := by
    first
      | (simp only [za, zb]; done)
      | (simp only [za, zb]; first | rfl | (rw [← hp]; exact sgn_neg' _ _))
      | (rw [← hp]; exact sgn_neg' _ _)
  have e3 : iv sa (val xa) = a := by
    first
      | (simp only [za]; done)
      | (simp only [za]; first | rfl | (rfl))
      | (rfl)
  have e4 : iv sb (val xb) = b := by
    first
      | (simp only [zb]; done)
      | (simp only [zb]; first | rfl | (rfl))
      | (rfl)
  have e5 : sgn (iv sb (val xb) - iv sc (val xc)) = q := by
    first
      | (simp only [zb, zc]; done)
      | (simp only [zb, zc]; first | rfl | (exact hq))
      | (exact hq)
  have e6 : sgn (iv sa (val xa) - iv sc (val xc)) = u := by
    first
      | (simp only [za, zc]; done)
      | (simp only [za, zc]; first | rfl | (exact hu))
      | (exact hu)
  have e7 : iv sa (val xa) + iv sc (val xc) = s1 := by
    first
      | (simp only [za, zc]; done)
      | (simp only [za, zc]; first | rfl | (rw [ds1]))
      | (rw [ds1])
  have e8 : iv sb (val xb) + iv sc (val xc) = s2 := by
    first
      | (simp only [zb, zc]; done)
      | (simp only [zb, zc]; first | rfl | (rw [ds2]))
      | (rw [ds2])
  have e9 : sgn (iv (zneg s1) (val (dig (zmag s1))) - iv (zneg s2) (val (dig (zmag s2)))) = p := by
    first
      | (simp only [val_ieta]; done)
      | (simp only [val_ieta]; first | rfl | (rw [ds1, ds2, ← hp]; exact sgn_shift _ _ _))
      | (rw [ds1, ds2, ← hp]; exact sgn_shift _ _ _)
  have e10 : iv sa (val xa) - iv sb (val xb) = d := by
    first
      | (simp only [za, zb]; done)
      | (simp only [za, zb]; first | rfl | (rw [dd]))
      | (rw [dd])
  have e11 : sgn (iv (zneg d) (val (dig (zmag d)))) = p := by
    first
      | (simp only [val_ieta]; done)
      | (simp only [val_ieta]; first | rfl | (rw [dd]; exact hp))
      | (rw [dd]; exact hp)
  have e12 : iv sa (val xa) * iv sc (val xc) = m1 := by
    first
      | (simp only [za, zc]; done)
      | (simp only [za, zc]; first | rfl | (rw [dm1]))
      | (rw [dm1])
  have e13 : iv sb (val xb) * iv sc (val xc) = m2 := by
    first
      | (simp only [zb, zc]; done)
      | (simp only [zb, zc]; first | rfl | (rw [dm2]))
      | (rw [dm2])
  have e14 : sgn (iv (zneg m1) (val (dig (zmag m1))) - iv (zneg m2) (val (dig (zmag m2)))) = p * v := by
    first
      | (simp only [val_ieta]; done)
      | (simp only [val_ieta]; first | rfl | (rw [dm1, dm2, ← hp, ← hv]; exact sgn_scale _ _ _))
      | (rw [dm1, dm2, ← hp, ← hv]; exact sgn_scale _ _ _)
  have e15 : sgn (iv sc (val xc)) = v := by
    first
      | (simp only [zc]; done)
      | (simp only [zc]; first | rfl | (exact hv))
      | (exact hv)
  have bp := sgn_bound (a - b)
  have bq := sgn_bound (b - c)
  have bu := sgn_bound (a - c)
  have bv := sgn_bound c
  have tp := sgn_three (a - b)
  have tq := sgn_three (b - c)
  have tu := sgn_three (a - c)
  rw [hp] at bp tp
  rw [hq] at bq tq
  rw [hu] at bu tu
  rw [hv] at bv
  have p1 : -1 ≤ p := bp.1
  have p2 : p ≤ 1 := bp.2
  have pz : (p == 0) = false := by simp; omega
  have d1 : decide (p < -1) = false := decide_eq_false (by omega)
  have d2 : decide (1 < p) = false := decide_eq_false (by omega)
  have wp : IntKind.i64.wrap (-p) = -p := wrap_one (by omega) (by omega)
  have wv : IntKind.i64.wrap (p * v) = p * v := wrap_one (mul_one_bound bp.1 bp.2 bv.1 bv.2).1 (mul_one_bound bp.1 bp.2 bv.1 bv.2).2
  have pl : decide (p ≤ 0) = true := decide_eq_true (by omega)
  have ql : decide (q ≤ 0) = true := decide_eq_true (by omega)
  have ul : decide (0 < u) = false := decide_eq_false (by omega)
  clear bp bq bu bv tp tq tu hp hq hu hv hq0 hle
  replace za := hide za
  replace Pa := hide Pa
  replace L_a := hide L_a
  replace zb := hide zb
  replace Pb := hide Pb
  replace L_b := hide L_b
  replace zc := hide zc
  replace Pc := hide Pc
  replace L_c := hide L_c
  replace L_s1 := hide L_s1
  replace Ps1 := hide Ps1
  replace ds1 := hide ds1
  replace L_s2 := hide L_s2
  replace Ps2 := hide Ps2
  replace ds2 := hide ds2
  replace L_d := hide L_d
  replace Pd := hide Pd
  replace dd := hide dd
  replace L_m1 := hide L_m1
  replace Pm1 := hide Pm1
  replace dm1 := hide dm1
  replace L_m2 := hide L_m2
  replace Pm2 := hide Pm2
  replace dm2 := hide dm2
  replace e1 := hide e1
  replace e2 := hide e2
  replace e3 := hide e3
  replace e4 := hide e4
  replace e5 := hide e5
  replace e6 := hide e6
  replace e7 := hide e7
  replace e8 := hide e8
  replace e9 := hide e9
  replace e10 := hide e10
  replace e11 := hide e11
  replace e12 := hide e12
  replace e13 := hide e13
  replace e14 := hide e14
  replace e15 := hide e15
  replace hp0 := hide hp0
  replace wp := hide wp
  replace wv := hide wv
  have hKle : K ≤ 35184372087808 := by omega
  clear hK
  clear k_a k_b k_c
  obtain ⟨W, hW⟩ : ∃ W, W = (((w.alloc (.cells #[.bool sa, .slice Aa na ca] 25)).alloc (.cells #[.bool sb, .slice Ab nb cb] 25)).alloc (.cells #[.bool sc, .slice Ac nc cc] 25)) := ⟨_, rfl⟩
  have b_a : Box W (w.heap.size) (.bool sa) (.slice Aa na ca) := by rw [hW]; exact (((Box.new w _ _ rfl).al _).al _)
  have b_b : Box W (w.heap.size + 1) (.bool sb) (.slice Ab nb cb) := by rw [hW]; exact ((Box.new _ _ _ (by simp)).al _)
  have b_c : Box W (w.heap.size + 1 + 1) (.bool sc) (.slice Ac nc cc) := by rw [hW]; exact (Box.new _ _ _ (by simp))
  have hwW : Below w.heap.size w W := by rw [hW]; exact ((((Below.refl _ _).alloc (Nat.le_refl _) _).alloc (by simp) _).alloc (by simp; omega) _)
  have R_a := hide (Rd.then_ h_a hwW)
  clear h_a
  have R_b := hide (Rd.then_ h_b hwW)
  clear h_b
  have R_c := hide (Rd.then_ h_c hwW)
  clear h_c
  have B := hide hwW
  clear hwW
  have U0 : Below W.heap.size W W := Below.refl _ _
  have c_a0 := b_a.at0 b_a.lt_size (Nat.le_refl _)
  have c_a1 := b_a.at1 b_a.lt_size (Nat.le_refl _)
  replace b_a := hide b_a
  have c_b0 := b_b.at0 b_b.lt_size (Nat.le_refl _)
  have c_b1 := b_b.at1 b_b.lt_size (Nat.le_refl _)
  replace b_b := hide b_b
  have c_c0 := b_c.at0 b_c.lt_size (Nat.le_refl _)
  have c_c1 := b_c.at1 b_c.lt_size (Nat.le_refl _)
  replace b_c := hide b_c
  go_enter Try.func8, Try.ntmps8
  go_wp2_with fail
  rw [← hW]
  clear hW
  refine (icmp_any _ _ _ _ _ _ _ _ _ _ _ _ R_a.out R_b.out (Nat.le_refl _)).mono ?_
  rw [e1.out]
  rintro e w1 ⟨rfl, hb⟩
  replace R_a := hide (Rd.then_ R_a.out hb)
  replace R_b := hide (Rd.then_ R_b.out hb)
  replace R_c := hide (Rd.then_ R_c.out hb)
  have U1 : Below W.heap.size W w1 := Below.then_ U0 hb
  replace B := hide (Below.then_ B.out hb)
  clear hb
  go_wp2_with fail
  have wp' := wp.out
  have hd := Below.drw_ w1
  replace R_a := hide (Rd.then_ R_a.out hd)
  replace R_b := hide (Rd.then_ R_b.out hd)
  replace R_c := hide (Rd.then_ R_c.out hd)
  have U2 : Below W.heap.size W (w1.drew) := Below.then_ U1 hd
  replace B := hide (Below.then_ B.out hd)
  clear hd
  have tok1 : True := trivial
  go_region_held3 (fun w' => Below W.heap.size W w') (assumption)
    (first
      | (go_at_call 24; (have _t := tok1; (with_reducible refine (icmp_any _ _ _ _ _ _ _ _ _ _ _ _ R_b.out R_a.out (Nat.le_refl _)).mono ?_); rw [e2.out]; rintro e w2 ⟨rfl, hb⟩; replace R_a := hide (Rd.then_ R_a.out hb); replace R_b := hide (Rd.then_ R_b.out hb); replace R_c := hide (Rd.then_ R_c.out hb); have U3 : Below W.heap.size W w2 := Below.then_ U2 hb; replace B := hide (Below.then_ B.out hb); clear hb; have tok2 : True := trivial; clear _t tok1))
      | (go_at_call 19; (have _t := tok2; (with_reducible refine (inorm_any _ _ _ _ _ _ _ R_a.out (Nat.le_refl _)).mono ?_); rw [e3.out]; rintro e w3 ⟨A_x1, c_x1, rfl, R_x1, hb⟩; replace R_a := hide (Rd.then_ R_a.out hb); replace R_b := hide (Rd.then_ R_b.out hb); replace R_c := hide (Rd.then_ R_c.out hb); have U4 : Below W.heap.size W w3 := Below.then_ U3 hb; replace B := hide (Below.then_ B.out hb); replace R_x1 := hide R_x1; clear hb; have tok3 : True := trivial; clear _t tok2))
      | (go_at_call 19; (have _t := tok3; (with_reducible refine (inorm_any _ _ _ _ _ _ _ R_b.out (Nat.le_refl _)).mono ?_); rw [e4.out]; rintro e w4 ⟨A_x2, c_x2, rfl, R_x2, hb⟩; replace R_a := hide (Rd.then_ R_a.out hb); replace R_b := hide (Rd.then_ R_b.out hb); replace R_c := hide (Rd.then_ R_c.out hb); replace R_x1 := hide (Rd.then_ R_x1.out hb); have U5 : Below W.heap.size W w4 := Below.then_ U4 hb; replace B := hide (Below.then_ B.out hb); replace R_x2 := hide R_x2; clear hb; have tok4 : True := trivial; clear _t tok3))
      | (go_at_call 14; (have _t := tok4; (with_reducible refine (same_ne _ _ _ _ _ _ _ R_x1.out R_x2.out hp0.out).mono ?_); rintro e w5 ⟨rfl, hb⟩; replace R_a := hide (Rd.then_ R_a.out hb); replace R_b := hide (Rd.then_ R_b.out hb); replace R_c := hide (Rd.then_ R_c.out hb); replace R_x1 := hide (Rd.then_ R_x1.out hb); replace R_x2 := hide (Rd.then_ R_x2.out hb); have U6 : Below W.heap.size W w5 := Below.then_ U5 hb; replace B := hide (Below.then_ B.out hb); clear hb; have tok5 : True := trivial; clear _t tok4; clear R_x1; clear R_x2)))
  clear tok5
  clear wp'
  go_wp2_with fail
  refine (icmp_any _ _ _ _ _ _ _ _ _ _ _ _ R_b.out R_c.out (Nat.le_refl _)).mono ?_
  rw [e5.out]
  rintro e w6 ⟨rfl, hb⟩
  replace R_a := hide (Rd.then_ R_a.out hb)
  replace R_b := hide (Rd.then_ R_b.out hb)
  replace R_c := hide (Rd.then_ R_c.out hb)
  have U7 : Below W.heap.size W w6 := Below.then_ U6 hb
  replace B := hide (Below.then_ B.out hb)
  clear hb
  go_wp2_with fail
  refine (icmp_any _ _ _ _ _ _ _ _ _ _ _ _ R_a.out R_c.out (Nat.le_refl _)).mono ?_
  rw [e6.out]
  rintro e w7 ⟨rfl, hb⟩
  replace R_a := hide (Rd.then_ R_a.out hb)
  replace R_b := hide (Rd.then_ R_b.out hb)
  replace R_c := hide (Rd.then_ R_c.out hb)
  have U8 : Below W.heap.size W w7 := Below.then_ U7 hb
  replace B := hide (Below.then_ B.out hb)
  clear hb
  go_wp2_with fail
  have hd := Below.drw_ w7
  replace R_a := hide (Rd.then_ R_a.out hd)
  replace R_b := hide (Rd.then_ R_b.out hd)
  replace R_c := hide (Rd.then_ R_c.out hd)
  have U9 : Below W.heap.size W (w7.drew) := Below.then_ U8 hd
  replace B := hide (Below.then_ B.out hd)
  clear hd
  have tok6 : True := trivial
  go_region_held3 (fun w' => Below W.heap.size W w') (assumption)
    (first
      | (go_at_call 26; (have _t := tok6; (with_reducible refine (iadd_any _ _ _ _ _ _ _ _ _ _ _ _ R_a.out R_c.out (Nat.le_refl _) (by have := L_a.out; omega) (by have := L_c.out; omega)).mono ?_); rw [e7.out]; rintro e w8 ⟨A_x1, c_x1, rfl, R_x1, hb⟩; replace R_a := hide (Rd.then_ R_a.out hb); replace R_b := hide (Rd.then_ R_b.out hb); replace R_c := hide (Rd.then_ R_c.out hb); have U10 : Below W.heap.size W w8 := Below.then_ U9 hb; replace B := hide (Below.then_ B.out hb); replace R_x1 := hide R_x1; clear hb; have tok7 : True := trivial; clear _t tok6))
      | (go_at_call 26; (have _t := tok7; (with_reducible refine (iadd_any _ _ _ _ _ _ _ _ _ _ _ _ R_b.out R_c.out (Nat.le_refl _) (by have := L_b.out; omega) (by have := L_c.out; omega)).mono ?_); rw [e8.out]; rintro e w9 ⟨A_x2, c_x2, rfl, R_x2, hb⟩; replace R_a := hide (Rd.then_ R_a.out hb); replace R_b := hide (Rd.then_ R_b.out hb); replace R_c := hide (Rd.then_ R_c.out hb); replace R_x1 := hide (Rd.then_ R_x1.out hb); have U11 : Below W.heap.size W w9 := Below.then_ U10 hb; replace B := hide (Below.then_ B.out hb); replace R_x2 := hide R_x2; clear hb; have tok8 : True := trivial; clear _t tok7))
      | (go_at_call 24; (have _t := tok8; (with_reducible refine (icmp_any _ _ _ _ _ _ _ _ _ _ _ _ R_x1.out R_x2.out (Nat.le_refl _)).mono ?_); rw [e9.out]; rintro e w10 ⟨rfl, hb⟩; replace R_a := hide (Rd.then_ R_a.out hb); replace R_b := hide (Rd.then_ R_b.out hb); replace R_c := hide (Rd.then_ R_c.out hb); replace R_x1 := hide (Rd.then_ R_x1.out hb); replace R_x2 := hide (Rd.then_ R_x2.out hb); have U12 : Below W.heap.size W w10 := Below.then_ U11 hb; replace B := hide (Below.then_ B.out hb); clear hb; have tok9 : True := trivial; clear _t tok8; clear R_x1; clear R_x2))
      | (go_at_call 28; (have _t := tok9; (with_reducible refine (isub_any _ _ _ _ _ _ _ _ _ _ _ _ R_a.out R_b.out (Nat.le_refl _) (by have := L_a.out; omega) (by have := L_b.out; omega)).mono ?_); rw [e10.out]; rintro e w11 ⟨A_x1, c_x1, rfl, R_x1, hb⟩; replace R_a := hide (Rd.then_ R_a.out hb); replace R_b := hide (Rd.then_ R_b.out hb); replace R_c := hide (Rd.then_ R_c.out hb); have U13 : Below W.heap.size W w11 := Below.then_ U12 hb; replace B := hide (Below.then_ B.out hb); replace R_x1 := hide R_x1; clear hb; have tok10 : True := trivial; clear _t tok9))
      | (go_at_call 12; (have _t := tok10; (with_reducible refine (isign_any _ _ _ _ _ _ _ R_x1.out (Nat.le_refl _)).mono ?_); rw [e11.out]; rintro e w12 ⟨rfl, hb⟩; replace R_a := hide (Rd.then_ R_a.out hb); replace R_b := hide (Rd.then_ R_b.out hb); replace R_c := hide (Rd.then_ R_c.out hb); replace R_x1 := hide (Rd.then_ R_x1.out hb); have U14 : Below W.heap.size W w12 := Below.then_ U13 hb; replace B := hide (Below.then_ B.out hb); clear hb; have tok11 : True := trivial; clear _t tok10; clear R_x1)))
  clear tok11
  go_wp2_with fail
  have m1s : na + nc ≤ 70368744177664 := (by have := L_a.out; have := L_c.out; omega)
  have m2s : nb + nc ≤ 70368744177664 := (by have := L_b.out; have := L_c.out; omega)
  replace m1s := hide m1s
  replace m2s := hide m2s
  have wv' := wv.out
  have hd := Below.drw_ w12
  replace R_a := hide (Rd.then_ R_a.out hd)
  replace R_b := hide (Rd.then_ R_b.out hd)
  replace R_c := hide (Rd.then_ R_c.out hd)
  have U15 : Below W.heap.size W (w12.drew) := Below.then_ U14 hd
  replace B := hide (Below.then_ B.out hd)
  clear hd
  have tok12 : True := trivial
  go_region_held3 (fun w' => Below W.heap.size W w') (assumption)
    (first
      | (go_at_call 30; (have _t := tok12; (with_reducible refine (imul_any _ _ _ _ _ _ _ _ _ _ _ _ R_a.out R_c.out (Nat.le_refl _) m1s.out).mono ?_); rw [e12.out]; rintro e w13 ⟨A_x1, c_x1, rfl, R_x1, hb⟩; replace R_a := hide (Rd.then_ R_a.out hb); replace R_b := hide (Rd.then_ R_b.out hb); replace R_c := hide (Rd.then_ R_c.out hb); have U16 : Below W.heap.size W w13 := Below.then_ U15 hb; replace B := hide (Below.then_ B.out hb); replace R_x1 := hide R_x1; clear hb; have tok13 : True := trivial; clear _t tok12))
      | (go_at_call 30; (have _t := tok13; (with_reducible refine (imul_any _ _ _ _ _ _ _ _ _ _ _ _ R_b.out R_c.out (Nat.le_refl _) m2s.out).mono ?_); rw [e13.out]; rintro e w14 ⟨A_x2, c_x2, rfl, R_x2, hb⟩; replace R_a := hide (Rd.then_ R_a.out hb); replace R_b := hide (Rd.then_ R_b.out hb); replace R_c := hide (Rd.then_ R_c.out hb); replace R_x1 := hide (Rd.then_ R_x1.out hb); have U17 : Below W.heap.size W w14 := Below.then_ U16 hb; replace B := hide (Below.then_ B.out hb); replace R_x2 := hide R_x2; clear hb; have tok14 : True := trivial; clear _t tok13))
      | (go_at_call 24; (have _t := tok14; (with_reducible refine (icmp_any _ _ _ _ _ _ _ _ _ _ _ _ R_x1.out R_x2.out (Nat.le_refl _)).mono ?_); rw [e14.out]; rintro e w15 ⟨rfl, hb⟩; replace R_a := hide (Rd.then_ R_a.out hb); replace R_b := hide (Rd.then_ R_b.out hb); replace R_c := hide (Rd.then_ R_c.out hb); replace R_x1 := hide (Rd.then_ R_x1.out hb); replace R_x2 := hide (Rd.then_ R_x2.out hb); have U18 : Below W.heap.size W w15 := Below.then_ U17 hb; replace B := hide (Below.then_ B.out hb); clear hb; have tok15 : True := trivial; clear _t tok14; clear R_x1; clear R_x2))
      | (go_at_call 12; (have _t := tok15; (with_reducible refine (isign_any _ _ _ _ _ _ _ R_c.out (Nat.le_refl _)).mono ?_); rw [e15.out]; rintro e w16 ⟨rfl, hb⟩; replace R_a := hide (Rd.then_ R_a.out hb); replace R_b := hide (Rd.then_ R_b.out hb); replace R_c := hide (Rd.then_ R_c.out hb); have U19 : Below W.heap.size W w16 := Below.then_ U18 hb; replace B := hide (Below.then_ B.out hb); clear hb; have tok16 : True := trivial; clear _t tok15))
      | (go_at_call 23; (have _t := tok16; (with_reducible refine (awake_any _).mono ?_); rintro e w17 ⟨rfl, hb⟩; replace R_a := hide (Rd.then_ R_a.out hb); replace R_b := hide (Rd.then_ R_b.out hb); replace R_c := hide (Rd.then_ R_c.out hb); have U20 : Below W.heap.size W w17 := Below.then_ U19 hb; replace B := hide (Below.then_ B.out hb); clear hb; have tok17 : True := trivial; clear _t tok16)))
  clear tok17
  go_wp2
  go_ret
  exact ⟨rfl, B.out⟩

set_option maxRecDepth 100000 in
set_option maxHeartbeats 4000000 in
theorem iorder_walk (w : World) (sa : Bool) (Aa : Option Addr) (na ca : Nat) (xa : List Nat) (sb : Bool) (Ab : Option Addr) (nb cb : Nat) (xb : List Nat) (sc : Bool) (Ac : Option Addr) (nc cc : Nat) (xc : List Nat) (h_a : Rd w w.heap.size Aa na ca xa) (k_a : na ≤ 35184372087808) (h_b : Rd w w.heap.size Ab nb cb xb) (k_b : nb ≤ 35184372087808) (h_c : Rd w w.heap.size Ac nc cc xc) (k_c : nc ≤ 35184372087808) :
    Calls Try.prog 8 #[.agg #[.bool sa, .slice Aa na ca], .agg #[.bool sb, .slice Ab nb cb], .agg #[.bool sc, .slice Ac nc cc]] w fun e w' => e = .returned (.bool true) ∧ Below w.heap.size w w' := by
  by_cases hp0 : iv sa (val xa) = iv sb (val xb)
  · by_cases hq : 0 < iv sb (val xb) - iv sc (val xc)
    · exact iorder_eqq w sa Aa na ca xa sb Ab nb cb xb sc Ac nc cc xc h_a k_a h_b k_b h_c k_c hp0 (by omega) hq
    · exact iorder_equ w sa Aa na ca xa sb Ab nb cb xb sc Ac nc cc xc h_a k_a h_b k_b h_c k_c hp0 (by omega) (by omega)
  · by_cases hgt : 0 < iv sa (val xa) - iv sb (val xb)
    · exact iorder_gt w sa Aa na ca xa sb Ab nb cb xb sc Ac nc cc xc h_a k_a h_b k_b h_c k_c hp0 hgt
    · by_cases hq : 0 < iv sb (val xb) - iv sc (val xc)
      · exact iorder_ltq w sa Aa na ca xa sb Ab nb cb xb sc Ac nc cc xc h_a k_a h_b k_b h_c k_c hp0 (by omega) hq
      · exact iorder_ltu w sa Aa na ca xa sb Ab nb cb xb sc Ac nc cc xc h_a k_a h_b k_b h_c k_c hp0 (by omega) (by omega)

end Go.Proofs.Ytjbbapibpcgnhaa
