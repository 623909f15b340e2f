/-
  The walk of examboardlaw02.IntegerForms.
-/
import Derived.Test.YtjbbapibpcgnhaaIntLaw
namespace Go.Proofs.Ytjbbapibpcgnhaa
open Go.RowKit

set_option maxRecDepth 100000 in
set_option maxHeartbeats 4000000 in
theorem forms_walk (w : World) (vv : Int) (sa : Bool) (Aa : Option Addr) (na ca : Nat) (xa : List Nat) (b_v : -9223372036854775808 ≤ vv ∧ vv ≤ 9223372036854775807) (h_a : Rd w w.heap.size Aa na ca xa) (k_a : na ≤ 35184372087808) :
    Calls Try.prog 3 #[.int .i64 vv, .agg #[.bool sa, .slice Aa na ca]] w fun e w' => e = .returned (.bool true) ∧ Below w.heap.size w w' := by
  obtain ⟨K, hK⟩ : ∃ K, K = 35184372087808 := ⟨_, rfl⟩
  obtain ⟨a, za⟩ : ∃ z : Int, iv sa (val xa) = z := ⟨_, rfl⟩
  have Pa : zmag a < pw K := zlt_of za (by have h1 := val_lt h_a.limbs; have h2 := pw_mono (show xa.length ≤ K by have := h_a.len; omega); omega)
  have L_a : na ≤ K := by omega
  obtain ⟨ma, dma⟩ : ∃ z : Int, z = -a := ⟨_, rfl⟩
  have Pma : zmag ma < pw (K) := by rw [dma]; exact zlt_neg Pa
  have L_ma : (dig (zmag ma)).length ≤ K := zlen Pma
  have e1 : iv sa (val xa) = a := by
    first
      | (simp only [za]; done)
      | (simp only [za]; first | rfl | (rfl))
      | (rfl)
  have e2 : -iv sa (val xa) = ma := by
    first
      | (simp only [za]; done)
      | (simp only [za]; first | rfl | (rw [dma]))
      | (rw [dma])
  obtain ⟨i1v, i1⟩ : ∃ z : Int, i64v (iv sa (val xa)) = z := ⟨_, rfl⟩
  obtain ⟨p1v, p1⟩ : ∃ z : Int, sgn (iv sa (val xa)) = z := ⟨_, rfl⟩
  obtain ⟨okv, i2⟩ : ∃ z : Bool, i64ok (iv sa (val xa)) = z := ⟨_, rfl⟩
  replace za := hide za
  replace Pa := hide Pa
  replace L_a := hide L_a
  replace L_ma := hide L_ma
  replace Pma := hide Pma
  replace dma := hide dma
  replace e1 := hide e1
  replace e2 := hide e2
  replace i1 := hide i1
  replace p1 := hide p1
  replace i2 := hide i2
  clear hK k_a
  obtain ⟨bv1, bv2⟩ := b_v
  replace bv1 := hide bv1
  replace bv2 := hide bv2
  obtain ⟨W, hW⟩ : ∃ W, W = (w.alloc (.cells #[.bool sa, .slice Aa na ca] 25)) := ⟨_, rfl⟩
  have b_a : Box W (w.heap.size) (.bool sa) (.slice Aa na ca) := by rw [hW]; exact (Box.new w _ _ rfl)
  have hwW : Below w.heap.size w W := by rw [hW]; exact ((Below.refl _ _).alloc (Nat.le_refl _) _)
  have R_a := hide (Rd.then_ h_a hwW)
  clear h_a
  have B := hide hwW
  clear hwW
  have U0 : Below W.heap.size W W := Below.refl _ _
  have c_a0 := b_a.at0 b_a.lt_size (Nat.le_refl _)
  have c_a1 := b_a.at1 b_a.lt_size (Nat.le_refl _)
  replace b_a := hide b_a
  go_enter Try.func3, Try.ntmps3
  go_wp2_with fail
  rw [← hW]
  clear hW
  refine (int64_any _ _ _ _ _ _ _ R_a.out (Nat.le_refl _)).mono ?_
  rw [i1.out, i2.out]
  rintro e w1 ⟨rfl, hb⟩
  replace R_a := hide (Rd.then_ R_a.out hb)
  have U1 : Below W.heap.size W w1 := Below.then_ U0 hb
  replace B := hide (Below.then_ B.out hb)
  clear hb
  go_wp2_with fail
  refine (rint64_any _ _ _ _ _ _ _ R_a.out (Nat.le_refl _)).mono ?_
  rw [i1.out, i2.out]
  rintro e w2 ⟨rfl, hb⟩
  replace R_a := hide (Rd.then_ R_a.out hb)
  have U2 : Below W.heap.size W w2 := Below.then_ U1 hb
  replace B := hide (Below.then_ B.out hb)
  clear hb
  go_wp2_with fail
  have hd := Below.drw_ w2
  replace R_a := hide (Rd.then_ R_a.out hd)
  have U3 : Below W.heap.size W (w2.drew) := Below.then_ U2 hd
  replace B := hide (Below.then_ B.out hd)
  clear hd
  have tok1 : True := trivial
  go_region_held3 (fun w' => Below W.heap.size W w') (assumption)
    (first
      | (go_at_call 12; (have _t := tok1; (with_reducible refine (isign_any _ _ _ _ _ _ _ R_a.out (Nat.le_refl _)).mono ?_); rw [p1.out]; rintro e w3 ⟨rfl, hb⟩; replace R_a := hide (Rd.then_ R_a.out hb); have U4 : Below W.heap.size W w3 := Below.then_ U3 hb; replace B := hide (Below.then_ B.out hb); clear hb; have tok2 : True := trivial; clear _t tok1))
      | (go_at_call 13; (have _t := tok2; (with_reducible refine (risign_any _ _ _ _ _ _ _ R_a.out (Nat.le_refl _)).mono ?_); rw [p1.out]; rintro e w4 ⟨rfl, hb⟩; replace R_a := hide (Rd.then_ R_a.out hb); have U5 : Below W.heap.size W w4 := Below.then_ U4 hb; replace B := hide (Below.then_ B.out hb); clear hb; have tok3 : True := trivial; clear _t tok2)))
  clear tok3
  go_wp2_with fail
  have hd := Below.drw_ w4
  replace R_a := hide (Rd.then_ R_a.out hd)
  have U6 : Below W.heap.size W (w4.drew) := Below.then_ U5 hd
  replace B := hide (Below.then_ B.out hd)
  clear hd
  have tok4 : True := trivial
  go_region_held3 (fun w' => Below W.heap.size W w') (assumption)
    (first
      | (go_at_call 15; (have _t := tok4; (with_reducible refine (iof_any _ vv bv1.out bv2.out).mono ?_); rintro e w5 ⟨A_x1, c_x1, rfl, R_x1, hb⟩; replace R_a := hide (Rd.then_ R_a.out hb); have U7 : Below W.heap.size W w5 := Below.then_ U6 hb; replace B := hide (Below.then_ B.out hb); replace R_x1 := hide R_x1; clear hb; have tok5 : True := trivial; clear _t tok4))
      | (go_at_call 16; (have _t := tok5; (with_reducible refine (riof_any _ vv bv1.out bv2.out).mono ?_); rintro e w6 ⟨A_x2, c_x2, rfl, R_x2, hb⟩; replace R_a := hide (Rd.then_ R_a.out hb); replace R_x1 := hide (Rd.then_ R_x1.out hb); have U8 : Below W.heap.size W w6 := Below.then_ U7 hb; replace B := hide (Below.then_ B.out hb); replace R_x2 := hide R_x2; clear hb; have tok6 : True := trivial; clear _t tok5))
      | (go_at_call 14; (have _t := tok6; (with_reducible refine (same_eq _ _ _ _ _ _ _ _ _ _ _ R_x1.out R_x2.out rfl rfl).mono ?_); rintro e w7 ⟨rfl, hb⟩; replace R_a := hide (Rd.then_ R_a.out hb); replace R_x1 := hide (Rd.then_ R_x1.out hb); replace R_x2 := hide (Rd.then_ R_x2.out hb); have U9 : Below W.heap.size W w7 := Below.then_ U8 hb; replace B := hide (Below.then_ B.out hb); clear hb; have tok7 : True := trivial; clear _t tok6; clear R_x1; clear R_x2))
      | (go_at_call 17; (have _t := tok7; (with_reducible refine (imake_any _ _ _ _ _ _ _ R_a.out (Nat.le_refl _)).mono ?_); rw [e1.out]; rintro e w8 ⟨A_x1, c_x1, rfl, R_x1, hb⟩; replace R_a := hide (Rd.then_ R_a.out hb); have U10 : Below W.heap.size W w8 := Below.then_ U9 hb; replace B := hide (Below.then_ B.out hb); replace R_x1 := hide R_x1; clear hb; have tok8 : True := trivial; clear _t tok7))
      | (go_at_call 18; (have _t := tok8; (with_reducible refine (rimake_any _ _ _ _ _ _ _ R_a.out (Nat.le_refl _)).mono ?_); rw [e1.out]; rintro e w9 ⟨A_x2, c_x2, rfl, R_x2, hb⟩; replace R_a := hide (Rd.then_ R_a.out hb); replace R_x1 := hide (Rd.then_ R_x1.out hb); have U11 : Below W.heap.size W w9 := Below.then_ U10 hb; replace B := hide (Below.then_ B.out hb); replace R_x2 := hide R_x2; clear hb; have tok9 : True := trivial; clear _t tok8))
      | (go_at_call 14; (have _t := tok9; (with_reducible refine (same_eq _ _ _ _ _ _ _ _ _ _ _ R_x1.out R_x2.out rfl rfl).mono ?_); rintro e w10 ⟨rfl, hb⟩; replace R_a := hide (Rd.then_ R_a.out hb); replace R_x1 := hide (Rd.then_ R_x1.out hb); replace R_x2 := hide (Rd.then_ R_x2.out hb); have U12 : Below W.heap.size W w10 := Below.then_ U11 hb; replace B := hide (Below.then_ B.out hb); clear hb; have tok10 : True := trivial; clear _t tok9; clear R_x1; clear R_x2)))
  clear tok10
  go_wp2_with fail
  have hd := Below.drw_ w10
  replace R_a := hide (Rd.then_ R_a.out hd)
  have U13 : Below W.heap.size W (w10.drew) := Below.then_ U12 hd
  replace B := hide (Below.then_ B.out hd)
  clear hd
  have tok11 : True := trivial
  go_region_held3 (fun w' => Below W.heap.size W w') (assumption)
    (first
      | (go_at_call 19; (have _t := tok11; (with_reducible refine (inorm_any _ _ _ _ _ _ _ R_a.out (Nat.le_refl _)).mono ?_); rw [e1.out]; rintro e w11 ⟨A_x1, c_x1, rfl, R_x1, hb⟩; replace R_a := hide (Rd.then_ R_a.out hb); have U14 : Below W.heap.size W w11 := Below.then_ U13 hb; replace B := hide (Below.then_ B.out hb); replace R_x1 := hide R_x1; clear hb; have tok12 : True := trivial; clear _t tok11))
      | (go_at_call 20; (have _t := tok12; (with_reducible refine (rinorm_any _ _ _ _ _ _ _ R_a.out (Nat.le_refl _)).mono ?_); rw [e1.out]; rintro e w12 ⟨A_x2, c_x2, rfl, R_x2, hb⟩; replace R_a := hide (Rd.then_ R_a.out hb); replace R_x1 := hide (Rd.then_ R_x1.out hb); have U15 : Below W.heap.size W w12 := Below.then_ U14 hb; replace B := hide (Below.then_ B.out hb); replace R_x2 := hide R_x2; clear hb; have tok13 : True := trivial; clear _t tok12))
      | (go_at_call 14; (have _t := tok13; (with_reducible refine (same_eq _ _ _ _ _ _ _ _ _ _ _ R_x1.out R_x2.out rfl rfl).mono ?_); rintro e w13 ⟨rfl, hb⟩; replace R_a := hide (Rd.then_ R_a.out hb); replace R_x1 := hide (Rd.then_ R_x1.out hb); replace R_x2 := hide (Rd.then_ R_x2.out hb); have U16 : Below W.heap.size W w13 := Below.then_ U15 hb; replace B := hide (Below.then_ B.out hb); clear hb; have tok14 : True := trivial; clear _t tok13; clear R_x1; clear R_x2))
      | (go_at_call 21; (have _t := tok14; (with_reducible refine (ineg_any _ _ _ _ _ _ _ R_a.out (Nat.le_refl _)).mono ?_); rw [e2.out]; rintro e w14 ⟨A_x1, c_x1, rfl, R_x1, hb⟩; replace R_a := hide (Rd.then_ R_a.out hb); have U17 : Below W.heap.size W w14 := Below.then_ U16 hb; replace B := hide (Below.then_ B.out hb); replace R_x1 := hide R_x1; clear hb; have tok15 : True := trivial; clear _t tok14))
      | (go_at_call 22; (have _t := tok15; (with_reducible refine (rineg_any _ _ _ _ _ _ _ R_a.out (Nat.le_refl _)).mono ?_); rw [e2.out]; rintro e w15 ⟨A_x2, c_x2, rfl, R_x2, hb⟩; replace R_a := hide (Rd.then_ R_a.out hb); replace R_x1 := hide (Rd.then_ R_x1.out hb); have U18 : Below W.heap.size W w15 := Below.then_ U17 hb; replace B := hide (Below.then_ B.out hb); replace R_x2 := hide R_x2; clear hb; have tok16 : True := trivial; clear _t tok15))
      | (go_at_call 14; (have _t := tok16; (with_reducible refine (same_eq _ _ _ _ _ _ _ _ _ _ _ R_x1.out R_x2.out rfl rfl).mono ?_); rintro e w16 ⟨rfl, hb⟩; replace R_a := hide (Rd.then_ R_a.out hb); replace R_x1 := hide (Rd.then_ R_x1.out hb); replace R_x2 := hide (Rd.then_ R_x2.out hb); have U19 : Below W.heap.size W w16 := Below.then_ U18 hb; replace B := hide (Below.then_ B.out hb); clear hb; have tok17 : True := trivial; clear _t tok16; clear R_x1; clear R_x2))
      | (go_at_call 23; (have _t := tok17; (with_reducible refine (awake_any _).mono ?_); rintro e w17 ⟨rfl, hb⟩; replace R_a := hide (Rd.then_ R_a.out hb); have U20 : Below W.heap.size W w17 := Below.then_ U19 hb; replace B := hide (Below.then_ B.out hb); clear hb; have tok18 : True := trivial; clear _t tok17)))
  clear tok18
  go_wp2
  go_ret
  exact ⟨rfl, B.out⟩

end Go.Proofs.Ytjbbapibpcgnhaa
