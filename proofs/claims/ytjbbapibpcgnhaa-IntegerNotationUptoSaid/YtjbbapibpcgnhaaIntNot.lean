/-
  The walk of examboardlaw02.IntegerNotation.
-/
import Derived.Test.YtjbbapibpcgnhaaIntLaw
namespace Go.Proofs.Ytjbbapibpcgnhaa
open Go.RowKit

set_option maxRecDepth 100000 in
set_option maxHeartbeats 4000000 in
theorem inot_ok_short (w : World) (sa : Bool) (Aa : Option Addr) (na ca : Nat) (xa : List Nat) (tt : ByteArray) (vv : Int) (h_a : Rd w w.heap.size Aa na ca xa) (k_a : na ≤ 1048576) (_b_t : tt.size ≤ 9223372036854775807) (b_v : -9223372036854775808 ≤ vv ∧ vv ≤ 9223372036854775807) (z k : Int) (hp : ∀ w, Calls Try.prog 34 #[.string tt] w (RetIV w z k)) (hz : k = 0 → zstr z = tt) (hzl : (dig (zmag z)).length ≤ 400) (hk : k = 0) (hsmall : (dec (zmag (iv sa (val xa)))).length ≤ 400) :
    Calls Try.prog 9 #[.agg #[.bool sa, .slice Aa na ca], .string tt, .int .i64 vv] w fun e w' => e = .returned (.bool true) ∧ Below w.heap.size w w' := by
  obtain ⟨bv1, bv2⟩ : Hid (-9223372036854775808 ≤ vv) ∧ Hid (vv ≤ 9223372036854775807) := ⟨hide b_v.1, hide b_v.2⟩
  obtain ⟨K, hK⟩ : ∃ K, K = 1048576 := ⟨_, rfl⟩
  obtain ⟨a, za⟩ : ∃ z : Int, iv sa (val xa) = z := ⟨_, rfl⟩
  have Pa : zmag a < pw K := zlt_of za (by have h1 := val_lt h_a.limbs; have h2 := pw_mono (show xa.length ≤ K by have := h_a.len; omega); omega)
  have L_a : na ≤ K := by omega
  have i1 : i64v (iv (zneg vv) (val (dig (zmag vv)))) = vv := by rw [val_ieta]; exact (i64_in b_v).1
  have i2 : i64ok (iv (zneg vv) (val (dig (zmag vv)))) = true := by rw [val_ieta]; exact (i64_in b_v).2
  obtain ⟨ta, e1⟩ : ∃ ta, zstr a = ta := ⟨_, rfl⟩
  have e2 : zstr (iv sa (val xa)) = ta := by rw [za, e1]
  obtain ⟨T, dT⟩ : ∃ T, strN (dec (val xa)) = T := ⟨_, rfl⟩
  have hTs : T.size = (dec (zmag a)).length := by rw [← dT, strN_size, ← za, zmag_iv]
  have hTl : T.size ≤ 10485761 := by rw [hTs]; have := dec_len Pa; omega
  have hts : ta.size ≤ 9223372036854775807 := by rw [← e1]; unfold zstr; split <;> simp only [minus_size, strN_size] <;> omega
  rw [za] at hsmall
  have hpt := par_zstr a (by rw [e1]; exact hts)
  rw [e1] at hpt
  have hT4 : T.size ≤ 400 := by rw [hTs]; exact hsmall
  rw [if_pos hsmall, if_pos hsmall] at hpt
  subst hk
  have e3 : zstr (iv (zneg z) (val (dig (zmag z)))) = tt := by rw [val_ieta]; exact hz rfl
  clear hz
  have e4 : iv sa (val xa) = a := by
    first
      | (simp only [za]; done)
      | (simp only [za]; first | rfl | (rfl))
      | (rfl)
  replace za := hide za
  replace Pa := hide Pa
  replace L_a := hide L_a
  replace i1 := hide i1
  replace i2 := hide i2
  replace e2 := hide e2
  replace e3 := hide e3
  replace e4 := hide e4
  replace e1 := hide e1
  replace dT := hide dT
  replace hTs := hide hTs
  replace hTl := hide hTl
  replace hts := hide hts
  replace hpt := hide hpt
  replace hsmall := hide hsmall
  replace hzl := hide hzl
  replace hp := hide hp
  have hKle : K ≤ 1048576 := by omega
  clear hK
  clear k_a b_v
  obtain ⟨W, hW⟩ : ∃ W, W = (w.alloc (.cells #[.bool sa, .slice Aa na ca] 25)) := ⟨_, rfl⟩
  have b_a : Box W (w.heap.size) (.bool sa) (.slice Aa na ca) := by rw [hW]; exact (Box.new w _ _ rfl)
  have hwW : Below w.heap.size w W := by rw [hW]; exact ((Below.refl _ _).alloc (Nat.le_refl _) _)
  have R_a := hide (Rd.then_ h_a hwW)
  clear h_a
  have B := hide hwW
  clear hwW
  have U0 : Below W.heap.size W W := Below.refl _ _
  have c_a0 := b_a.at0 b_a.lt_size (Nat.le_refl _)
  have c_a1 := b_a.at1 b_a.lt_size (Nat.le_refl _)
  replace b_a := hide b_a
  go_enter Try.func9, Try.ntmps9
  go_wp2_with fail
  rw [← hW]
  clear hW
  refine (iof_any _ vv bv1.out bv2.out).mono ?_
  rintro e w1 ⟨A_o, c_o, rfl, R_o, hb⟩
  replace R_a := hide (Rd.then_ R_a.out hb)
  have U1 : Below W.heap.size W w1 := Below.then_ U0 hb
  replace B := hide (Below.then_ B.out hb)
  replace R_o := hide R_o
  clear hb
  go_wp2_with fail
  refine (int64_any _ _ _ _ _ _ _ R_o.out (Nat.le_refl _)).mono ?_
  rw [i1.out, i2.out]
  rintro e w2 ⟨rfl, hb⟩
  replace R_a := hide (Rd.then_ R_a.out hb)
  replace R_o := hide (Rd.then_ R_o.out hb)
  have U2 : Below W.heap.size W w2 := Below.then_ U1 hb
  replace B := hide (Below.then_ B.out hb)
  clear hb
  clear R_o
  go_wp2_with fail
  refine (hp.out _).mono ?_
  rintro e w3 ⟨A_x, c_x, rfl, R_x, hb⟩
  replace R_a := hide (Rd.then_ R_a.out hb)
  have U3 : Below W.heap.size W w3 := Below.then_ U2 hb
  replace B := hide (Below.then_ B.out hb)
  replace R_x := hide R_x
  clear hb
  have hbx : Below w3.heap.size w3 (w3.alloc (.cells #[.bool (zneg z), .slice A_x (dig (zmag z)).length c_x] 25)) := ((Below.refl _ _).alloc (Nat.le_refl _) _)
  have Ux := Below.then_ U3 hbx
  go_wp2_with fail
  obtain ⟨V3, hV⟩ : ∃ V, V = (w3.alloc (.cells #[.bool (zneg z), .slice A_x (dig (zmag z)).length c_x] 25)) := ⟨_, rfl⟩
  obtain ⟨g_x, hg_x⟩ : ∃ g, g = w3.heap.size := ⟨_, rfl⟩
  rw [← hV]
  rw [← hV] at hbx Ux
  rw [← hg_x]
  have b_x : Box V3 g_x (.bool (zneg z)) (.slice A_x (dig (zmag z)).length c_x) := by rw [hV]; exact (Box.new _ _ _ hg_x)
  clear hV
  clear hg_x
  replace R_a := hide (Rd.then_ R_a.out hbx)
  replace R_x := hide (Rd.then_ R_x.out hbx)
  have U4 : Below W.heap.size W V3 := Below.then_ U3 hbx
  replace B := hide (Below.then_ B.out hbx)
  clear hbx
  replace b_a := hide (Box.keep b_a.out U4)
  clear c_a0 c_a1
  replace b_x := hide b_x
  have U5 : Below V3.heap.size V3 V3 := Below.refl _ _
  have c_a0 := b_a.out.at0 b_a.out.lt_size (Nat.le_refl _)
  have c_a1 := b_a.out.at1 b_a.out.lt_size (Nat.le_refl _)
  have c_x0 := b_x.out.at0 b_x.out.lt_size (Nat.le_refl _)
  have c_x1 := b_x.out.at1 b_x.out.lt_size (Nat.le_refl _)
  refine (iprint_any _ _ _ _ _ _ _ R_x.out (Nat.le_refl _) (by have := hzl.out; omega)).mono ?_
  rw [e3.out]
  rintro e w4 ⟨rfl, hb⟩
  replace R_a := hide (Rd.then_ R_a.out hb)
  replace R_x := hide (Rd.then_ R_x.out hb)
  have U6 : Below V3.heap.size V3 w4 := Below.then_ U5 hb
  replace B := hide (Below.then_ B.out hb)
  clear hb
  go_wp2_with fail
  refine (iprint_any _ _ _ _ _ _ _ R_a.out (Nat.le_refl _) (by have := L_a.out; omega)).mono ?_
  rw [e2.out]
  rintro e w5 ⟨rfl, hb⟩
  replace R_a := hide (Rd.then_ R_a.out hb)
  replace R_x := hide (Rd.then_ R_x.out hb)
  have U7 : Below V3.heap.size V3 w5 := Below.then_ U6 hb
  replace B := hide (Below.then_ B.out hb)
  clear hb
  go_wp2_with fail
  refine (rprint_any _ _ _ _ _ _ R_a.out (Nat.le_refl _) (by have := L_a.out; omega)).mono ?_
  rw [dT.out]
  rintro e w6 ⟨rfl, hb⟩
  replace R_a := hide (Rd.then_ R_a.out hb)
  replace R_x := hide (Rd.then_ R_x.out hb)
  have U8 : Below V3.heap.size V3 w6 := Below.then_ U7 hb
  replace B := hide (Below.then_ B.out hb)
  clear hb
  go_wp2_with fail
  refine (hpt.out _).mono ?_
  rintro e w7 ⟨A_y, c_y, rfl, R_y, hb⟩
  replace R_a := hide (Rd.then_ R_a.out hb)
  replace R_x := hide (Rd.then_ R_x.out hb)
  have U9 : Below V3.heap.size V3 w7 := Below.then_ U8 hb
  replace B := hide (Below.then_ B.out hb)
  replace R_y := hide R_y
  clear hb
  have hbx : Below w7.heap.size w7 (w7.alloc (.cells #[.bool (zneg a), .slice A_y (dig (zmag a)).length c_y] 25)) := ((Below.refl _ _).alloc (Nat.le_refl _) _)
  have Ux := Below.then_ U9 hbx
  go_wp2_with fail
  obtain ⟨V9, hV⟩ : ∃ V, V = (w7.alloc (.cells #[.bool (zneg a), .slice A_y (dig (zmag a)).length c_y] 25)) := ⟨_, rfl⟩
  obtain ⟨g_y, hg_y⟩ : ∃ g, g = w7.heap.size := ⟨_, rfl⟩
  rw [← hV]
  rw [← hV] at hbx Ux
  rw [← hg_y]
  have b_y : Box V9 g_y (.bool (zneg a)) (.slice A_y (dig (zmag a)).length c_y) := by rw [hV]; exact (Box.new _ _ _ hg_y)
  clear hV
  clear hg_y
  replace R_a := hide (Rd.then_ R_a.out hbx)
  replace R_x := hide (Rd.then_ R_x.out hbx)
  replace R_y := hide (Rd.then_ R_y.out hbx)
  have U10 : Below V3.heap.size V3 V9 := Below.then_ U9 hbx
  replace B := hide (Below.then_ B.out hbx)
  clear hbx
  replace b_a := hide (Box.keep b_a.out U10)
  clear c_a0 c_a1
  replace b_x := hide (Box.keep b_x.out U10)
  clear c_x0 c_x1
  replace b_y := hide b_y
  have U11 : Below V9.heap.size V9 V9 := Below.refl _ _
  have c_a0 := b_a.out.at0 b_a.out.lt_size (Nat.le_refl _)
  have c_a1 := b_a.out.at1 b_a.out.lt_size (Nat.le_refl _)
  have c_x0 := b_x.out.at0 b_x.out.lt_size (Nat.le_refl _)
  have c_x1 := b_x.out.at1 b_x.out.lt_size (Nat.le_refl _)
  have c_y0 := b_y.out.at0 b_y.out.lt_size (Nat.le_refl _)
  have c_y1 := b_y.out.at1 b_y.out.lt_size (Nat.le_refl _)
  have hd := Below.drw_ V9
  replace R_a := hide (Rd.then_ R_a.out hd)
  replace R_x := hide (Rd.then_ R_x.out hd)
  replace R_y := hide (Rd.then_ R_y.out hd)
  have U12 : Below V9.heap.size V9 (V9.drew) := Below.then_ U11 hd
  replace B := hide (Below.then_ B.out hd)
  clear hd
  have tok1 : True := trivial
  go_region_held3 (fun w' => Below V9.heap.size V9 w') (assumption)
    (first
      | (go_at_call 19; (have _t := tok1; (with_reducible refine (inorm_any _ _ _ _ _ _ _ R_a.out (Nat.le_refl _)).mono ?_); rw [e4.out]; rintro e w8 ⟨A_n, c_n, rfl, R_n, hb⟩; replace R_a := hide (Rd.then_ R_a.out hb); replace R_x := hide (Rd.then_ R_x.out hb); replace R_y := hide (Rd.then_ R_y.out hb); have U13 : Below V9.heap.size V9 w8 := Below.then_ U12 hb; replace B := hide (Below.then_ B.out hb); replace R_n := hide R_n; clear hb; have tok2 : True := trivial; clear _t tok1))
      | (go_at_call 14; (have _t := tok2; (with_reducible refine (same_eq _ _ _ _ _ _ _ _ _ _ _ R_y.out R_n.out rfl rfl).mono ?_); rintro e w9 ⟨rfl, hb⟩; replace R_a := hide (Rd.then_ R_a.out hb); replace R_x := hide (Rd.then_ R_x.out hb); replace R_y := hide (Rd.then_ R_y.out hb); replace R_n := hide (Rd.then_ R_n.out hb); have U14 : Below V9.heap.size V9 w9 := Below.then_ U13 hb; replace B := hide (Below.then_ B.out hb); clear hb; have tok3 : True := trivial; clear _t tok2))
      | (go_at_call 23; (have _t := tok3; (with_reducible refine (awake_any _).mono ?_); rintro e w10 ⟨rfl, hb⟩; replace R_a := hide (Rd.then_ R_a.out hb); replace R_x := hide (Rd.then_ R_x.out hb); replace R_y := hide (Rd.then_ R_y.out hb); replace R_n := hide (Rd.then_ R_n.out hb); have U15 : Below V9.heap.size V9 w10 := Below.then_ U14 hb; replace B := hide (Below.then_ B.out hb); clear hb; have tok4 : True := trivial; clear _t tok3)))
  clear tok4
  go_wp2
  go_ret
  exact ⟨rfl, B.out⟩

set_option maxRecDepth 100000 in
set_option maxHeartbeats 4000000 in
theorem inot_ok_long (w : World) (sa : Bool) (Aa : Option Addr) (na ca : Nat) (xa : List Nat) (tt : ByteArray) (vv : Int) (h_a : Rd w w.heap.size Aa na ca xa) (k_a : na ≤ 1048576) (_b_t : tt.size ≤ 9223372036854775807) (b_v : -9223372036854775808 ≤ vv ∧ vv ≤ 9223372036854775807) (z k : Int) (hp : ∀ w, Calls Try.prog 34 #[.string tt] w (RetIV w z k)) (hz : k = 0 → zstr z = tt) (hzl : (dig (zmag z)).length ≤ 400) (hk : k = 0) (hsmall : ¬ (dec (zmag (iv sa (val xa)))).length ≤ 400) :
    Calls Try.prog 9 #[.agg #[.bool sa, .slice Aa na ca], .string tt, .int .i64 vv] w fun e w' => e = .returned (.bool true) ∧ Below w.heap.size w w' := by
  obtain ⟨bv1, bv2⟩ : Hid (-9223372036854775808 ≤ vv) ∧ Hid (vv ≤ 9223372036854775807) := ⟨hide b_v.1, hide b_v.2⟩
  obtain ⟨K, hK⟩ : ∃ K, K = 1048576 := ⟨_, rfl⟩
  obtain ⟨a, za⟩ : ∃ z : Int, iv sa (val xa) = z := ⟨_, rfl⟩
  have Pa : zmag a < pw K := zlt_of za (by have h1 := val_lt h_a.limbs; have h2 := pw_mono (show xa.length ≤ K by have := h_a.len; omega); omega)
  have L_a : na ≤ K := by omega
  have i1 : i64v (iv (zneg vv) (val (dig (zmag vv)))) = vv := by rw [val_ieta]; exact (i64_in b_v).1
  have i2 : i64ok (iv (zneg vv) (val (dig (zmag vv)))) = true := by rw [val_ieta]; exact (i64_in b_v).2
  obtain ⟨ta, e1⟩ : ∃ ta, zstr a = ta := ⟨_, rfl⟩
  have e2 : zstr (iv sa (val xa)) = ta := by rw [za, e1]
  obtain ⟨T, dT⟩ : ∃ T, strN (dec (val xa)) = T := ⟨_, rfl⟩
  have hTs : T.size = (dec (zmag a)).length := by rw [← dT, strN_size, ← za, zmag_iv]
  have hTl : T.size ≤ 10485761 := by rw [hTs]; have := dec_len Pa; omega
  have hts : ta.size ≤ 9223372036854775807 := by rw [← e1]; unfold zstr; split <;> simp only [minus_size, strN_size] <;> omega
  rw [za] at hsmall
  have hpt := par_zstr a (by rw [e1]; exact hts)
  rw [e1] at hpt
  have hT4 : 400 < T.size := by rw [hTs]; omega
  rw [if_neg hsmall, if_neg hsmall] at hpt
  subst hk
  have e3 : zstr (iv (zneg z) (val (dig (zmag z)))) = tt := by rw [val_ieta]; exact hz rfl
  clear hz
  have e4 : iv sa (val xa) = a := by
    first
      | (simp only [za]; done)
      | (simp only [za]; first | rfl | (rfl))
      | (rfl)
  replace za := hide za
  replace Pa := hide Pa
  replace L_a := hide L_a
  replace i1 := hide i1
  replace i2 := hide i2
  replace e2 := hide e2
  replace e3 := hide e3
  replace e4 := hide e4
  replace e1 := hide e1
  replace dT := hide dT
  replace hTs := hide hTs
  replace hTl := hide hTl
  replace hts := hide hts
  replace hpt := hide hpt
  replace hsmall := hide hsmall
  replace hzl := hide hzl
  replace hp := hide hp
  have hKle : K ≤ 1048576 := by omega
  clear hK
  clear k_a b_v
  obtain ⟨W, hW⟩ : ∃ W, W = (w.alloc (.cells #[.bool sa, .slice Aa na ca] 25)) := ⟨_, rfl⟩
  have b_a : Box W (w.heap.size) (.bool sa) (.slice Aa na ca) := by rw [hW]; exact (Box.new w _ _ rfl)
  have hwW : Below w.heap.size w W := by rw [hW]; exact ((Below.refl _ _).alloc (Nat.le_refl _) _)
  have R_a := hide (Rd.then_ h_a hwW)
  clear h_a
  have B := hide hwW
  clear hwW
  have U0 : Below W.heap.size W W := Below.refl _ _
  have c_a0 := b_a.at0 b_a.lt_size (Nat.le_refl _)
  have c_a1 := b_a.at1 b_a.lt_size (Nat.le_refl _)
  replace b_a := hide b_a
  go_enter Try.func9, Try.ntmps9
  go_wp2_with fail
  rw [← hW]
  clear hW
  refine (iof_any _ vv bv1.out bv2.out).mono ?_
  rintro e w1 ⟨A_o, c_o, rfl, R_o, hb⟩
  replace R_a := hide (Rd.then_ R_a.out hb)
  have U1 : Below W.heap.size W w1 := Below.then_ U0 hb
  replace B := hide (Below.then_ B.out hb)
  replace R_o := hide R_o
  clear hb
  go_wp2_with fail
  refine (int64_any _ _ _ _ _ _ _ R_o.out (Nat.le_refl _)).mono ?_
  rw [i1.out, i2.out]
  rintro e w2 ⟨rfl, hb⟩
  replace R_a := hide (Rd.then_ R_a.out hb)
  replace R_o := hide (Rd.then_ R_o.out hb)
  have U2 : Below W.heap.size W w2 := Below.then_ U1 hb
  replace B := hide (Below.then_ B.out hb)
  clear hb
  clear R_o
  go_wp2_with fail
  refine (hp.out _).mono ?_
  rintro e w3 ⟨A_x, c_x, rfl, R_x, hb⟩
  replace R_a := hide (Rd.then_ R_a.out hb)
  have U3 : Below W.heap.size W w3 := Below.then_ U2 hb
  replace B := hide (Below.then_ B.out hb)
  replace R_x := hide R_x
  clear hb
  have hbx : Below w3.heap.size w3 (w3.alloc (.cells #[.bool (zneg z), .slice A_x (dig (zmag z)).length c_x] 25)) := ((Below.refl _ _).alloc (Nat.le_refl _) _)
  have Ux := Below.then_ U3 hbx
  go_wp2_with fail
  obtain ⟨V3, hV⟩ : ∃ V, V = (w3.alloc (.cells #[.bool (zneg z), .slice A_x (dig (zmag z)).length c_x] 25)) := ⟨_, rfl⟩
  obtain ⟨g_x, hg_x⟩ : ∃ g, g = w3.heap.size := ⟨_, rfl⟩
  rw [← hV]
  rw [← hV] at hbx Ux
  rw [← hg_x]
  have b_x : Box V3 g_x (.bool (zneg z)) (.slice A_x (dig (zmag z)).length c_x) := by rw [hV]; exact (Box.new _ _ _ hg_x)
  clear hV
  clear hg_x
  replace R_a := hide (Rd.then_ R_a.out hbx)
  replace R_x := hide (Rd.then_ R_x.out hbx)
  have U4 : Below W.heap.size W V3 := Below.then_ U3 hbx
  replace B := hide (Below.then_ B.out hbx)
  clear hbx
  replace b_a := hide (Box.keep b_a.out U4)
  clear c_a0 c_a1
  replace b_x := hide b_x
  have U5 : Below V3.heap.size V3 V3 := Below.refl _ _
  have c_a0 := b_a.out.at0 b_a.out.lt_size (Nat.le_refl _)
  have c_a1 := b_a.out.at1 b_a.out.lt_size (Nat.le_refl _)
  have c_x0 := b_x.out.at0 b_x.out.lt_size (Nat.le_refl _)
  have c_x1 := b_x.out.at1 b_x.out.lt_size (Nat.le_refl _)
  refine (iprint_any _ _ _ _ _ _ _ R_x.out (Nat.le_refl _) (by have := hzl.out; omega)).mono ?_
  rw [e3.out]
  rintro e w4 ⟨rfl, hb⟩
  replace R_a := hide (Rd.then_ R_a.out hb)
  replace R_x := hide (Rd.then_ R_x.out hb)
  have U6 : Below V3.heap.size V3 w4 := Below.then_ U5 hb
  replace B := hide (Below.then_ B.out hb)
  clear hb
  go_wp2_with fail
  refine (iprint_any _ _ _ _ _ _ _ R_a.out (Nat.le_refl _) (by have := L_a.out; omega)).mono ?_
  rw [e2.out]
  rintro e w5 ⟨rfl, hb⟩
  replace R_a := hide (Rd.then_ R_a.out hb)
  replace R_x := hide (Rd.then_ R_x.out hb)
  have U7 : Below V3.heap.size V3 w5 := Below.then_ U6 hb
  replace B := hide (Below.then_ B.out hb)
  clear hb
  go_wp2_with fail
  refine (rprint_any _ _ _ _ _ _ R_a.out (Nat.le_refl _) (by have := L_a.out; omega)).mono ?_
  rw [dT.out]
  rintro e w6 ⟨rfl, hb⟩
  replace R_a := hide (Rd.then_ R_a.out hb)
  replace R_x := hide (Rd.then_ R_x.out hb)
  have U8 : Below V3.heap.size V3 w6 := Below.then_ U7 hb
  replace B := hide (Below.then_ B.out hb)
  clear hb
  go_wp2_with fail
  refine (hpt.out _).mono ?_
  rintro e w7 ⟨A_y, c_y, rfl, R_y, hb⟩
  replace R_a := hide (Rd.then_ R_a.out hb)
  replace R_x := hide (Rd.then_ R_x.out hb)
  have U9 : Below V3.heap.size V3 w7 := Below.then_ U8 hb
  replace B := hide (Below.then_ B.out hb)
  replace R_y := hide R_y
  clear hb
  have hbx : Below w7.heap.size w7 (w7.alloc (.cells #[.bool (zneg 0), .slice A_y (dig (zmag 0)).length c_y] 25)) := ((Below.refl _ _).alloc (Nat.le_refl _) _)
  have Ux := Below.then_ U9 hbx
  go_wp2_with fail
  obtain ⟨V9, hV⟩ : ∃ V, V = (w7.alloc (.cells #[.bool (zneg 0), .slice A_y (dig (zmag 0)).length c_y] 25)) := ⟨_, rfl⟩
  obtain ⟨g_y, hg_y⟩ : ∃ g, g = w7.heap.size := ⟨_, rfl⟩
  rw [← hV]
  rw [← hV] at hbx Ux
  rw [← hg_y]
  have b_y : Box V9 g_y (.bool (zneg 0)) (.slice A_y (dig (zmag 0)).length c_y) := by rw [hV]; exact (Box.new _ _ _ hg_y)
  clear hV
  clear hg_y
  replace R_a := hide (Rd.then_ R_a.out hbx)
  replace R_x := hide (Rd.then_ R_x.out hbx)
  replace R_y := hide (Rd.then_ R_y.out hbx)
  have U10 : Below V3.heap.size V3 V9 := Below.then_ U9 hbx
  replace B := hide (Below.then_ B.out hbx)
  clear hbx
  replace b_a := hide (Box.keep b_a.out U10)
  clear c_a0 c_a1
  replace b_x := hide (Box.keep b_x.out U10)
  clear c_x0 c_x1
  replace b_y := hide b_y
  have U11 : Below V9.heap.size V9 V9 := Below.refl _ _
  have c_a0 := b_a.out.at0 b_a.out.lt_size (Nat.le_refl _)
  have c_a1 := b_a.out.at1 b_a.out.lt_size (Nat.le_refl _)
  have c_x0 := b_x.out.at0 b_x.out.lt_size (Nat.le_refl _)
  have c_x1 := b_x.out.at1 b_x.out.lt_size (Nat.le_refl _)
  have c_y0 := b_y.out.at0 b_y.out.lt_size (Nat.le_refl _)
  have c_y1 := b_y.out.at1 b_y.out.lt_size (Nat.le_refl _)
  refine (same_eq _ _ _ _ _ _ _ _ _ _ [] R_y.out (Rd.empty _ _ none (c := 0) (by omega)) rfl dz0).mono ?_
  rintro e w8 ⟨rfl, hb⟩
  replace R_a := hide (Rd.then_ R_a.out hb)
  replace R_x := hide (Rd.then_ R_x.out hb)
  replace R_y := hide (Rd.then_ R_y.out hb)
  have U12 : Below V9.heap.size V9 w8 := Below.then_ U11 hb
  replace B := hide (Below.then_ B.out hb)
  clear hb
  go_wp2_with fail
  refine (awake_any _).mono ?_
  rintro e w9 ⟨rfl, hb⟩
  replace R_a := hide (Rd.then_ R_a.out hb)
  replace R_x := hide (Rd.then_ R_x.out hb)
  replace R_y := hide (Rd.then_ R_y.out hb)
  have U13 : Below V9.heap.size V9 w9 := Below.then_ U12 hb
  replace B := hide (Below.then_ B.out hb)
  clear hb
  go_wp2
  go_ret
  exact ⟨rfl, B.out⟩

set_option maxRecDepth 100000 in
set_option maxHeartbeats 4000000 in
theorem inot_no_short (w : World) (sa : Bool) (Aa : Option Addr) (na ca : Nat) (xa : List Nat) (tt : ByteArray) (vv : Int) (h_a : Rd w w.heap.size Aa na ca xa) (k_a : na ≤ 1048576) (_b_t : tt.size ≤ 9223372036854775807) (b_v : -9223372036854775808 ≤ vv ∧ vv ≤ 9223372036854775807) (z k : Int) (hp : ∀ w, Calls Try.prog 34 #[.string tt] w (RetIV w z k)) (_hz : k = 0 → zstr z = tt) (hzl : (dig (zmag z)).length ≤ 400) (hk : k ≠ 0) (hsmall : (dec (zmag (iv sa (val xa)))).length ≤ 400) :
    Calls Try.prog 9 #[.agg #[.bool sa, .slice Aa na ca], .string tt, .int .i64 vv] w fun e w' => e = .returned (.bool true) ∧ Below w.heap.size w w' := by
  obtain ⟨bv1, bv2⟩ : Hid (-9223372036854775808 ≤ vv) ∧ Hid (vv ≤ 9223372036854775807) := ⟨hide b_v.1, hide b_v.2⟩
  obtain ⟨K, hK⟩ : ∃ K, K = 1048576 := ⟨_, rfl⟩
  obtain ⟨a, za⟩ : ∃ z : Int, iv sa (val xa) = z := ⟨_, rfl⟩
  have Pa : zmag a < pw K := zlt_of za (by have h1 := val_lt h_a.limbs; have h2 := pw_mono (show xa.length ≤ K by have := h_a.len; omega); omega)
  have L_a : na ≤ K := by omega
  have i1 : i64v (iv (zneg vv) (val (dig (zmag vv)))) = vv := by rw [val_ieta]; exact (i64_in b_v).1
  have i2 : i64ok (iv (zneg vv) (val (dig (zmag vv)))) = true := by rw [val_ieta]; exact (i64_in b_v).2
  obtain ⟨ta, e1⟩ : ∃ ta, zstr a = ta := ⟨_, rfl⟩
  have e2 : zstr (iv sa (val xa)) = ta := by rw [za, e1]
  obtain ⟨T, dT⟩ : ∃ T, strN (dec (val xa)) = T := ⟨_, rfl⟩
  have hTs : T.size = (dec (zmag a)).length := by rw [← dT, strN_size, ← za, zmag_iv]
  have hTl : T.size ≤ 10485761 := by rw [hTs]; have := dec_len Pa; omega
  have hts : ta.size ≤ 9223372036854775807 := by rw [← e1]; unfold zstr; split <;> simp only [minus_size, strN_size] <;> omega
  rw [za] at hsmall
  have hpt := par_zstr a (by rw [e1]; exact hts)
  rw [e1] at hpt
  have hT4 : T.size ≤ 400 := by rw [hTs]; exact hsmall
  rw [if_pos hsmall, if_pos hsmall] at hpt
  have hk1 : (k == 0) = false := by simpa using hk
  clear hk
  have e4 : iv sa (val xa) = a := by
    first
      | (simp only [za]; done)
      | (simp only [za]; first | rfl | (rfl))
      | (rfl)
  replace za := hide za
  replace Pa := hide Pa
  replace L_a := hide L_a
  replace i1 := hide i1
  replace i2 := hide i2
  replace e2 := hide e2
  replace e4 := hide e4
  replace e1 := hide e1
  replace dT := hide dT
  replace hTs := hide hTs
  replace hTl := hide hTl
  replace hts := hide hts
  replace hpt := hide hpt
  replace hsmall := hide hsmall
  replace hzl := hide hzl
  replace hp := hide hp
  have hKle : K ≤ 1048576 := by omega
  clear hK
  clear k_a b_v
  obtain ⟨W, hW⟩ : ∃ W, W = (w.alloc (.cells #[.bool sa, .slice Aa na ca] 25)) := ⟨_, rfl⟩
  have b_a : Box W (w.heap.size) (.bool sa) (.slice Aa na ca) := by rw [hW]; exact (Box.new w _ _ rfl)
  have hwW : Below w.heap.size w W := by rw [hW]; exact ((Below.refl _ _).alloc (Nat.le_refl _) _)
  have R_a := hide (Rd.then_ h_a hwW)
  clear h_a
  have B := hide hwW
  clear hwW
  have U0 : Below W.heap.size W W := Below.refl _ _
  have c_a0 := b_a.at0 b_a.lt_size (Nat.le_refl _)
  have c_a1 := b_a.at1 b_a.lt_size (Nat.le_refl _)
  replace b_a := hide b_a
  go_enter Try.func9, Try.ntmps9
  go_wp2_with fail
  rw [← hW]
  clear hW
  refine (iof_any _ vv bv1.out bv2.out).mono ?_
  rintro e w1 ⟨A_o, c_o, rfl, R_o, hb⟩
  replace R_a := hide (Rd.then_ R_a.out hb)
  have U1 : Below W.heap.size W w1 := Below.then_ U0 hb
  replace B := hide (Below.then_ B.out hb)
  replace R_o := hide R_o
  clear hb
  go_wp2_with fail
  refine (int64_any _ _ _ _ _ _ _ R_o.out (Nat.le_refl _)).mono ?_
  rw [i1.out, i2.out]
  rintro e w2 ⟨rfl, hb⟩
  replace R_a := hide (Rd.then_ R_a.out hb)
  replace R_o := hide (Rd.then_ R_o.out hb)
  have U2 : Below W.heap.size W w2 := Below.then_ U1 hb
  replace B := hide (Below.then_ B.out hb)
  clear hb
  clear R_o
  go_wp2_with fail
  refine (hp.out _).mono ?_
  rintro e w3 ⟨A_x, c_x, rfl, R_x, hb⟩
  replace R_a := hide (Rd.then_ R_a.out hb)
  have U3 : Below W.heap.size W w3 := Below.then_ U2 hb
  replace B := hide (Below.then_ B.out hb)
  replace R_x := hide R_x
  clear hb
  have hbx : Below w3.heap.size w3 (w3.alloc (.cells #[.bool (zneg z), .slice A_x (dig (zmag z)).length c_x] 25)) := ((Below.refl _ _).alloc (Nat.le_refl _) _)
  have Ux := Below.then_ U3 hbx
  go_wp2_with fail
  obtain ⟨V3, hV⟩ : ∃ V, V = (w3.alloc (.cells #[.bool (zneg z), .slice A_x (dig (zmag z)).length c_x] 25)) := ⟨_, rfl⟩
  obtain ⟨g_x, hg_x⟩ : ∃ g, g = w3.heap.size := ⟨_, rfl⟩
  rw [← hV]
  rw [← hV] at hbx Ux
  rw [← hg_x]
  have b_x : Box V3 g_x (.bool (zneg z)) (.slice A_x (dig (zmag z)).length c_x) := by rw [hV]; exact (Box.new _ _ _ hg_x)
  clear hV
  clear hg_x
  replace R_a := hide (Rd.then_ R_a.out hbx)
  replace R_x := hide (Rd.then_ R_x.out hbx)
  have U4 : Below W.heap.size W V3 := Below.then_ U3 hbx
  replace B := hide (Below.then_ B.out hbx)
  clear hbx
  replace b_a := hide (Box.keep b_a.out U4)
  clear c_a0 c_a1
  replace b_x := hide b_x
  have U5 : Below V3.heap.size V3 V3 := Below.refl _ _
  have c_a0 := b_a.out.at0 b_a.out.lt_size (Nat.le_refl _)
  have c_a1 := b_a.out.at1 b_a.out.lt_size (Nat.le_refl _)
  have c_x0 := b_x.out.at0 b_x.out.lt_size (Nat.le_refl _)
  have c_x1 := b_x.out.at1 b_x.out.lt_size (Nat.le_refl _)
  refine (iprint_any _ _ _ _ _ _ _ R_a.out (Nat.le_refl _) (by have := L_a.out; omega)).mono ?_
  rw [e2.out]
  rintro e w4 ⟨rfl, hb⟩
  replace R_a := hide (Rd.then_ R_a.out hb)
  replace R_x := hide (Rd.then_ R_x.out hb)
  have U6 : Below V3.heap.size V3 w4 := Below.then_ U5 hb
  replace B := hide (Below.then_ B.out hb)
  clear hb
  go_wp2_with fail
  refine (rprint_any _ _ _ _ _ _ R_a.out (Nat.le_refl _) (by have := L_a.out; omega)).mono ?_
  rw [dT.out]
  rintro e w5 ⟨rfl, hb⟩
  replace R_a := hide (Rd.then_ R_a.out hb)
  replace R_x := hide (Rd.then_ R_x.out hb)
  have U7 : Below V3.heap.size V3 w5 := Below.then_ U6 hb
  replace B := hide (Below.then_ B.out hb)
  clear hb
  go_wp2_with fail
  refine (hpt.out _).mono ?_
  rintro e w6 ⟨A_y, c_y, rfl, R_y, hb⟩
  replace R_a := hide (Rd.then_ R_a.out hb)
  replace R_x := hide (Rd.then_ R_x.out hb)
  have U8 : Below V3.heap.size V3 w6 := Below.then_ U7 hb
  replace B := hide (Below.then_ B.out hb)
  replace R_y := hide R_y
  clear hb
  have hbx : Below w6.heap.size w6 (w6.alloc (.cells #[.bool (zneg a), .slice A_y (dig (zmag a)).length c_y] 25)) := ((Below.refl _ _).alloc (Nat.le_refl _) _)
  have Ux := Below.then_ U8 hbx
  go_wp2_with fail
  obtain ⟨V8, hV⟩ : ∃ V, V = (w6.alloc (.cells #[.bool (zneg a), .slice A_y (dig (zmag a)).length c_y] 25)) := ⟨_, rfl⟩
  obtain ⟨g_y, hg_y⟩ : ∃ g, g = w6.heap.size := ⟨_, rfl⟩
  rw [← hV]
  rw [← hV] at hbx Ux
  rw [← hg_y]
  have b_y : Box V8 g_y (.bool (zneg a)) (.slice A_y (dig (zmag a)).length c_y) := by rw [hV]; exact (Box.new _ _ _ hg_y)
  clear hV
  clear hg_y
  replace R_a := hide (Rd.then_ R_a.out hbx)
  replace R_x := hide (Rd.then_ R_x.out hbx)
  replace R_y := hide (Rd.then_ R_y.out hbx)
  have U9 : Below V3.heap.size V3 V8 := Below.then_ U8 hbx
  replace B := hide (Below.then_ B.out hbx)
  clear hbx
  replace b_a := hide (Box.keep b_a.out U9)
  clear c_a0 c_a1
  replace b_x := hide (Box.keep b_x.out U9)
  clear c_x0 c_x1
  replace b_y := hide b_y
  have U10 : Below V8.heap.size V8 V8 := Below.refl _ _
  have c_a0 := b_a.out.at0 b_a.out.lt_size (Nat.le_refl _)
  have c_a1 := b_a.out.at1 b_a.out.lt_size (Nat.le_refl _)
  have c_x0 := b_x.out.at0 b_x.out.lt_size (Nat.le_refl _)
  have c_x1 := b_x.out.at1 b_x.out.lt_size (Nat.le_refl _)
  have c_y0 := b_y.out.at0 b_y.out.lt_size (Nat.le_refl _)
  have c_y1 := b_y.out.at1 b_y.out.lt_size (Nat.le_refl _)
  have hd := Below.drw_ V8
  replace R_a := hide (Rd.then_ R_a.out hd)
  replace R_x := hide (Rd.then_ R_x.out hd)
  replace R_y := hide (Rd.then_ R_y.out hd)
  have U11 : Below V8.heap.size V8 (V8.drew) := Below.then_ U10 hd
  replace B := hide (Below.then_ B.out hd)
  clear hd
  have tok1 : True := trivial
  go_region_held3 (fun w' => Below V8.heap.size V8 w') (assumption)
    (first
      | (go_at_call 19; (have _t := tok1; (with_reducible refine (inorm_any _ _ _ _ _ _ _ R_a.out (Nat.le_refl _)).mono ?_); rw [e4.out]; rintro e w7 ⟨A_n, c_n, rfl, R_n, hb⟩; replace R_a := hide (Rd.then_ R_a.out hb); replace R_x := hide (Rd.then_ R_x.out hb); replace R_y := hide (Rd.then_ R_y.out hb); have U12 : Below V8.heap.size V8 w7 := Below.then_ U11 hb; replace B := hide (Below.then_ B.out hb); replace R_n := hide R_n; clear hb; have tok2 : True := trivial; clear _t tok1))
      | (go_at_call 14; (have _t := tok2; (with_reducible refine (same_eq _ _ _ _ _ _ _ _ _ _ _ R_y.out R_n.out rfl rfl).mono ?_); rintro e w8 ⟨rfl, hb⟩; replace R_a := hide (Rd.then_ R_a.out hb); replace R_x := hide (Rd.then_ R_x.out hb); replace R_y := hide (Rd.then_ R_y.out hb); replace R_n := hide (Rd.then_ R_n.out hb); have U13 : Below V8.heap.size V8 w8 := Below.then_ U12 hb; replace B := hide (Below.then_ B.out hb); clear hb; have tok3 : True := trivial; clear _t tok2))
      | (go_at_call 23; (have _t := tok3; (with_reducible refine (awake_any _).mono ?_); rintro e w9 ⟨rfl, hb⟩; replace R_a := hide (Rd.then_ R_a.out hb); replace R_x := hide (Rd.then_ R_x.out hb); replace R_y := hide (Rd.then_ R_y.out hb); replace R_n := hide (Rd.then_ R_n.out hb); have U14 : Below V8.heap.size V8 w9 := Below.then_ U13 hb; replace B := hide (Below.then_ B.out hb); clear hb; have tok4 : True := trivial; clear _t tok3)))
  clear tok4
  go_wp2
  go_ret
  exact ⟨rfl, B.out⟩

set_option maxRecDepth 100000 in
set_option maxHeartbeats 4000000 in
theorem inot_no_long (w : World) (sa : Bool) (Aa : Option Addr) (na ca : Nat) (xa : List Nat) (tt : ByteArray) (vv : Int) (h_a : Rd w w.heap.size Aa na ca xa) (k_a : na ≤ 1048576) (_b_t : tt.size ≤ 9223372036854775807) (b_v : -9223372036854775808 ≤ vv ∧ vv ≤ 9223372036854775807) (z k : Int) (hp : ∀ w, Calls Try.prog 34 #[.string tt] w (RetIV w z k)) (_hz : k = 0 → zstr z = tt) (hzl : (dig (zmag z)).length ≤ 400) (hk : k ≠ 0) (hsmall : ¬ (dec (zmag (iv sa (val xa)))).length ≤ 400) :
    Calls Try.prog 9 #[.agg #[.bool sa, .slice Aa na ca], .string tt, .int .i64 vv] w fun e w' => e = .returned (.bool true) ∧ Below w.heap.size w w' := by
  obtain ⟨bv1, bv2⟩ : Hid (-9223372036854775808 ≤ vv) ∧ Hid (vv ≤ 9223372036854775807) := ⟨hide b_v.1, hide b_v.2⟩
  obtain ⟨K, hK⟩ : ∃ K, K = 1048576 := ⟨_, rfl⟩
  obtain ⟨a, za⟩ : ∃ z : Int, iv sa (val xa) = z := ⟨_, rfl⟩
  have Pa : zmag a < pw K := zlt_of za (by have h1 := val_lt h_a.limbs; have h2 := pw_mono (show xa.length ≤ K by have := h_a.len; omega); omega)
  have L_a : na ≤ K := by omega
  have i1 : i64v (iv (zneg vv) (val (dig (zmag vv)))) = vv := by rw [val_ieta]; exact (i64_in b_v).1
  have i2 : i64ok (iv (zneg vv) (val (dig (zmag vv)))) = true := by rw [val_ieta]; exact (i64_in b_v).2
  obtain ⟨ta, e1⟩ : ∃ ta, zstr a = ta := ⟨_, rfl⟩
  have e2 : zstr (iv sa (val xa)) = ta := by rw [za, e1]
  obtain ⟨T, dT⟩ : ∃ T, strN (dec (val xa)) = T := ⟨_, rfl⟩
  have hTs : T.size = (dec (zmag a)).length := by rw [← dT, strN_size, ← za, zmag_iv]
  have hTl : T.size ≤ 10485761 := by rw [hTs]; have := dec_len Pa; omega
  have hts : ta.size ≤ 9223372036854775807 := by rw [← e1]; unfold zstr; split <;> simp only [minus_size, strN_size] <;> omega
  rw [za] at hsmall
  have hpt := par_zstr a (by rw [e1]; exact hts)
  rw [e1] at hpt
  have hT4 : 400 < T.size := by rw [hTs]; omega
  rw [if_neg hsmall, if_neg hsmall] at hpt
  have hk1 : (k == 0) = false := by simpa using hk
  clear hk
  have e4 : iv sa (val xa) = a := by
    first
      | (simp only [za]; done)
      | (simp only [za]; first | rfl | (rfl))
      | (rfl)
  replace za := hide za
  replace Pa := hide Pa
  replace L_a := hide L_a
  replace i1 := hide i1
  replace i2 := hide i2
  replace e2 := hide e2
  replace e4 := hide e4
  replace e1 := hide e1
  replace dT := hide dT
  replace hTs := hide hTs
  replace hTl := hide hTl
  replace hts := hide hts
  replace hpt := hide hpt
  replace hsmall := hide hsmall
  replace hzl := hide hzl
  replace hp := hide hp
  have hKle : K ≤ 1048576 := by omega
  clear hK
  clear k_a b_v
  obtain ⟨W, hW⟩ : ∃ W, W = (w.alloc (.cells #[.bool sa, .slice Aa na ca] 25)) := ⟨_, rfl⟩
  have b_a : Box W (w.heap.size) (.bool sa) (.slice Aa na ca) := by rw [hW]; exact (Box.new w _ _ rfl)
  have hwW : Below w.heap.size w W := by rw [hW]; exact ((Below.refl _ _).alloc (Nat.le_refl _) _)
  have R_a := hide (Rd.then_ h_a hwW)
  clear h_a
  have B := hide hwW
  clear hwW
  have U0 : Below W.heap.size W W := Below.refl _ _
  have c_a0 := b_a.at0 b_a.lt_size (Nat.le_refl _)
  have c_a1 := b_a.at1 b_a.lt_size (Nat.le_refl _)
  replace b_a := hide b_a
  go_enter Try.func9, Try.ntmps9
  go_wp2_with fail
  rw [← hW]
  clear hW
  refine (iof_any _ vv bv1.out bv2.out).mono ?_
  rintro e w1 ⟨A_o, c_o, rfl, R_o, hb⟩
  replace R_a := hide (Rd.then_ R_a.out hb)
  have U1 : Below W.heap.size W w1 := Below.then_ U0 hb
  replace B := hide (Below.then_ B.out hb)
  replace R_o := hide R_o
  clear hb
  go_wp2_with fail
  refine (int64_any _ _ _ _ _ _ _ R_o.out (Nat.le_refl _)).mono ?_
  rw [i1.out, i2.out]
  rintro e w2 ⟨rfl, hb⟩
  replace R_a := hide (Rd.then_ R_a.out hb)
  replace R_o := hide (Rd.then_ R_o.out hb)
  have U2 : Below W.heap.size W w2 := Below.then_ U1 hb
  replace B := hide (Below.then_ B.out hb)
  clear hb
  clear R_o
  go_wp2_with fail
  refine (hp.out _).mono ?_
  rintro e w3 ⟨A_x, c_x, rfl, R_x, hb⟩
  replace R_a := hide (Rd.then_ R_a.out hb)
  have U3 : Below W.heap.size W w3 := Below.then_ U2 hb
  replace B := hide (Below.then_ B.out hb)
  replace R_x := hide R_x
  clear hb
  have hbx : Below w3.heap.size w3 (w3.alloc (.cells #[.bool (zneg z), .slice A_x (dig (zmag z)).length c_x] 25)) := ((Below.refl _ _).alloc (Nat.le_refl _) _)
  have Ux := Below.then_ U3 hbx
  go_wp2_with fail
  obtain ⟨V3, hV⟩ : ∃ V, V = (w3.alloc (.cells #[.bool (zneg z), .slice A_x (dig (zmag z)).length c_x] 25)) := ⟨_, rfl⟩
  obtain ⟨g_x, hg_x⟩ : ∃ g, g = w3.heap.size := ⟨_, rfl⟩
  rw [← hV]
  rw [← hV] at hbx Ux
  rw [← hg_x]
  have b_x : Box V3 g_x (.bool (zneg z)) (.slice A_x (dig (zmag z)).length c_x) := by rw [hV]; exact (Box.new _ _ _ hg_x)
  clear hV
  clear hg_x
  replace R_a := hide (Rd.then_ R_a.out hbx)
  replace R_x := hide (Rd.then_ R_x.out hbx)
  have U4 : Below W.heap.size W V3 := Below.then_ U3 hbx
  replace B := hide (Below.then_ B.out hbx)
  clear hbx
  replace b_a := hide (Box.keep b_a.out U4)
  clear c_a0 c_a1
  replace b_x := hide b_x
  have U5 : Below V3.heap.size V3 V3 := Below.refl _ _
  have c_a0 := b_a.out.at0 b_a.out.lt_size (Nat.le_refl _)
  have c_a1 := b_a.out.at1 b_a.out.lt_size (Nat.le_refl _)
  have c_x0 := b_x.out.at0 b_x.out.lt_size (Nat.le_refl _)
  have c_x1 := b_x.out.at1 b_x.out.lt_size (Nat.le_refl _)
  refine (iprint_any _ _ _ _ _ _ _ R_a.out (Nat.le_refl _) (by have := L_a.out; omega)).mono ?_
  rw [e2.out]
  rintro e w4 ⟨rfl, hb⟩
  replace R_a := hide (Rd.then_ R_a.out hb)
  replace R_x := hide (Rd.then_ R_x.out hb)
  have U6 : Below V3.heap.size V3 w4 := Below.then_ U5 hb
  replace B := hide (Below.then_ B.out hb)
  clear hb
  go_wp2_with fail
  refine (rprint_any _ _ _ _ _ _ R_a.out (Nat.le_refl _) (by have := L_a.out; omega)).mono ?_
  rw [dT.out]
  rintro e w5 ⟨rfl, hb⟩
  replace R_a := hide (Rd.then_ R_a.out hb)
  replace R_x := hide (Rd.then_ R_x.out hb)
  have U7 : Below V3.heap.size V3 w5 := Below.then_ U6 hb
  replace B := hide (Below.then_ B.out hb)
  clear hb
  go_wp2_with fail
  refine (hpt.out _).mono ?_
  rintro e w6 ⟨A_y, c_y, rfl, R_y, hb⟩
  replace R_a := hide (Rd.then_ R_a.out hb)
  replace R_x := hide (Rd.then_ R_x.out hb)
  have U8 : Below V3.heap.size V3 w6 := Below.then_ U7 hb
  replace B := hide (Below.then_ B.out hb)
  replace R_y := hide R_y
  clear hb
  have hbx : Below w6.heap.size w6 (w6.alloc (.cells #[.bool (zneg 0), .slice A_y (dig (zmag 0)).length c_y] 25)) := ((Below.refl _ _).alloc (Nat.le_refl _) _)
  have Ux := Below.then_ U8 hbx
  go_wp2_with fail
  obtain ⟨V8, hV⟩ : ∃ V, V = (w6.alloc (.cells #[.bool (zneg 0), .slice A_y (dig (zmag 0)).length c_y] 25)) := ⟨_, rfl⟩
  obtain ⟨g_y, hg_y⟩ : ∃ g, g = w6.heap.size := ⟨_, rfl⟩
  rw [← hV]
  rw [← hV] at hbx Ux
  rw [← hg_y]
  have b_y : Box V8 g_y (.bool (zneg 0)) (.slice A_y (dig (zmag 0)).length c_y) := by rw [hV]; exact (Box.new _ _ _ hg_y)
  clear hV
  clear hg_y
  replace R_a := hide (Rd.then_ R_a.out hbx)
  replace R_x := hide (Rd.then_ R_x.out hbx)
  replace R_y := hide (Rd.then_ R_y.out hbx)
  have U9 : Below V3.heap.size V3 V8 := Below.then_ U8 hbx
  replace B := hide (Below.then_ B.out hbx)
  clear hbx
  replace b_a := hide (Box.keep b_a.out U9)
  clear c_a0 c_a1
  replace b_x := hide (Box.keep b_x.out U9)
  clear c_x0 c_x1
  replace b_y := hide b_y
  have U10 : Below V8.heap.size V8 V8 := Below.refl _ _
  have c_a0 := b_a.out.at0 b_a.out.lt_size (Nat.le_refl _)
  have c_a1 := b_a.out.at1 b_a.out.lt_size (Nat.le_refl _)
  have c_x0 := b_x.out.at0 b_x.out.lt_size (Nat.le_refl _)
  have c_x1 := b_x.out.at1 b_x.out.lt_size (Nat.le_refl _)
  have c_y0 := b_y.out.at0 b_y.out.lt_size (Nat.le_refl _)
  have c_y1 := b_y.out.at1 b_y.out.lt_size (Nat.le_refl _)
  refine (same_eq _ _ _ _ _ _ _ _ _ _ [] R_y.out (Rd.empty _ _ none (c := 0) (by omega)) rfl dz0).mono ?_
  rintro e w7 ⟨rfl, hb⟩
  replace R_a := hide (Rd.then_ R_a.out hb)
  replace R_x := hide (Rd.then_ R_x.out hb)
  replace R_y := hide (Rd.then_ R_y.out hb)
  have U11 : Below V8.heap.size V8 w7 := Below.then_ U10 hb
  replace B := hide (Below.then_ B.out hb)
  clear hb
  go_wp2_with fail
  refine (awake_any _).mono ?_
  rintro e w8 ⟨rfl, hb⟩
  replace R_a := hide (Rd.then_ R_a.out hb)
  replace R_x := hide (Rd.then_ R_x.out hb)
  replace R_y := hide (Rd.then_ R_y.out hb)
  have U12 : Below V8.heap.size V8 w8 := Below.then_ U11 hb
  replace B := hide (Below.then_ B.out hb)
  clear hb
  go_wp2
  go_ret
  exact ⟨rfl, B.out⟩

set_option maxRecDepth 100000 in
set_option maxHeartbeats 4000000 in
theorem inot_walk (w : World) (sa : Bool) (Aa : Option Addr) (na ca : Nat) (xa : List Nat) (tt : ByteArray) (vv : Int) (h_a : Rd w w.heap.size Aa na ca xa) (k_a : na ≤ 1048576) (b_t : tt.size ≤ 9223372036854775807) (b_v : -9223372036854775808 ≤ vv ∧ vv ≤ 9223372036854775807) :
    Calls Try.prog 9 #[.agg #[.bool sa, .slice Aa na ca], .string tt, .int .i64 vv] w fun e w' => e = .returned (.bool true) ∧ Below w.heap.size w w' := by
  obtain ⟨z, k, hp, _, hz, hzl⟩ := par_z tt b_t
  by_cases hk : k = 0 <;> by_cases hs : (dec (zmag (iv sa (val xa)))).length ≤ 400
  · exact inot_ok_short w sa Aa na ca xa tt vv h_a k_a b_t b_v z k hp hz hzl hk hs
  · exact inot_ok_long w sa Aa na ca xa tt vv h_a k_a b_t b_v z k hp hz hzl hk hs
  · exact inot_no_short w sa Aa na ca xa tt vv h_a k_a b_t b_v z k hp hz hzl hk hs
  · exact inot_no_long w sa Aa na ca xa tt vv h_a k_a b_t b_v z k hp hz hzl hk hs

end Go.Proofs.Ytjbbapibpcgnhaa
