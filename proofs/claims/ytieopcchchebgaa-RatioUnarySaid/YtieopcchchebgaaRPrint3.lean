/-
  Print of the reference.
-/
import Derived.Test.YtieopcchchebgaaRRat2
import Derived.Test.YtieopcchchebgaaPrint3
namespace Go.Proofs.Ytieopcchchebgaa
open Go.RowKit


theorem rof1p (w : World) : Calls Try.prog 71 #[.int .u64 1] w (RetNat w 1) := rof_any w 1 (by omega)

set_option maxHeartbeats 4000000 in
theorem rprint_int {w : World} {Bd : Nat} {A_a : Option Addr} {n_a c_a : Nat} {x_a : List Nat} {s_a : Bool} {A_ad : Option Addr} {n_ad c_ad : Nat} {x_ad : List Nat} (h_a : Rd w Bd A_a n_a c_a x_a) (g_a : n_a ≤ 1000000000) (h_ad : Rd w Bd A_ad n_ad c_ad x_ad) (g_ad : n_ad ≤ 1000000000) (hB : Bd ≤ w.heap.size) {q : Rat} (hq : qv s_a (val x_a) (val x_ad) = q) (h1 : q.den = 1) :
    Calls Try.prog 30 #[.agg #[.bool s_a, .slice A_a n_a c_a, .slice A_ad n_ad c_ad]] w (RetB w (.string (qstr q))) := by
  have sz := sz_rd h_a h_ad hq g_a g_ad
  have len1 := dec_len ((dig_len_le _ _).1 sz.1)
  have len2 := dec_len ((dig_len_le _ _).1 sz.2)
  have gn : (dig (zmag q.num)).length ≤ 17592186044416 ∧ (dig q.den).length ≤ 17592186044416 := by omega
  replace gn := hide gn
  rw [qstr_int h1]
  obtain ⟨zs, e_zs⟩ : ∃ zs, zstr q.num = zs := ⟨_, rfl⟩
  rw [e_zs]
  have e_z : zstr (iv (zneg q.num) (val (dig (zmag q.num)))) = zs := by rw [ivz]; exact e_zs
  replace e_z := hide e_z
  have e_c : cmpN (val (dig q.den)) (val (dig 1)) = 0 := cmp_one h1
  replace e_c := hide e_c
  clear sz len1 len2 h1 e_zs
  replace hq := hide hq
  obtain ⟨W, hW⟩ : ∃ W, W = (w.alloc (.cells #[.bool s_a, .slice A_a n_a c_a, .slice A_ad n_ad c_ad] 27)) := ⟨_, rfl⟩
  have b_a : Box3 W (w.heap.size) (.bool s_a) (.slice A_a n_a c_a) (.slice A_ad n_ad c_ad) := by rw [hW]; exact (Box3.new w _ _ _ rfl)
  have hwW : Below w.heap.size w W := by rw [hW]; exact ((Below.refl _ _).alloc (Nat.le_refl _) _)
  have R_a := hide (Rd.upto h_a hwW hB)
  clear h_a
  have R_ad := hide (Rd.upto h_ad hwW hB)
  clear h_ad
  have B := hide hwW
  clear hwW
  clear hB
  have U0 : Below W.heap.size W W := Below.refl _ _
  have c_a0 := b_a.at0 b_a.lt_size (Nat.le_refl _)
  have c_a1 := b_a.at1 b_a.lt_size (Nat.le_refl _)
  have c_a2 := b_a.at2 b_a.lt_size (Nat.le_refl _)
  replace b_a := hide b_a
  go_enter Try.func30, Try.ntmps30
  go_wp2_with fail
  rw [← hW]
  clear hW
  refine (rnorm3_any R_a.out g_a R_ad.out g_ad (Nat.le_refl _) hq.out).mono ?_
  rintro e w1 ⟨A_q, c_q, A_qd, c_qd, rfl, R_q, R_qd, hb⟩
  replace R_a := hide (Rd.then_ R_a.out hb)
  replace R_ad := hide (Rd.then_ R_ad.out hb)
  have U1 : Below W.heap.size W w1 := Below.then_ U0 hb
  replace B := hide (Below.then_ B.out hb)
  replace R_q := hide R_q
  replace R_qd := hide R_qd
  clear hb
  have hbx : Below w1.heap.size w1 (w1.alloc (.cells #[.bool (zneg q.num), .slice A_q (dig (zmag q.num)).length c_q, .slice A_qd (dig q.den).length c_qd] 27)) := ((Below.refl _ _).alloc (Nat.le_refl _) _)
  have Ux := Below.then_ U1 hbx
  go_wp2_with fail
  obtain ⟨V1, hV⟩ : ∃ V, V = (w1.alloc (.cells #[.bool (zneg q.num), .slice A_q (dig (zmag q.num)).length c_q, .slice A_qd (dig q.den).length c_qd] 27)) := ⟨_, rfl⟩
  obtain ⟨g_q, hg_q⟩ : ∃ g, g = w1.heap.size := ⟨_, rfl⟩
  rw [← hV]
  rw [← hV] at hbx Ux
  rw [← hg_q]
  have b_q : Box3 V1 g_q (.bool (zneg q.num)) (.slice A_q (dig (zmag q.num)).length c_q) (.slice A_qd (dig q.den).length c_qd) := by rw [hV]; exact (Box3.new _ _ _ _ hg_q)
  clear hV
  have ne_a_q : w.heap.size ≠ g_q := by have := (b_a.out.lt b_a.out.lt_size (Nat.le_refl _)) _ U1; omega
  replace ne_a_q := hide ne_a_q
  have ge_q : w.heap.size ≤ g_q := by have := B.out.size; omega
  replace ge_q := hide ge_q
  clear hg_q
  replace R_a := hide (Rd.then_ R_a.out hbx)
  replace R_ad := hide (Rd.then_ R_ad.out hbx)
  replace R_q := hide (Rd.then_ R_q.out hbx)
  replace R_qd := hide (Rd.then_ R_qd.out hbx)
  have U2 : Below W.heap.size W V1 := Below.then_ U1 hbx
  replace B := hide (Below.then_ B.out hbx)
  clear hbx
  replace b_a := hide (Box3.keep b_a.out U2)
  clear c_a0 c_a1 c_a2
  replace b_q := hide b_q
  have U3 : Below V1.heap.size V1 V1 := Below.refl _ _
  have c_a0 := b_a.out.at0 b_a.out.lt_size (Nat.le_refl _)
  have c_a1 := b_a.out.at1 b_a.out.lt_size (Nat.le_refl _)
  have c_a2 := b_a.out.at2 b_a.out.lt_size (Nat.le_refl _)
  have c_q0 := b_q.out.at0 b_q.out.lt_size (Nat.le_refl _)
  have c_q1 := b_q.out.at1 b_q.out.lt_size (Nat.le_refl _)
  have c_q2 := b_q.out.at2 b_q.out.lt_size (Nat.le_refl _)
  refine (riprint_any _ _ _ _ _ _ _ R_q.out (Nat.le_refl _) gn.out.1).mono ?_
  rw [e_z.out]
  rintro e w2 ⟨rfl, hb⟩
  replace R_a := hide (Rd.then_ R_a.out hb)
  replace R_ad := hide (Rd.then_ R_ad.out hb)
  replace R_q := hide (Rd.then_ R_q.out hb)
  replace R_qd := hide (Rd.then_ R_qd.out hb)
  have U4 : Below V1.heap.size V1 w2 := Below.then_ U3 hb
  replace B := hide (Below.then_ B.out hb)
  clear hb
  go_wp2_with fail
  have hd := Below.drw_ w2
  replace R_a := hide (Rd.then_ R_a.out hd)
  replace R_ad := hide (Rd.then_ R_ad.out hd)
  replace R_q := hide (Rd.then_ R_q.out hd)
  replace R_qd := hide (Rd.then_ R_qd.out hd)
  have U5 : Below V1.heap.size V1 (w2.drew) := Below.then_ U4 hd
  replace B := hide (Below.then_ B.out hd)
  clear hd
  have tok1 : True := trivial
  go_region_held3 (fun w' => Below V1.heap.size V1 w') (assumption)
    (first
      | (go_at_call 71; (have _t := tok1; (with_reducible refine (rof1p _).mono ?_); rintro e w3 ⟨A_o, c_o, rfl, R_o, hb⟩; replace R_a := hide (Rd.then_ R_a.out hb); replace R_ad := hide (Rd.then_ R_ad.out hb); replace R_q := hide (Rd.then_ R_q.out hb); replace R_qd := hide (Rd.then_ R_qd.out hb); have U6 : Below V1.heap.size V1 w3 := Below.then_ U5 hb; replace B := hide (Below.then_ B.out hb); replace R_o := hide R_o; clear hb; have tok2 : True := trivial; clear _t tok1))
      | (go_at_call 70; (have _t := tok2; (with_reducible refine (rcmp_any _ _ _ _ _ _ _ _ _ _ R_qd.out R_o.out).mono ?_); rw [e_c.out]; rintro e w' ⟨rfl, rfl⟩; have tok3 : True := trivial; clear _t tok2)))
  clear tok3
  go_wp2
  go_ret
  exact ⟨rfl, B.out⟩

set_option maxHeartbeats 4000000 in
theorem rprint_frac {w : World} {Bd : Nat} {A_a : Option Addr} {n_a c_a : Nat} {x_a : List Nat} {s_a : Bool} {A_ad : Option Addr} {n_ad c_ad : Nat} {x_ad : List Nat} (h_a : Rd w Bd A_a n_a c_a x_a) (g_a : n_a ≤ 1000000000) (h_ad : Rd w Bd A_ad n_ad c_ad x_ad) (g_ad : n_ad ≤ 1000000000) (hB : Bd ≤ w.heap.size) {q : Rat} (hq : qv s_a (val x_a) (val x_ad) = q) (h1 : q.den ≠ 1) :
    Calls Try.prog 30 #[.agg #[.bool s_a, .slice A_a n_a c_a, .slice A_ad n_ad c_ad]] w (RetB w (.string (qstr q))) := by
  have sz := sz_rd h_a h_ad hq g_a g_ad
  have len1 := dec_len ((dig_len_le _ _).1 sz.1)
  have len2 := dec_len ((dig_len_le _ _).1 sz.2)
  have gn : (dig (zmag q.num)).length ≤ 17592186044416 ∧ (dig q.den).length ≤ 17592186044416 := by omega
  replace gn := hide gn
  rw [qstr_frac h1]
  have sz1 := zstr_size q.num
  have sz2 := strN_size (dec q.den)
  obtain ⟨zs, e_zs⟩ : ∃ zs, zstr q.num = zs := ⟨_, rfl⟩
  obtain ⟨ds, e_ds⟩ : ∃ ds, strN (dec q.den) = ds := ⟨_, rfl⟩
  rw [e_zs] at sz1
  rw [e_ds] at sz2
  have hs1 : ¬ 9223372036854775807 < zs.size + 1 := by omega
  have hs2 : ¬ 9223372036854775807 < zs.size + 1 + ds.size := by omega
  have e_ds2 : strN (dec (val (dig q.den))) = ds := by rw [val_dig]; exact e_ds
  replace e_ds2 := hide e_ds2
  rw [e_zs, e_ds]
  clear sz1 sz2 e_ds
  have e_z : zstr (iv (zneg q.num) (val (dig (zmag q.num)))) = zs := by rw [ivz]; exact e_zs
  replace e_z := hide e_z
  have e_c : cmpN (val (dig q.den)) (val (dig 1)) = 1 := cmp_more h1
  replace e_c := hide e_c
  clear sz len1 len2 h1 e_zs
  replace hq := hide hq
  obtain ⟨W, hW⟩ : ∃ W, W = (w.alloc (.cells #[.bool s_a, .slice A_a n_a c_a, .slice A_ad n_ad c_ad] 27)) := ⟨_, rfl⟩
  have b_a : Box3 W (w.heap.size) (.bool s_a) (.slice A_a n_a c_a) (.slice A_ad n_ad c_ad) := by rw [hW]; exact (Box3.new w _ _ _ rfl)
  have hwW : Below w.heap.size w W := by rw [hW]; exact ((Below.refl _ _).alloc (Nat.le_refl _) _)
  have R_a := hide (Rd.upto h_a hwW hB)
  clear h_a
  have R_ad := hide (Rd.upto h_ad hwW hB)
  clear h_ad
  have B := hide hwW
  clear hwW
  clear hB
  have U0 : Below W.heap.size W W := Below.refl _ _
  have c_a0 := b_a.at0 b_a.lt_size (Nat.le_refl _)
  have c_a1 := b_a.at1 b_a.lt_size (Nat.le_refl _)
  have c_a2 := b_a.at2 b_a.lt_size (Nat.le_refl _)
  replace b_a := hide b_a
  go_enter Try.func30, Try.ntmps30
  go_wp2_with fail
  rw [← hW]
  clear hW
  refine (rnorm3_any R_a.out g_a R_ad.out g_ad (Nat.le_refl _) hq.out).mono ?_
  rintro e w1 ⟨A_q, c_q, A_qd, c_qd, rfl, R_q, R_qd, hb⟩
  replace R_a := hide (Rd.then_ R_a.out hb)
  replace R_ad := hide (Rd.then_ R_ad.out hb)
  have U1 : Below W.heap.size W w1 := Below.then_ U0 hb
  replace B := hide (Below.then_ B.out hb)
  replace R_q := hide R_q
  replace R_qd := hide R_qd
  clear hb
  have hbx : Below w1.heap.size w1 (w1.alloc (.cells #[.bool (zneg q.num), .slice A_q (dig (zmag q.num)).length c_q, .slice A_qd (dig q.den).length c_qd] 27)) := ((Below.refl _ _).alloc (Nat.le_refl _) _)
  have Ux := Below.then_ U1 hbx
  go_wp2_with fail
  obtain ⟨V1, hV⟩ : ∃ V, V = (w1.alloc (.cells #[.bool (zneg q.num), .slice A_q (dig (zmag q.num)).length c_q, .slice A_qd (dig q.den).length c_qd] 27)) := ⟨_, rfl⟩
  obtain ⟨g_q, hg_q⟩ : ∃ g, g = w1.heap.size := ⟨_, rfl⟩
  rw [← hV]
  rw [← hV] at hbx Ux
  rw [← hg_q]
  have b_q : Box3 V1 g_q (.bool (zneg q.num)) (.slice A_q (dig (zmag q.num)).length c_q) (.slice A_qd (dig q.den).length c_qd) := by rw [hV]; exact (Box3.new _ _ _ _ hg_q)
  clear hV
  have ne_a_q : w.heap.size ≠ g_q := by have := (b_a.out.lt b_a.out.lt_size (Nat.le_refl _)) _ U1; omega
  replace ne_a_q := hide ne_a_q
  have ge_q : w.heap.size ≤ g_q := by have := B.out.size; omega
  replace ge_q := hide ge_q
  clear hg_q
  replace R_a := hide (Rd.then_ R_a.out hbx)
  replace R_ad := hide (Rd.then_ R_ad.out hbx)
  replace R_q := hide (Rd.then_ R_q.out hbx)
  replace R_qd := hide (Rd.then_ R_qd.out hbx)
  have U2 : Below W.heap.size W V1 := Below.then_ U1 hbx
  replace B := hide (Below.then_ B.out hbx)
  clear hbx
  replace b_a := hide (Box3.keep b_a.out U2)
  clear c_a0 c_a1 c_a2
  replace b_q := hide b_q
  have U3 : Below V1.heap.size V1 V1 := Below.refl _ _
  have c_a0 := b_a.out.at0 b_a.out.lt_size (Nat.le_refl _)
  have c_a1 := b_a.out.at1 b_a.out.lt_size (Nat.le_refl _)
  have c_a2 := b_a.out.at2 b_a.out.lt_size (Nat.le_refl _)
  have c_q0 := b_q.out.at0 b_q.out.lt_size (Nat.le_refl _)
  have c_q1 := b_q.out.at1 b_q.out.lt_size (Nat.le_refl _)
  have c_q2 := b_q.out.at2 b_q.out.lt_size (Nat.le_refl _)
  refine (riprint_any _ _ _ _ _ _ _ R_q.out (Nat.le_refl _) gn.out.1).mono ?_
  rw [e_z.out]
  rintro e w2 ⟨rfl, hb⟩
  replace R_a := hide (Rd.then_ R_a.out hb)
  replace R_ad := hide (Rd.then_ R_ad.out hb)
  replace R_q := hide (Rd.then_ R_q.out hb)
  replace R_qd := hide (Rd.then_ R_qd.out hb)
  have U4 : Below V1.heap.size V1 w2 := Below.then_ U3 hb
  replace B := hide (Below.then_ B.out hb)
  clear hb
  go_wp2_with fail
  have hd := Below.drw_ w2
  replace R_a := hide (Rd.then_ R_a.out hd)
  replace R_ad := hide (Rd.then_ R_ad.out hd)
  replace R_q := hide (Rd.then_ R_q.out hd)
  replace R_qd := hide (Rd.then_ R_qd.out hd)
  have U5 : Below V1.heap.size V1 (w2.drew) := Below.then_ U4 hd
  replace B := hide (Below.then_ B.out hd)
  clear hd
  have tok1 : True := trivial
  go_region_held3 (fun w' => Below V1.heap.size V1 w') (assumption)
    (first
      | (go_at_call 71; (have _t := tok1; (with_reducible refine (rof1p _).mono ?_); rintro e w3 ⟨A_o, c_o, rfl, R_o, hb⟩; replace R_a := hide (Rd.then_ R_a.out hb); replace R_ad := hide (Rd.then_ R_ad.out hb); replace R_q := hide (Rd.then_ R_q.out hb); replace R_qd := hide (Rd.then_ R_qd.out hb); have U6 : Below V1.heap.size V1 w3 := Below.then_ U5 hb; replace B := hide (Below.then_ B.out hb); replace R_o := hide R_o; clear hb; have tok2 : True := trivial; clear _t tok1))
      | (go_at_call 70; (have _t := tok2; (with_reducible refine (rcmp_any _ _ _ _ _ _ _ _ _ _ R_qd.out R_o.out).mono ?_); rw [e_c.out]; rintro e w' ⟨rfl, rfl⟩; have tok3 : True := trivial; clear _t tok2)))
  clear tok3
  go_wp2_with fail
  refine (rprint_any _ _ _ _ _ _ R_qd.out (Nat.le_refl _) gn.out.2).mono ?_
  rw [e_ds2.out]
  rintro e w4 ⟨rfl, hb⟩
  replace R_a := hide (Rd.then_ R_a.out hb)
  replace R_ad := hide (Rd.then_ R_ad.out hb)
  replace R_q := hide (Rd.then_ R_q.out hb)
  replace R_qd := hide (Rd.then_ R_qd.out hb)
  replace R_o := hide (Rd.then_ R_o.out hb)
  have U7 : Below V1.heap.size V1 w4 := Below.then_ U6 hb
  replace B := hide (Below.then_ B.out hb)
  clear hb
  go_wp2
  go_ret
  exact ⟨rfl, B.out⟩

theorem rprint3_any {w : World} {Bd : Nat} {A_a : Option Addr} {n_a c_a : Nat} {x_a : List Nat} {s_a : Bool} {A_ad : Option Addr} {n_ad c_ad : Nat} {x_ad : List Nat} (h_a : Rd w Bd A_a n_a c_a x_a) (g_a : n_a ≤ 1000000000) (h_ad : Rd w Bd A_ad n_ad c_ad x_ad) (g_ad : n_ad ≤ 1000000000) (hB : Bd ≤ w.heap.size) {q : Rat} (hq : qv s_a (val x_a) (val x_ad) = q) : Calls Try.prog 30 #[.agg #[.bool s_a, .slice A_a n_a c_a, .slice A_ad n_ad c_ad]] w (RetB w (.string (qstr q))) := by
  by_cases h : q.den = 1
  · exact rprint_int h_a g_a h_ad g_ad hB hq h
  · exact rprint_frac h_a g_a h_ad g_ad hB hq h

end Go.Proofs.Ytieopcchchebgaa
