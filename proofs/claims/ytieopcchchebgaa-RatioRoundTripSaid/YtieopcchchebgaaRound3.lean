/-
  RatioRoundTrip.
-/
import Derived.Test.YtieopcchchebgaaPrint3
import Derived.Test.YtieopcchchebgaaParse3
namespace Go.Proofs.Ytieopcchchebgaa
open Go.RowKit


theorem bt_list (s : ByteArray) (k : Nat) : bt s k = ((s.data.toList[k]?).getD 0).toNat := by
  unfold bt
  by_cases h : k < s.size
  · rw [dif_pos h, Array.getElem?_toList, show s.data[k]? = some s[k] from Array.getElem?_eq_getElem h]; rfl
  · rw [dif_neg h, List.getElem?_eq_none (by rw [Array.length_toList]; exact Nat.le_of_not_lt h)]; rfl
theorem size_list (s : ByteArray) : s.size = s.data.toList.length := by rw [Array.length_toList]; rfl
theorem app_size (a b : ByteArray) : (a ++ b).size = a.size + b.size := by rw [size_list, size_list, size_list, Joins.data_append, List.length_append]
theorem bt_app (a b : ByteArray) (k : Nat) : bt (a ++ b) k = if k < a.size then bt a k else bt b (k - a.size) := by
  rw [bt_list, bt_list, bt_list, Joins.data_append, size_list]
  split
  · rename_i h; rw [List.getElem?_append_left h]
  · rename_i h; rw [List.getElem?_append_right (by omega)]
theorem ext_fst (a b : ByteArray) : (a ++ b).extract 0 a.size = a := by
  apply bytes_ext
  rw [ByteArray.data_extract, Array.toList_extract, Joins.data_append, List.extract_eq_take_drop, size_list]
  simp
theorem ext_snd (a b : ByteArray) : (a ++ b).extract a.size (a ++ b).size = b := by
  apply bytes_ext
  rw [ByteArray.data_extract, Array.toList_extract, app_size, Joins.data_append, List.extract_eq_take_drop]
  simp only [size_list, List.drop_left, Nat.add_sub_cancel_left]
  exact List.take_length
theorem num_noslash {s : ByteArray} (h : IsNum s) : NoSlash s := fun j hj => by have := h.1 j hj; omega
theorem zstr_noslash (z : Int) : NoSlash (zstr z) := by
  have hn := num_noslash (dec_isNum (zmag z))
  unfold zstr
  split
  · intro j hj
    rw [bt_app]
    rw [app_size] at hj
    split
    · rename_i h
      have : j = 0 := by have : (⟨#[45]⟩ : ByteArray).size = 1 := rfl; omega
      subst this
      decide
    · exact hn _ (by omega)
  · exact hn
theorem slash1 : (⟨#[47]⟩ : ByteArray).size = 1 := rfl
theorem frac_slash (z : Int) (t : ByteArray) : SlashAt (zstr z ++ (⟨#[47]⟩ : ByteArray) ++ t) (zstr z).size := by
  refine ⟨by rw [app_size, app_size, slash1]; omega, ?_, fun j hj => ?_⟩
  · rw [bt_app, if_pos (by rw [app_size, slash1]; omega), bt_app, if_neg (by omega), Nat.sub_self]; decide
  · rw [bt_app, if_pos (by rw [app_size]; omega), bt_app, if_pos hj]
    exact zstr_noslash z j hj
theorem frac_fst (z : Int) (t : ByteArray) : (zstr z ++ (⟨#[47]⟩ : ByteArray) ++ t).extract 0 (zstr z).size = zstr z := by
  have e : zstr z ++ (⟨#[47]⟩ : ByteArray) ++ t = zstr z ++ ((⟨#[47]⟩ : ByteArray) ++ t) := by
    apply bytes_ext; rw [Joins.data_append, Joins.data_append, Joins.data_append, Joins.data_append, List.append_assoc]
  rw [e]; exact ext_fst _ _
theorem frac_snd (z : Int) (t : ByteArray) : (zstr z ++ (⟨#[47]⟩ : ByteArray) ++ t).extract ((zstr z).size + 1) (zstr z ++ (⟨#[47]⟩ : ByteArray) ++ t).size = t := by
  have h := ext_snd (zstr z ++ (⟨#[47]⟩ : ByteArray)) t
  rw [app_size, slash1] at h
  exact h
/-- Parse at what is printed -/
theorem par_qstr {q : Rat} (h1 : (dec (zmag q.num)).length ≤ 400) (h2 : (dec q.den).length ≤ 400) (w : World) : Calls Try.prog 43 #[.string (qstr q)] w (RetRV w q 0) := by
  have hz := zstr_size q.num
  have l1 : (dig (zmag q.num)).length ≤ 10000000000 := by
    have := par_len (dec_isNum (zmag q.num)) (by rw [strN_size]; exact h1)
    rw [dec_val] at this; omega
  have l2 : (dig q.den).length ≤ 10000000000 := by
    have := par_len (dec_isNum q.den) (by rw [strN_size]; exact h2)
    rw [dec_val] at this; omega
  have hp : ∀ w, Calls Try.prog 82 #[.string (zstr q.num)] w (RetIV w q.num 0) := fun w => by
    have := par_zstr q.num (by omega) w
    rw [if_pos h1, if_pos h1] at this
    exact this
  by_cases h : q.den = 1
  · rw [qstr_int h]
    exact pparse_int (cut_any (scut_miss (zstr_noslash _))) hp rfl (by rw [← h]; exact Rat.mkRat_self q) l1
  · rw [qstr_frac h]
    have hc := cut_any (scut_hit (by rw [app_size, app_size, slash1, strN_size]; omega) (frac_slash q.num (strN (dec q.den))))
    rw [frac_fst, frac_snd] at hc
    have hd : ∀ w, Calls Try.prog 83 #[.string (strN (dec q.den))] w (RetPV w q.den 0) := fun w => by
      have := parse_ok w _ (dec_isNum q.den) (by rw [strN_size]; exact h2)
      rw [dec_val] at this
      exact this
    exact pparse_both hc hp rfl hd rfl q.den_nz (Rat.mkRat_self q) l1 l2

set_option maxHeartbeats 4000000 in
theorem round_num {w : World} {Bd : Nat} {A_a : Option Addr} {n_a c_a : Nat} {x_a : List Nat} {s_a : Bool} {A_ad : Option Addr} {n_ad c_ad : Nat} {x_ad : List Nat} (h_a : Rd w Bd A_a n_a c_a x_a) (g_a : n_a ≤ 40) (h_ad : Rd w Bd A_ad n_ad c_ad x_ad) (g_ad : n_ad ≤ 40) (hB : Bd ≤ w.heap.size) (hn : ¬ (dec (zmag (qv s_a (val x_a) (val x_ad)).num)).length ≤ 400) :
    Calls Try.prog 11 #[.agg #[.bool s_a, .slice A_a n_a c_a, .slice A_ad n_ad c_ad]] w (RetB w (.bool true)) := by
  obtain ⟨q_a, e_a⟩ : ∃ v, qv s_a (val x_a) (val x_ad) = v := ⟨_, rfl⟩
  replace e_a := hide e_a
  have s_aq : (dig (zmag q_a.num)).length ≤ 41 ∧ (dig q_a.den).length ≤ 41 := sz_rd h_a h_ad e_a.out g_a g_ad
  replace s_aq := hide s_aq
  have b_al : n_a ≤ 1000000000 ∧ n_ad ≤ 1000000000 := ⟨Nat.le_trans g_a (by omega), Nat.le_trans g_ad (by omega)⟩
  replace b_al := hide b_al
  rw [e_a.out] at hn
  have e_x : q_a = q_a := rfl
  replace e_x := hide e_x
  have c_xq : qv s_a (val x_a) (val x_ad) = q_a := by rw [e_a.out]
  replace c_xq := hide c_xq
  have s_xq : (dig (zmag q_a.num)).length ≤ 41 ∧ (dig q_a.den).length ≤ 41 := by rw [← e_x.out]; exact s_aq.out
  replace s_xq := hide s_xq
  obtain ⟨sn, e_sn⟩ : ∃ sn, strN (dec (val (dig (zmag q_a.num)))) = sn := ⟨_, rfl⟩
  have d1 : decide ((400 : Int) < (sn.size : Int)) = true := by rw [← e_sn, val_dig, strN_size]; simp; omega
  replace e_sn := hide e_sn
  have gx : (dig (zmag q_a.num)).length ≤ 10000000000 ∧ (dig q_a.den).length ≤ 10000000000 := by have := s_xq.out; omega
  replace gx := hide gx
  have gp : (dig (zmag q_a.num)).length ≤ 17592186044416 ∧ (dig q_a.den).length ≤ 17592186044416 := by have := s_xq.out; omega
  replace gp := hide gp
  clear hn
  obtain ⟨W, hW⟩ : ∃ W, W = (w.alloc (.cells #[.bool s_a, .slice A_a n_a c_a, .slice A_ad n_ad c_ad] 27)) := ⟨_, rfl⟩
  have b_a : Box3 W (w.heap.size) (.bool s_a) (.slice A_a n_a c_a) (.slice A_ad n_ad c_ad) := by rw [hW]; exact (Box3.new w _ _ _ rfl)
  have hwW : Below w.heap.size w W := by rw [hW]; exact ((Below.refl _ _).alloc (Nat.le_refl _) _)
  have R_a := hide (Rd.upto h_a hwW hB)
  clear h_a
  have R_ad := hide (Rd.upto h_ad hwW hB)
  clear h_ad
  have B := hide hwW
  clear hwW
  clear hB
  have U0 : Below W.heap.size W W := Below.refl _ _
  have c_a0 := b_a.at0 b_a.lt_size (Nat.le_refl _)
  have c_a1 := b_a.at1 b_a.lt_size (Nat.le_refl _)
  have c_a2 := b_a.at2 b_a.lt_size (Nat.le_refl _)
  replace b_a := hide b_a
  go_enter Try.func11, Try.ntmps11
  go_wp2_with fail
  rw [← hW]
  clear hW
  refine (large_no g_a g_ad).mono ?_
  rintro e w1 ⟨rfl, hb⟩
  replace R_a := hide (Rd.then_ R_a.out hb)
  replace R_ad := hide (Rd.then_ R_ad.out hb)
  have U1 : Below W.heap.size W w1 := Below.then_ U0 hb
  replace B := hide (Below.then_ B.out hb)
  clear hb
  go_wp2_with fail
  refine (pnorm1_any R_a.out b_al.out.1 R_ad.out b_al.out.2 (Nat.le_refl _) c_xq.out).mono ?_
  rintro e w2 ⟨A_x, c_x, A_xd, c_xd, rfl, R_x, R_xd, hb⟩
  replace R_a := hide (Rd.then_ R_a.out hb)
  replace R_ad := hide (Rd.then_ R_ad.out hb)
  have U2 : Below W.heap.size W w2 := Below.then_ U1 hb
  replace B := hide (Below.then_ B.out hb)
  replace R_x := hide R_x
  replace R_xd := hide R_xd
  clear hb
  have hbx : Below w2.heap.size w2 (w2.alloc (.cells #[.bool (zneg q_a.num), .slice A_x (dig (zmag q_a.num)).length c_x, .slice A_xd (dig q_a.den).length c_xd] 27)) := ((Below.refl _ _).alloc (Nat.le_refl _) _)
  have Ux := Below.then_ U2 hbx
  go_wp2_with fail
  obtain ⟨V2, hV⟩ : ∃ V, V = (w2.alloc (.cells #[.bool (zneg q_a.num), .slice A_x (dig (zmag q_a.num)).length c_x, .slice A_xd (dig q_a.den).length c_xd] 27)) := ⟨_, rfl⟩
  obtain ⟨g_x, hg_x⟩ : ∃ g, g = w2.heap.size := ⟨_, rfl⟩
  rw [← hV]
  rw [← hV] at hbx Ux
  rw [← hg_x]
  have b_x : Box3 V2 g_x (.bool (zneg q_a.num)) (.slice A_x (dig (zmag q_a.num)).length c_x) (.slice A_xd (dig q_a.den).length c_xd) := by rw [hV]; exact (Box3.new _ _ _ _ hg_x)
  clear hV
  have ne_a_x : w.heap.size ≠ g_x := by have := (b_a.out.lt b_a.out.lt_size (Nat.le_refl _)) _ U2; omega
  replace ne_a_x := hide ne_a_x
  have ge_x : w.heap.size ≤ g_x := by have := B.out.size; omega
  replace ge_x := hide ge_x
  clear hg_x
  replace R_a := hide (Rd.then_ R_a.out hbx)
  replace R_ad := hide (Rd.then_ R_ad.out hbx)
  replace R_x := hide (Rd.then_ R_x.out hbx)
  replace R_xd := hide (Rd.then_ R_xd.out hbx)
  have U3 : Below W.heap.size W V2 := Below.then_ U2 hbx
  replace B := hide (Below.then_ B.out hbx)
  clear hbx
  replace b_a := hide (Box3.keep b_a.out U3)
  clear c_a0 c_a1 c_a2
  replace b_x := hide b_x
  have U4 : Below V2.heap.size V2 V2 := Below.refl _ _
  have c_a0 := b_a.out.at0 b_a.out.lt_size (Nat.le_refl _)
  have c_a1 := b_a.out.at1 b_a.out.lt_size (Nat.le_refl _)
  have c_a2 := b_a.out.at2 b_a.out.lt_size (Nat.le_refl _)
  have c_x0 := b_x.out.at0 b_x.out.lt_size (Nat.le_refl _)
  have c_x1 := b_x.out.at1 b_x.out.lt_size (Nat.le_refl _)
  have c_x2 := b_x.out.at2 b_x.out.lt_size (Nat.le_refl _)
  refine (print_any _ _ _ _ _ _ R_x.out (Nat.le_refl _) gp.out.1).mono ?_
  rw [e_sn.out]
  rintro e w3 ⟨rfl, hb⟩
  replace R_a := hide (Rd.then_ R_a.out hb)
  replace R_ad := hide (Rd.then_ R_ad.out hb)
  replace R_x := hide (Rd.then_ R_x.out hb)
  replace R_xd := hide (Rd.then_ R_xd.out hb)
  have U5 : Below V2.heap.size V2 w3 := Below.then_ U4 hb
  replace B := hide (Below.then_ B.out hb)
  clear hb
  go_wp2
  go_ret
  exact ⟨rfl, B.out⟩

set_option maxHeartbeats 4000000 in
theorem round_den {w : World} {Bd : Nat} {A_a : Option Addr} {n_a c_a : Nat} {x_a : List Nat} {s_a : Bool} {A_ad : Option Addr} {n_ad c_ad : Nat} {x_ad : List Nat} (h_a : Rd w Bd A_a n_a c_a x_a) (g_a : n_a ≤ 40) (h_ad : Rd w Bd A_ad n_ad c_ad x_ad) (g_ad : n_ad ≤ 40) (hB : Bd ≤ w.heap.size) (hn : (dec (zmag (qv s_a (val x_a) (val x_ad)).num)).length ≤ 400) (hd : ¬ (dec (qv s_a (val x_a) (val x_ad)).den).length ≤ 400) :
    Calls Try.prog 11 #[.agg #[.bool s_a, .slice A_a n_a c_a, .slice A_ad n_ad c_ad]] w (RetB w (.bool true)) := by
  obtain ⟨q_a, e_a⟩ : ∃ v, qv s_a (val x_a) (val x_ad) = v := ⟨_, rfl⟩
  replace e_a := hide e_a
  have s_aq : (dig (zmag q_a.num)).length ≤ 41 ∧ (dig q_a.den).length ≤ 41 := sz_rd h_a h_ad e_a.out g_a g_ad
  replace s_aq := hide s_aq
  have b_al : n_a ≤ 1000000000 ∧ n_ad ≤ 1000000000 := ⟨Nat.le_trans g_a (by omega), Nat.le_trans g_ad (by omega)⟩
  replace b_al := hide b_al
  rw [e_a.out] at hn hd
  have e_x : q_a = q_a := rfl
  replace e_x := hide e_x
  have c_xq : qv s_a (val x_a) (val x_ad) = q_a := by rw [e_a.out]
  replace c_xq := hide c_xq
  have s_xq : (dig (zmag q_a.num)).length ≤ 41 ∧ (dig q_a.den).length ≤ 41 := by rw [← e_x.out]; exact s_aq.out
  replace s_xq := hide s_xq
  obtain ⟨sn, e_sn⟩ : ∃ sn, strN (dec (val (dig (zmag q_a.num)))) = sn := ⟨_, rfl⟩
  have d1 : decide ((400 : Int) < (sn.size : Int)) = false := by rw [← e_sn, val_dig, strN_size]; simp; omega
  replace e_sn := hide e_sn
  obtain ⟨sd, e_sd⟩ : ∃ sd, strN (dec (val (dig q_a.den))) = sd := ⟨_, rfl⟩
  have d2 : decide ((400 : Int) < (sd.size : Int)) = true := by rw [← e_sd, val_dig, strN_size]; simp; omega
  replace e_sd := hide e_sd
  have gx : (dig (zmag q_a.num)).length ≤ 10000000000 ∧ (dig q_a.den).length ≤ 10000000000 := by have := s_xq.out; omega
  replace gx := hide gx
  have gp : (dig (zmag q_a.num)).length ≤ 17592186044416 ∧ (dig q_a.den).length ≤ 17592186044416 := by have := s_xq.out; omega
  replace gp := hide gp
  clear hn hd
  obtain ⟨W, hW⟩ : ∃ W, W = (w.alloc (.cells #[.bool s_a, .slice A_a n_a c_a, .slice A_ad n_ad c_ad] 27)) := ⟨_, rfl⟩
  have b_a : Box3 W (w.heap.size) (.bool s_a) (.slice A_a n_a c_a) (.slice A_ad n_ad c_ad) := by rw [hW]; exact (Box3.new w _ _ _ rfl)
  have hwW : Below w.heap.size w W := by rw [hW]; exact ((Below.refl _ _).alloc (Nat.le_refl _) _)
  have R_a := hide (Rd.upto h_a hwW hB)
  clear h_a
  have R_ad := hide (Rd.upto h_ad hwW hB)
  clear h_ad
  have B := hide hwW
  clear hwW
  clear hB
  have U0 : Below W.heap.size W W := Below.refl _ _
  have c_a0 := b_a.at0 b_a.lt_size (Nat.le_refl _)
  have c_a1 := b_a.at1 b_a.lt_size (Nat.le_refl _)
  have c_a2 := b_a.at2 b_a.lt_size (Nat.le_refl _)
  replace b_a := hide b_a
  go_enter Try.func11, Try.ntmps11
  go_wp2_with fail
  rw [← hW]
  clear hW
  refine (large_no g_a g_ad).mono ?_
  rintro e w1 ⟨rfl, hb⟩
  replace R_a := hide (Rd.then_ R_a.out hb)
  replace R_ad := hide (Rd.then_ R_ad.out hb)
  have U1 : Below W.heap.size W w1 := Below.then_ U0 hb
  replace B := hide (Below.then_ B.out hb)
  clear hb
  go_wp2_with fail
  refine (pnorm1_any R_a.out b_al.out.1 R_ad.out b_al.out.2 (Nat.le_refl _) c_xq.out).mono ?_
  rintro e w2 ⟨A_x, c_x, A_xd, c_xd, rfl, R_x, R_xd, hb⟩
  replace R_a := hide (Rd.then_ R_a.out hb)
  replace R_ad := hide (Rd.then_ R_ad.out hb)
  have U2 : Below W.heap.size W w2 := Below.then_ U1 hb
  replace B := hide (Below.then_ B.out hb)
  replace R_x := hide R_x
  replace R_xd := hide R_xd
  clear hb
  have hbx : Below w2.heap.size w2 (w2.alloc (.cells #[.bool (zneg q_a.num), .slice A_x (dig (zmag q_a.num)).length c_x, .slice A_xd (dig q_a.den).length c_xd] 27)) := ((Below.refl _ _).alloc (Nat.le_refl _) _)
  have Ux := Below.then_ U2 hbx
  go_wp2_with fail
  obtain ⟨V2, hV⟩ : ∃ V, V = (w2.alloc (.cells #[.bool (zneg q_a.num), .slice A_x (dig (zmag q_a.num)).length c_x, .slice A_xd (dig q_a.den).length c_xd] 27)) := ⟨_, rfl⟩
  obtain ⟨g_x, hg_x⟩ : ∃ g, g = w2.heap.size := ⟨_, rfl⟩
  rw [← hV]
  rw [← hV] at hbx Ux
  rw [← hg_x]
  have b_x : Box3 V2 g_x (.bool (zneg q_a.num)) (.slice A_x (dig (zmag q_a.num)).length c_x) (.slice A_xd (dig q_a.den).length c_xd) := by rw [hV]; exact (Box3.new _ _ _ _ hg_x)
  clear hV
  have ne_a_x : w.heap.size ≠ g_x := by have := (b_a.out.lt b_a.out.lt_size (Nat.le_refl _)) _ U2; omega
  replace ne_a_x := hide ne_a_x
  have ge_x : w.heap.size ≤ g_x := by have := B.out.size; omega
  replace ge_x := hide ge_x
  clear hg_x
  replace R_a := hide (Rd.then_ R_a.out hbx)
  replace R_ad := hide (Rd.then_ R_ad.out hbx)
  replace R_x := hide (Rd.then_ R_x.out hbx)
  replace R_xd := hide (Rd.then_ R_xd.out hbx)
  have U3 : Below W.heap.size W V2 := Below.then_ U2 hbx
  replace B := hide (Below.then_ B.out hbx)
  clear hbx
  replace b_a := hide (Box3.keep b_a.out U3)
  clear c_a0 c_a1 c_a2
  replace b_x := hide b_x
  have U4 : Below V2.heap.size V2 V2 := Below.refl _ _
  have c_a0 := b_a.out.at0 b_a.out.lt_size (Nat.le_refl _)
  have c_a1 := b_a.out.at1 b_a.out.lt_size (Nat.le_refl _)
  have c_a2 := b_a.out.at2 b_a.out.lt_size (Nat.le_refl _)
  have c_x0 := b_x.out.at0 b_x.out.lt_size (Nat.le_refl _)
  have c_x1 := b_x.out.at1 b_x.out.lt_size (Nat.le_refl _)
  have c_x2 := b_x.out.at2 b_x.out.lt_size (Nat.le_refl _)
  refine (print_any _ _ _ _ _ _ R_x.out (Nat.le_refl _) gp.out.1).mono ?_
  rw [e_sn.out]
  rintro e w3 ⟨rfl, hb⟩
  replace R_a := hide (Rd.then_ R_a.out hb)
  replace R_ad := hide (Rd.then_ R_ad.out hb)
  replace R_x := hide (Rd.then_ R_x.out hb)
  replace R_xd := hide (Rd.then_ R_xd.out hb)
  have U5 : Below V2.heap.size V2 w3 := Below.then_ U4 hb
  replace B := hide (Below.then_ B.out hb)
  clear hb
  go_wp2_with fail
  refine (print_any _ _ _ _ _ _ R_xd.out (Nat.le_refl _) gp.out.2).mono ?_
  rw [e_sd.out]
  rintro e w4 ⟨rfl, hb⟩
  replace R_a := hide (Rd.then_ R_a.out hb)
  replace R_ad := hide (Rd.then_ R_ad.out hb)
  replace R_x := hide (Rd.then_ R_x.out hb)
  replace R_xd := hide (Rd.then_ R_xd.out hb)
  have U6 : Below V2.heap.size V2 w4 := Below.then_ U5 hb
  replace B := hide (Below.then_ B.out hb)
  clear hb
  go_wp2
  go_ret
  exact ⟨rfl, B.out⟩

set_option maxHeartbeats 4000000 in
theorem round_ok {w : World} {Bd : Nat} {A_a : Option Addr} {n_a c_a : Nat} {x_a : List Nat} {s_a : Bool} {A_ad : Option Addr} {n_ad c_ad : Nat} {x_ad : List Nat} (h_a : Rd w Bd A_a n_a c_a x_a) (g_a : n_a ≤ 40) (h_ad : Rd w Bd A_ad n_ad c_ad x_ad) (g_ad : n_ad ≤ 40) (hB : Bd ≤ w.heap.size) (hn : (dec (zmag (qv s_a (val x_a) (val x_ad)).num)).length ≤ 400) (hd : (dec (qv s_a (val x_a) (val x_ad)).den).length ≤ 400) :
    Calls Try.prog 11 #[.agg #[.bool s_a, .slice A_a n_a c_a, .slice A_ad n_ad c_ad]] w (RetB w (.bool true)) := by
  obtain ⟨q_a, e_a⟩ : ∃ v, qv s_a (val x_a) (val x_ad) = v := ⟨_, rfl⟩
  replace e_a := hide e_a
  have s_aq : (dig (zmag q_a.num)).length ≤ 41 ∧ (dig q_a.den).length ≤ 41 := sz_rd h_a h_ad e_a.out g_a g_ad
  replace s_aq := hide s_aq
  have b_al : n_a ≤ 1000000000 ∧ n_ad ≤ 1000000000 := ⟨Nat.le_trans g_a (by omega), Nat.le_trans g_ad (by omega)⟩
  replace b_al := hide b_al
  rw [e_a.out] at hn hd
  have e_x : q_a = q_a := rfl
  replace e_x := hide e_x
  have c_xq : qv s_a (val x_a) (val x_ad) = q_a := by rw [e_a.out]
  replace c_xq := hide c_xq
  have s_xq : (dig (zmag q_a.num)).length ≤ 41 ∧ (dig q_a.den).length ≤ 41 := by rw [← e_x.out]; exact s_aq.out
  replace s_xq := hide s_xq
  obtain ⟨sn, e_sn⟩ : ∃ sn, strN (dec (val (dig (zmag q_a.num)))) = sn := ⟨_, rfl⟩
  have d1 : decide ((400 : Int) < (sn.size : Int)) = false := by rw [← e_sn, val_dig, strN_size]; simp; omega
  replace e_sn := hide e_sn
  obtain ⟨sd, e_sd⟩ : ∃ sd, strN (dec (val (dig q_a.den))) = sd := ⟨_, rfl⟩
  have d2 : decide ((400 : Int) < (sd.size : Int)) = false := by rw [← e_sd, val_dig, strN_size]; simp; omega
  replace e_sd := hide e_sd
  have gx : (dig (zmag q_a.num)).length ≤ 10000000000 ∧ (dig q_a.den).length ≤ 10000000000 := by have := s_xq.out; omega
  replace gx := hide gx
  have gp : (dig (zmag q_a.num)).length ≤ 17592186044416 ∧ (dig q_a.den).length ≤ 17592186044416 := by have := s_xq.out; omega
  replace gp := hide gp
  have hp : ∀ w, Calls Try.prog 43 #[.string (qstr q_a)] w (RetRV w q_a 0) := par_qstr hn hd
  replace hp := hide hp
  clear hn hd
  obtain ⟨qs, e_qs⟩ : ∃ qs, qstr q_a = qs := ⟨_, rfl⟩
  rw [e_qs] at hp
  replace e_qs := hide e_qs
  obtain ⟨W, hW⟩ : ∃ W, W = (w.alloc (.cells #[.bool s_a, .slice A_a n_a c_a, .slice A_ad n_ad c_ad] 27)) := ⟨_, rfl⟩
  have b_a : Box3 W (w.heap.size) (.bool s_a) (.slice A_a n_a c_a) (.slice A_ad n_ad c_ad) := by rw [hW]; exact (Box3.new w _ _ _ rfl)
  have hwW : Below w.heap.size w W := by rw [hW]; exact ((Below.refl _ _).alloc (Nat.le_refl _) _)
  have R_a := hide (Rd.upto h_a hwW hB)
  clear h_a
  have R_ad := hide (Rd.upto h_ad hwW hB)
  clear h_ad
  have B := hide hwW
  clear hwW
  clear hB
  have U0 : Below W.heap.size W W := Below.refl _ _
  have c_a0 := b_a.at0 b_a.lt_size (Nat.le_refl _)
  have c_a1 := b_a.at1 b_a.lt_size (Nat.le_refl _)
  have c_a2 := b_a.at2 b_a.lt_size (Nat.le_refl _)
  replace b_a := hide b_a
  go_enter Try.func11, Try.ntmps11
  go_wp2_with fail
  rw [← hW]
  clear hW
  refine (large_no g_a g_ad).mono ?_
  rintro e w1 ⟨rfl, hb⟩
  replace R_a := hide (Rd.then_ R_a.out hb)
  replace R_ad := hide (Rd.then_ R_ad.out hb)
  have U1 : Below W.heap.size W w1 := Below.then_ U0 hb
  replace B := hide (Below.then_ B.out hb)
  clear hb
  go_wp2_with fail
  refine (pnorm1_any R_a.out b_al.out.1 R_ad.out b_al.out.2 (Nat.le_refl _) c_xq.out).mono ?_
  rintro e w2 ⟨A_x, c_x, A_xd, c_xd, rfl, R_x, R_xd, hb⟩
  replace R_a := hide (Rd.then_ R_a.out hb)
  replace R_ad := hide (Rd.then_ R_ad.out hb)
  have U2 : Below W.heap.size W w2 := Below.then_ U1 hb
  replace B := hide (Below.then_ B.out hb)
  replace R_x := hide R_x
  replace R_xd := hide R_xd
  clear hb
  have hbx : Below w2.heap.size w2 (w2.alloc (.cells #[.bool (zneg q_a.num), .slice A_x (dig (zmag q_a.num)).length c_x, .slice A_xd (dig q_a.den).length c_xd] 27)) := ((Below.refl _ _).alloc (Nat.le_refl _) _)
  have Ux := Below.then_ U2 hbx
  go_wp2_with fail
  obtain ⟨V2, hV⟩ : ∃ V, V = (w2.alloc (.cells #[.bool (zneg q_a.num), .slice A_x (dig (zmag q_a.num)).length c_x, .slice A_xd (dig q_a.den).length c_xd] 27)) := ⟨_, rfl⟩
  obtain ⟨g_x, hg_x⟩ : ∃ g, g = w2.heap.size := ⟨_, rfl⟩
  rw [← hV]
  rw [← hV] at hbx Ux
  rw [← hg_x]
  have b_x : Box3 V2 g_x (.bool (zneg q_a.num)) (.slice A_x (dig (zmag q_a.num)).length c_x) (.slice A_xd (dig q_a.den).length c_xd) := by rw [hV]; exact (Box3.new _ _ _ _ hg_x)
  clear hV
  have ne_a_x : w.heap.size ≠ g_x := by have := (b_a.out.lt b_a.out.lt_size (Nat.le_refl _)) _ U2; omega
  replace ne_a_x := hide ne_a_x
  have ge_x : w.heap.size ≤ g_x := by have := B.out.size; omega
  replace ge_x := hide ge_x
  clear hg_x
  replace R_a := hide (Rd.then_ R_a.out hbx)
  replace R_ad := hide (Rd.then_ R_ad.out hbx)
  replace R_x := hide (Rd.then_ R_x.out hbx)
  replace R_xd := hide (Rd.then_ R_xd.out hbx)
  have U3 : Below W.heap.size W V2 := Below.then_ U2 hbx
  replace B := hide (Below.then_ B.out hbx)
  clear hbx
  replace b_a := hide (Box3.keep b_a.out U3)
  clear c_a0 c_a1 c_a2
  replace b_x := hide b_x
  have U4 : Below V2.heap.size V2 V2 := Below.refl _ _
  have c_a0 := b_a.out.at0 b_a.out.lt_size (Nat.le_refl _)
  have c_a1 := b_a.out.at1 b_a.out.lt_size (Nat.le_refl _)
  have c_a2 := b_a.out.at2 b_a.out.lt_size (Nat.le_refl _)
  have c_x0 := b_x.out.at0 b_x.out.lt_size (Nat.le_refl _)
  have c_x1 := b_x.out.at1 b_x.out.lt_size (Nat.le_refl _)
  have c_x2 := b_x.out.at2 b_x.out.lt_size (Nat.le_refl _)
  refine (print_any _ _ _ _ _ _ R_x.out (Nat.le_refl _) gp.out.1).mono ?_
  rw [e_sn.out]
  rintro e w3 ⟨rfl, hb⟩
  replace R_a := hide (Rd.then_ R_a.out hb)
  replace R_ad := hide (Rd.then_ R_ad.out hb)
  replace R_x := hide (Rd.then_ R_x.out hb)
  replace R_xd := hide (Rd.then_ R_xd.out hb)
  have U5 : Below V2.heap.size V2 w3 := Below.then_ U4 hb
  replace B := hide (Below.then_ B.out hb)
  clear hb
  go_wp2_with fail
  refine (print_any _ _ _ _ _ _ R_xd.out (Nat.le_refl _) gp.out.2).mono ?_
  rw [e_sd.out]
  rintro e w4 ⟨rfl, hb⟩
  replace R_a := hide (Rd.then_ R_a.out hb)
  replace R_ad := hide (Rd.then_ R_ad.out hb)
  replace R_x := hide (Rd.then_ R_x.out hb)
  replace R_xd := hide (Rd.then_ R_xd.out hb)
  have U6 : Below V2.heap.size V2 w4 := Below.then_ U5 hb
  replace B := hide (Below.then_ B.out hb)
  clear hb
  go_wp2_with fail
  refine (pprint3_any R_a.out b_al.out.1 R_ad.out b_al.out.2 (Nat.le_refl _) e_a.out).mono ?_
  rw [e_qs.out]
  rintro e w5 ⟨rfl, hb⟩
  replace R_a := hide (Rd.then_ R_a.out hb)
  replace R_ad := hide (Rd.then_ R_ad.out hb)
  replace R_x := hide (Rd.then_ R_x.out hb)
  replace R_xd := hide (Rd.then_ R_xd.out hb)
  have U7 : Below V2.heap.size V2 w5 := Below.then_ U6 hb
  replace B := hide (Below.then_ B.out hb)
  clear hb
  go_wp2_with fail
  refine (hp.out _).mono ?_
  rintro e w6 ⟨A_y, c_y, A_yd, c_yd, rfl, R_y, R_yd, hb⟩
  replace R_a := hide (Rd.then_ R_a.out hb)
  replace R_ad := hide (Rd.then_ R_ad.out hb)
  replace R_x := hide (Rd.then_ R_x.out hb)
  replace R_xd := hide (Rd.then_ R_xd.out hb)
  have U8 : Below V2.heap.size V2 w6 := Below.then_ U7 hb
  replace B := hide (Below.then_ B.out hb)
  replace R_y := hide R_y
  replace R_yd := hide R_yd
  clear hb
  have hbx : Below w6.heap.size w6 (w6.alloc (.cells #[.bool (zneg q_a.num), .slice A_y (dig (zmag q_a.num)).length c_y, .slice A_yd (dig q_a.den).length c_yd] 27)) := ((Below.refl _ _).alloc (Nat.le_refl _) _)
  have Ux := Below.then_ U8 hbx
  go_wp2_with fail
  obtain ⟨V8, hV⟩ : ∃ V, V = (w6.alloc (.cells #[.bool (zneg q_a.num), .slice A_y (dig (zmag q_a.num)).length c_y, .slice A_yd (dig q_a.den).length c_yd] 27)) := ⟨_, rfl⟩
  obtain ⟨g_y, hg_y⟩ : ∃ g, g = w6.heap.size := ⟨_, rfl⟩
  rw [← hV]
  rw [← hV] at hbx Ux
  rw [← hg_y]
  have b_y : Box3 V8 g_y (.bool (zneg q_a.num)) (.slice A_y (dig (zmag q_a.num)).length c_y) (.slice A_yd (dig q_a.den).length c_yd) := by rw [hV]; exact (Box3.new _ _ _ _ hg_y)
  clear hV
  have ne_a_y : w.heap.size ≠ g_y := by have := (b_a.out.lt b_a.out.lt_size (Nat.le_refl _)) _ U8; omega
  replace ne_a_y := hide ne_a_y
  have ne_x_y : g_x ≠ g_y := by have := (b_x.out.lt b_x.out.lt_size (Nat.le_refl _)) _ U8; omega
  replace ne_x_y := hide ne_x_y
  have ge_y : w.heap.size ≤ g_y := by have := B.out.size; omega
  replace ge_y := hide ge_y
  clear hg_y
  replace R_a := hide (Rd.then_ R_a.out hbx)
  replace R_ad := hide (Rd.then_ R_ad.out hbx)
  replace R_x := hide (Rd.then_ R_x.out hbx)
  replace R_xd := hide (Rd.then_ R_xd.out hbx)
  replace R_y := hide (Rd.then_ R_y.out hbx)
  replace R_yd := hide (Rd.then_ R_yd.out hbx)
  have U9 : Below V2.heap.size V2 V8 := Below.then_ U8 hbx
  replace B := hide (Below.then_ B.out hbx)
  clear hbx
  replace b_a := hide (Box3.keep b_a.out U9)
  clear c_a0 c_a1 c_a2
  replace b_x := hide (Box3.keep b_x.out U9)
  clear c_x0 c_x1 c_x2
  replace b_y := hide b_y
  have U10 : Below V8.heap.size V8 V8 := Below.refl _ _
  have c_a0 := b_a.out.at0 b_a.out.lt_size (Nat.le_refl _)
  have c_a1 := b_a.out.at1 b_a.out.lt_size (Nat.le_refl _)
  have c_a2 := b_a.out.at2 b_a.out.lt_size (Nat.le_refl _)
  have c_x0 := b_x.out.at0 b_x.out.lt_size (Nat.le_refl _)
  have c_x1 := b_x.out.at1 b_x.out.lt_size (Nat.le_refl _)
  have c_x2 := b_x.out.at2 b_x.out.lt_size (Nat.le_refl _)
  have c_y0 := b_y.out.at0 b_y.out.lt_size (Nat.le_refl _)
  have c_y1 := b_y.out.at1 b_y.out.lt_size (Nat.le_refl _)
  have c_y2 := b_y.out.at2 b_y.out.lt_size (Nat.le_refl _)
  refine (normal_any R_y.out gx.out.1 R_yd.out gx.out.2 (Nat.le_refl _)).mono ?_
  rintro e w7 ⟨rfl, hb⟩
  replace R_a := hide (Rd.then_ R_a.out hb)
  replace R_ad := hide (Rd.then_ R_ad.out hb)
  replace R_x := hide (Rd.then_ R_x.out hb)
  replace R_xd := hide (Rd.then_ R_xd.out hb)
  replace R_y := hide (Rd.then_ R_y.out hb)
  replace R_yd := hide (Rd.then_ R_yd.out hb)
  have U11 : Below V8.heap.size V8 w7 := Below.then_ U10 hb
  replace B := hide (Below.then_ B.out hb)
  clear hb
  go_wp2_with fail
  refine (same_t R_x.out R_xd.out R_y.out R_yd.out (Nat.le_refl _) rfl).mono ?_
  rintro e w8 ⟨rfl, hb⟩
  replace R_a := hide (Rd.then_ R_a.out hb)
  replace R_ad := hide (Rd.then_ R_ad.out hb)
  replace R_x := hide (Rd.then_ R_x.out hb)
  replace R_xd := hide (Rd.then_ R_xd.out hb)
  replace R_y := hide (Rd.then_ R_y.out hb)
  replace R_yd := hide (Rd.then_ R_yd.out hb)
  have U12 : Below V8.heap.size V8 w8 := Below.then_ U11 hb
  replace B := hide (Below.then_ B.out hb)
  clear hb
  go_wp2
  go_ret
  exact ⟨rfl, B.out⟩

theorem round_walk {w : World} {Bd : Nat} {A_a : Option Addr} {n_a c_a : Nat} {x_a : List Nat} {s_a : Bool} {A_ad : Option Addr} {n_ad c_ad : Nat} {x_ad : List Nat} (h_a : Rd w Bd A_a n_a c_a x_a) (g_a : n_a ≤ 40) (h_ad : Rd w Bd A_ad n_ad c_ad x_ad) (g_ad : n_ad ≤ 40) (hB : Bd ≤ w.heap.size) : Calls Try.prog 11 #[.agg #[.bool s_a, .slice A_a n_a c_a, .slice A_ad n_ad c_ad]] w (RetB w (.bool true)) := by
  by_cases hn : (dec (zmag (qv s_a (val x_a) (val x_ad)).num)).length ≤ 400
  · by_cases hd : (dec (qv s_a (val x_a) (val x_ad)).den).length ≤ 400
    · exact round_ok h_a g_a h_ad g_ad hB hn hd
    · exact round_den h_a g_a h_ad g_ad hB hn hd
  · exact round_num h_a g_a h_ad g_ad hB hn

set_option maxHeartbeats 4000000 in
theorem round_walk_big0 {w : World} {A_a : Option Addr} {n_a c_a : Nat} {s_a : Bool} {A_ad : Option Addr} {n_ad c_ad : Nat}  (g : ¬ (n_a ≤ 40 ∧ n_ad ≤ 40)) :
    Calls Try.prog 11 #[.agg #[.bool s_a, .slice A_a n_a c_a, .slice A_ad n_ad c_ad]] w (RetB w (.bool true)) := by
  obtain ⟨W, hW⟩ : ∃ W, W = (w.alloc (.cells #[.bool s_a, .slice A_a n_a c_a, .slice A_ad n_ad c_ad] 27)) := ⟨_, rfl⟩
  have b_a : Box3 W (w.heap.size) (.bool s_a) (.slice A_a n_a c_a) (.slice A_ad n_ad c_ad) := by rw [hW]; exact (Box3.new w _ _ _ rfl)
  have hwW : Below w.heap.size w W := by rw [hW]; exact ((Below.refl _ _).alloc (Nat.le_refl _) _)
  have B := hide hwW
  clear hwW
  have U0 : Below W.heap.size W W := Below.refl _ _
  have c_a0 := b_a.at0 b_a.lt_size (Nat.le_refl _)
  have c_a1 := b_a.at1 b_a.lt_size (Nat.le_refl _)
  have c_a2 := b_a.at2 b_a.lt_size (Nat.le_refl _)
  replace b_a := hide b_a
  go_enter Try.func11, Try.ntmps11
  go_wp2_with fail
  rw [← hW]
  clear hW
  refine (large_yes g).mono ?_
  rintro e w1 ⟨rfl, hb⟩
  have U1 : Below W.heap.size W w1 := Below.then_ U0 hb
  replace B := hide (Below.then_ B.out hb)
  clear hb
  go_wp2
  go_ret
  exact ⟨rfl, B.out⟩

theorem round_walk_all {w : World} {A_a A_ad : Option Addr} {n_a c_a n_ad c_ad : Nat} {x_a x_ad : List Nat} {s_a : Bool} (h_a : n_a ≤ 70368744177664 → Rd w w.heap.size A_a n_a c_a x_a) (h_ad : n_ad ≤ 70368744177664 → Rd w w.heap.size A_ad n_ad c_ad x_ad) :
    Calls Try.prog 11 #[.agg #[.bool s_a, .slice A_a n_a c_a, .slice A_ad n_ad c_ad]] w (RetB w (.bool true)) := by
  by_cases g0 : n_a ≤ 40 ∧ n_ad ≤ 40
  case neg => exact round_walk_big0  g0
  exact round_walk (h_a (by omega)) g0.1 (h_ad (by omega)) g0.2 (Nat.le_refl _)

end Go.Proofs.Ytieopcchchebgaa
