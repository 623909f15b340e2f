/-
  RatioTexts.
-/
import Derived.Test.YtieopcchchebgaaRParse3
import Derived.Test.YtieopcchchebgaaLaw3
namespace Go.Proofs.Ytieopcchchebgaa
open Go.RowKit


/-- Parse at any string, program and reference -/
theorem rat_par (s : ByteArray) (hs : s.size ≤ 4611686018427387904) : ∃ (q : Rat) (k : Int), (∀ w, Calls Try.prog 43 #[.string s] w (RetRV w q k)) ∧ (∀ w, Calls Try.prog 44 #[.string s] w (RetRV w q k)) := by
  rcases slash_cases s with h | ⟨i, h⟩
  · obtain ⟨z, k, hp, hr, _, hl⟩ := par_z s (by omega)
    have hc := cut_any (scut_miss h)
    by_cases hk : k = 0
    · subst hk
      exact ⟨_, 0, fun w => pparse_int hc hp rfl rfl (by omega), fun w => rparse3_int hs hr h rfl rfl (by omega)⟩
    · exact ⟨0, k, fun w => pparse_num hc hp hk rfl, fun w => rparse3_int_err hs hr h hk rfl⟩
  · have hi := h.1
    obtain ⟨z, k, hp, hr, _, hl⟩ := par_z (s.extract 0 i) (by rw [size_ext (by omega)]; omega)
    obtain ⟨m, k', hp', hr', _, hl'⟩ := nat_par (s.extract (i + 1) s.size) (by rw [size_ext (Nat.le_refl _)]; omega)
    have hc := cut_any (scut_hit (by omega) h)
    by_cases hk : k = 0
    · by_cases hk' : k' = 0
      · by_cases hm : m = 0
        · exact ⟨0, 2, fun w => pparse_zero hc hp hk hp' hk' hm rfl, fun w => rparse3_zero hs hr h hr' hk hk' hm rfl⟩
        · exact ⟨_, 0, fun w => pparse_both hc hp hk hp' hk' hm rfl (by omega) (by omega), fun w => rparse3_both hs hr h hr' hk hk' hm rfl (by omega) (by omega)⟩
      · exact ⟨0, k', fun w => pparse_den hc hp hk hp' hk' rfl, fun w => rparse3_den hs hr h hr' hk hk' rfl⟩
    · exact ⟨0, k, fun w => pparse_num hc hp hk rfl, fun w => rparse3_num hs hr h hk rfl⟩

set_option maxHeartbeats 4000000 in
theorem texts_small {w : World} {s : ByteArray}  (hs : s.size ≤ 2000) :
    Calls Try.prog 7 #[.string s] w (RetB w (.bool true)) := by
  obtain ⟨q, k, hp, hr⟩ := rat_par s (by omega)
  replace hp := hide hp
  replace hr := hide hr
  have h2 : decide ((2000 : Int) < (s.size : Int)) = false := by simp; omega
  have B := hide (Below.refl w.heap.size w)
  have U0 : Below w.heap.size w w := Below.refl _ _
  go_enter Try.func7, Try.ntmps7
  go_wp2_with fail
  refine (hp.out _).mono ?_
  rintro e w1 ⟨A_x, c_x, A_xd, c_xd, rfl, R_x, R_xd, hb⟩
  have U1 : Below w.heap.size w w1 := Below.then_ U0 hb
  replace B := hide (Below.then_ B.out hb)
  replace R_x := hide R_x
  replace R_xd := hide R_xd
  clear hb
  have hbx : Below w1.heap.size w1 (w1.alloc (.cells #[.bool (zneg q.num), .slice A_x (dig (zmag q.num)).length c_x, .slice A_xd (dig q.den).length c_xd] 27)) := ((Below.refl _ _).alloc (Nat.le_refl _) _)
  have Ux := Below.then_ U1 hbx
  go_wp2_with fail
  obtain ⟨V1, hV⟩ : ∃ V, V = (w1.alloc (.cells #[.bool (zneg q.num), .slice A_x (dig (zmag q.num)).length c_x, .slice A_xd (dig q.den).length c_xd] 27)) := ⟨_, rfl⟩
  obtain ⟨g_x, hg_x⟩ : ∃ g, g = w1.heap.size := ⟨_, rfl⟩
  rw [← hV]
  rw [← hV] at hbx Ux
  rw [← hg_x]
  have b_x : Box3 V1 g_x (.bool (zneg q.num)) (.slice A_x (dig (zmag q.num)).length c_x) (.slice A_xd (dig q.den).length c_xd) := by rw [hV]; exact (Box3.new _ _ _ _ hg_x)
  clear hV
  have ge_x : w.heap.size ≤ g_x := by have := B.out.size; omega
  replace ge_x := hide ge_x
  clear hg_x
  replace R_x := hide (Rd.then_ R_x.out hbx)
  replace R_xd := hide (Rd.then_ R_xd.out hbx)
  have U2 : Below w.heap.size w V1 := Below.then_ U1 hbx
  replace B := hide (Below.then_ B.out hbx)
  clear hbx
  replace b_x := hide b_x
  have U3 : Below V1.heap.size V1 V1 := Below.refl _ _
  have c_x0 := b_x.out.at0 b_x.out.lt_size (Nat.le_refl _)
  have c_x1 := b_x.out.at1 b_x.out.lt_size (Nat.le_refl _)
  have c_x2 := b_x.out.at2 b_x.out.lt_size (Nat.le_refl _)
  refine (hr.out _).mono ?_
  rintro e w2 ⟨A_y, c_y, A_yd, c_yd, rfl, R_y, R_yd, hb⟩
  replace R_x := hide (Rd.then_ R_x.out hb)
  replace R_xd := hide (Rd.then_ R_xd.out hb)
  have U4 : Below V1.heap.size V1 w2 := Below.then_ U3 hb
  replace B := hide (Below.then_ B.out hb)
  replace R_y := hide R_y
  replace R_yd := hide R_yd
  clear hb
  have hbx : Below w2.heap.size w2 (w2.alloc (.cells #[.bool (zneg q.num), .slice A_y (dig (zmag q.num)).length c_y, .slice A_yd (dig q.den).length c_yd] 27)) := ((Below.refl _ _).alloc (Nat.le_refl _) _)
  have Ux := Below.then_ U4 hbx
  go_wp2_with fail
  obtain ⟨V4, hV⟩ : ∃ V, V = (w2.alloc (.cells #[.bool (zneg q.num), .slice A_y (dig (zmag q.num)).length c_y, .slice A_yd (dig q.den).length c_yd] 27)) := ⟨_, rfl⟩
  obtain ⟨g_y, hg_y⟩ : ∃ g, g = w2.heap.size := ⟨_, rfl⟩
  rw [← hV]
  rw [← hV] at hbx Ux
  rw [← hg_y]
  have b_y : Box3 V4 g_y (.bool (zneg q.num)) (.slice A_y (dig (zmag q.num)).length c_y) (.slice A_yd (dig q.den).length c_yd) := by rw [hV]; exact (Box3.new _ _ _ _ hg_y)
  clear hV
  have ne_x_y : g_x ≠ g_y := by have := (b_x.out.lt b_x.out.lt_size (Nat.le_refl _)) _ U4; omega
  replace ne_x_y := hide ne_x_y
  have ge_y : w.heap.size ≤ g_y := by have := B.out.size; omega
  replace ge_y := hide ge_y
  clear hg_y
  replace R_x := hide (Rd.then_ R_x.out hbx)
  replace R_xd := hide (Rd.then_ R_xd.out hbx)
  replace R_y := hide (Rd.then_ R_y.out hbx)
  replace R_yd := hide (Rd.then_ R_yd.out hbx)
  have U5 : Below V1.heap.size V1 V4 := Below.then_ U4 hbx
  replace B := hide (Below.then_ B.out hbx)
  clear hbx
  replace b_x := hide (Box3.keep b_x.out U5)
  clear c_x0 c_x1 c_x2
  replace b_y := hide b_y
  have U6 : Below V4.heap.size V4 V4 := Below.refl _ _
  have c_x0 := b_x.out.at0 b_x.out.lt_size (Nat.le_refl _)
  have c_x1 := b_x.out.at1 b_x.out.lt_size (Nat.le_refl _)
  have c_x2 := b_x.out.at2 b_x.out.lt_size (Nat.le_refl _)
  have c_y0 := b_y.out.at0 b_y.out.lt_size (Nat.le_refl _)
  have c_y1 := b_y.out.at1 b_y.out.lt_size (Nat.le_refl _)
  have c_y2 := b_y.out.at2 b_y.out.lt_size (Nat.le_refl _)
  refine (same_t R_x.out R_xd.out R_y.out R_yd.out (Nat.le_refl _) rfl).mono ?_
  rintro e w3 ⟨rfl, hb⟩
  replace R_x := hide (Rd.then_ R_x.out hb)
  replace R_xd := hide (Rd.then_ R_xd.out hb)
  replace R_y := hide (Rd.then_ R_y.out hb)
  replace R_yd := hide (Rd.then_ R_yd.out hb)
  have U7 : Below V4.heap.size V4 w3 := Below.then_ U6 hb
  replace B := hide (Below.then_ B.out hb)
  clear hb
  go_wp2
  go_ret
  exact ⟨rfl, B.out⟩

set_option maxHeartbeats 4000000 in
theorem texts_big {w : World} {s : ByteArray}  (hs : ¬ s.size ≤ 2000) :
    Calls Try.prog 7 #[.string s] w (RetB w (.bool true)) := by
  have h2 : decide ((2000 : Int) < (s.size : Int)) = true := by simp; omega
  have B := hide (Below.refl w.heap.size w)
  have U0 : Below w.heap.size w w := Below.refl _ _
  go_enter Try.func7, Try.ntmps7
  go_wp2_with fail
  go_wp2
  go_ret
  exact ⟨rfl, B.out⟩

theorem texts_all {w : World} {s : ByteArray} : Calls Try.prog 7 #[.string s] w (RetB w (.bool true)) := by
  by_cases hs : s.size ≤ 2000
  · exact texts_small hs
  · exact texts_big hs

end Go.Proofs.Ytieopcchchebgaa
