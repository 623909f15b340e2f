/-
  Dec4, Dec5, Dec6.
-/
import Derived.Test.YtdlmfembnmomjaaGreatDoorDecA
import Derived.Test.YtdlmfembnmomjaaGreatDoorTextB
namespace Go.Proofs.YtdlmfembnmomjaaGreatDoor
section
open Go.RowKit


set_option maxHeartbeats 4000000 in
theorem pround_place {w : World} {Bd : Nat} {A_a : Option Addr} {n_a c_a : Nat} {x_a : List Nat} {s_a : Bool} {A_ad : Option Addr} {n_ad c_ad : Nat} {x_ad : List Nat} {p m : Int} (h_a : Rd w Bd A_a n_a c_a x_a) (_g_a : n_a ≤ 1000000000) (h_ad : Rd w Bd A_ad n_ad c_ad x_ad) (_g_ad : n_ad ≤ 1000000000) (hB : Bd ≤ w.heap.size) (hp : ¬ (0 ≤ p ∧ p ≤ 9)) :
    Calls Tryz.prog 9 #[.agg #[.bool s_a, .slice A_a n_a c_a, .slice A_ad n_ad c_ad], .int .i64 p, .int .i64 m] w (RetDec w 0 0 3) := by
  replace hp := hide hp
  obtain ⟨W, hW⟩ : ∃ W, W = ((w.alloc (.cells #[.bool s_a, .slice A_a n_a c_a, .slice A_ad n_ad c_ad] 27)).alloc (.cells #[.bool false, .slice none 0 0, .int .i64 0] 29)) := ⟨_, rfl⟩
  have b_a : Box3 W (w.heap.size) (.bool s_a) (.slice A_a n_a c_a) (.slice A_ad n_ad c_ad) := by rw [hW]; exact ((Box3.new w _ _ _ rfl).al _)
  have b_r0 : BoxD W (w.heap.size + 1) (.bool false) (.slice none 0 0) (.int .i64 0) := by rw [hW]; exact (BoxD.new _ _ _ _ (by simp))
  have hwW : Below w.heap.size w W := by rw [hW]; exact (((Below.refl _ _).alloc (Nat.le_refl _) _).alloc (by simp) _)
  have R_a := hide (Rd.upto h_a hwW hB)
  clear h_a
  have R_ad := hide (Rd.upto h_ad hwW hB)
  clear h_ad
  have B := hide hwW
  clear hwW
  clear hB
  have U0 : Below W.heap.size W W := Below.refl _ _
  have c_a0 := b_a.at0 b_a.lt_size (Nat.le_refl _)
  have c_a1 := b_a.at1 b_a.lt_size (Nat.le_refl _)
  have c_a2 := b_a.at2 b_a.lt_size (Nat.le_refl _)
  replace b_a := hide b_a
  have c_r00 := b_r0.at0 b_r0.lt_size (Nat.le_refl _)
  have c_r01 := b_r0.at1 b_r0.lt_size (Nat.le_refl _)
  have c_r02 := b_r0.at2 b_r0.lt_size (Nat.le_refl _)
  have f_r00 := b_r0.free0 b_r0.lt_size (Nat.le_refl _)
  have f_r01 := b_r0.free1 b_r0.lt_size (Nat.le_refl _)
  have f_r02 := b_r0.free2 b_r0.lt_size (Nat.le_refl _)
  have l_r0 := b_r0.lt b_r0.lt_size (Nat.le_refl _)
  replace b_r0 := hide b_r0
  go_enter Tryz.func9, Tryz.ntmps9
  go_wp2_with fail
  rw [← hW]
  clear hW
  refine (isplaces_no hp.out).mono ?_
  rintro e w1 ⟨rfl, hb⟩
  replace R_a := hide (Rd.then_ R_a.out hb)
  replace R_ad := hide (Rd.then_ R_ad.out hb)
  have U1 : Below W.heap.size W w1 := Below.then_ U0 hb
  replace B := hide (Below.then_ B.out hb)
  clear hb
  go_wp2
  exact bodyPost_ret (v := .tuple #[.agg #[.bool false, .slice none 0 0, .int .i64 0], .int .i64 3]) (by simp [results, Tryz.results9, go_sem, c_r00 _ U1, c_r01 _ U1, c_r02 _ U1]) rfl (RetDec.zero B.out (by omega) (c_r00 _ U1) (c_r01 _ U1) (c_r02 _ U1))

set_option maxHeartbeats 4000000 in
theorem pround_mode {w : World} {Bd : Nat} {A_a : Option Addr} {n_a c_a : Nat} {x_a : List Nat} {s_a : Bool} {A_ad : Option Addr} {n_ad c_ad : Nat} {x_ad : List Nat} {p m : Int} (h_a : Rd w Bd A_a n_a c_a x_a) (_g_a : n_a ≤ 1000000000) (h_ad : Rd w Bd A_ad n_ad c_ad x_ad) (_g_ad : n_ad ≤ 1000000000) (hB : Bd ≤ w.heap.size) (h0 : 0 ≤ p) (h9 : p ≤ 9) (hm : ¬ (1 ≤ m ∧ m ≤ 7)) :
    Calls Tryz.prog 9 #[.agg #[.bool s_a, .slice A_a n_a c_a, .slice A_ad n_ad c_ad], .int .i64 p, .int .i64 m] w (RetDec w 0 0 1) := by
  replace h0 := hide h0
  replace h9 := hide h9
  replace hm := hide hm
  obtain ⟨W, hW⟩ : ∃ W, W = ((w.alloc (.cells #[.bool s_a, .slice A_a n_a c_a, .slice A_ad n_ad c_ad] 27)).alloc (.cells #[.bool false, .slice none 0 0, .int .i64 0] 29)) := ⟨_, rfl⟩
  have b_a : Box3 W (w.heap.size) (.bool s_a) (.slice A_a n_a c_a) (.slice A_ad n_ad c_ad) := by rw [hW]; exact ((Box3.new w _ _ _ rfl).al _)
  have b_r0 : BoxD W (w.heap.size + 1) (.bool false) (.slice none 0 0) (.int .i64 0) := by rw [hW]; exact (BoxD.new _ _ _ _ (by simp))
  have hwW : Below w.heap.size w W := by rw [hW]; exact (((Below.refl _ _).alloc (Nat.le_refl _) _).alloc (by simp) _)
  have R_a := hide (Rd.upto h_a hwW hB)
  clear h_a
  have R_ad := hide (Rd.upto h_ad hwW hB)
  clear h_ad
  have B := hide hwW
  clear hwW
  clear hB
  have U0 : Below W.heap.size W W := Below.refl _ _
  have c_a0 := b_a.at0 b_a.lt_size (Nat.le_refl _)
  have c_a1 := b_a.at1 b_a.lt_size (Nat.le_refl _)
  have c_a2 := b_a.at2 b_a.lt_size (Nat.le_refl _)
  replace b_a := hide b_a
  have c_r00 := b_r0.at0 b_r0.lt_size (Nat.le_refl _)
  have c_r01 := b_r0.at1 b_r0.lt_size (Nat.le_refl _)
  have c_r02 := b_r0.at2 b_r0.lt_size (Nat.le_refl _)
  have f_r00 := b_r0.free0 b_r0.lt_size (Nat.le_refl _)
  have f_r01 := b_r0.free1 b_r0.lt_size (Nat.le_refl _)
  have f_r02 := b_r0.free2 b_r0.lt_size (Nat.le_refl _)
  have l_r0 := b_r0.lt b_r0.lt_size (Nat.le_refl _)
  replace b_r0 := hide b_r0
  go_enter Tryz.func9, Tryz.ntmps9
  go_wp2_with fail
  rw [← hW]
  clear hW
  refine (isplaces_yes h0.out h9.out).mono ?_
  rintro e w1 ⟨rfl, hb⟩
  replace R_a := hide (Rd.then_ R_a.out hb)
  replace R_ad := hide (Rd.then_ R_ad.out hb)
  have U1 : Below W.heap.size W w1 := Below.then_ U0 hb
  replace B := hide (Below.then_ B.out hb)
  clear hb
  go_wp2_with fail
  refine (ismode_no hm.out).mono ?_
  rintro e w2 ⟨rfl, hb⟩
  replace R_a := hide (Rd.then_ R_a.out hb)
  replace R_ad := hide (Rd.then_ R_ad.out hb)
  have U2 : Below W.heap.size W w2 := Below.then_ U1 hb
  replace B := hide (Below.then_ B.out hb)
  clear hb
  go_wp2
  exact bodyPost_ret (v := .tuple #[.agg #[.bool false, .slice none 0 0, .int .i64 0], .int .i64 1]) (by simp [results, Tryz.results9, go_sem, c_r00 _ U2, c_r01 _ U2, c_r02 _ U2]) rfl (RetDec.zero B.out (by omega) (c_r00 _ U2) (c_r01 _ U2) (c_r02 _ U2))

set_option maxHeartbeats 4000000 in
theorem pround_zero {w : World} {Bd : Nat} {A_a : Option Addr} {n_a c_a : Nat} {x_a : List Nat} {s_a : Bool} {A_ad : Option Addr} {n_ad c_ad : Nat} {x_ad : List Nat} {p : Nat} {m : Int} (h_a : Rd w Bd A_a n_a c_a x_a) (g_a : n_a ≤ 1000000000) (h_ad : Rd w Bd A_ad n_ad c_ad x_ad) (_g_ad : n_ad ≤ 1000000000) (hB : Bd ≤ w.heap.size) (h9 : p ≤ 9) (h1 : 1 ≤ m) (h7 : m ≤ 7) (h0 : val x_ad = 0) :
    Calls Tryz.prog 9 #[.agg #[.bool s_a, .slice A_a n_a c_a, .slice A_ad n_ad c_ad], .int .i64 (p : Int), .int .i64 m] w (RetDec w 0 (p : Int) 0) := by
  obtain ⟨T, e_T⟩ : ∃ new, 10 ^ p = new := ⟨_, rfl⟩
  replace e_T := hide e_T
  have lT : T < pw 1 := by rw [← e_T.out]; exact Nat.lt_of_le_of_lt (Nat.pow_le_pow_right (by omega) h9) (by decide)
  have g1 : n_a + (dig T).length ≤ 70368744177664 := by have := dl lT; omega
  replace g1 := hide g1
  obtain ⟨z1, e_z1⟩ : ∃ new, iv s_a (val x_a) * iv false (val (dig T)) = new := ⟨_, rfl⟩
  replace e_z1 := hide e_z1
  have l_z1 : zmag z1 < pw (n_a + 1) := by rw [← e_z1.out]; exact zl_mul (zl_iv h_a.lt) (zl_iv (by rw [val_dig]; exact lT))
  have e_z1' : iv s_a (val x_a) * ((10 ^ p : Nat) : Int) = z1 := by rw [e_T.out, ← e_z1.out, val_dig, iv_false]
  have g2 : (dig (zmag z1)).length + 1 ≤ 70368744177664 := by have := zl l_z1; omega
  replace g2 := hide g2
  have e_s : sgn (iv (zneg 0) (val (dig (zmag 0)))) = 0 := by rw [ivz, sgn_zero]
  replace e_s := hide e_s
  have f0 : (0 : Int) ≤ (p : Int) := by omega
  replace f0 := hide f0
  have f9 : (p : Int) ≤ 9 := by omega
  replace f9 := hide f9
  clear l_z1 e_z1'
  replace h0 := hide h0
  replace h1 := hide h1
  replace h7 := hide h7
  replace h9 := hide h9
  replace lT := hide lT
  obtain ⟨W, hW⟩ : ∃ W, W = ((w.alloc (.cells #[.bool s_a, .slice A_a n_a c_a, .slice A_ad n_ad c_ad] 27)).alloc (.cells #[.bool false, .slice none 0 0, .int .i64 0] 29)) := ⟨_, rfl⟩
  have b_a : Box3 W (w.heap.size) (.bool s_a) (.slice A_a n_a c_a) (.slice A_ad n_ad c_ad) := by rw [hW]; exact ((Box3.new w _ _ _ rfl).al _)
  have b_r0 : BoxD W (w.heap.size + 1) (.bool false) (.slice none 0 0) (.int .i64 0) := by rw [hW]; exact (BoxD.new _ _ _ _ (by simp))
  have hwW : Below w.heap.size w W := by rw [hW]; exact (((Below.refl _ _).alloc (Nat.le_refl _) _).alloc (by simp) _)
  have R_a := hide (Rd.upto h_a hwW hB)
  clear h_a
  have R_ad := hide (Rd.upto h_ad hwW hB)
  clear h_ad
  have B := hide hwW
  clear hwW
  clear hB
  have U0 : Below W.heap.size W W := Below.refl _ _
  have c_a0 := b_a.at0 b_a.lt_size (Nat.le_refl _)
  have c_a1 := b_a.at1 b_a.lt_size (Nat.le_refl _)
  have c_a2 := b_a.at2 b_a.lt_size (Nat.le_refl _)
  replace b_a := hide b_a
  have c_r00 := b_r0.at0 b_r0.lt_size (Nat.le_refl _)
  have c_r01 := b_r0.at1 b_r0.lt_size (Nat.le_refl _)
  have c_r02 := b_r0.at2 b_r0.lt_size (Nat.le_refl _)
  have f_r00 := b_r0.free0 b_r0.lt_size (Nat.le_refl _)
  have f_r01 := b_r0.free1 b_r0.lt_size (Nat.le_refl _)
  have f_r02 := b_r0.free2 b_r0.lt_size (Nat.le_refl _)
  have l_r0 := b_r0.lt b_r0.lt_size (Nat.le_refl _)
  replace b_r0 := hide b_r0
  go_enter Tryz.func9, Tryz.ntmps9
  go_wp2_with fail
  rw [← hW]
  clear hW
  refine (isplaces_yes f0.out f9.out).mono ?_
  rintro e w1 ⟨rfl, hb⟩
  replace R_a := hide (Rd.then_ R_a.out hb)
  replace R_ad := hide (Rd.then_ R_ad.out hb)
  have U1 : Below W.heap.size W w1 := Below.then_ U0 hb
  replace B := hide (Below.then_ B.out hb)
  clear hb
  go_wp2_with fail
  refine (ismode_yes h1.out h7.out).mono ?_
  rintro e w2 ⟨rfl, hb⟩
  replace R_a := hide (Rd.then_ R_a.out hb)
  replace R_ad := hide (Rd.then_ R_ad.out hb)
  have U2 : Below W.heap.size W w2 := Below.then_ U1 hb
  replace B := hide (Below.then_ B.out hb)
  clear hb
  go_wp2_with fail
  replace b_a := hide (Box3.keep b_a.out U2)
  clear c_a0 c_a1 c_a2
  replace b_r0 := hide (BoxD.keep b_r0.out U2)
  clear c_r00 c_r01 c_r02 f_r00 f_r01 f_r02 l_r0
  have U3 : Below w2.heap.size w2 w2 := Below.refl _ _
  have c_a0 := b_a.out.at0 b_a.out.lt_size (Nat.le_refl _)
  have c_a1 := b_a.out.at1 b_a.out.lt_size (Nat.le_refl _)
  have c_a2 := b_a.out.at2 b_a.out.lt_size (Nat.le_refl _)
  have c_r00 := b_r0.out.at0 b_r0.out.lt_size (Nat.le_refl _)
  have c_r01 := b_r0.out.at1 b_r0.out.lt_size (Nat.le_refl _)
  have c_r02 := b_r0.out.at2 b_r0.out.lt_size (Nat.le_refl _)
  have f_r00 := b_r0.out.free0 b_r0.out.lt_size (Nat.le_refl _)
  have f_r01 := b_r0.out.free1 b_r0.out.lt_size (Nat.le_refl _)
  have f_r02 := b_r0.out.free2 b_r0.out.lt_size (Nat.le_refl _)
  have l_r0 := b_r0.out.lt b_r0.out.lt_size (Nat.le_refl _)
  refine Code.wp_mono (Q := fun e a' w' => e = .normal ∧ ∃ (g : Nat) (A : Option Addr) (c : Nat) (v23 v24 v25 v26 v27 v28 : Value), a' = ⟨#[.agg #[.bool s_a, .slice A_a n_a c_a, .slice A_ad n_ad c_ad], .int .i64 (p : Int), .int .i64 m, (.pointer (some ⟨w.heap.size, 0, none⟩)), undef, undef, (.pointer (some ⟨w.heap.size + 1, 0, none⟩)), .int .i64 0, (.pointer (some ⟨g, 0, none⟩)), undef, undef, undef, undef, .bool false, .int .i64 (p : Int), .bool true, .bool false, undef, .bool false, .int .i64 m, .bool true, .bool false, undef, v23, v24, v25, v26, v27, v28, undef, undef, undef, undef, undef, undef, undef, undef, undef, undef, undef, undef, undef, undef, undef, undef, undef, undef, undef, undef, undef, undef, undef, undef, undef, undef, undef, undef, undef, undef], []⟩ ∧ Landed w2 w' g z1 A c) ?_ ?_
  rotate_left
  · skip
    have hd := Below.drw_ w2
    replace R_a := hide (Rd.then_ R_a.out hd)
    replace R_ad := hide (Rd.then_ R_ad.out hd)
    have U4 : Below w2.heap.size w2 (w2.drew) := Below.then_ U3 hd
    replace B := hide (Below.then_ B.out hd)
    clear hd
    have tok1 : True := trivial
    go_region_held3 (fun w' => Below w2.heap.size w2 w') (first | assumption | (with_reducible exact Below.al_ (by assumption) _) | (with_reducible exact Below.al_drew (by assumption) _) | (with_reducible exact (landed_new U6 R_s.out).below) | (with_reducible exact (landed_set U6 R_s.out X6.out).below) | (with_reducible exact (landed_late U6 R_s.out).below) | fail)
      (first
        | (go_at_call 31; (have _t := tok1; (with_reducible refine (scale_any h9.out e_T.out).mono ?_); rintro e w3 ⟨A_T, c_T, rfl, R_T, hb⟩; have hb1 : Below (w2.drew).heap.size (w2.drew) w3 := (by first | exact hb | exact Below.al_then hb | exact Below.al_then_drew hb); (first | (have X5 := hide (XBox.made_drew U4 hb)) | (have X5 := hide (XBox.made U4 hb)) | (have X5 := hide (XBox.keep X0.out hb1)) | skip); replace R_a := hide (Rd.then_ R_a.out hb1); replace R_ad := hide (Rd.then_ R_ad.out hb1); have U5 : Below w2.heap.size w2 w3 := Below.then_ U4 hb1; replace B := hide (Below.then_ B.out hb1); clear hb1; replace R_T := hide R_T; clear hb; have tok2 : True := trivial; clear _t tok1))
        | (go_at_call 30; (have _t := tok2; (with_reducible refine (imul_any _ _ _ _ _ _ _ _ _ _ _ _ (by first | exact R_a.out | exact Rd.al_ R_a.out | exact Rd.al_drew R_a.out) (by first | exact R_T.out | exact Rd.al_ R_T.out | exact Rd.al_drew R_T.out) (Nat.le_refl _) g1.out).mono ?_); rw [e_z1.out]; rintro e w4 ⟨A_s, c_s, rfl, R_s, hb⟩; have hb1 : Below w3.heap.size w3 w4 := (by first | exact hb | exact Below.al_then hb | exact Below.al_then_drew hb); (first | (have X6 := hide (XBox.made_drew U5 hb)) | (have X6 := hide (XBox.made U5 hb)) | (have X6 := hide (XBox.keep X5.out hb1)) | skip); replace R_a := hide (Rd.then_ R_a.out hb1); replace R_ad := hide (Rd.then_ R_ad.out hb1); replace R_T := hide (Rd.then_ R_T.out hb1); have U6 : Below w2.heap.size w2 w4 := Below.then_ U5 hb1; replace B := hide (Below.then_ B.out hb1); clear hb1; replace R_s := hide R_s; clear hb; have tok3 : True := trivial; clear _t tok2; (first | (have xf := XBox.facts X6.out; obtain ⟨x0, x1, x2, x3, x4⟩ := xf) | skip))))
    all_goals (refine ⟨rfl, _, A_s, c_s, _, _, _, _, _, _, rfl, ?_⟩; first | exact landed_new U6 R_s.out | exact landed_set U6 R_s.out X6.out | exact landed_late U6 R_s.out)
  rintro e a' w5 ⟨rfl, g_s, A_s, c_s, v23, v24, v25, v26, v27, v28, rfl, hbx, b_s, R_s, hg_s⟩
  replace R_s := hide R_s
  have ne_s_r0 : g_s ≠ w.heap.size + 1 := by have := l_r0 _ U3; omega
  replace ne_s_r0 := hide ne_s_r0
  have ne_a_s : w.heap.size ≠ g_s := by have := (b_a.out.lt b_a.out.lt_size (Nat.le_refl _)) _ U3; omega
  replace ne_a_s := hide ne_a_s
  have ne_r0_s := hide (Ne.symm ne_s_r0.out)
  have ge_s : w.heap.size ≤ g_s := by have := B.out.size; omega
  replace ge_s := hide ge_s
  clear hg_s
  replace R_a := hide (Rd.then_ R_a.out hbx)
  replace R_ad := hide (Rd.then_ R_ad.out hbx)
  have U4 : Below w2.heap.size w2 w5 := Below.then_ U3 hbx
  replace B := hide (Below.then_ B.out hbx)
  clear hbx
  replace b_a := hide (Box3.keep b_a.out U4)
  clear c_a0 c_a1 c_a2
  replace b_r0 := hide (BoxD.keep b_r0.out U4)
  clear c_r00 c_r01 c_r02 f_r00 f_r01 f_r02 l_r0
  replace b_s := hide b_s
  have U5 : Below w5.heap.size w5 w5 := Below.refl _ _
  have c_a0 := b_a.out.at0 b_a.out.lt_size (Nat.le_refl _)
  have c_a1 := b_a.out.at1 b_a.out.lt_size (Nat.le_refl _)
  have c_a2 := b_a.out.at2 b_a.out.lt_size (Nat.le_refl _)
  have c_r00 := b_r0.out.at0 b_r0.out.lt_size (Nat.le_refl _)
  have c_r01 := b_r0.out.at1 b_r0.out.lt_size (Nat.le_refl _)
  have c_r02 := b_r0.out.at2 b_r0.out.lt_size (Nat.le_refl _)
  have f_r00 := b_r0.out.free0 b_r0.out.lt_size (Nat.le_refl _)
  have f_r01 := b_r0.out.free1 b_r0.out.lt_size (Nat.le_refl _)
  have f_r02 := b_r0.out.free2 b_r0.out.lt_size (Nat.le_refl _)
  have l_r0 := b_r0.out.lt b_r0.out.lt_size (Nat.le_refl _)
  have c_s0 := b_s.out.at0 b_s.out.lt_size (Nat.le_refl _)
  have c_s1 := b_s.out.at1 b_s.out.lt_size (Nat.le_refl _)
  go_wp2_with fail
  refine (idiv_zero _ _ _ _ _ _ _ _ _ _ _ _ R_s.out R_ad.out (Nat.le_refl _) h0.out).mono ?_
  rintro e w6 ⟨A_u, c_u, A_r, c_r, rfl, R_u, R_r, hb⟩
  replace R_a := hide (Rd.then_ R_a.out hb)
  replace R_ad := hide (Rd.then_ R_ad.out hb)
  replace R_s := hide (Rd.then_ R_s.out hb)
  have U6 : Below w5.heap.size w5 w6 := Below.then_ U5 hb
  replace B := hide (Below.then_ B.out hb)
  replace R_u := hide R_u
  replace R_r := hide R_r
  clear hb
  have hbx : Below w6.heap.size w6 ((w6.alloc (.cells #[.bool (zneg 0), .slice A_u (dig (zmag 0)).length c_u] 25)).alloc (.cells #[.bool (zneg 0), .slice A_r (dig (zmag 0)).length c_r] 25)) := (((Below.refl _ _).alloc (Nat.le_refl _) _).alloc (by simp) _)
  have Ux := Below.then_ U6 hbx
  go_wp2_with fail
  obtain ⟨V6, hV⟩ : ∃ V, V = ((w6.alloc (.cells #[.bool (zneg 0), .slice A_u (dig (zmag 0)).length c_u] 25)).alloc (.cells #[.bool (zneg 0), .slice A_r (dig (zmag 0)).length c_r] 25)) := ⟨_, rfl⟩
  obtain ⟨g_u, hg_u⟩ : ∃ g, g = w6.heap.size := ⟨_, rfl⟩
  obtain ⟨g_r, hg_r⟩ : ∃ g, g = w6.heap.size + 1 := ⟨_, rfl⟩
  rw [← hV]
  rw [← hV] at hbx Ux
  rw [← hg_r]
  rw [← hg_u]
  have b_u : Box V6 g_u (.bool (zneg 0)) (.slice A_u (dig (zmag 0)).length c_u) := by rw [hV]; exact ((Box.new _ _ _ hg_u).al _)
  have b_r : Box V6 g_r (.bool (zneg 0)) (.slice A_r (dig (zmag 0)).length c_r) := by rw [hV]; exact (Box.new _ _ _ (by rw [hg_r]; simp))
  clear hV
  have ne_u_r0 : g_u ≠ w.heap.size + 1 := by have := l_r0 _ U6; omega
  replace ne_u_r0 := hide ne_u_r0
  have ne_r_r0 : g_r ≠ w.heap.size + 1 := by have := l_r0 _ U6; omega
  replace ne_r_r0 := hide ne_r_r0
  have ne_a_u : w.heap.size ≠ g_u := by have := (b_a.out.lt b_a.out.lt_size (Nat.le_refl _)) _ U6; omega
  replace ne_a_u := hide ne_a_u
  have ne_r0_u := hide (Ne.symm ne_u_r0.out)
  have ne_s_u : g_s ≠ g_u := by have := (b_s.out.lt b_s.out.lt_size (Nat.le_refl _)) _ U6; omega
  replace ne_s_u := hide ne_s_u
  have ge_u : w.heap.size ≤ g_u := by have := B.out.size; omega
  replace ge_u := hide ge_u
  have ne_a_r : w.heap.size ≠ g_r := by have := (b_a.out.lt b_a.out.lt_size (Nat.le_refl _)) _ U6; omega
  replace ne_a_r := hide ne_a_r
  have ne_r0_r := hide (Ne.symm ne_r_r0.out)
  have ne_s_r : g_s ≠ g_r := by have := (b_s.out.lt b_s.out.lt_size (Nat.le_refl _)) _ U6; omega
  replace ne_s_r := hide ne_s_r
  have ge_r : w.heap.size ≤ g_r := by have := B.out.size; omega
  replace ge_r := hide ge_r
  have ne_r_u : g_r ≠ g_u := by omega
  replace ne_r_u := hide ne_r_u
  clear hg_u
  clear hg_r
  replace R_a := hide (Rd.then_ R_a.out hbx)
  replace R_ad := hide (Rd.then_ R_ad.out hbx)
  replace R_s := hide (Rd.then_ R_s.out hbx)
  replace R_u := hide (Rd.then_ R_u.out hbx)
  replace R_r := hide (Rd.then_ R_r.out hbx)
  have U7 : Below w5.heap.size w5 V6 := Below.then_ U6 hbx
  replace B := hide (Below.then_ B.out hbx)
  clear hbx
  replace b_a := hide (Box3.keep b_a.out U7)
  clear c_a0 c_a1 c_a2
  replace b_r0 := hide (BoxD.keep b_r0.out U7)
  clear c_r00 c_r01 c_r02 f_r00 f_r01 f_r02 l_r0
  replace b_s := hide (Box.keep b_s.out U7)
  clear c_s0 c_s1
  replace b_u := hide b_u
  replace b_r := hide b_r
  have U8 : Below V6.heap.size V6 V6 := Below.refl _ _
  have c_a0 := b_a.out.at0 b_a.out.lt_size (Nat.le_refl _)
  have c_a1 := b_a.out.at1 b_a.out.lt_size (Nat.le_refl _)
  have c_a2 := b_a.out.at2 b_a.out.lt_size (Nat.le_refl _)
  have c_r00 := b_r0.out.at0 b_r0.out.lt_size (Nat.le_refl _)
  have c_r01 := b_r0.out.at1 b_r0.out.lt_size (Nat.le_refl _)
  have c_r02 := b_r0.out.at2 b_r0.out.lt_size (Nat.le_refl _)
  have f_r00 := b_r0.out.free0 b_r0.out.lt_size (Nat.le_refl _)
  have f_r01 := b_r0.out.free1 b_r0.out.lt_size (Nat.le_refl _)
  have f_r02 := b_r0.out.free2 b_r0.out.lt_size (Nat.le_refl _)
  have l_r0 := b_r0.out.lt b_r0.out.lt_size (Nat.le_refl _)
  have c_s0 := b_s.out.at0 b_s.out.lt_size (Nat.le_refl _)
  have c_s1 := b_s.out.at1 b_s.out.lt_size (Nat.le_refl _)
  have c_u0 := b_u.out.at0 b_u.out.lt_size (Nat.le_refl _)
  have c_u1 := b_u.out.at1 b_u.out.lt_size (Nat.le_refl _)
  have f_u0 := b_u.out.free0 b_u.out.lt_size (Nat.le_refl _)
  have f_u1 := b_u.out.free1 b_u.out.lt_size (Nat.le_refl _)
  have l_u := b_u.out.lt b_u.out.lt_size (Nat.le_refl _)
  have c_r0 := b_r.out.at0 b_r.out.lt_size (Nat.le_refl _)
  have c_r1 := b_r.out.at1 b_r.out.lt_size (Nat.le_refl _)
  refine (isign_any _ _ _ _ _ _ _ R_r.out (Nat.le_refl _)).mono ?_
  rw [e_s.out]
  rintro e w7 ⟨rfl, hb⟩
  replace R_a := hide (Rd.then_ R_a.out hb)
  replace R_ad := hide (Rd.then_ R_ad.out hb)
  replace R_s := hide (Rd.then_ R_s.out hb)
  replace R_u := hide (Rd.then_ R_u.out hb)
  replace R_r := hide (Rd.then_ R_r.out hb)
  have U9 : Below V6.heap.size V6 w7 := Below.then_ U8 hb
  replace B := hide (Below.then_ B.out hb)
  clear hb
  go_wp2
  exact bodyPost_ret (v := .tuple #[.agg #[.bool (zneg 0), .slice A_u (dig (zmag 0)).length c_u, .int .i64 (p : Int)], .int .i64 0]) (by simp [results, Tryz.results9, go_sem, c_r00 _ U9, c_r01 _ U9, c_r02 _ U9]) rfl (RetDec.box B.out (by omega) (c_r00 _ U9) (c_r01 _ U9) (c_r02 _ U9) R_u.out)

set_option maxHeartbeats 4000000 in
theorem pround_whole {w : World} {Bd : Nat} {A_a : Option Addr} {n_a c_a : Nat} {x_a : List Nat} {s_a : Bool} {A_ad : Option Addr} {n_ad c_ad : Nat} {x_ad : List Nat} {p : Nat} {m : Int} (h_a : Rd w Bd A_a n_a c_a x_a) (g_a : n_a ≤ 1000000000) (h_ad : Rd w Bd A_ad n_ad c_ad x_ad) (_g_ad : n_ad ≤ 1000000000) (hB : Bd ≤ w.heap.size) (h9 : p ≤ 9) (h1 : 1 ≤ m) (h7 : m ≤ 7) {u : Int} (h0 : val x_ad ≠ 0) (hu : iv s_a (val x_a) * ((10 ^ p : Nat) : Int) / (val x_ad : Int) = u) (hr : iv s_a (val x_a) * ((10 ^ p : Nat) : Int) - (val x_ad : Int) * u = 0) :
    Calls Tryz.prog 9 #[.agg #[.bool s_a, .slice A_a n_a c_a, .slice A_ad n_ad c_ad], .int .i64 (p : Int), .int .i64 m] w (RetDec w u (p : Int) 0) := by
  obtain ⟨T, e_T⟩ : ∃ new, 10 ^ p = new := ⟨_, rfl⟩
  replace e_T := hide e_T
  have lT : T < pw 1 := by rw [← e_T.out]; exact Nat.lt_of_le_of_lt (Nat.pow_le_pow_right (by omega) h9) (by decide)
  have g1 : n_a + (dig T).length ≤ 70368744177664 := by have := dl lT; omega
  replace g1 := hide g1
  obtain ⟨z1, e_z1⟩ : ∃ new, iv s_a (val x_a) * iv false (val (dig T)) = new := ⟨_, rfl⟩
  replace e_z1 := hide e_z1
  have l_z1 : zmag z1 < pw (n_a + 1) := by rw [← e_z1.out]; exact zl_mul (zl_iv h_a.lt) (zl_iv (by rw [val_dig]; exact lT))
  have e_z1' : iv s_a (val x_a) * ((10 ^ p : Nat) : Int) = z1 := by rw [e_T.out, ← e_z1.out, val_dig, iv_false]
  have g2 : (dig (zmag z1)).length + 1 ≤ 70368744177664 := by have := zl l_z1; omega
  replace g2 := hide g2
  rw [e_z1'] at hu hr
  have e_u : fq (zneg z1) false (val (dig (zmag z1))) (val x_ad) = u := by rw [fq_floor _ _ h0, ivz]; exact hu
  replace e_u := hide e_u
  have e_r : fr (zneg z1) false (val (dig (zmag z1))) (val x_ad) = 0 := by unfold fr; rw [fq_floor _ _ h0, ivz, hu, iv_false]; exact hr
  replace e_r := hide e_r
  have l_u : zmag u < pw (n_a + 1) := by rw [← hu]; exact Nat.lt_of_le_of_lt (Int.natAbs_ediv_le_natAbs _ _) l_z1
  have e_s : sgn (iv (zneg 0) (val (dig (zmag 0)))) = 0 := by rw [ivz, sgn_zero]
  replace e_s := hide e_s
  have f0 : (0 : Int) ≤ (p : Int) := by omega
  replace f0 := hide f0
  have f9 : (p : Int) ≤ 9 := by omega
  replace f9 := hide f9
  clear l_z1 e_z1' l_u hu hr
  replace h0 := hide h0
  replace h1 := hide h1
  replace h7 := hide h7
  replace h9 := hide h9
  replace lT := hide lT
  obtain ⟨W, hW⟩ : ∃ W, W = ((w.alloc (.cells #[.bool s_a, .slice A_a n_a c_a, .slice A_ad n_ad c_ad] 27)).alloc (.cells #[.bool false, .slice none 0 0, .int .i64 0] 29)) := ⟨_, rfl⟩
  have b_a : Box3 W (w.heap.size) (.bool s_a) (.slice A_a n_a c_a) (.slice A_ad n_ad c_ad) := by rw [hW]; exact ((Box3.new w _ _ _ rfl).al _)
  have b_r0 : BoxD W (w.heap.size + 1) (.bool false) (.slice none 0 0) (.int .i64 0) := by rw [hW]; exact (BoxD.new _ _ _ _ (by simp))
  have hwW : Below w.heap.size w W := by rw [hW]; exact (((Below.refl _ _).alloc (Nat.le_refl _) _).alloc (by simp) _)
  have R_a := hide (Rd.upto h_a hwW hB)
  clear h_a
  have R_ad := hide (Rd.upto h_ad hwW hB)
  clear h_ad
  have B := hide hwW
  clear hwW
  clear hB
  have U0 : Below W.heap.size W W := Below.refl _ _
  have c_a0 := b_a.at0 b_a.lt_size (Nat.le_refl _)
  have c_a1 := b_a.at1 b_a.lt_size (Nat.le_refl _)
  have c_a2 := b_a.at2 b_a.lt_size (Nat.le_refl _)
  replace b_a := hide b_a
  have c_r00 := b_r0.at0 b_r0.lt_size (Nat.le_refl _)
  have c_r01 := b_r0.at1 b_r0.lt_size (Nat.le_refl _)
  have c_r02 := b_r0.at2 b_r0.lt_size (Nat.le_refl _)
  have f_r00 := b_r0.free0 b_r0.lt_size (Nat.le_refl _)
  have f_r01 := b_r0.free1 b_r0.lt_size (Nat.le_refl _)
  have f_r02 := b_r0.free2 b_r0.lt_size (Nat.le_refl _)
  have l_r0 := b_r0.lt b_r0.lt_size (Nat.le_refl _)
  replace b_r0 := hide b_r0
  go_enter Tryz.func9, Tryz.ntmps9
  go_wp2_with fail
  rw [← hW]
  clear hW
  refine (isplaces_yes f0.out f9.out).mono ?_
  rintro e w1 ⟨rfl, hb⟩
  replace R_a := hide (Rd.then_ R_a.out hb)
  replace R_ad := hide (Rd.then_ R_ad.out hb)
  have U1 : Below W.heap.size W w1 := Below.then_ U0 hb
  replace B := hide (Below.then_ B.out hb)
  clear hb
  go_wp2_with fail
  refine (ismode_yes h1.out h7.out).mono ?_
  rintro e w2 ⟨rfl, hb⟩
  replace R_a := hide (Rd.then_ R_a.out hb)
  replace R_ad := hide (Rd.then_ R_ad.out hb)
  have U2 : Below W.heap.size W w2 := Below.then_ U1 hb
  replace B := hide (Below.then_ B.out hb)
  clear hb
  go_wp2_with fail
  replace b_a := hide (Box3.keep b_a.out U2)
  clear c_a0 c_a1 c_a2
  replace b_r0 := hide (BoxD.keep b_r0.out U2)
  clear c_r00 c_r01 c_r02 f_r00 f_r01 f_r02 l_r0
  have U3 : Below w2.heap.size w2 w2 := Below.refl _ _
  have c_a0 := b_a.out.at0 b_a.out.lt_size (Nat.le_refl _)
  have c_a1 := b_a.out.at1 b_a.out.lt_size (Nat.le_refl _)
  have c_a2 := b_a.out.at2 b_a.out.lt_size (Nat.le_refl _)
  have c_r00 := b_r0.out.at0 b_r0.out.lt_size (Nat.le_refl _)
  have c_r01 := b_r0.out.at1 b_r0.out.lt_size (Nat.le_refl _)
  have c_r02 := b_r0.out.at2 b_r0.out.lt_size (Nat.le_refl _)
  have f_r00 := b_r0.out.free0 b_r0.out.lt_size (Nat.le_refl _)
  have f_r01 := b_r0.out.free1 b_r0.out.lt_size (Nat.le_refl _)
  have f_r02 := b_r0.out.free2 b_r0.out.lt_size (Nat.le_refl _)
  have l_r0 := b_r0.out.lt b_r0.out.lt_size (Nat.le_refl _)
  refine Code.wp_mono (Q := fun e a' w' => e = .normal ∧ ∃ (g : Nat) (A : Option Addr) (c : Nat) (v23 v24 v25 v26 v27 v28 : Value), a' = ⟨#[.agg #[.bool s_a, .slice A_a n_a c_a, .slice A_ad n_ad c_ad], .int .i64 (p : Int), .int .i64 m, (.pointer (some ⟨w.heap.size, 0, none⟩)), undef, undef, (.pointer (some ⟨w.heap.size + 1, 0, none⟩)), .int .i64 0, (.pointer (some ⟨g, 0, none⟩)), undef, undef, undef, undef, .bool false, .int .i64 (p : Int), .bool true, .bool false, undef, .bool false, .int .i64 m, .bool true, .bool false, undef, v23, v24, v25, v26, v27, v28, undef, undef, undef, undef, undef, undef, undef, undef, undef, undef, undef, undef, undef, undef, undef, undef, undef, undef, undef, undef, undef, undef, undef, undef, undef, undef, undef, undef, undef, undef], []⟩ ∧ Landed w2 w' g z1 A c) ?_ ?_
  rotate_left
  · skip
    have hd := Below.drw_ w2
    replace R_a := hide (Rd.then_ R_a.out hd)
    replace R_ad := hide (Rd.then_ R_ad.out hd)
    have U4 : Below w2.heap.size w2 (w2.drew) := Below.then_ U3 hd
    replace B := hide (Below.then_ B.out hd)
    clear hd
    have tok1 : True := trivial
    go_region_held3 (fun w' => Below w2.heap.size w2 w') (first | assumption | (with_reducible exact Below.al_ (by assumption) _) | (with_reducible exact Below.al_drew (by assumption) _) | (with_reducible exact (landed_new U6 R_s.out).below) | (with_reducible exact (landed_set U6 R_s.out X6.out).below) | (with_reducible exact (landed_late U6 R_s.out).below) | fail)
      (first
        | (go_at_call 31; (have _t := tok1; (with_reducible refine (scale_any h9.out e_T.out).mono ?_); rintro e w3 ⟨A_T, c_T, rfl, R_T, hb⟩; have hb1 : Below (w2.drew).heap.size (w2.drew) w3 := (by first | exact hb | exact Below.al_then hb | exact Below.al_then_drew hb); (first | (have X5 := hide (XBox.made_drew U4 hb)) | (have X5 := hide (XBox.made U4 hb)) | (have X5 := hide (XBox.keep X0.out hb1)) | skip); replace R_a := hide (Rd.then_ R_a.out hb1); replace R_ad := hide (Rd.then_ R_ad.out hb1); have U5 : Below w2.heap.size w2 w3 := Below.then_ U4 hb1; replace B := hide (Below.then_ B.out hb1); clear hb1; replace R_T := hide R_T; clear hb; have tok2 : True := trivial; clear _t tok1))
        | (go_at_call 30; (have _t := tok2; (with_reducible refine (imul_any _ _ _ _ _ _ _ _ _ _ _ _ (by first | exact R_a.out | exact Rd.al_ R_a.out | exact Rd.al_drew R_a.out) (by first | exact R_T.out | exact Rd.al_ R_T.out | exact Rd.al_drew R_T.out) (Nat.le_refl _) g1.out).mono ?_); rw [e_z1.out]; rintro e w4 ⟨A_s, c_s, rfl, R_s, hb⟩; have hb1 : Below w3.heap.size w3 w4 := (by first | exact hb | exact Below.al_then hb | exact Below.al_then_drew hb); (first | (have X6 := hide (XBox.made_drew U5 hb)) | (have X6 := hide (XBox.made U5 hb)) | (have X6 := hide (XBox.keep X5.out hb1)) | skip); replace R_a := hide (Rd.then_ R_a.out hb1); replace R_ad := hide (Rd.then_ R_ad.out hb1); replace R_T := hide (Rd.then_ R_T.out hb1); have U6 : Below w2.heap.size w2 w4 := Below.then_ U5 hb1; replace B := hide (Below.then_ B.out hb1); clear hb1; replace R_s := hide R_s; clear hb; have tok3 : True := trivial; clear _t tok2; (first | (have xf := XBox.facts X6.out; obtain ⟨x0, x1, x2, x3, x4⟩ := xf) | skip))))
    all_goals (refine ⟨rfl, _, A_s, c_s, _, _, _, _, _, _, rfl, ?_⟩; first | exact landed_new U6 R_s.out | exact landed_set U6 R_s.out X6.out | exact landed_late U6 R_s.out)
  rintro e a' w5 ⟨rfl, g_s, A_s, c_s, v23, v24, v25, v26, v27, v28, rfl, hbx, b_s, R_s, hg_s⟩
  replace R_s := hide R_s
  have ne_s_r0 : g_s ≠ w.heap.size + 1 := by have := l_r0 _ U3; omega
  replace ne_s_r0 := hide ne_s_r0
  have ne_a_s : w.heap.size ≠ g_s := by have := (b_a.out.lt b_a.out.lt_size (Nat.le_refl _)) _ U3; omega
  replace ne_a_s := hide ne_a_s
  have ne_r0_s := hide (Ne.symm ne_s_r0.out)
  have ge_s : w.heap.size ≤ g_s := by have := B.out.size; omega
  replace ge_s := hide ge_s
  clear hg_s
  replace R_a := hide (Rd.then_ R_a.out hbx)
  replace R_ad := hide (Rd.then_ R_ad.out hbx)
  have U4 : Below w2.heap.size w2 w5 := Below.then_ U3 hbx
  replace B := hide (Below.then_ B.out hbx)
  clear hbx
  replace b_a := hide (Box3.keep b_a.out U4)
  clear c_a0 c_a1 c_a2
  replace b_r0 := hide (BoxD.keep b_r0.out U4)
  clear c_r00 c_r01 c_r02 f_r00 f_r01 f_r02 l_r0
  replace b_s := hide b_s
  have U5 : Below w5.heap.size w5 w5 := Below.refl _ _
  have c_a0 := b_a.out.at0 b_a.out.lt_size (Nat.le_refl _)
  have c_a1 := b_a.out.at1 b_a.out.lt_size (Nat.le_refl _)
  have c_a2 := b_a.out.at2 b_a.out.lt_size (Nat.le_refl _)
  have c_r00 := b_r0.out.at0 b_r0.out.lt_size (Nat.le_refl _)
  have c_r01 := b_r0.out.at1 b_r0.out.lt_size (Nat.le_refl _)
  have c_r02 := b_r0.out.at2 b_r0.out.lt_size (Nat.le_refl _)
  have f_r00 := b_r0.out.free0 b_r0.out.lt_size (Nat.le_refl _)
  have f_r01 := b_r0.out.free1 b_r0.out.lt_size (Nat.le_refl _)
  have f_r02 := b_r0.out.free2 b_r0.out.lt_size (Nat.le_refl _)
  have l_r0 := b_r0.out.lt b_r0.out.lt_size (Nat.le_refl _)
  have c_s0 := b_s.out.at0 b_s.out.lt_size (Nat.le_refl _)
  have c_s1 := b_s.out.at1 b_s.out.lt_size (Nat.le_refl _)
  go_wp2_with fail
  refine (idiv_any _ _ _ _ _ _ _ _ _ _ _ _ R_s.out R_ad.out (Nat.le_refl _) g2.out h0.out).mono ?_
  rw [e_u.out, e_r.out]
  rintro e w6 ⟨A_u, c_u, A_r, c_r, rfl, R_u, R_r, hb⟩
  replace R_a := hide (Rd.then_ R_a.out hb)
  replace R_ad := hide (Rd.then_ R_ad.out hb)
  replace R_s := hide (Rd.then_ R_s.out hb)
  have U6 : Below w5.heap.size w5 w6 := Below.then_ U5 hb
  replace B := hide (Below.then_ B.out hb)
  replace R_u := hide R_u
  replace R_r := hide R_r
  clear hb
  have hbx : Below w6.heap.size w6 ((w6.alloc (.cells #[.bool (zneg u), .slice A_u (dig (zmag u)).length c_u] 25)).alloc (.cells #[.bool (zneg 0), .slice A_r (dig (zmag 0)).length c_r] 25)) := (((Below.refl _ _).alloc (Nat.le_refl _) _).alloc (by simp) _)
  have Ux := Below.then_ U6 hbx
  go_wp2_with fail
  obtain ⟨V6, hV⟩ : ∃ V, V = ((w6.alloc (.cells #[.bool (zneg u), .slice A_u (dig (zmag u)).length c_u] 25)).alloc (.cells #[.bool (zneg 0), .slice A_r (dig (zmag 0)).length c_r] 25)) := ⟨_, rfl⟩
  obtain ⟨g_u, hg_u⟩ : ∃ g, g = w6.heap.size := ⟨_, rfl⟩
  obtain ⟨g_r, hg_r⟩ : ∃ g, g = w6.heap.size + 1 := ⟨_, rfl⟩
  rw [← hV]
  rw [← hV] at hbx Ux
  rw [← hg_r]
  rw [← hg_u]
  have b_u : Box V6 g_u (.bool (zneg u)) (.slice A_u (dig (zmag u)).length c_u) := by rw [hV]; exact ((Box.new _ _ _ hg_u).al _)
  have b_r : Box V6 g_r (.bool (zneg 0)) (.slice A_r (dig (zmag 0)).length c_r) := by rw [hV]; exact (Box.new _ _ _ (by rw [hg_r]; simp))
  clear hV
  have ne_u_r0 : g_u ≠ w.heap.size + 1 := by have := l_r0 _ U6; omega
  replace ne_u_r0 := hide ne_u_r0
  have ne_r_r0 : g_r ≠ w.heap.size + 1 := by have := l_r0 _ U6; omega
  replace ne_r_r0 := hide ne_r_r0
  have ne_a_u : w.heap.size ≠ g_u := by have := (b_a.out.lt b_a.out.lt_size (Nat.le_refl _)) _ U6; omega
  replace ne_a_u := hide ne_a_u
  have ne_r0_u := hide (Ne.symm ne_u_r0.out)
  have ne_s_u : g_s ≠ g_u := by have := (b_s.out.lt b_s.out.lt_size (Nat.le_refl _)) _ U6; omega
  replace ne_s_u := hide ne_s_u
  have ge_u : w.heap.size ≤ g_u := by have := B.out.size; omega
  replace ge_u := hide ge_u
  have ne_a_r : w.heap.size ≠ g_r := by have := (b_a.out.lt b_a.out.lt_size (Nat.le_refl _)) _ U6; omega
  replace ne_a_r := hide ne_a_r
  have ne_r0_r := hide (Ne.symm ne_r_r0.out)
  have ne_s_r : g_s ≠ g_r := by have := (b_s.out.lt b_s.out.lt_size (Nat.le_refl _)) _ U6; omega
  replace ne_s_r := hide ne_s_r
  have ge_r : w.heap.size ≤ g_r := by have := B.out.size; omega
  replace ge_r := hide ge_r
  have ne_r_u : g_r ≠ g_u := by omega
  replace ne_r_u := hide ne_r_u
  clear hg_u
  clear hg_r
  replace R_a := hide (Rd.then_ R_a.out hbx)
  replace R_ad := hide (Rd.then_ R_ad.out hbx)
  replace R_s := hide (Rd.then_ R_s.out hbx)
  replace R_u := hide (Rd.then_ R_u.out hbx)
  replace R_r := hide (Rd.then_ R_r.out hbx)
  have U7 : Below w5.heap.size w5 V6 := Below.then_ U6 hbx
  replace B := hide (Below.then_ B.out hbx)
  clear hbx
  replace b_a := hide (Box3.keep b_a.out U7)
  clear c_a0 c_a1 c_a2
  replace b_r0 := hide (BoxD.keep b_r0.out U7)
  clear c_r00 c_r01 c_r02 f_r00 f_r01 f_r02 l_r0
  replace b_s := hide (Box.keep b_s.out U7)
  clear c_s0 c_s1
  replace b_u := hide b_u
  replace b_r := hide b_r
  have U8 : Below V6.heap.size V6 V6 := Below.refl _ _
  have c_a0 := b_a.out.at0 b_a.out.lt_size (Nat.le_refl _)
  have c_a1 := b_a.out.at1 b_a.out.lt_size (Nat.le_refl _)
  have c_a2 := b_a.out.at2 b_a.out.lt_size (Nat.le_refl _)
  have c_r00 := b_r0.out.at0 b_r0.out.lt_size (Nat.le_refl _)
  have c_r01 := b_r0.out.at1 b_r0.out.lt_size (Nat.le_refl _)
  have c_r02 := b_r0.out.at2 b_r0.out.lt_size (Nat.le_refl _)
  have f_r00 := b_r0.out.free0 b_r0.out.lt_size (Nat.le_refl _)
  have f_r01 := b_r0.out.free1 b_r0.out.lt_size (Nat.le_refl _)
  have f_r02 := b_r0.out.free2 b_r0.out.lt_size (Nat.le_refl _)
  have l_r0 := b_r0.out.lt b_r0.out.lt_size (Nat.le_refl _)
  have c_s0 := b_s.out.at0 b_s.out.lt_size (Nat.le_refl _)
  have c_s1 := b_s.out.at1 b_s.out.lt_size (Nat.le_refl _)
  have c_u0 := b_u.out.at0 b_u.out.lt_size (Nat.le_refl _)
  have c_u1 := b_u.out.at1 b_u.out.lt_size (Nat.le_refl _)
  have f_u0 := b_u.out.free0 b_u.out.lt_size (Nat.le_refl _)
  have f_u1 := b_u.out.free1 b_u.out.lt_size (Nat.le_refl _)
  have l_u := b_u.out.lt b_u.out.lt_size (Nat.le_refl _)
  have c_r0 := b_r.out.at0 b_r.out.lt_size (Nat.le_refl _)
  have c_r1 := b_r.out.at1 b_r.out.lt_size (Nat.le_refl _)
  refine (isign_any _ _ _ _ _ _ _ R_r.out (Nat.le_refl _)).mono ?_
  rw [e_s.out]
  rintro e w7 ⟨rfl, hb⟩
  replace R_a := hide (Rd.then_ R_a.out hb)
  replace R_ad := hide (Rd.then_ R_ad.out hb)
  replace R_s := hide (Rd.then_ R_s.out hb)
  replace R_u := hide (Rd.then_ R_u.out hb)
  replace R_r := hide (Rd.then_ R_r.out hb)
  have U9 : Below V6.heap.size V6 w7 := Below.then_ U8 hb
  replace B := hide (Below.then_ B.out hb)
  clear hb
  go_wp2
  exact bodyPost_ret (v := .tuple #[.agg #[.bool (zneg u), .slice A_u (dig (zmag u)).length c_u, .int .i64 (p : Int)], .int .i64 0]) (by simp [results, Tryz.results9, go_sem, c_r00 _ U9, c_r01 _ U9, c_r02 _ U9]) rfl (RetDec.box B.out (by omega) (c_r00 _ U9) (c_r01 _ U9) (c_r02 _ U9) R_u.out)

set_option maxHeartbeats 4000000 in
theorem pround_low {w : World} {Bd : Nat} {A_a : Option Addr} {n_a c_a : Nat} {x_a : List Nat} {s_a : Bool} {A_ad : Option Addr} {n_ad c_ad : Nat} {x_ad : List Nat} {p : Nat} {m : Int} (h_a : Rd w Bd A_a n_a c_a x_a) (g_a : n_a ≤ 1000000000) (h_ad : Rd w Bd A_ad n_ad c_ad x_ad) (g_ad : n_ad ≤ 1000000000) (hB : Bd ≤ w.heap.size) (h9 : p ≤ 9) (h1 : 1 ≤ m) (h7 : m ≤ 7) {u r h z : Int} (h0 : val x_ad ≠ 0) (hu : iv s_a (val x_a) * ((10 ^ p : Nat) : Int) / (val x_ad : Int) = u) (hr : iv s_a (val x_a) * ((10 ^ p : Nat) : Int) - (val x_ad : Int) * u = r) (hr0 : r ≠ 0) (hh : sgn (2 * r - (val x_ad : Int)) = h) (hb : upd m (decide (u < 0)) (oddz u) h = false) (hz : u = z) :
    Calls Tryz.prog 9 #[.agg #[.bool s_a, .slice A_a n_a c_a, .slice A_ad n_ad c_ad], .int .i64 (p : Int), .int .i64 m] w (RetDec w z (p : Int) 0) := by
  obtain ⟨T, e_T⟩ : ∃ new, 10 ^ p = new := ⟨_, rfl⟩
  replace e_T := hide e_T
  have lT : T < pw 1 := by rw [← e_T.out]; exact Nat.lt_of_le_of_lt (Nat.pow_le_pow_right (by omega) h9) (by decide)
  have g1 : n_a + (dig T).length ≤ 70368744177664 := by have := dl lT; omega
  replace g1 := hide g1
  obtain ⟨z1, e_z1⟩ : ∃ new, iv s_a (val x_a) * iv false (val (dig T)) = new := ⟨_, rfl⟩
  replace e_z1 := hide e_z1
  have l_z1 : zmag z1 < pw (n_a + 1) := by rw [← e_z1.out]; exact zl_mul (zl_iv h_a.lt) (zl_iv (by rw [val_dig]; exact lT))
  have e_z1' : iv s_a (val x_a) * ((10 ^ p : Nat) : Int) = z1 := by rw [e_T.out, ← e_z1.out, val_dig, iv_false]
  have g2 : (dig (zmag z1)).length + 1 ≤ 70368744177664 := by have := zl l_z1; omega
  replace g2 := hide g2
  rw [e_z1'] at hu hr
  have e_u : fq (zneg z1) false (val (dig (zmag z1))) (val x_ad) = u := by rw [fq_floor _ _ h0, ivz]; exact hu
  replace e_u := hide e_u
  have e_r : fr (zneg z1) false (val (dig (zmag z1))) (val x_ad) = r := by unfold fr; rw [fq_floor _ _ h0, ivz, hu, iv_false]; exact hr
  replace e_r := hide e_r
  have l_u : zmag u < pw (n_a + 1) := by rw [← hu]; exact Nat.lt_of_le_of_lt (Int.natAbs_ediv_le_natAbs _ _) l_z1
  have hr1 : 0 ≤ r ∧ r < (val x_ad : Int) := by rw [← hr, ← hu]; have e := Int.emod_add_mul_ediv z1 (val x_ad : Int); have e1 := Int.emod_nonneg z1 (b := (val x_ad : Int)) (by omega); have e2 := Int.emod_lt_of_pos z1 (b := (val x_ad : Int)) (by omega); omega
  have l_r : zmag r < pw n_ad := Nat.lt_of_le_of_lt (by unfold zmag; omega) h_ad.lt
  have hrm : ((zmag r : Nat) : Int) = r := by unfold zmag; omega
  have g3 : (dig (zmag r)).length + 1 ≤ 70368744177664 := by have := zl l_r; omega
  replace g3 := hide g3
  have g4 : (dig (zmag u)).length ≤ 10000000000 := by have := zl l_u; omega
  replace g4 := hide g4
  obtain ⟨d2, e_d2⟩ : ∃ new, val (dig (zmag r)) + val (dig (zmag r)) = new := ⟨_, rfl⟩
  replace e_d2 := hide e_d2
  have e_h : cmpN (val (dig d2)) (val x_ad) = h := by rw [cmpN_sgn, val_dig, ← e_d2.out, val_dig, ← hh]; congr 1; omega
  replace e_h := hide e_h
  have hh1 : h = -1 ∨ h = 0 ∨ h = 1 := by rw [← hh]; have := sgn_three (2 * r - (val x_ad : Int)); omega
  replace hh1 := hide hh1
  have e_s : sgn (iv (zneg r) (val (dig (zmag r)))) = 1 := by rw [ivz]; unfold sgn; exact Int.sign_eq_one_of_pos (by omega)
  replace e_s := hide e_s
  replace hb := hide hb
  subst hz
  clear hr1 l_r hrm hh hr0
  have f0 : (0 : Int) ≤ (p : Int) := by omega
  replace f0 := hide f0
  have f9 : (p : Int) ≤ 9 := by omega
  replace f9 := hide f9
  clear l_z1 e_z1' l_u hu hr
  replace h0 := hide h0
  replace h1 := hide h1
  replace h7 := hide h7
  replace h9 := hide h9
  replace lT := hide lT
  obtain ⟨W, hW⟩ : ∃ W, W = ((w.alloc (.cells #[.bool s_a, .slice A_a n_a c_a, .slice A_ad n_ad c_ad] 27)).alloc (.cells #[.bool false, .slice none 0 0, .int .i64 0] 29)) := ⟨_, rfl⟩
  have b_a : Box3 W (w.heap.size) (.bool s_a) (.slice A_a n_a c_a) (.slice A_ad n_ad c_ad) := by rw [hW]; exact ((Box3.new w _ _ _ rfl).al _)
  have b_r0 : BoxD W (w.heap.size + 1) (.bool false) (.slice none 0 0) (.int .i64 0) := by rw [hW]; exact (BoxD.new _ _ _ _ (by simp))
  have hwW : Below w.heap.size w W := by rw [hW]; exact (((Below.refl _ _).alloc (Nat.le_refl _) _).alloc (by simp) _)
  have R_a := hide (Rd.upto h_a hwW hB)
  clear h_a
  have R_ad := hide (Rd.upto h_ad hwW hB)
  clear h_ad
  have B := hide hwW
  clear hwW
  clear hB
  have U0 : Below W.heap.size W W := Below.refl _ _
  have c_a0 := b_a.at0 b_a.lt_size (Nat.le_refl _)
  have c_a1 := b_a.at1 b_a.lt_size (Nat.le_refl _)
  have c_a2 := b_a.at2 b_a.lt_size (Nat.le_refl _)
  replace b_a := hide b_a
  have c_r00 := b_r0.at0 b_r0.lt_size (Nat.le_refl _)
  have c_r01 := b_r0.at1 b_r0.lt_size (Nat.le_refl _)
  have c_r02 := b_r0.at2 b_r0.lt_size (Nat.le_refl _)
  have f_r00 := b_r0.free0 b_r0.lt_size (Nat.le_refl _)
  have f_r01 := b_r0.free1 b_r0.lt_size (Nat.le_refl _)
  have f_r02 := b_r0.free2 b_r0.lt_size (Nat.le_refl _)
  have l_r0 := b_r0.lt b_r0.lt_size (Nat.le_refl _)
  replace b_r0 := hide b_r0
  go_enter Tryz.func9, Tryz.ntmps9
  go_wp2_with fail
  rw [← hW]
  clear hW
  refine (isplaces_yes f0.out f9.out).mono ?_
  rintro e w1 ⟨rfl, hb⟩
  replace R_a := hide (Rd.then_ R_a.out hb)
  replace R_ad := hide (Rd.then_ R_ad.out hb)
  have U1 : Below W.heap.size W w1 := Below.then_ U0 hb
  replace B := hide (Below.then_ B.out hb)
  clear hb
  go_wp2_with fail
  refine (ismode_yes h1.out h7.out).mono ?_
  rintro e w2 ⟨rfl, hb⟩
  replace R_a := hide (Rd.then_ R_a.out hb)
  replace R_ad := hide (Rd.then_ R_ad.out hb)
  have U2 : Below W.heap.size W w2 := Below.then_ U1 hb
  replace B := hide (Below.then_ B.out hb)
  clear hb
  go_wp2_with fail
  replace b_a := hide (Box3.keep b_a.out U2)
  clear c_a0 c_a1 c_a2
  replace b_r0 := hide (BoxD.keep b_r0.out U2)
  clear c_r00 c_r01 c_r02 f_r00 f_r01 f_r02 l_r0
  have U3 : Below w2.heap.size w2 w2 := Below.refl _ _
  have c_a0 := b_a.out.at0 b_a.out.lt_size (Nat.le_refl _)
  have c_a1 := b_a.out.at1 b_a.out.lt_size (Nat.le_refl _)
  have c_a2 := b_a.out.at2 b_a.out.lt_size (Nat.le_refl _)
  have c_r00 := b_r0.out.at0 b_r0.out.lt_size (Nat.le_refl _)
  have c_r01 := b_r0.out.at1 b_r0.out.lt_size (Nat.le_refl _)
  have c_r02 := b_r0.out.at2 b_r0.out.lt_size (Nat.le_refl _)
  have f_r00 := b_r0.out.free0 b_r0.out.lt_size (Nat.le_refl _)
  have f_r01 := b_r0.out.free1 b_r0.out.lt_size (Nat.le_refl _)
  have f_r02 := b_r0.out.free2 b_r0.out.lt_size (Nat.le_refl _)
  have l_r0 := b_r0.out.lt b_r0.out.lt_size (Nat.le_refl _)
  refine Code.wp_mono (Q := fun e a' w' => e = .normal ∧ ∃ (g : Nat) (A : Option Addr) (c : Nat) (v23 v24 v25 v26 v27 v28 : Value), a' = ⟨#[.agg #[.bool s_a, .slice A_a n_a c_a, .slice A_ad n_ad c_ad], .int .i64 (p : Int), .int .i64 m, (.pointer (some ⟨w.heap.size, 0, none⟩)), undef, undef, (.pointer (some ⟨w.heap.size + 1, 0, none⟩)), .int .i64 0, (.pointer (some ⟨g, 0, none⟩)), undef, undef, undef, undef, .bool false, .int .i64 (p : Int), .bool true, .bool false, undef, .bool false, .int .i64 m, .bool true, .bool false, undef, v23, v24, v25, v26, v27, v28, undef, undef, undef, undef, undef, undef, undef, undef, undef, undef, undef, undef, undef, undef, undef, undef, undef, undef, undef, undef, undef, undef, undef, undef, undef, undef, undef, undef, undef, undef], []⟩ ∧ Landed w2 w' g z1 A c) ?_ ?_
  rotate_left
  · skip
    have hd := Below.drw_ w2
    replace R_a := hide (Rd.then_ R_a.out hd)
    replace R_ad := hide (Rd.then_ R_ad.out hd)
    have U4 : Below w2.heap.size w2 (w2.drew) := Below.then_ U3 hd
    replace B := hide (Below.then_ B.out hd)
    clear hd
    have tok1 : True := trivial
    go_region_held3 (fun w' => Below w2.heap.size w2 w') (first | assumption | (with_reducible exact Below.al_ (by assumption) _) | (with_reducible exact Below.al_drew (by assumption) _) | (with_reducible exact (landed_new U6 R_s.out).below) | (with_reducible exact (landed_set U6 R_s.out X6.out).below) | (with_reducible exact (landed_late U6 R_s.out).below) | fail)
      (first
        | (go_at_call 31; (have _t := tok1; (with_reducible refine (scale_any h9.out e_T.out).mono ?_); rintro e w3 ⟨A_T, c_T, rfl, R_T, hb⟩; have hb1 : Below (w2.drew).heap.size (w2.drew) w3 := (by first | exact hb | exact Below.al_then hb | exact Below.al_then_drew hb); (first | (have X5 := hide (XBox.made_drew U4 hb)) | (have X5 := hide (XBox.made U4 hb)) | (have X5 := hide (XBox.keep X0.out hb1)) | skip); replace R_a := hide (Rd.then_ R_a.out hb1); replace R_ad := hide (Rd.then_ R_ad.out hb1); have U5 : Below w2.heap.size w2 w3 := Below.then_ U4 hb1; replace B := hide (Below.then_ B.out hb1); clear hb1; replace R_T := hide R_T; clear hb; have tok2 : True := trivial; clear _t tok1))
        | (go_at_call 30; (have _t := tok2; (with_reducible refine (imul_any _ _ _ _ _ _ _ _ _ _ _ _ (by first | exact R_a.out | exact Rd.al_ R_a.out | exact Rd.al_drew R_a.out) (by first | exact R_T.out | exact Rd.al_ R_T.out | exact Rd.al_drew R_T.out) (Nat.le_refl _) g1.out).mono ?_); rw [e_z1.out]; rintro e w4 ⟨A_s, c_s, rfl, R_s, hb⟩; have hb1 : Below w3.heap.size w3 w4 := (by first | exact hb | exact Below.al_then hb | exact Below.al_then_drew hb); (first | (have X6 := hide (XBox.made_drew U5 hb)) | (have X6 := hide (XBox.made U5 hb)) | (have X6 := hide (XBox.keep X5.out hb1)) | skip); replace R_a := hide (Rd.then_ R_a.out hb1); replace R_ad := hide (Rd.then_ R_ad.out hb1); replace R_T := hide (Rd.then_ R_T.out hb1); have U6 : Below w2.heap.size w2 w4 := Below.then_ U5 hb1; replace B := hide (Below.then_ B.out hb1); clear hb1; replace R_s := hide R_s; clear hb; have tok3 : True := trivial; clear _t tok2; (first | (have xf := XBox.facts X6.out; obtain ⟨x0, x1, x2, x3, x4⟩ := xf) | skip))))
    all_goals (refine ⟨rfl, _, A_s, c_s, _, _, _, _, _, _, rfl, ?_⟩; first | exact landed_new U6 R_s.out | exact landed_set U6 R_s.out X6.out | exact landed_late U6 R_s.out)
  rintro e a' w5 ⟨rfl, g_s, A_s, c_s, v23, v24, v25, v26, v27, v28, rfl, hbx, b_s, R_s, hg_s⟩
  replace R_s := hide R_s
  have ne_s_r0 : g_s ≠ w.heap.size + 1 := by have := l_r0 _ U3; omega
  replace ne_s_r0 := hide ne_s_r0
  have ne_a_s : w.heap.size ≠ g_s := by have := (b_a.out.lt b_a.out.lt_size (Nat.le_refl _)) _ U3; omega
  replace ne_a_s := hide ne_a_s
  have ne_r0_s := hide (Ne.symm ne_s_r0.out)
  have ge_s : w.heap.size ≤ g_s := by have := B.out.size; omega
  replace ge_s := hide ge_s
  clear hg_s
  replace R_a := hide (Rd.then_ R_a.out hbx)
  replace R_ad := hide (Rd.then_ R_ad.out hbx)
  have U4 : Below w2.heap.size w2 w5 := Below.then_ U3 hbx
  replace B := hide (Below.then_ B.out hbx)
  clear hbx
  replace b_a := hide (Box3.keep b_a.out U4)
  clear c_a0 c_a1 c_a2
  replace b_r0 := hide (BoxD.keep b_r0.out U4)
  clear c_r00 c_r01 c_r02 f_r00 f_r01 f_r02 l_r0
  replace b_s := hide b_s
  have U5 : Below w5.heap.size w5 w5 := Below.refl _ _
  have c_a0 := b_a.out.at0 b_a.out.lt_size (Nat.le_refl _)
  have c_a1 := b_a.out.at1 b_a.out.lt_size (Nat.le_refl _)
  have c_a2 := b_a.out.at2 b_a.out.lt_size (Nat.le_refl _)
  have c_r00 := b_r0.out.at0 b_r0.out.lt_size (Nat.le_refl _)
  have c_r01 := b_r0.out.at1 b_r0.out.lt_size (Nat.le_refl _)
  have c_r02 := b_r0.out.at2 b_r0.out.lt_size (Nat.le_refl _)
  have f_r00 := b_r0.out.free0 b_r0.out.lt_size (Nat.le_refl _)
  have f_r01 := b_r0.out.free1 b_r0.out.lt_size (Nat.le_refl _)
  have f_r02 := b_r0.out.free2 b_r0.out.lt_size (Nat.le_refl _)
  have l_r0 := b_r0.out.lt b_r0.out.lt_size (Nat.le_refl _)
  have c_s0 := b_s.out.at0 b_s.out.lt_size (Nat.le_refl _)
  have c_s1 := b_s.out.at1 b_s.out.lt_size (Nat.le_refl _)
  go_wp2_with fail
  refine (idiv_any _ _ _ _ _ _ _ _ _ _ _ _ R_s.out R_ad.out (Nat.le_refl _) g2.out h0.out).mono ?_
  rw [e_u.out, e_r.out]
  rintro e w6 ⟨A_u, c_u, A_r, c_r, rfl, R_u, R_r, hb⟩
  replace R_a := hide (Rd.then_ R_a.out hb)
  replace R_ad := hide (Rd.then_ R_ad.out hb)
  replace R_s := hide (Rd.then_ R_s.out hb)
  have U6 : Below w5.heap.size w5 w6 := Below.then_ U5 hb
  replace B := hide (Below.then_ B.out hb)
  replace R_u := hide R_u
  replace R_r := hide R_r
  clear hb
  have hbx : Below w6.heap.size w6 ((w6.alloc (.cells #[.bool (zneg u), .slice A_u (dig (zmag u)).length c_u] 25)).alloc (.cells #[.bool (zneg r), .slice A_r (dig (zmag r)).length c_r] 25)) := (((Below.refl _ _).alloc (Nat.le_refl _) _).alloc (by simp) _)
  have Ux := Below.then_ U6 hbx
  go_wp2_with fail
  obtain ⟨V6, hV⟩ : ∃ V, V = ((w6.alloc (.cells #[.bool (zneg u), .slice A_u (dig (zmag u)).length c_u] 25)).alloc (.cells #[.bool (zneg r), .slice A_r (dig (zmag r)).length c_r] 25)) := ⟨_, rfl⟩
  obtain ⟨g_u, hg_u⟩ : ∃ g, g = w6.heap.size := ⟨_, rfl⟩
  obtain ⟨g_r, hg_r⟩ : ∃ g, g = w6.heap.size + 1 := ⟨_, rfl⟩
  rw [← hV]
  rw [← hV] at hbx Ux
  rw [← hg_r]
  rw [← hg_u]
  have b_u : Box V6 g_u (.bool (zneg u)) (.slice A_u (dig (zmag u)).length c_u) := by rw [hV]; exact ((Box.new _ _ _ hg_u).al _)
  have b_r : Box V6 g_r (.bool (zneg r)) (.slice A_r (dig (zmag r)).length c_r) := by rw [hV]; exact (Box.new _ _ _ (by rw [hg_r]; simp))
  clear hV
  have ne_u_r0 : g_u ≠ w.heap.size + 1 := by have := l_r0 _ U6; omega
  replace ne_u_r0 := hide ne_u_r0
  have ne_r_r0 : g_r ≠ w.heap.size + 1 := by have := l_r0 _ U6; omega
  replace ne_r_r0 := hide ne_r_r0
  have ne_a_u : w.heap.size ≠ g_u := by have := (b_a.out.lt b_a.out.lt_size (Nat.le_refl _)) _ U6; omega
  replace ne_a_u := hide ne_a_u
  have ne_r0_u := hide (Ne.symm ne_u_r0.out)
  have ne_s_u : g_s ≠ g_u := by have := (b_s.out.lt b_s.out.lt_size (Nat.le_refl _)) _ U6; omega
  replace ne_s_u := hide ne_s_u
  have ge_u : w.heap.size ≤ g_u := by have := B.out.size; omega
  replace ge_u := hide ge_u
  have ne_a_r : w.heap.size ≠ g_r := by have := (b_a.out.lt b_a.out.lt_size (Nat.le_refl _)) _ U6; omega
  replace ne_a_r := hide ne_a_r
  have ne_r0_r := hide (Ne.symm ne_r_r0.out)
  have ne_s_r : g_s ≠ g_r := by have := (b_s.out.lt b_s.out.lt_size (Nat.le_refl _)) _ U6; omega
  replace ne_s_r := hide ne_s_r
  have ge_r : w.heap.size ≤ g_r := by have := B.out.size; omega
  replace ge_r := hide ge_r
  have ne_r_u : g_r ≠ g_u := by omega
  replace ne_r_u := hide ne_r_u
  clear hg_u
  clear hg_r
  replace R_a := hide (Rd.then_ R_a.out hbx)
  replace R_ad := hide (Rd.then_ R_ad.out hbx)
  replace R_s := hide (Rd.then_ R_s.out hbx)
  replace R_u := hide (Rd.then_ R_u.out hbx)
  replace R_r := hide (Rd.then_ R_r.out hbx)
  have U7 : Below w5.heap.size w5 V6 := Below.then_ U6 hbx
  replace B := hide (Below.then_ B.out hbx)
  clear hbx
  replace b_a := hide (Box3.keep b_a.out U7)
  clear c_a0 c_a1 c_a2
  replace b_r0 := hide (BoxD.keep b_r0.out U7)
  clear c_r00 c_r01 c_r02 f_r00 f_r01 f_r02 l_r0
  replace b_s := hide (Box.keep b_s.out U7)
  clear c_s0 c_s1
  replace b_u := hide b_u
  replace b_r := hide b_r
  have U8 : Below V6.heap.size V6 V6 := Below.refl _ _
  have c_a0 := b_a.out.at0 b_a.out.lt_size (Nat.le_refl _)
  have c_a1 := b_a.out.at1 b_a.out.lt_size (Nat.le_refl _)
  have c_a2 := b_a.out.at2 b_a.out.lt_size (Nat.le_refl _)
  have c_r00 := b_r0.out.at0 b_r0.out.lt_size (Nat.le_refl _)
  have c_r01 := b_r0.out.at1 b_r0.out.lt_size (Nat.le_refl _)
  have c_r02 := b_r0.out.at2 b_r0.out.lt_size (Nat.le_refl _)
  have f_r00 := b_r0.out.free0 b_r0.out.lt_size (Nat.le_refl _)
  have f_r01 := b_r0.out.free1 b_r0.out.lt_size (Nat.le_refl _)
  have f_r02 := b_r0.out.free2 b_r0.out.lt_size (Nat.le_refl _)
  have l_r0 := b_r0.out.lt b_r0.out.lt_size (Nat.le_refl _)
  have c_s0 := b_s.out.at0 b_s.out.lt_size (Nat.le_refl _)
  have c_s1 := b_s.out.at1 b_s.out.lt_size (Nat.le_refl _)
  have c_u0 := b_u.out.at0 b_u.out.lt_size (Nat.le_refl _)
  have c_u1 := b_u.out.at1 b_u.out.lt_size (Nat.le_refl _)
  have f_u0 := b_u.out.free0 b_u.out.lt_size (Nat.le_refl _)
  have f_u1 := b_u.out.free1 b_u.out.lt_size (Nat.le_refl _)
  have l_u := b_u.out.lt b_u.out.lt_size (Nat.le_refl _)
  have c_r0 := b_r.out.at0 b_r.out.lt_size (Nat.le_refl _)
  have c_r1 := b_r.out.at1 b_r.out.lt_size (Nat.le_refl _)
  refine (isign_any _ _ _ _ _ _ _ R_r.out (Nat.le_refl _)).mono ?_
  rw [e_s.out]
  rintro e w7 ⟨rfl, hb⟩
  replace R_a := hide (Rd.then_ R_a.out hb)
  replace R_ad := hide (Rd.then_ R_ad.out hb)
  replace R_s := hide (Rd.then_ R_s.out hb)
  replace R_u := hide (Rd.then_ R_u.out hb)
  replace R_r := hide (Rd.then_ R_r.out hb)
  have U9 : Below V6.heap.size V6 w7 := Below.then_ U8 hb
  replace B := hide (Below.then_ B.out hb)
  clear hb
  go_wp2_with fail
  have hd := Below.drw_ w7
  replace R_a := hide (Rd.then_ R_a.out hd)
  replace R_ad := hide (Rd.then_ R_ad.out hd)
  replace R_s := hide (Rd.then_ R_s.out hd)
  replace R_u := hide (Rd.then_ R_u.out hd)
  replace R_r := hide (Rd.then_ R_r.out hd)
  have U10 : Below V6.heap.size V6 (w7.drew) := Below.then_ U9 hd
  replace B := hide (Below.then_ B.out hd)
  clear hd
  have tok1 : True := trivial
  go_region_held3 (fun w' => Below V6.heap.size V6 w') (assumption)
    (first
      | (go_at_call 35; (have _t := tok1; (with_reducible refine (add_any _ _ _ _ _ _ _ _ _ _ R_r.out R_r.out (Nat.le_refl _) g3.out g3.out).mono ?_); rw [e_d2.out]; rintro e w8 ⟨A_d2, c_d2, rfl, R_d2, hb⟩; replace R_a := hide (Rd.then_ R_a.out hb); replace R_ad := hide (Rd.then_ R_ad.out hb); replace R_s := hide (Rd.then_ R_s.out hb); replace R_u := hide (Rd.then_ R_u.out hb); replace R_r := hide (Rd.then_ R_r.out hb); have U11 : Below V6.heap.size V6 w8 := Below.then_ U10 hb; replace B := hide (Below.then_ B.out hb); replace R_d2 := hide R_d2; clear hb; have tok2 : True := trivial; clear _t tok1))
      | (go_at_call 34; (have _t := tok2; (with_reducible refine (cmp_b R_d2.out R_ad.out e_h.out).mono ?_); rintro e w9 ⟨rfl, hb⟩; replace R_a := hide (Rd.then_ R_a.out hb); replace R_ad := hide (Rd.then_ R_ad.out hb); replace R_s := hide (Rd.then_ R_s.out hb); replace R_u := hide (Rd.then_ R_u.out hb); replace R_r := hide (Rd.then_ R_r.out hb); replace R_d2 := hide (Rd.then_ R_d2.out hb); have U12 : Below V6.heap.size V6 w9 := Below.then_ U11 hb; replace B := hide (Below.then_ B.out hb); clear hb; have tok3 : True := trivial; clear _t tok2)))
  clear tok3
  go_wp2_with fail
  refine (chooses_any R_u.out g4.out (Nat.le_refl _) h1.out h7.out hh1.out hb.out).mono ?_
  rintro e w10 ⟨rfl, hb⟩
  replace R_a := hide (Rd.then_ R_a.out hb)
  replace R_ad := hide (Rd.then_ R_ad.out hb)
  replace R_s := hide (Rd.then_ R_s.out hb)
  replace R_u := hide (Rd.then_ R_u.out hb)
  replace R_r := hide (Rd.then_ R_r.out hb)
  replace R_d2 := hide (Rd.then_ R_d2.out hb)
  have U13 : Below V6.heap.size V6 w10 := Below.then_ U12 hb
  replace B := hide (Below.then_ B.out hb)
  clear hb
  go_wp2
  exact bodyPost_ret (v := .tuple #[.agg #[.bool (zneg u), .slice A_u (dig (zmag u)).length c_u, .int .i64 (p : Int)], .int .i64 0]) (by simp [results, Tryz.results9, go_sem, c_r00 _ U13, c_r01 _ U13, c_r02 _ U13]) rfl (RetDec.box B.out (by omega) (c_r00 _ U13) (c_r01 _ U13) (c_r02 _ U13) R_u.out)

set_option maxHeartbeats 4000000 in
theorem pround_high {w : World} {Bd : Nat} {A_a : Option Addr} {n_a c_a : Nat} {x_a : List Nat} {s_a : Bool} {A_ad : Option Addr} {n_ad c_ad : Nat} {x_ad : List Nat} {p : Nat} {m : Int} (h_a : Rd w Bd A_a n_a c_a x_a) (g_a : n_a ≤ 1000000000) (h_ad : Rd w Bd A_ad n_ad c_ad x_ad) (g_ad : n_ad ≤ 1000000000) (hB : Bd ≤ w.heap.size) (h9 : p ≤ 9) (h1 : 1 ≤ m) (h7 : m ≤ 7) {u r h z : Int} (h0 : val x_ad ≠ 0) (hu : iv s_a (val x_a) * ((10 ^ p : Nat) : Int) / (val x_ad : Int) = u) (hr : iv s_a (val x_a) * ((10 ^ p : Nat) : Int) - (val x_ad : Int) * u = r) (hr0 : r ≠ 0) (hh : sgn (2 * r - (val x_ad : Int)) = h) (hb : upd m (decide (u < 0)) (oddz u) h = true) (hz : u + 1 = z) :
    Calls Tryz.prog 9 #[.agg #[.bool s_a, .slice A_a n_a c_a, .slice A_ad n_ad c_ad], .int .i64 (p : Int), .int .i64 m] w (RetDec w z (p : Int) 0) := by
  obtain ⟨T, e_T⟩ : ∃ new, 10 ^ p = new := ⟨_, rfl⟩
  replace e_T := hide e_T
  have lT : T < pw 1 := by rw [← e_T.out]; exact Nat.lt_of_le_of_lt (Nat.pow_le_pow_right (by omega) h9) (by decide)
  have g1 : n_a + (dig T).length ≤ 70368744177664 := by have := dl lT; omega
  replace g1 := hide g1
  obtain ⟨z1, e_z1⟩ : ∃ new, iv s_a (val x_a) * iv false (val (dig T)) = new := ⟨_, rfl⟩
  replace e_z1 := hide e_z1
  have l_z1 : zmag z1 < pw (n_a + 1) := by rw [← e_z1.out]; exact zl_mul (zl_iv h_a.lt) (zl_iv (by rw [val_dig]; exact lT))
  have e_z1' : iv s_a (val x_a) * ((10 ^ p : Nat) : Int) = z1 := by rw [e_T.out, ← e_z1.out, val_dig, iv_false]
  have g2 : (dig (zmag z1)).length + 1 ≤ 70368744177664 := by have := zl l_z1; omega
  replace g2 := hide g2
  rw [e_z1'] at hu hr
  have e_u : fq (zneg z1) false (val (dig (zmag z1))) (val x_ad) = u := by rw [fq_floor _ _ h0, ivz]; exact hu
  replace e_u := hide e_u
  have e_r : fr (zneg z1) false (val (dig (zmag z1))) (val x_ad) = r := by unfold fr; rw [fq_floor _ _ h0, ivz, hu, iv_false]; exact hr
  replace e_r := hide e_r
  have l_u : zmag u < pw (n_a + 1) := by rw [← hu]; exact Nat.lt_of_le_of_lt (Int.natAbs_ediv_le_natAbs _ _) l_z1
  have hr1 : 0 ≤ r ∧ r < (val x_ad : Int) := by rw [← hr, ← hu]; have e := Int.emod_add_mul_ediv z1 (val x_ad : Int); have e1 := Int.emod_nonneg z1 (b := (val x_ad : Int)) (by omega); have e2 := Int.emod_lt_of_pos z1 (b := (val x_ad : Int)) (by omega); omega
  have l_r : zmag r < pw n_ad := Nat.lt_of_le_of_lt (by unfold zmag; omega) h_ad.lt
  have hrm : ((zmag r : Nat) : Int) = r := by unfold zmag; omega
  have g3 : (dig (zmag r)).length + 1 ≤ 70368744177664 := by have := zl l_r; omega
  replace g3 := hide g3
  have g4 : (dig (zmag u)).length ≤ 10000000000 := by have := zl l_u; omega
  replace g4 := hide g4
  obtain ⟨d2, e_d2⟩ : ∃ new, val (dig (zmag r)) + val (dig (zmag r)) = new := ⟨_, rfl⟩
  replace e_d2 := hide e_d2
  have e_h : cmpN (val (dig d2)) (val x_ad) = h := by rw [cmpN_sgn, val_dig, ← e_d2.out, val_dig, ← hh]; congr 1; omega
  replace e_h := hide e_h
  have hh1 : h = -1 ∨ h = 0 ∨ h = 1 := by rw [← hh]; have := sgn_three (2 * r - (val x_ad : Int)); omega
  replace hh1 := hide hh1
  have e_s : sgn (iv (zneg r) (val (dig (zmag r)))) = 1 := by rw [ivz]; unfold sgn; exact Int.sign_eq_one_of_pos (by omega)
  replace e_s := hide e_s
  replace hb := hide hb
  have g5 : (dig (zmag u)).length + 1 ≤ 70368744177664 := by have := zl l_u; omega
  replace g5 := hide g5
  have g6 : (dig (zmag 1)).length + 1 ≤ 70368744177664 := by rw [show zmag 1 = 1 from rfl, dig_one]; exact (by omega : 1 + 1 ≤ 70368744177664)
  replace g6 := hide g6
  have e_z : iv (zneg u) (val (dig (zmag u))) + iv (zneg 1) (val (dig (zmag 1))) = z := by rw [ivz, ivz]; exact hz
  replace e_z := hide e_z
  clear hr1 l_r hrm hh hr0 hz
  have f0 : (0 : Int) ≤ (p : Int) := by omega
  replace f0 := hide f0
  have f9 : (p : Int) ≤ 9 := by omega
  replace f9 := hide f9
  clear l_z1 e_z1' l_u hu hr
  replace h0 := hide h0
  replace h1 := hide h1
  replace h7 := hide h7
  replace h9 := hide h9
  replace lT := hide lT
  obtain ⟨W, hW⟩ : ∃ W, W = ((w.alloc (.cells #[.bool s_a, .slice A_a n_a c_a, .slice A_ad n_ad c_ad] 27)).alloc (.cells #[.bool false, .slice none 0 0, .int .i64 0] 29)) := ⟨_, rfl⟩
  have b_a : Box3 W (w.heap.size) (.bool s_a) (.slice A_a n_a c_a) (.slice A_ad n_ad c_ad) := by rw [hW]; exact ((Box3.new w _ _ _ rfl).al _)
  have b_r0 : BoxD W (w.heap.size + 1) (.bool false) (.slice none 0 0) (.int .i64 0) := by rw [hW]; exact (BoxD.new _ _ _ _ (by simp))
  have hwW : Below w.heap.size w W := by rw [hW]; exact (((Below.refl _ _).alloc (Nat.le_refl _) _).alloc (by simp) _)
  have R_a := hide (Rd.upto h_a hwW hB)
  clear h_a
  have R_ad := hide (Rd.upto h_ad hwW hB)
  clear h_ad
  have B := hide hwW
  clear hwW
  clear hB
  have U0 : Below W.heap.size W W := Below.refl _ _
  have c_a0 := b_a.at0 b_a.lt_size (Nat.le_refl _)
  have c_a1 := b_a.at1 b_a.lt_size (Nat.le_refl _)
  have c_a2 := b_a.at2 b_a.lt_size (Nat.le_refl _)
  replace b_a := hide b_a
  have c_r00 := b_r0.at0 b_r0.lt_size (Nat.le_refl _)
  have c_r01 := b_r0.at1 b_r0.lt_size (Nat.le_refl _)
  have c_r02 := b_r0.at2 b_r0.lt_size (Nat.le_refl _)
  have f_r00 := b_r0.free0 b_r0.lt_size (Nat.le_refl _)
  have f_r01 := b_r0.free1 b_r0.lt_size (Nat.le_refl _)
  have f_r02 := b_r0.free2 b_r0.lt_size (Nat.le_refl _)
  have l_r0 := b_r0.lt b_r0.lt_size (Nat.le_refl _)
  replace b_r0 := hide b_r0
  go_enter Tryz.func9, Tryz.ntmps9
  go_wp2_with fail
  rw [← hW]
  clear hW
  refine (isplaces_yes f0.out f9.out).mono ?_
  rintro e w1 ⟨rfl, hb⟩
  replace R_a := hide (Rd.then_ R_a.out hb)
  replace R_ad := hide (Rd.then_ R_ad.out hb)
  have U1 : Below W.heap.size W w1 := Below.then_ U0 hb
  replace B := hide (Below.then_ B.out hb)
  clear hb
  go_wp2_with fail
  refine (ismode_yes h1.out h7.out).mono ?_
  rintro e w2 ⟨rfl, hb⟩
  replace R_a := hide (Rd.then_ R_a.out hb)
  replace R_ad := hide (Rd.then_ R_ad.out hb)
  have U2 : Below W.heap.size W w2 := Below.then_ U1 hb
  replace B := hide (Below.then_ B.out hb)
  clear hb
  go_wp2_with fail
  replace b_a := hide (Box3.keep b_a.out U2)
  clear c_a0 c_a1 c_a2
  replace b_r0 := hide (BoxD.keep b_r0.out U2)
  clear c_r00 c_r01 c_r02 f_r00 f_r01 f_r02 l_r0
  have U3 : Below w2.heap.size w2 w2 := Below.refl _ _
  have c_a0 := b_a.out.at0 b_a.out.lt_size (Nat.le_refl _)
  have c_a1 := b_a.out.at1 b_a.out.lt_size (Nat.le_refl _)
  have c_a2 := b_a.out.at2 b_a.out.lt_size (Nat.le_refl _)
  have c_r00 := b_r0.out.at0 b_r0.out.lt_size (Nat.le_refl _)
  have c_r01 := b_r0.out.at1 b_r0.out.lt_size (Nat.le_refl _)
  have c_r02 := b_r0.out.at2 b_r0.out.lt_size (Nat.le_refl _)
  have f_r00 := b_r0.out.free0 b_r0.out.lt_size (Nat.le_refl _)
  have f_r01 := b_r0.out.free1 b_r0.out.lt_size (Nat.le_refl _)
  have f_r02 := b_r0.out.free2 b_r0.out.lt_size (Nat.le_refl _)
  have l_r0 := b_r0.out.lt b_r0.out.lt_size (Nat.le_refl _)
  refine Code.wp_mono (Q := fun e a' w' => e = .normal ∧ ∃ (g : Nat) (A : Option Addr) (c : Nat) (v23 v24 v25 v26 v27 v28 : Value), a' = ⟨#[.agg #[.bool s_a, .slice A_a n_a c_a, .slice A_ad n_ad c_ad], .int .i64 (p : Int), .int .i64 m, (.pointer (some ⟨w.heap.size, 0, none⟩)), undef, undef, (.pointer (some ⟨w.heap.size + 1, 0, none⟩)), .int .i64 0, (.pointer (some ⟨g, 0, none⟩)), undef, undef, undef, undef, .bool false, .int .i64 (p : Int), .bool true, .bool false, undef, .bool false, .int .i64 m, .bool true, .bool false, undef, v23, v24, v25, v26, v27, v28, undef, undef, undef, undef, undef, undef, undef, undef, undef, undef, undef, undef, undef, undef, undef, undef, undef, undef, undef, undef, undef, undef, undef, undef, undef, undef, undef, undef, undef, undef], []⟩ ∧ Landed w2 w' g z1 A c) ?_ ?_
  rotate_left
  · skip
    have hd := Below.drw_ w2
    replace R_a := hide (Rd.then_ R_a.out hd)
    replace R_ad := hide (Rd.then_ R_ad.out hd)
    have U4 : Below w2.heap.size w2 (w2.drew) := Below.then_ U3 hd
    replace B := hide (Below.then_ B.out hd)
    clear hd
    have tok1 : True := trivial
    go_region_held3 (fun w' => Below w2.heap.size w2 w') (first | assumption | (with_reducible exact Below.al_ (by assumption) _) | (with_reducible exact Below.al_drew (by assumption) _) | (with_reducible exact (landed_new U6 R_s.out).below) | (with_reducible exact (landed_set U6 R_s.out X6.out).below) | (with_reducible exact (landed_late U6 R_s.out).below) | fail)
      (first
        | (go_at_call 31; (have _t := tok1; (with_reducible refine (scale_any h9.out e_T.out).mono ?_); rintro e w3 ⟨A_T, c_T, rfl, R_T, hb⟩; have hb1 : Below (w2.drew).heap.size (w2.drew) w3 := (by first | exact hb | exact Below.al_then hb | exact Below.al_then_drew hb); (first | (have X5 := hide (XBox.made_drew U4 hb)) | (have X5 := hide (XBox.made U4 hb)) | (have X5 := hide (XBox.keep X0.out hb1)) | skip); replace R_a := hide (Rd.then_ R_a.out hb1); replace R_ad := hide (Rd.then_ R_ad.out hb1); have U5 : Below w2.heap.size w2 w3 := Below.then_ U4 hb1; replace B := hide (Below.then_ B.out hb1); clear hb1; replace R_T := hide R_T; clear hb; have tok2 : True := trivial; clear _t tok1))
        | (go_at_call 30; (have _t := tok2; (with_reducible refine (imul_any _ _ _ _ _ _ _ _ _ _ _ _ (by first | exact R_a.out | exact Rd.al_ R_a.out | exact Rd.al_drew R_a.out) (by first | exact R_T.out | exact Rd.al_ R_T.out | exact Rd.al_drew R_T.out) (Nat.le_refl _) g1.out).mono ?_); rw [e_z1.out]; rintro e w4 ⟨A_s, c_s, rfl, R_s, hb⟩; have hb1 : Below w3.heap.size w3 w4 := (by first | exact hb | exact Below.al_then hb | exact Below.al_then_drew hb); (first | (have X6 := hide (XBox.made_drew U5 hb)) | (have X6 := hide (XBox.made U5 hb)) | (have X6 := hide (XBox.keep X5.out hb1)) | skip); replace R_a := hide (Rd.then_ R_a.out hb1); replace R_ad := hide (Rd.then_ R_ad.out hb1); replace R_T := hide (Rd.then_ R_T.out hb1); have U6 : Below w2.heap.size w2 w4 := Below.then_ U5 hb1; replace B := hide (Below.then_ B.out hb1); clear hb1; replace R_s := hide R_s; clear hb; have tok3 : True := trivial; clear _t tok2; (first | (have xf := XBox.facts X6.out; obtain ⟨x0, x1, x2, x3, x4⟩ := xf) | skip))))
    all_goals (refine ⟨rfl, _, A_s, c_s, _, _, _, _, _, _, rfl, ?_⟩; first | exact landed_new U6 R_s.out | exact landed_set U6 R_s.out X6.out | exact landed_late U6 R_s.out)
  rintro e a' w5 ⟨rfl, g_s, A_s, c_s, v23, v24, v25, v26, v27, v28, rfl, hbx, b_s, R_s, hg_s⟩
  replace R_s := hide R_s
  have ne_s_r0 : g_s ≠ w.heap.size + 1 := by have := l_r0 _ U3; omega
  replace ne_s_r0 := hide ne_s_r0
  have ne_a_s : w.heap.size ≠ g_s := by have := (b_a.out.lt b_a.out.lt_size (Nat.le_refl _)) _ U3; omega
  replace ne_a_s := hide ne_a_s
  have ne_r0_s := hide (Ne.symm ne_s_r0.out)
  have ge_s : w.heap.size ≤ g_s := by have := B.out.size; omega
  replace ge_s := hide ge_s
  clear hg_s
  replace R_a := hide (Rd.then_ R_a.out hbx)
  replace R_ad := hide (Rd.then_ R_ad.out hbx)
  have U4 : Below w2.heap.size w2 w5 := Below.then_ U3 hbx
  replace B := hide (Below.then_ B.out hbx)
  clear hbx
  replace b_a := hide (Box3.keep b_a.out U4)
  clear c_a0 c_a1 c_a2
  replace b_r0 := hide (BoxD.keep b_r0.out U4)
  clear c_r00 c_r01 c_r02 f_r00 f_r01 f_r02 l_r0
  replace b_s := hide b_s
  have U5 : Below w5.heap.size w5 w5 := Below.refl _ _
  have c_a0 := b_a.out.at0 b_a.out.lt_size (Nat.le_refl _)
  have c_a1 := b_a.out.at1 b_a.out.lt_size (Nat.le_refl _)
  have c_a2 := b_a.out.at2 b_a.out.lt_size (Nat.le_refl _)
  have c_r00 := b_r0.out.at0 b_r0.out.lt_size (Nat.le_refl _)
  have c_r01 := b_r0.out.at1 b_r0.out.lt_size (Nat.le_refl _)
  have c_r02 := b_r0.out.at2 b_r0.out.lt_size (Nat.le_refl _)
  have f_r00 := b_r0.out.free0 b_r0.out.lt_size (Nat.le_refl _)
  have f_r01 := b_r0.out.free1 b_r0.out.lt_size (Nat.le_refl _)
  have f_r02 := b_r0.out.free2 b_r0.out.lt_size (Nat.le_refl _)
  have l_r0 := b_r0.out.lt b_r0.out.lt_size (Nat.le_refl _)
  have c_s0 := b_s.out.at0 b_s.out.lt_size (Nat.le_refl _)
  have c_s1 := b_s.out.at1 b_s.out.lt_size (Nat.le_refl _)
  go_wp2_with fail
  refine (idiv_any _ _ _ _ _ _ _ _ _ _ _ _ R_s.out R_ad.out (Nat.le_refl _) g2.out h0.out).mono ?_
  rw [e_u.out, e_r.out]
  rintro e w6 ⟨A_u, c_u, A_r, c_r, rfl, R_u, R_r, hb⟩
  replace R_a := hide (Rd.then_ R_a.out hb)
  replace R_ad := hide (Rd.then_ R_ad.out hb)
  replace R_s := hide (Rd.then_ R_s.out hb)
  have U6 : Below w5.heap.size w5 w6 := Below.then_ U5 hb
  replace B := hide (Below.then_ B.out hb)
  replace R_u := hide R_u
  replace R_r := hide R_r
  clear hb
  have hbx : Below w6.heap.size w6 ((w6.alloc (.cells #[.bool (zneg u), .slice A_u (dig (zmag u)).length c_u] 25)).alloc (.cells #[.bool (zneg r), .slice A_r (dig (zmag r)).length c_r] 25)) := (((Below.refl _ _).alloc (Nat.le_refl _) _).alloc (by simp) _)
  have Ux := Below.then_ U6 hbx
  go_wp2_with fail
  obtain ⟨V6, hV⟩ : ∃ V, V = ((w6.alloc (.cells #[.bool (zneg u), .slice A_u (dig (zmag u)).length c_u] 25)).alloc (.cells #[.bool (zneg r), .slice A_r (dig (zmag r)).length c_r] 25)) := ⟨_, rfl⟩
  obtain ⟨g_u, hg_u⟩ : ∃ g, g = w6.heap.size := ⟨_, rfl⟩
  obtain ⟨g_r, hg_r⟩ : ∃ g, g = w6.heap.size + 1 := ⟨_, rfl⟩
  rw [← hV]
  rw [← hV] at hbx Ux
  rw [← hg_r]
  rw [← hg_u]
  have b_u : Box V6 g_u (.bool (zneg u)) (.slice A_u (dig (zmag u)).length c_u) := by rw [hV]; exact ((Box.new _ _ _ hg_u).al _)
  have b_r : Box V6 g_r (.bool (zneg r)) (.slice A_r (dig (zmag r)).length c_r) := by rw [hV]; exact (Box.new _ _ _ (by rw [hg_r]; simp))
  clear hV
  have ne_u_r0 : g_u ≠ w.heap.size + 1 := by have := l_r0 _ U6; omega
  replace ne_u_r0 := hide ne_u_r0
  have ne_r_r0 : g_r ≠ w.heap.size + 1 := by have := l_r0 _ U6; omega
  replace ne_r_r0 := hide ne_r_r0
  have ne_a_u : w.heap.size ≠ g_u := by have := (b_a.out.lt b_a.out.lt_size (Nat.le_refl _)) _ U6; omega
  replace ne_a_u := hide ne_a_u
  have ne_r0_u := hide (Ne.symm ne_u_r0.out)
  have ne_s_u : g_s ≠ g_u := by have := (b_s.out.lt b_s.out.lt_size (Nat.le_refl _)) _ U6; omega
  replace ne_s_u := hide ne_s_u
  have ge_u : w.heap.size ≤ g_u := by have := B.out.size; omega
  replace ge_u := hide ge_u
  have ne_a_r : w.heap.size ≠ g_r := by have := (b_a.out.lt b_a.out.lt_size (Nat.le_refl _)) _ U6; omega
  replace ne_a_r := hide ne_a_r
  have ne_r0_r := hide (Ne.symm ne_r_r0.out)
  have ne_s_r : g_s ≠ g_r := by have := (b_s.out.lt b_s.out.lt_size (Nat.le_refl _)) _ U6; omega
  replace ne_s_r := hide ne_s_r
  have ge_r : w.heap.size ≤ g_r := by have := B.out.size; omega
  replace ge_r := hide ge_r
  have ne_r_u : g_r ≠ g_u := by omega
  replace ne_r_u := hide ne_r_u
  clear hg_u
  clear hg_r
  replace R_a := hide (Rd.then_ R_a.out hbx)
  replace R_ad := hide (Rd.then_ R_ad.out hbx)
  replace R_s := hide (Rd.then_ R_s.out hbx)
  replace R_u := hide (Rd.then_ R_u.out hbx)
  replace R_r := hide (Rd.then_ R_r.out hbx)
  have U7 : Below w5.heap.size w5 V6 := Below.then_ U6 hbx
  replace B := hide (Below.then_ B.out hbx)
  clear hbx
  replace b_a := hide (Box3.keep b_a.out U7)
  clear c_a0 c_a1 c_a2
  replace b_r0 := hide (BoxD.keep b_r0.out U7)
  clear c_r00 c_r01 c_r02 f_r00 f_r01 f_r02 l_r0
  replace b_s := hide (Box.keep b_s.out U7)
  clear c_s0 c_s1
  replace b_u := hide b_u
  replace b_r := hide b_r
  have U8 : Below V6.heap.size V6 V6 := Below.refl _ _
  have c_a0 := b_a.out.at0 b_a.out.lt_size (Nat.le_refl _)
  have c_a1 := b_a.out.at1 b_a.out.lt_size (Nat.le_refl _)
  have c_a2 := b_a.out.at2 b_a.out.lt_size (Nat.le_refl _)
  have c_r00 := b_r0.out.at0 b_r0.out.lt_size (Nat.le_refl _)
  have c_r01 := b_r0.out.at1 b_r0.out.lt_size (Nat.le_refl _)
  have c_r02 := b_r0.out.at2 b_r0.out.lt_size (Nat.le_refl _)
  have f_r00 := b_r0.out.free0 b_r0.out.lt_size (Nat.le_refl _)
  have f_r01 := b_r0.out.free1 b_r0.out.lt_size (Nat.le_refl _)
  have f_r02 := b_r0.out.free2 b_r0.out.lt_size (Nat.le_refl _)
  have l_r0 := b_r0.out.lt b_r0.out.lt_size (Nat.le_refl _)
  have c_s0 := b_s.out.at0 b_s.out.lt_size (Nat.le_refl _)
  have c_s1 := b_s.out.at1 b_s.out.lt_size (Nat.le_refl _)
  have c_u0 := b_u.out.at0 b_u.out.lt_size (Nat.le_refl _)
  have c_u1 := b_u.out.at1 b_u.out.lt_size (Nat.le_refl _)
  have f_u0 := b_u.out.free0 b_u.out.lt_size (Nat.le_refl _)
  have f_u1 := b_u.out.free1 b_u.out.lt_size (Nat.le_refl _)
  have l_u := b_u.out.lt b_u.out.lt_size (Nat.le_refl _)
  have c_r0 := b_r.out.at0 b_r.out.lt_size (Nat.le_refl _)
  have c_r1 := b_r.out.at1 b_r.out.lt_size (Nat.le_refl _)
  refine (isign_any _ _ _ _ _ _ _ R_r.out (Nat.le_refl _)).mono ?_
  rw [e_s.out]
  rintro e w7 ⟨rfl, hb⟩
  replace R_a := hide (Rd.then_ R_a.out hb)
  replace R_ad := hide (Rd.then_ R_ad.out hb)
  replace R_s := hide (Rd.then_ R_s.out hb)
  replace R_u := hide (Rd.then_ R_u.out hb)
  replace R_r := hide (Rd.then_ R_r.out hb)
  have U9 : Below V6.heap.size V6 w7 := Below.then_ U8 hb
  replace B := hide (Below.then_ B.out hb)
  clear hb
  go_wp2_with fail
  have hd := Below.drw_ w7
  replace R_a := hide (Rd.then_ R_a.out hd)
  replace R_ad := hide (Rd.then_ R_ad.out hd)
  replace R_s := hide (Rd.then_ R_s.out hd)
  replace R_u := hide (Rd.then_ R_u.out hd)
  replace R_r := hide (Rd.then_ R_r.out hd)
  have U10 : Below V6.heap.size V6 (w7.drew) := Below.then_ U9 hd
  replace B := hide (Below.then_ B.out hd)
  clear hd
  have tok1 : True := trivial
  go_region_held3 (fun w' => Below V6.heap.size V6 w') (assumption)
    (first
      | (go_at_call 35; (have _t := tok1; (with_reducible refine (add_any _ _ _ _ _ _ _ _ _ _ R_r.out R_r.out (Nat.le_refl _) g3.out g3.out).mono ?_); rw [e_d2.out]; rintro e w8 ⟨A_d2, c_d2, rfl, R_d2, hb⟩; replace R_a := hide (Rd.then_ R_a.out hb); replace R_ad := hide (Rd.then_ R_ad.out hb); replace R_s := hide (Rd.then_ R_s.out hb); replace R_u := hide (Rd.then_ R_u.out hb); replace R_r := hide (Rd.then_ R_r.out hb); have U11 : Below V6.heap.size V6 w8 := Below.then_ U10 hb; replace B := hide (Below.then_ B.out hb); replace R_d2 := hide R_d2; clear hb; have tok2 : True := trivial; clear _t tok1))
      | (go_at_call 34; (have _t := tok2; (with_reducible refine (cmp_b R_d2.out R_ad.out e_h.out).mono ?_); rintro e w9 ⟨rfl, hb⟩; replace R_a := hide (Rd.then_ R_a.out hb); replace R_ad := hide (Rd.then_ R_ad.out hb); replace R_s := hide (Rd.then_ R_s.out hb); replace R_u := hide (Rd.then_ R_u.out hb); replace R_r := hide (Rd.then_ R_r.out hb); replace R_d2 := hide (Rd.then_ R_d2.out hb); have U12 : Below V6.heap.size V6 w9 := Below.then_ U11 hb; replace B := hide (Below.then_ B.out hb); clear hb; have tok3 : True := trivial; clear _t tok2)))
  clear tok3
  go_wp2_with fail
  refine (chooses_any R_u.out g4.out (Nat.le_refl _) h1.out h7.out hh1.out hb.out).mono ?_
  rintro e w10 ⟨rfl, hb⟩
  replace R_a := hide (Rd.then_ R_a.out hb)
  replace R_ad := hide (Rd.then_ R_ad.out hb)
  replace R_s := hide (Rd.then_ R_s.out hb)
  replace R_u := hide (Rd.then_ R_u.out hb)
  replace R_r := hide (Rd.then_ R_r.out hb)
  replace R_d2 := hide (Rd.then_ R_d2.out hb)
  have U13 : Below V6.heap.size V6 w10 := Below.then_ U12 hb
  replace B := hide (Below.then_ B.out hb)
  clear hb
  go_wp2_with fail
  have hd := Below.drw_ w10
  replace R_a := hide (Rd.then_ R_a.out hd)
  replace R_ad := hide (Rd.then_ R_ad.out hd)
  replace R_s := hide (Rd.then_ R_s.out hd)
  replace R_u := hide (Rd.then_ R_u.out hd)
  replace R_r := hide (Rd.then_ R_r.out hd)
  replace R_d2 := hide (Rd.then_ R_d2.out hd)
  have U14 : Below V6.heap.size V6 (w10.drew) := Below.then_ U13 hd
  replace B := hide (Below.then_ B.out hd)
  clear hd
  have tok4 : True := trivial
  go_region_with (first
      | (go_at_call 38; (have _t := tok4; (with_reducible refine (iof_any _ 1 (by omega) (by omega)).mono ?_); rintro e w11 ⟨A_o, c_o, rfl, R_o, hb⟩; replace R_a := hide (Rd.then_ R_a.out hb); replace R_ad := hide (Rd.then_ R_ad.out hb); replace R_s := hide (Rd.then_ R_s.out hb); replace R_u := hide (Rd.then_ R_u.out hb); replace R_r := hide (Rd.then_ R_r.out hb); replace R_d2 := hide (Rd.then_ R_d2.out hb); have U15 : Below V6.heap.size V6 w11 := Below.then_ U14 hb; replace B := hide (Below.then_ B.out hb); replace R_o := hide R_o; clear hb; have tok5 : True := trivial; clear _t tok4))
      | (go_at_call 37; (have _t := tok5; (with_reducible refine (iadd_any _ _ _ _ _ _ _ _ _ _ _ _ R_u.out R_o.out (Nat.le_refl _) g5.out g6.out).mono ?_); rw [e_z.out]; rintro e w12 ⟨A_z, c_z, rfl, R_z, hb⟩; replace R_a := hide (Rd.then_ R_a.out hb); replace R_ad := hide (Rd.then_ R_ad.out hb); replace R_s := hide (Rd.then_ R_s.out hb); replace R_u := hide (Rd.then_ R_u.out hb); replace R_r := hide (Rd.then_ R_r.out hb); replace R_d2 := hide (Rd.then_ R_d2.out hb); replace R_o := hide (Rd.then_ R_o.out hb); have U16 : Below V6.heap.size V6 w12 := Below.then_ U15 hb; replace B := hide (Below.then_ B.out hb); replace R_z := hide R_z; clear hb; have tok6 : True := trivial; clear _t tok5)))
  all_goals
    clear tok6
    obtain ⟨V17, hV⟩ : ∃ V, V = ((w12.setCell ⟨g_u, 0, none⟩ (.bool (zneg z))).setCell ⟨g_u, 1, none⟩ (.slice A_z (dig (zmag z)).length c_z)) := ⟨_, rfl⟩
    rw [← hV]
    have b_a' : Box3 V17 (w.heap.size) (.bool s_a) (.slice A_a n_a c_a) (.slice A_ad n_ad c_ad) := by rw [hV]; exact (Box3.other (Box3.other (Box3.keep b_a.out U16) ne_a_u.out _) ne_a_u.out _)
    have b_r0' : BoxD V17 (w.heap.size + 1) (.bool false) (.slice none 0 0) (.int .i64 0) := by rw [hV]; exact (BoxD.other (BoxD.other (BoxD.keep b_r0.out U16) ne_r0_u.out _) ne_r0_u.out _)
    have b_s' : Box V17 (g_s) (.bool (zneg z1)) (.slice A_s (dig (zmag z1)).length c_s) := by rw [hV]; exact (Box.other (Box.other (Box.keep b_s.out U16) ne_s_u.out _) ne_s_u.out _)
    have b_u' : Box V17 g_u (.bool (zneg z)) (.slice A_z (dig (zmag z)).length c_z) := by rw [hV]; exact Box.set (Box.keep b_u.out U16) _ _ 
    have b_r' : Box V17 (g_r) (.bool (zneg r)) (.slice A_r (dig (zmag r)).length c_r) := by rw [hV]; exact (Box.other (Box.other (Box.keep b_r.out U16) ne_r_u.out _) ne_r_u.out _)
    replace R_a : Hid (Rd V17 V17.heap.size A_a n_a c_a x_a) := hide (by rw [hV]; simpa using far2 (c_u0 _ U16) (c_u1 _ U16) _ _ R_a.out)
    replace R_ad : Hid (Rd V17 V17.heap.size A_ad n_ad c_ad x_ad) := hide (by rw [hV]; simpa using far2 (c_u0 _ U16) (c_u1 _ U16) _ _ R_ad.out)
    replace R_s : Hid (Rd V17 V17.heap.size A_s (dig (zmag z1)).length c_s (dig (zmag z1))) := hide (by rw [hV]; simpa using far2 (c_u0 _ U16) (c_u1 _ U16) _ _ R_s.out)
    replace R_u : Hid (Rd V17 V17.heap.size A_u (dig (zmag u)).length c_u (dig (zmag u))) := hide (by rw [hV]; simpa using far2 (c_u0 _ U16) (c_u1 _ U16) _ _ R_u.out)
    replace R_r : Hid (Rd V17 V17.heap.size A_r (dig (zmag r)).length c_r (dig (zmag r))) := hide (by rw [hV]; simpa using far2 (c_u0 _ U16) (c_u1 _ U16) _ _ R_r.out)
    replace R_d2 : Hid (Rd V17 V17.heap.size A_d2 (dig d2).length c_d2 (dig d2)) := hide (by rw [hV]; simpa using far2 (c_u0 _ U16) (c_u1 _ U16) _ _ R_d2.out)
    replace R_o : Hid (Rd V17 V17.heap.size A_o (dig (zmag 1)).length c_o (dig (zmag 1))) := hide (by rw [hV]; simpa using far2 (c_u0 _ U16) (c_u1 _ U16) _ _ R_o.out)
    replace R_z : Hid (Rd V17 V17.heap.size A_z (dig (zmag z)).length c_z (dig (zmag z))) := hide (by rw [hV]; simpa using far2 (c_u0 _ U16) (c_u1 _ U16) _ _ R_z.out)
    replace B : Hid (Below w.heap.size w V17) := hide (by rw [hV]; exact ((B.out.setCell ge_u.out _).setCell ge_u.out _))
    clear hV
    clear c_a0 c_a1 c_a2
    replace b_a := hide b_a'
    clear b_a'
    clear c_r00 c_r01 c_r02 f_r00 f_r01 f_r02 l_r0
    replace b_r0 := hide b_r0'
    clear b_r0'
    clear c_s0 c_s1
    replace b_s := hide b_s'
    clear b_s'
    clear c_u0 c_u1 f_u0 f_u1 l_u
    replace b_u := hide b_u'
    clear b_u'
    clear c_r0 c_r1
    replace b_r := hide b_r'
    clear b_r'
    have U18 : Below V17.heap.size V17 V17 := Below.refl _ _
    have c_a0 := b_a.out.at0 b_a.out.lt_size (Nat.le_refl _)
    have c_a1 := b_a.out.at1 b_a.out.lt_size (Nat.le_refl _)
    have c_a2 := b_a.out.at2 b_a.out.lt_size (Nat.le_refl _)
    have c_r00 := b_r0.out.at0 b_r0.out.lt_size (Nat.le_refl _)
    have c_r01 := b_r0.out.at1 b_r0.out.lt_size (Nat.le_refl _)
    have c_r02 := b_r0.out.at2 b_r0.out.lt_size (Nat.le_refl _)
    have f_r00 := b_r0.out.free0 b_r0.out.lt_size (Nat.le_refl _)
    have f_r01 := b_r0.out.free1 b_r0.out.lt_size (Nat.le_refl _)
    have f_r02 := b_r0.out.free2 b_r0.out.lt_size (Nat.le_refl _)
    have l_r0 := b_r0.out.lt b_r0.out.lt_size (Nat.le_refl _)
    have c_s0 := b_s.out.at0 b_s.out.lt_size (Nat.le_refl _)
    have c_s1 := b_s.out.at1 b_s.out.lt_size (Nat.le_refl _)
    have c_u0 := b_u.out.at0 b_u.out.lt_size (Nat.le_refl _)
    have c_u1 := b_u.out.at1 b_u.out.lt_size (Nat.le_refl _)
    have f_u0 := b_u.out.free0 b_u.out.lt_size (Nat.le_refl _)
    have f_u1 := b_u.out.free1 b_u.out.lt_size (Nat.le_refl _)
    have l_u := b_u.out.lt b_u.out.lt_size (Nat.le_refl _)
    have c_r0 := b_r.out.at0 b_r.out.lt_size (Nat.le_refl _)
    have c_r1 := b_r.out.at1 b_r.out.lt_size (Nat.le_refl _)
    go_wp2
    exact bodyPost_ret (v := .tuple #[.agg #[.bool (zneg z), .slice A_z (dig (zmag z)).length c_z, .int .i64 (p : Int)], .int .i64 0]) (by simp [results, Tryz.results9, go_sem, c_r00 _ U18, c_r01 _ U18, c_r02 _ U18]) rfl (RetDec.box B.out (by omega) (c_r00 _ U18) (c_r01 _ U18) (c_r02 _ U18) R_z.out)
end

section
open Go.RowKit


theorem scaled_mk {s : Bool} {m d T : Nat} (_hd : d ≠ 0) : qv s m d * ((T : Nat) : Rat) = mkRat (iv s m * (T : Int)) d := by
  have e : ((T : Nat) : Rat) = mkRat (T : Int) 1 := by rw [rat_mk1]; rfl
  rw [e]; unfold qv; rw [mk_mul, Nat.mul_one]
theorem rnd_zero (m : Int) : rnd m 0 = 0 := rnd_int m 0
theorem rnd_mk (m a : Int) {d : Nat} (hd : d ≠ 0) : rnd m (mkRat a d) = if a - d * (a / d) = 0 then a / d else if upd m (decide (a / d < 0)) (oddz (a / d)) (sgn (2 * (a - d * (a / d)) - d)) then a / d + 1 else a / d := by
  unfold rnd
  rw [← hlf_mk a hd, ndiv_neg a hd]
  by_cases h : mkRat a d = ((mkRat a d).floor : Rat)
  · rw [if_pos h, if_pos ((mk_int_iff a hd).1 h), mk_floor a hd]
  · rw [if_neg h, if_neg (mt (mk_int_iff a hd).2 h), mk_floor a hd]

theorem pround_any {w : World} {Bd : Nat} {A_a : Option Addr} {n_a c_a : Nat} {x_a : List Nat} {s_a : Bool} {A_ad : Option Addr} {n_ad c_ad : Nat} {x_ad : List Nat} (h_a : Rd w Bd A_a n_a c_a x_a) (g_a : n_a ≤ 1000000000) (h_ad : Rd w Bd A_ad n_ad c_ad x_ad) (g_ad : n_ad ≤ 1000000000) (hB : Bd ≤ w.heap.size) {p : Nat} {m : Int} (h9 : p ≤ 9) (h1 : 1 ≤ m) (h7 : m ≤ 7) {x : Rat} {z : Int} (hx : qv s_a (val x_a) (val x_ad) * ((10 ^ p : Nat) : Rat) = x) (hz : rnd m x = z) :
    Calls Tryz.prog 9 #[.agg #[.bool s_a, .slice A_a n_a c_a, .slice A_ad n_ad c_ad], .int .i64 (p : Int), .int .i64 m] w (RetDec w z (p : Int) 0) := by
  by_cases h0 : val x_ad = 0
  · rw [h0, qv_zero, Rat.zero_mul] at hx
    rw [← hx, rnd_zero] at hz
    rw [← hz]
    exact pround_zero h_a g_a h_ad g_ad hB h9 h1 h7 h0
  · rw [scaled_mk h0] at hx
    rw [← hx, rnd_mk m _ h0] at hz
    by_cases hr : iv s_a (val x_a) * ((10 ^ p : Nat) : Int) - (val x_ad : Int) * (iv s_a (val x_a) * ((10 ^ p : Nat) : Int) / (val x_ad : Int)) = 0
    · rw [if_pos hr] at hz
      rw [hz] at hr
      exact pround_whole h_a g_a h_ad g_ad hB h9 h1 h7 h0 hz hr
    · rw [if_neg hr] at hz
      split at hz
      · rename_i hu
        exact pround_high h_a g_a h_ad g_ad hB h9 h1 h7 h0 rfl rfl hr rfl hu hz
      · rename_i hu
        exact pround_low h_a g_a h_ad g_ad hB h9 h1 h7 h0 rfl rfl hr rfl (by simpa using hu) hz
theorem pround_bad {w : World} {Bd : Nat} {A_a : Option Addr} {n_a c_a : Nat} {x_a : List Nat} {s_a : Bool} {A_ad : Option Addr} {n_ad c_ad : Nat} {x_ad : List Nat} (h_a : Rd w Bd A_a n_a c_a x_a) (g_a : n_a ≤ 1000000000) (h_ad : Rd w Bd A_ad n_ad c_ad x_ad) (g_ad : n_ad ≤ 1000000000) (hB : Bd ≤ w.heap.size) {p m e : Int} (h : ¬ (0 ≤ p ∧ p ≤ 9 ∧ 1 ≤ m ∧ m ≤ 7)) (he : (if 0 ≤ p ∧ p ≤ 9 then 1 else 3) = e) :
    Calls Tryz.prog 9 #[.agg #[.bool s_a, .slice A_a n_a c_a, .slice A_ad n_ad c_ad], .int .i64 p, .int .i64 m] w (RetDec w 0 0 e) := by
  by_cases hp : 0 ≤ p ∧ p ≤ 9
  · rw [if_pos hp] at he
    subst he
    exact pround_mode h_a g_a h_ad g_ad hB hp.1 hp.2 (fun hm => h ⟨hp.1, hp.2, hm.1, hm.2⟩)
  · rw [if_neg hp] at he
    subst he
    exact pround_place h_a g_a h_ad g_ad hB hp
end

section
open Go.RowKit


theorem RetIV.box {w w2 : World} {z k : Int} {A B1 : Option Addr} {c n1 d1 g : Nat} {b : Bool} (hb : Below w.heap.size w w2) (hg : w.heap.size ≤ g)
    (hc0 : w2.cell? ⟨g, 0, none⟩ = some (.bool b)) (hc1 : w2.cell? ⟨g, 1, none⟩ = some (.slice B1 n1 d1)) (R : Rd w2 w2.heap.size A (dig (zmag z)).length c (dig (zmag z))) :
    RetIV w z k (.returned (.tuple #[.agg #[.bool (zneg z), .slice A (dig (zmag z)).length c], .int .i64 k])) ((w2.setCell ⟨g, 0, none⟩ (.bool (zneg z))).setCell ⟨g, 1, none⟩ (.slice A (dig (zmag z)).length c)) :=
  RetIV.of (RetInt.box hb hg hc0 hc1 R)
theorem RetIV.al {w w' : World} {z k : Int} {e : Ending} (h : RetIV w z k e w') (o : Obj) : RetIV w z k e (w'.alloc o) := by
  obtain ⟨A, c, rfl, R, hb⟩ := h
  exact ⟨A, c, rfl, R.al_, Below.al_ hb _⟩
theorem pround0_any {w : World} {Bd : Nat} {A_a : Option Addr} {n_a c_a : Nat} {x_a : List Nat} {s_a : Bool} {A_ad : Option Addr} {n_ad c_ad : Nat} {x_ad : List Nat} (h_a : Rd w Bd A_a n_a c_a x_a) (g_a : n_a ≤ 1000000000) (h_ad : Rd w Bd A_ad n_ad c_ad x_ad) (g_ad : n_ad ≤ 1000000000) (hB : Bd ≤ w.heap.size) {m : Int} (h1 : 1 ≤ m) (h7 : m ≤ 7) {x : Rat} {z : Int} (hx : qv s_a (val x_a) (val x_ad) * ((10 ^ 0 : Nat) : Rat) = x) (hz : rnd m x = z) :
    Calls Tryz.prog 9 #[.agg #[.bool s_a, .slice A_a n_a c_a, .slice A_ad n_ad c_ad], .int .i64 0, .int .i64 m] w (RetDec w z 0 0) := pround_any (p := 0) h_a g_a h_ad g_ad hB (by omega) h1 h7 hx hz
theorem pround0_bad {w : World} {Bd : Nat} {A_a : Option Addr} {n_a c_a : Nat} {x_a : List Nat} {s_a : Bool} {A_ad : Option Addr} {n_ad c_ad : Nat} {x_ad : List Nat} (h_a : Rd w Bd A_a n_a c_a x_a) (g_a : n_a ≤ 1000000000) (h_ad : Rd w Bd A_ad n_ad c_ad x_ad) (g_ad : n_ad ≤ 1000000000) (hB : Bd ≤ w.heap.size) {m : Int} (h : ¬ (1 ≤ m ∧ m ≤ 7)) :
    Calls Tryz.prog 9 #[.agg #[.bool s_a, .slice A_a n_a c_a, .slice A_ad n_ad c_ad], .int .i64 0, .int .i64 m] w (RetDec w 0 0 1) := pround_bad h_a g_a h_ad g_ad hB (fun x => h x.2.2) (by rfl)
/-- an error, with a ratio that is all zero -/
def RetV0 (w : World) (k : Int) (e : Ending) (w' : World) : Prop := e = .returned (.tuple #[.agg #[.bool false, .slice none 0 0, .slice none 0 0], .int .i64 k]) ∧ Below w.heap.size w w'

set_option maxHeartbeats 4000000 in
theorem pinteger_ok {w : World} {Bd : Nat} {A_a : Option Addr} {n_a c_a : Nat} {x_a : List Nat} {s_a : Bool} {A_ad : Option Addr} {n_ad c_ad : Nat} {x_ad : List Nat} {m : Int} (h_a : Rd w Bd A_a n_a c_a x_a) (g_a : n_a ≤ 1000000000) (h_ad : Rd w Bd A_ad n_ad c_ad x_ad) (g_ad : n_ad ≤ 1000000000) (hB : Bd ≤ w.heap.size) {x : Rat} {z : Int} (h1 : 1 ≤ m) (h7 : m ≤ 7) (hx : qv s_a (val x_a) (val x_ad) * ((10 ^ 0 : Nat) : Rat) = x) (hz : rnd m x = z) :
    Calls Tryz.prog 12 #[.agg #[.bool s_a, .slice A_a n_a c_a, .slice A_ad n_ad c_ad], .int .i64 m] w (RetIV w z 0) := by
  replace h1 := hide h1
  replace h7 := hide h7
  replace hx := hide hx
  replace hz := hide hz
  obtain ⟨W, hW⟩ : ∃ W, W = ((w.alloc (.cells #[.bool s_a, .slice A_a n_a c_a, .slice A_ad n_ad c_ad] 27)).alloc (.cells #[.bool false, .slice none 0 0] 25)) := ⟨_, rfl⟩
  have b_a : Box3 W (w.heap.size) (.bool s_a) (.slice A_a n_a c_a) (.slice A_ad n_ad c_ad) := by rw [hW]; exact ((Box3.new w _ _ _ rfl).al _)
  have b_r0 : Box W (w.heap.size + 1) (.bool false) (.slice none 0 0) := by rw [hW]; exact (Box.new _ _ _ (by simp))
  have hwW : Below w.heap.size w W := by rw [hW]; exact (((Below.refl _ _).alloc (Nat.le_refl _) _).alloc (by simp) _)
  have R_a := hide (Rd.upto h_a hwW hB)
  clear h_a
  have R_ad := hide (Rd.upto h_ad hwW hB)
  clear h_ad
  have B := hide hwW
  clear hwW
  clear hB
  have U0 : Below W.heap.size W W := Below.refl _ _
  have c_a0 := b_a.at0 b_a.lt_size (Nat.le_refl _)
  have c_a1 := b_a.at1 b_a.lt_size (Nat.le_refl _)
  have c_a2 := b_a.at2 b_a.lt_size (Nat.le_refl _)
  replace b_a := hide b_a
  have c_r00 := b_r0.at0 b_r0.lt_size (Nat.le_refl _)
  have c_r01 := b_r0.at1 b_r0.lt_size (Nat.le_refl _)
  have f_r00 := b_r0.free0 b_r0.lt_size (Nat.le_refl _)
  have f_r01 := b_r0.free1 b_r0.lt_size (Nat.le_refl _)
  have l_r0 := b_r0.lt b_r0.lt_size (Nat.le_refl _)
  replace b_r0 := hide b_r0
  go_enter Tryz.func12, Tryz.ntmps12
  go_wp2_with fail
  rw [← hW]
  clear hW
  refine (pround0_any R_a.out g_a R_ad.out g_ad (Nat.le_refl _) h1.out h7.out hx.out hz.out).mono ?_
  rintro e w1 ⟨A_d, c_d, rfl, R_d, hb⟩
  replace R_a := hide (Rd.then_ R_a.out hb)
  replace R_ad := hide (Rd.then_ R_ad.out hb)
  have U1 : Below W.heap.size W w1 := Below.then_ U0 hb
  replace B := hide (Below.then_ B.out hb)
  replace R_d := hide R_d
  clear hb
  go_wp2
  exact bodyPost_ret (v := .tuple #[.agg #[.bool (zneg z), .slice A_d (dig (zmag z)).length c_d], .int .i64 0]) (by simp [results, Tryz.results12, go_sem, c_r00 _ U1, c_r01 _ U1, l_r0 _ U1]) rfl (RetIV.al (RetIV.box B.out (by omega) (c_r00 _ U1) (c_r01 _ U1) R_d.out) _)

set_option maxHeartbeats 4000000 in
theorem pinteger_bad {w : World} {Bd : Nat} {A_a : Option Addr} {n_a c_a : Nat} {x_a : List Nat} {s_a : Bool} {A_ad : Option Addr} {n_ad c_ad : Nat} {x_ad : List Nat} {m : Int} (h_a : Rd w Bd A_a n_a c_a x_a) (g_a : n_a ≤ 1000000000) (h_ad : Rd w Bd A_ad n_ad c_ad x_ad) (g_ad : n_ad ≤ 1000000000) (hB : Bd ≤ w.heap.size) (hm : ¬ (1 ≤ m ∧ m ≤ 7)) :
    Calls Tryz.prog 12 #[.agg #[.bool s_a, .slice A_a n_a c_a, .slice A_ad n_ad c_ad], .int .i64 m] w (RetIV w 0 1) := by
  replace hm := hide hm
  obtain ⟨W, hW⟩ : ∃ W, W = ((w.alloc (.cells #[.bool s_a, .slice A_a n_a c_a, .slice A_ad n_ad c_ad] 27)).alloc (.cells #[.bool false, .slice none 0 0] 25)) := ⟨_, rfl⟩
  have b_a : Box3 W (w.heap.size) (.bool s_a) (.slice A_a n_a c_a) (.slice A_ad n_ad c_ad) := by rw [hW]; exact ((Box3.new w _ _ _ rfl).al _)
  have b_r0 : Box W (w.heap.size + 1) (.bool false) (.slice none 0 0) := by rw [hW]; exact (Box.new _ _ _ (by simp))
  have hwW : Below w.heap.size w W := by rw [hW]; exact (((Below.refl _ _).alloc (Nat.le_refl _) _).alloc (by simp) _)
  have R_a := hide (Rd.upto h_a hwW hB)
  clear h_a
  have R_ad := hide (Rd.upto h_ad hwW hB)
  clear h_ad
  have B := hide hwW
  clear hwW
  clear hB
  have U0 : Below W.heap.size W W := Below.refl _ _
  have c_a0 := b_a.at0 b_a.lt_size (Nat.le_refl _)
  have c_a1 := b_a.at1 b_a.lt_size (Nat.le_refl _)
  have c_a2 := b_a.at2 b_a.lt_size (Nat.le_refl _)
  replace b_a := hide b_a
  have c_r00 := b_r0.at0 b_r0.lt_size (Nat.le_refl _)
  have c_r01 := b_r0.at1 b_r0.lt_size (Nat.le_refl _)
  have f_r00 := b_r0.free0 b_r0.lt_size (Nat.le_refl _)
  have f_r01 := b_r0.free1 b_r0.lt_size (Nat.le_refl _)
  have l_r0 := b_r0.lt b_r0.lt_size (Nat.le_refl _)
  replace b_r0 := hide b_r0
  go_enter Tryz.func12, Tryz.ntmps12
  go_wp2_with fail
  rw [← hW]
  clear hW
  refine (pround0_bad R_a.out g_a R_ad.out g_ad (Nat.le_refl _) hm.out).mono ?_
  rintro e w1 ⟨A_d, c_d, rfl, R_d, hb⟩
  replace R_a := hide (Rd.then_ R_a.out hb)
  replace R_ad := hide (Rd.then_ R_ad.out hb)
  have U1 : Below W.heap.size W w1 := Below.then_ U0 hb
  replace B := hide (Below.then_ B.out hb)
  replace R_d := hide R_d
  clear hb
  go_wp2
  exact bodyPost_ret (v := .tuple #[.agg #[.bool (zneg 0), .slice A_d (dig (zmag 0)).length c_d], .int .i64 1]) (by simp [results, Tryz.results12, go_sem, c_r00 _ U1, c_r01 _ U1, l_r0 _ U1]) rfl (RetIV.al (RetIV.box B.out (by omega) (c_r00 _ U1) (c_r01 _ U1) R_d.out) _)

theorem pinteger_any {w : World} {Bd : Nat} {A_a : Option Addr} {n_a c_a : Nat} {x_a : List Nat} {s_a : Bool} {A_ad : Option Addr} {n_ad c_ad : Nat} {x_ad : List Nat} (h_a : Rd w Bd A_a n_a c_a x_a) (g_a : n_a ≤ 1000000000) (h_ad : Rd w Bd A_ad n_ad c_ad x_ad) (g_ad : n_ad ≤ 1000000000) (hB : Bd ≤ w.heap.size) {m x : Int} {e : Int} (hm : (if 1 ≤ m ∧ m ≤ 7 then rnd m (qv s_a (val x_a) (val x_ad)) else 0) = x) (he : (if 1 ≤ m ∧ m ≤ 7 then 0 else 1) = e) :
    Calls Tryz.prog 12 #[.agg #[.bool s_a, .slice A_a n_a c_a, .slice A_ad n_ad c_ad], .int .i64 m] w (RetIV w x e) := by
  by_cases h : 1 ≤ m ∧ m ≤ 7
  · rw [if_pos h] at hm he
    subst he
    exact pinteger_ok h_a g_a h_ad g_ad hB h.1 h.2 (by rw [Nat.pow_zero]; exact Rat.mul_one _) hm
  · rw [if_neg h] at hm he
    subst he hm
    exact pinteger_bad h_a g_a h_ad g_ad hB h

set_option maxHeartbeats 4000000 in
theorem pvalue_bad {w : World} {Bd : Nat} {A_d : Option Addr} {n_d c_d : Nat} {x_d : List Nat} {s_d : Bool} {p_d : Int} (h_d : Rd w Bd A_d n_d c_d x_d) (_g_d : n_d ≤ 10000000000) (hB : Bd ≤ w.heap.size) (hp : ¬ (0 ≤ p_d ∧ p_d ≤ 9)) :
    Calls Tryz.prog 17 #[.agg #[.bool s_d, .slice A_d n_d c_d, .int .i64 p_d]] w (RetV0 w 3) := by
  replace hp := hide hp
  obtain ⟨W, hW⟩ : ∃ W, W = ((w.alloc (.cells #[.bool s_d, .slice A_d n_d c_d, .int .i64 p_d] 29)).alloc (.cells #[.bool false, .slice none 0 0, .slice none 0 0] 27)) := ⟨_, rfl⟩
  have b_d : BoxD W (w.heap.size) (.bool s_d) (.slice A_d n_d c_d) (.int .i64 p_d) := by rw [hW]; exact ((BoxD.new w _ _ _ rfl).al _)
  have b_r0 : Box3 W (w.heap.size + 1) (.bool false) (.slice none 0 0) (.slice none 0 0) := by rw [hW]; exact (Box3.new _ _ _ _ (by simp))
  have hwW : Below w.heap.size w W := by rw [hW]; exact (((Below.refl _ _).alloc (Nat.le_refl _) _).alloc (by simp) _)
  have R_d := hide (Rd.upto h_d hwW hB)
  clear h_d
  have B := hide hwW
  clear hwW
  clear hB
  have U0 : Below W.heap.size W W := Below.refl _ _
  have c_d0 := b_d.at0 b_d.lt_size (Nat.le_refl _)
  have c_d1 := b_d.at1 b_d.lt_size (Nat.le_refl _)
  have c_d2 := b_d.at2 b_d.lt_size (Nat.le_refl _)
  replace b_d := hide b_d
  have c_r00 := b_r0.at0 b_r0.lt_size (Nat.le_refl _)
  have c_r01 := b_r0.at1 b_r0.lt_size (Nat.le_refl _)
  have c_r02 := b_r0.at2 b_r0.lt_size (Nat.le_refl _)
  have f_r00 := b_r0.free0 b_r0.lt_size (Nat.le_refl _)
  have f_r01 := b_r0.free1 b_r0.lt_size (Nat.le_refl _)
  have f_r02 := b_r0.free2 b_r0.lt_size (Nat.le_refl _)
  have l_r0 := b_r0.lt b_r0.lt_size (Nat.le_refl _)
  replace b_r0 := hide b_r0
  go_enter Tryz.func17, Tryz.ntmps17
  go_wp2_with fail
  rw [← hW]
  clear hW
  refine (isplaces_no hp.out).mono ?_
  rintro e w1 ⟨rfl, hb⟩
  replace R_d := hide (Rd.then_ R_d.out hb)
  have U1 : Below W.heap.size W w1 := Below.then_ U0 hb
  replace B := hide (Below.then_ B.out hb)
  clear hb
  go_wp2
  exact bodyPost_ret (v := .tuple #[.agg #[.bool false, .slice none 0 0, .slice none 0 0], .int .i64 3]) (by simp [results, Tryz.results17, go_sem, c_r00 _ U1, c_r01 _ U1, c_r02 _ U1]) rfl ⟨rfl, ((B.out.setCell (by simp) _).setCell (by simp) _).setCell (by simp) _⟩

set_option maxHeartbeats 4000000 in
theorem pvalue_ok {w : World} {Bd : Nat} {A_d : Option Addr} {n_d c_d : Nat} {x_d : List Nat} {s_d : Bool} {p_d : Int} (h_d : Rd w Bd A_d n_d c_d x_d) (g_d : n_d ≤ 10000000000) (hB : Bd ≤ w.heap.size) {p : Nat} {q : Rat} (hp : p_d = (p : Int)) (h9 : p ≤ 9) (hq : mkRat (iv s_d (val x_d)) (10 ^ p) = q) :
    Calls Tryz.prog 17 #[.agg #[.bool s_d, .slice A_d n_d c_d, .int .i64 p_d]] w (RetRV w q 0) := by
  subst hp
  obtain ⟨T, e_T⟩ : ∃ new, 10 ^ p = new := ⟨_, rfl⟩
  replace e_T := hide e_T
  have lT : T < pw 1 := by rw [← e_T.out]; exact Nat.lt_of_le_of_lt (Nat.pow_le_pow_right (by omega) h9) (by decide)
  have gT : (dig T).length ≤ 10000000000 := by have := dl lT; omega
  replace gT := hide gT
  rw [e_T.out] at hq
  have e_q : Rat.divInt (iv s_d (val x_d)) (iv false (val (dig T))) = q := by rw [val_dig, iv_false, Rat.divInt_ofNat]; exact hq
  replace e_q := hide e_q
  have e_ok : decide (iv false (val (dig T)) ≠ 0) = true := by have hT : T ≠ 0 := (by rw [← e_T.out]; exact Nat.ne_of_gt (Nat.pow_pos (by omega))); rw [val_dig, iv_false]; exact decide_eq_true (by omega)
  replace e_ok := hide e_ok
  have f0 : (0 : Int) ≤ (p : Int) := by omega
  replace f0 := hide f0
  have f9 : (p : Int) ≤ 9 := by omega
  replace f9 := hide f9
  clear hq lT
  replace h9 := hide h9
  replace g_d := hide g_d
  obtain ⟨W, hW⟩ : ∃ W, W = ((w.alloc (.cells #[.bool s_d, .slice A_d n_d c_d, .int .i64 (p : Int)] 29)).alloc (.cells #[.bool false, .slice none 0 0, .slice none 0 0] 27)) := ⟨_, rfl⟩
  have b_d : BoxD W (w.heap.size) (.bool s_d) (.slice A_d n_d c_d) (.int .i64 (p : Int)) := by rw [hW]; exact ((BoxD.new w _ _ _ rfl).al _)
  have b_r0 : Box3 W (w.heap.size + 1) (.bool false) (.slice none 0 0) (.slice none 0 0) := by rw [hW]; exact (Box3.new _ _ _ _ (by simp))
  have hwW : Below w.heap.size w W := by rw [hW]; exact (((Below.refl _ _).alloc (Nat.le_refl _) _).alloc (by simp) _)
  have R_d := hide (Rd.upto h_d hwW hB)
  clear h_d
  have B := hide hwW
  clear hwW
  clear hB
  have U0 : Below W.heap.size W W := Below.refl _ _
  have c_d0 := b_d.at0 b_d.lt_size (Nat.le_refl _)
  have c_d1 := b_d.at1 b_d.lt_size (Nat.le_refl _)
  have c_d2 := b_d.at2 b_d.lt_size (Nat.le_refl _)
  replace b_d := hide b_d
  have c_r00 := b_r0.at0 b_r0.lt_size (Nat.le_refl _)
  have c_r01 := b_r0.at1 b_r0.lt_size (Nat.le_refl _)
  have c_r02 := b_r0.at2 b_r0.lt_size (Nat.le_refl _)
  have f_r00 := b_r0.free0 b_r0.lt_size (Nat.le_refl _)
  have f_r01 := b_r0.free1 b_r0.lt_size (Nat.le_refl _)
  have f_r02 := b_r0.free2 b_r0.lt_size (Nat.le_refl _)
  have l_r0 := b_r0.lt b_r0.lt_size (Nat.le_refl _)
  replace b_r0 := hide b_r0
  go_enter Tryz.func17, Tryz.ntmps17
  go_wp2_with fail
  rw [← hW]
  clear hW
  refine (isplaces_yes f0.out f9.out).mono ?_
  rintro e w1 ⟨rfl, hb⟩
  replace R_d := hide (Rd.then_ R_d.out hb)
  have U1 : Below W.heap.size W w1 := Below.then_ U0 hb
  replace B := hide (Below.then_ B.out hb)
  clear hb
  go_wp2_with fail
  replace b_d := hide (BoxD.keep b_d.out U1)
  clear c_d0 c_d1 c_d2
  replace b_r0 := hide (Box3.keep b_r0.out U1)
  clear c_r00 c_r01 c_r02 f_r00 f_r01 f_r02 l_r0
  have U2 : Below w1.heap.size w1 w1 := Below.refl _ _
  have c_d0 := b_d.out.at0 b_d.out.lt_size (Nat.le_refl _)
  have c_d1 := b_d.out.at1 b_d.out.lt_size (Nat.le_refl _)
  have c_d2 := b_d.out.at2 b_d.out.lt_size (Nat.le_refl _)
  have c_r00 := b_r0.out.at0 b_r0.out.lt_size (Nat.le_refl _)
  have c_r01 := b_r0.out.at1 b_r0.out.lt_size (Nat.le_refl _)
  have c_r02 := b_r0.out.at2 b_r0.out.lt_size (Nat.le_refl _)
  have f_r00 := b_r0.out.free0 b_r0.out.lt_size (Nat.le_refl _)
  have f_r01 := b_r0.out.free1 b_r0.out.lt_size (Nat.le_refl _)
  have f_r02 := b_r0.out.free2 b_r0.out.lt_size (Nat.le_refl _)
  have l_r0 := b_r0.out.lt b_r0.out.lt_size (Nat.le_refl _)
  refine Code.wp_mono (Q := fun e a' w' => e = .normal ∧ ∃ (g : Nat) (A : Option Addr) (c : Nat) (B : Option Addr) (d : Nat) (v11 v12 v13 v14 v15 v16 v17 v18 v19 v20 : Value), a' = ⟨#[.agg #[.bool s_d, .slice A_d n_d c_d, .int .i64 (p : Int)], (.pointer (some ⟨w.heap.size, 0, none⟩)), (.pointer (some ⟨w.heap.size + 1, 0, none⟩)), .int .i64 0, (.pointer (some ⟨g, 0, none⟩)), .bool true, (.pointer (some ⟨w.heap.size, 1 + 1, none⟩)), .int .i64 (p : Int), .bool true, .bool false, undef, v11, v12, v13, v14, v15, v16, v17, v18, v19, v20, undef], []⟩ ∧ LandedR w1 w' g q A c B d) ?_ ?_
  rotate_left
  · skip
    have hd := Below.drw_ w1
    replace R_d := hide (Rd.then_ R_d.out hd)
    have U3 : Below w1.heap.size w1 (w1.drew) := Below.then_ U2 hd
    replace B := hide (Below.then_ B.out hd)
    clear hd
    have tok1 : True := trivial
    go_region_held3 (fun w' => Below w1.heap.size w1 w') (first | assumption | (with_reducible exact Below.al_ (by assumption) _) | (with_reducible exact Below.al_drew (by assumption) _) | (with_reducible exact (landedR_new U5 R_v.out R_vd.out).below) | (with_reducible exact (landedR_set U5 R_v.out R_vd.out X5.out).below) | (with_reducible exact (landedR_late U5 R_v.out R_vd.out).below) | fail)
      (first
        | (go_at_call 31; (have _t := tok1; (with_reducible refine (scale_any h9.out e_T.out).mono ?_); rintro e w2 ⟨A_T, c_T, rfl, R_T, hb⟩; have hb1 : Below (w1.drew).heap.size (w1.drew) w2 := (by first | exact hb | exact Below.al_then hb | exact Below.al_then_drew hb); (first | (have X4 := hide (XBox3.made_drew U3 hb)) | (have X4 := hide (XBox3.made U3 hb)) | (have X4 := hide (XBox3.keep X0.out hb1)) | skip); replace R_d := hide (Rd.then_ R_d.out hb1); have U4 : Below w1.heap.size w1 w2 := Below.then_ U3 hb1; replace B := hide (Below.then_ B.out hb1); clear hb1; replace R_T := hide R_T; clear hb; have tok2 : True := trivial; clear _t tok1))
        | (go_at_call 52; (have _t := tok2; (with_reducible refine (pmake_any (by first | exact R_d.out | exact Rd.al_ R_d.out | exact Rd.al_drew R_d.out) g_d.out (by first | exact R_T.out | exact Rd.al_ R_T.out | exact Rd.al_drew R_T.out) gT.out (Nat.le_refl _) e_q.out e_ok.out).mono ?_); rintro e w3 ⟨A_v, c_v, A_vd, c_vd, rfl, R_v, R_vd, hb⟩; have hb1 : Below w2.heap.size w2 w3 := (by first | exact hb | exact Below.al_then hb | exact Below.al_then_drew hb); (first | (have X5 := hide (XBox3.made_drew U4 hb)) | (have X5 := hide (XBox3.made U4 hb)) | (have X5 := hide (XBox3.keep X4.out hb1)) | skip); replace R_d := hide (Rd.then_ R_d.out hb1); replace R_T := hide (Rd.then_ R_T.out hb1); have U5 : Below w1.heap.size w1 w3 := Below.then_ U4 hb1; replace B := hide (Below.then_ B.out hb1); clear hb1; replace R_v := hide R_v; replace R_vd := hide R_vd; clear hb; have tok3 : True := trivial; clear _t tok2; (first | (have xf := XBox3.facts X5.out; obtain ⟨x0, x1, x2, x3, x4⟩ := xf) | skip))))
    all_goals (refine ⟨rfl, _, A_v, c_v, A_vd, c_vd, _, _, _, _, _, _, _, _, _, _, rfl, ?_⟩; first | exact landedR_new U5 R_v.out R_vd.out | exact landedR_set U5 R_v.out R_vd.out X5.out | exact landedR_late U5 R_v.out R_vd.out)
  rintro e a' w4 ⟨rfl, g_v, A_v, c_v, A_vd, c_vd, v11, v12, v13, v14, v15, v16, v17, v18, v19, v20, rfl, hbx, b_v, R_v, R_vd, hg_v⟩
  replace R_v := hide R_v
  replace R_vd := hide R_vd
  have ne_v_r0 : g_v ≠ w.heap.size + 1 := by have := l_r0 _ U2; omega
  replace ne_v_r0 := hide ne_v_r0
  have ne_d_v : w.heap.size ≠ g_v := by have := (b_d.out.lt b_d.out.lt_size (Nat.le_refl _)) _ U2; omega
  replace ne_d_v := hide ne_d_v
  have ne_r0_v := hide (Ne.symm ne_v_r0.out)
  have ge_v : w.heap.size ≤ g_v := by have := B.out.size; omega
  replace ge_v := hide ge_v
  clear hg_v
  replace R_d := hide (Rd.then_ R_d.out hbx)
  have U3 : Below w1.heap.size w1 w4 := Below.then_ U2 hbx
  replace B := hide (Below.then_ B.out hbx)
  clear hbx
  replace b_d := hide (BoxD.keep b_d.out U3)
  clear c_d0 c_d1 c_d2
  replace b_r0 := hide (Box3.keep b_r0.out U3)
  clear c_r00 c_r01 c_r02 f_r00 f_r01 f_r02 l_r0
  replace b_v := hide b_v
  have U4 : Below w4.heap.size w4 w4 := Below.refl _ _
  have c_d0 := b_d.out.at0 b_d.out.lt_size (Nat.le_refl _)
  have c_d1 := b_d.out.at1 b_d.out.lt_size (Nat.le_refl _)
  have c_d2 := b_d.out.at2 b_d.out.lt_size (Nat.le_refl _)
  have c_r00 := b_r0.out.at0 b_r0.out.lt_size (Nat.le_refl _)
  have c_r01 := b_r0.out.at1 b_r0.out.lt_size (Nat.le_refl _)
  have c_r02 := b_r0.out.at2 b_r0.out.lt_size (Nat.le_refl _)
  have f_r00 := b_r0.out.free0 b_r0.out.lt_size (Nat.le_refl _)
  have f_r01 := b_r0.out.free1 b_r0.out.lt_size (Nat.le_refl _)
  have f_r02 := b_r0.out.free2 b_r0.out.lt_size (Nat.le_refl _)
  have l_r0 := b_r0.out.lt b_r0.out.lt_size (Nat.le_refl _)
  have c_v0 := b_v.out.at0 b_v.out.lt_size (Nat.le_refl _)
  have c_v1 := b_v.out.at1 b_v.out.lt_size (Nat.le_refl _)
  have c_v2 := b_v.out.at2 b_v.out.lt_size (Nat.le_refl _)
  go_wp2_with fail
  go_wp2
  exact bodyPost_ret (v := .tuple #[.agg #[.bool (zneg q.num), .slice A_v (dig (zmag q.num)).length c_v, .slice A_vd (dig q.den).length c_vd], .int .i64 0]) (by simp [results, Tryz.results17, go_sem, c_r00 _ U4, c_r01 _ U4, c_r02 _ U4]) rfl (RetRV.box B.out (by omega) (c_r00 _ U4) (c_r01 _ U4) (c_r02 _ U4) R_v.out R_vd.out)

set_option maxHeartbeats 4000000 in
theorem prescale_any {w : World} {Bd : Nat} {A_d : Option Addr} {n_d c_d : Nat} {x_d : List Nat} {s_d : Bool} {p_d : Int} {p : Nat} {m : Int} (h_d : Rd w Bd A_d n_d c_d x_d) (g_d : n_d ≤ 100000000) (hB : Bd ≤ w.heap.size) {o : Nat} {q x : Rat} {z : Int} (hp : p_d = (o : Int)) (ho : o ≤ 9) (h9 : p ≤ 9) (h1 : 1 ≤ m) (h7 : m ≤ 7) (hq : mkRat (iv s_d (val x_d)) (10 ^ o) = q) (hx : q * ((10 ^ p : Nat) : Rat) = x) (hz : rnd m x = z) :
    Calls Tryz.prog 25 #[.agg #[.bool s_d, .slice A_d n_d c_d, .int .i64 p_d], .int .i64 (p : Int), .int .i64 m] w (RetDec w z (p : Int) 0) := by
  have sz : (dig (zmag q.num)).length ≤ n_d + 1 ∧ (dig q.den).length ≤ n_d + 1 := by rw [← hq]; exact sz_mk (pw_le (by omega) (zl_iv h_d.lt)) (pw_le (i := 1) (by omega) (Nat.lt_of_le_of_lt (Nat.pow_le_pow_right (by omega) ho) (by decide))) (by omega)
  have g1 : (dig (zmag q.num)).length ≤ 1000000000 ∧ (dig q.den).length ≤ 1000000000 := by omega
  replace g1 := hide g1
  have g2 : n_d ≤ 10000000000 := by omega
  replace g2 := hide g2
  have e_x : qv (zneg q.num) (val (dig (zmag q.num))) (val (dig q.den)) * ((10 ^ p : Nat) : Rat) = x := by rw [qv_eta]; exact hx
  replace e_x := hide e_x
  clear sz hx
  replace hp := hide hp
  replace ho := hide ho
  replace h9 := hide h9
  replace h1 := hide h1
  replace h7 := hide h7
  replace hq := hide hq
  replace hz := hide hz
  obtain ⟨W, hW⟩ : ∃ W, W = ((w.alloc (.cells #[.bool s_d, .slice A_d n_d c_d, .int .i64 p_d] 29)).alloc (.cells #[.bool false, .slice none 0 0, .int .i64 0] 29)) := ⟨_, rfl⟩
  have b_d : BoxD W (w.heap.size) (.bool s_d) (.slice A_d n_d c_d) (.int .i64 p_d) := by rw [hW]; exact ((BoxD.new w _ _ _ rfl).al _)
  have b_r0 : BoxD W (w.heap.size + 1) (.bool false) (.slice none 0 0) (.int .i64 0) := by rw [hW]; exact (BoxD.new _ _ _ _ (by simp))
  have hwW : Below w.heap.size w W := by rw [hW]; exact (((Below.refl _ _).alloc (Nat.le_refl _) _).alloc (by simp) _)
  have R_d := hide (Rd.upto h_d hwW hB)
  clear h_d
  have B := hide hwW
  clear hwW
  clear hB
  have U0 : Below W.heap.size W W := Below.refl _ _
  have c_d0 := b_d.at0 b_d.lt_size (Nat.le_refl _)
  have c_d1 := b_d.at1 b_d.lt_size (Nat.le_refl _)
  have c_d2 := b_d.at2 b_d.lt_size (Nat.le_refl _)
  replace b_d := hide b_d
  have c_r00 := b_r0.at0 b_r0.lt_size (Nat.le_refl _)
  have c_r01 := b_r0.at1 b_r0.lt_size (Nat.le_refl _)
  have c_r02 := b_r0.at2 b_r0.lt_size (Nat.le_refl _)
  have f_r00 := b_r0.free0 b_r0.lt_size (Nat.le_refl _)
  have f_r01 := b_r0.free1 b_r0.lt_size (Nat.le_refl _)
  have f_r02 := b_r0.free2 b_r0.lt_size (Nat.le_refl _)
  have l_r0 := b_r0.lt b_r0.lt_size (Nat.le_refl _)
  replace b_r0 := hide b_r0
  go_enter Tryz.func25, Tryz.ntmps25
  go_wp2_with fail
  rw [← hW]
  clear hW
  refine (pvalue_ok R_d.out g2.out (Nat.le_refl _) hp.out ho.out hq.out).mono ?_
  rintro e w1 ⟨A_v, c_v, A_vd, c_vd, rfl, R_v, R_vd, hb⟩
  replace R_d := hide (Rd.then_ R_d.out hb)
  have U1 : Below W.heap.size W w1 := Below.then_ U0 hb
  replace B := hide (Below.then_ B.out hb)
  replace R_v := hide R_v
  replace R_vd := hide R_vd
  clear hb
  have hbx : Below w1.heap.size w1 (w1.alloc (.cells #[.bool (zneg q.num), .slice A_v (dig (zmag q.num)).length c_v, .slice A_vd (dig q.den).length c_vd] 27)) := ((Below.refl _ _).alloc (Nat.le_refl _) _)
  have Ux := Below.then_ U1 hbx
  go_wp2_with fail
  obtain ⟨V1, hV⟩ : ∃ V, V = (w1.alloc (.cells #[.bool (zneg q.num), .slice A_v (dig (zmag q.num)).length c_v, .slice A_vd (dig q.den).length c_vd] 27)) := ⟨_, rfl⟩
  obtain ⟨g_v, hg_v⟩ : ∃ g, g = w1.heap.size := ⟨_, rfl⟩
  rw [← hV]
  rw [← hV] at hbx Ux
  rw [← hg_v]
  have b_v : Box3 V1 g_v (.bool (zneg q.num)) (.slice A_v (dig (zmag q.num)).length c_v) (.slice A_vd (dig q.den).length c_vd) := by rw [hV]; exact (Box3.new _ _ _ _ hg_v)
  clear hV
  have ne_v_r0 : g_v ≠ w.heap.size + 1 := by have := l_r0 _ U1; omega
  replace ne_v_r0 := hide ne_v_r0
  have ne_d_v : w.heap.size ≠ g_v := by have := (b_d.out.lt b_d.out.lt_size (Nat.le_refl _)) _ U1; omega
  replace ne_d_v := hide ne_d_v
  have ne_r0_v := hide (Ne.symm ne_v_r0.out)
  have ge_v : w.heap.size ≤ g_v := by have := B.out.size; omega
  replace ge_v := hide ge_v
  clear hg_v
  replace R_d := hide (Rd.then_ R_d.out hbx)
  replace R_v := hide (Rd.then_ R_v.out hbx)
  replace R_vd := hide (Rd.then_ R_vd.out hbx)
  have U2 : Below W.heap.size W V1 := Below.then_ U1 hbx
  replace B := hide (Below.then_ B.out hbx)
  clear hbx
  replace b_d := hide (BoxD.keep b_d.out U2)
  clear c_d0 c_d1 c_d2
  replace b_r0 := hide (BoxD.keep b_r0.out U2)
  clear c_r00 c_r01 c_r02 f_r00 f_r01 f_r02 l_r0
  replace b_v := hide b_v
  have U3 : Below V1.heap.size V1 V1 := Below.refl _ _
  have c_d0 := b_d.out.at0 b_d.out.lt_size (Nat.le_refl _)
  have c_d1 := b_d.out.at1 b_d.out.lt_size (Nat.le_refl _)
  have c_d2 := b_d.out.at2 b_d.out.lt_size (Nat.le_refl _)
  have c_r00 := b_r0.out.at0 b_r0.out.lt_size (Nat.le_refl _)
  have c_r01 := b_r0.out.at1 b_r0.out.lt_size (Nat.le_refl _)
  have c_r02 := b_r0.out.at2 b_r0.out.lt_size (Nat.le_refl _)
  have f_r00 := b_r0.out.free0 b_r0.out.lt_size (Nat.le_refl _)
  have f_r01 := b_r0.out.free1 b_r0.out.lt_size (Nat.le_refl _)
  have f_r02 := b_r0.out.free2 b_r0.out.lt_size (Nat.le_refl _)
  have l_r0 := b_r0.out.lt b_r0.out.lt_size (Nat.le_refl _)
  have c_v0 := b_v.out.at0 b_v.out.lt_size (Nat.le_refl _)
  have c_v1 := b_v.out.at1 b_v.out.lt_size (Nat.le_refl _)
  have c_v2 := b_v.out.at2 b_v.out.lt_size (Nat.le_refl _)
  refine (pround_any R_v.out g1.out.1 R_vd.out g1.out.2 (Nat.le_refl _) h9.out h1.out h7.out e_x.out hz.out).mono ?_
  rintro e w2 ⟨A_y, c_y, rfl, R_y, hb⟩
  replace R_d := hide (Rd.then_ R_d.out hb)
  replace R_v := hide (Rd.then_ R_v.out hb)
  replace R_vd := hide (Rd.then_ R_vd.out hb)
  have U4 : Below V1.heap.size V1 w2 := Below.then_ U3 hb
  replace B := hide (Below.then_ B.out hb)
  replace R_y := hide R_y
  clear hb
  go_wp2
  exact bodyPost_ret (v := .tuple #[.agg #[.bool (zneg z), .slice A_y (dig (zmag z)).length c_y, .int .i64 (p : Int)], .int .i64 0]) (by simp [results, Tryz.results25, go_sem, c_r00 _ U4, c_r01 _ U4, c_r02 _ U4]) rfl (RetDec.box B.out (by omega) (c_r00 _ U4) (c_r01 _ U4) (c_r02 _ U4) R_y.out)
end
end Go.Proofs.YtdlmfembnmomjaaGreatDoor
