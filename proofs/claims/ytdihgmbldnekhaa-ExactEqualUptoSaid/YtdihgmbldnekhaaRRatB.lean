/-
  RRat3, RRat4, RRat5.
-/
import Derived.Test.YtdihgmbldnekhaaRRatA
namespace Go.Proofs.Ytdihgmbldnekhaa
section
open Go.RowKit


/-- a box that the region has made, not written yet -/
def XBox (W w' : World) (g : Nat) : Prop := Box w' g (.bool false) (.slice none 0 0) ∧ W.heap.size ≤ g
theorem Below.al_ {W w' : World} (h : Below W.heap.size W w') (o : Obj) : Below W.heap.size W (w'.alloc o) := h.alloc h.size o
theorem Below.al_then {w w' : World} {o : Obj} (h : Below (w.alloc o).heap.size (w.alloc o) w') : Below w.heap.size w w' := (Below.al_ (Below.refl _ _) o).trans (h.mono (by simp))
theorem Rd.al_ {w : World} {A : Option Addr} {n c : Nat} {xs : List Nat} {o : Obj} (h : Rd w w.heap.size A n c xs) : Rd (w.alloc o) (w.alloc o).heap.size A n c xs := h.then_ (Below.al_ (Below.refl _ _) o)
theorem XBox.made {W w w' : World} (h : Below W.heap.size W w) (hb : Below (w.alloc (.cells #[.bool false, .slice none 0 0] 25)).heap.size (w.alloc (.cells #[.bool false, .slice none 0 0] 25)) w') : XBox W w' w.heap.size :=
  ⟨Box.keep (Box.new w _ _ rfl) hb, h.size⟩
theorem Below.al_drew {W w' : World} (h : Below W.heap.size W w') (o : Obj) : Below W.heap.size W (w'.alloc o).drew := Below.al_ (w' := w'.drew) (h.trans ((Below.drw_ w').mono h.size)) o
theorem Below.al_then_drew {w w' : World} {o : Obj} (h : Below (w.alloc o).drew.heap.size (w.alloc o).drew w') : Below w.drew.heap.size w.drew w' := Below.al_then (w := w.drew) (o := o) h
theorem Rd.al_drew {w : World} {A : Option Addr} {n c : Nat} {xs : List Nat} {o : Obj} (h : Rd w.drew w.drew.heap.size A n c xs) : Rd (w.alloc o).drew (w.alloc o).drew.heap.size A n c xs := Rd.al_ (w := w.drew) (o := o) h
theorem XBox.made_drew {W w w' : World} (h : Below W.heap.size W w.drew) (hb : Below (w.alloc (.cells #[.bool false, .slice none 0 0] 25)).drew.heap.size (w.alloc (.cells #[.bool false, .slice none 0 0] 25)).drew w') : XBox W w' w.heap.size :=
  XBox.made (w := w.drew) h hb
theorem XBox.keep {W w w' : World} {g : Nat} (h : XBox W w g) (hb : Below w.heap.size w w') : XBox W w' g := ⟨Box.keep h.1 hb, h.2⟩
theorem XBox.facts {W w : World} {g : Nat} (h : XBox W w g) : w.cell? ⟨g, 0, none⟩ = some (.bool false) ∧ w.cell? ⟨g, 1, none⟩ = some (.slice none 0 0) ∧ w.frozen? ⟨g, 0, none⟩ = false ∧ w.frozen? ⟨g, 1, none⟩ = false ∧ g < w.heap.size :=
  box_kept_at h.1 h.1.lt_size (Nat.le_refl _) (Below.refl _ _)
/-- the box with the integer in it -/
def Landed (W w' : World) (g : Nat) (z : Int) (A : Option Addr) (c : Nat) : Prop :=
  Below W.heap.size W w' ∧ Box w' g (.bool (zneg z)) (.slice A (dig (zmag z)).length c) ∧ Rd w' w'.heap.size A (dig (zmag z)).length c (dig (zmag z)) ∧ W.heap.size ≤ g
theorem Landed.below {W w' : World} {g : Nat} {z : Int} {A : Option Addr} {c : Nat} (h : Landed W w' g z A c) : Below W.heap.size W w' := h.1
theorem landed_new {W w : World} {z : Int} {A : Option Addr} {c : Nat} (h : Below W.heap.size W w) (R : Rd w w.heap.size A (dig (zmag z)).length c (dig (zmag z))) :
    Landed W (w.alloc (.cells #[.bool (zneg z), .slice A (dig (zmag z)).length c] 25)) w.heap.size z A c := ⟨Below.al_ h _, Box.new w _ _ rfl, R.al_, h.size⟩
theorem landed_set {W w : World} {g : Nat} {z : Int} {A : Option Addr} {c : Nat} (h : Below W.heap.size W w) (R : Rd w w.heap.size A (dig (zmag z)).length c (dig (zmag z))) (X : XBox W w g) :
    Landed W ((w.setCell ⟨g, 0, none⟩ (.bool (zneg z))).setCell ⟨g, 1, none⟩ (.slice A (dig (zmag z)).length c)) g z A c := by
  obtain ⟨c0, c1, _, _, _⟩ := X.facts
  exact ⟨(h.setCell X.2 _).setCell X.2 _, Box.set X.1 _ _, by simpa using far2 c0 c1 _ _ R, X.2⟩
theorem landed_late {W w : World} {z : Int} {A : Option Addr} {c : Nat} (h : Below W.heap.size W w) (R : Rd w w.heap.size A (dig (zmag z)).length c (dig (zmag z))) :
    Landed W (((w.alloc (.cells #[.bool false, .slice none 0 0] 25)).setCell ⟨w.heap.size, 0, none⟩ (.bool (zneg z))).setCell ⟨w.heap.size, 1, none⟩ (.slice A (dig (zmag z)).length c)) w.heap.size z A c :=
  landed_set (Below.al_ h _) R.al_ ⟨Box.new w _ _ rfl, h.size⟩
/-- a box that the region has made, not written yet -/
def XBox3 (W w' : World) (g : Nat) : Prop := Box3 w' g (.bool false) (.slice none 0 0) (.slice none 0 0) ∧ W.heap.size ≤ g
theorem XBox3.made {W w w' : World} (h : Below W.heap.size W w) (hb : Below (w.alloc (.cells #[.bool false, .slice none 0 0, .slice none 0 0] 27)).heap.size (w.alloc (.cells #[.bool false, .slice none 0 0, .slice none 0 0] 27)) w') : XBox3 W w' w.heap.size :=
  ⟨Box3.keep (Box3.new w _ _ _ rfl) hb, h.size⟩
theorem XBox3.made_drew {W w w' : World} (h : Below W.heap.size W w.drew) (hb : Below (w.alloc (.cells #[.bool false, .slice none 0 0, .slice none 0 0] 27)).drew.heap.size (w.alloc (.cells #[.bool false, .slice none 0 0, .slice none 0 0] 27)).drew w') : XBox3 W w' w.heap.size :=
  XBox3.made (w := w.drew) h hb
theorem XBox3.keep {W w w' : World} {g : Nat} (h : XBox3 W w g) (hb : Below w.heap.size w w') : XBox3 W w' g := ⟨Box3.keep h.1 hb, h.2⟩
theorem XBox3.facts {W w : World} {g : Nat} (h : XBox3 W w g) : w.cell? ⟨g, 0, none⟩ = some (.bool false) ∧ w.cell? ⟨g, 1, none⟩ = some (.slice none 0 0) ∧ w.cell? ⟨g, 2, none⟩ = some (.slice none 0 0) ∧ w.frozen? ⟨g, 0, none⟩ = false ∧ w.frozen? ⟨g, 1, none⟩ = false ∧ w.frozen? ⟨g, 2, none⟩ = false ∧ g < w.heap.size :=
  box3_kept_at h.1 h.1.lt_size (Nat.le_refl _) (Below.refl _ _)
/-- the box with the integer in it -/
def Landed3 (W w' : World) (g : Nat) (z : Int) (A : Option Addr) (c : Nat) (B : Option Addr) (m d : Nat) : Prop :=
  Below W.heap.size W w' ∧ Box3 w' g (.bool (zneg z)) (.slice A (dig (zmag z)).length c) (.slice B m d) ∧ Rd w' w'.heap.size A (dig (zmag z)).length c (dig (zmag z)) ∧ W.heap.size ≤ g
theorem Landed3.below {W w' : World} {g : Nat} {z : Int} {A B : Option Addr} {c m d : Nat} (h : Landed3 W w' g z A c B m d) : Below W.heap.size W w' := h.1
theorem landed3_new {W w : World} {z : Int} {A B : Option Addr} {c m d : Nat} (h : Below W.heap.size W w) (R : Rd w w.heap.size A (dig (zmag z)).length c (dig (zmag z))) :
    Landed3 W (w.alloc (.cells #[.bool (zneg z), .slice A (dig (zmag z)).length c, .slice B m d] 27)) w.heap.size z A c B m d := ⟨Below.al_ h _, Box3.new w _ _ _ rfl, R.al_, h.size⟩
theorem landed3_set {W w : World} {g : Nat} {z : Int} {A B : Option Addr} {c m d : Nat} (h : Below W.heap.size W w) (R : Rd w w.heap.size A (dig (zmag z)).length c (dig (zmag z))) (X : XBox3 W w g) :
    Landed3 W (((w.setCell ⟨g, 0, none⟩ (.bool (zneg z))).setCell ⟨g, 1, none⟩ (.slice A (dig (zmag z)).length c)).setCell ⟨g, 2, none⟩ (.slice B m d)) g z A c B m d := by
  obtain ⟨c0, c1, c2, _, _, _, _⟩ := X.facts
  exact ⟨((h.setCell X.2 _).setCell X.2 _).setCell X.2 _, Box3.set X.1 _ _ _, by simpa using far3 c0 c1 c2 _ _ _ R, X.2⟩
theorem landed3_late {W w : World} {z : Int} {A B : Option Addr} {c m d : Nat} (h : Below W.heap.size W w) (R : Rd w w.heap.size A (dig (zmag z)).length c (dig (zmag z))) :
    Landed3 W ((((w.alloc (.cells #[.bool false, .slice none 0 0, .slice none 0 0] 27)).setCell ⟨w.heap.size, 0, none⟩ (.bool (zneg z))).setCell ⟨w.heap.size, 1, none⟩ (.slice A (dig (zmag z)).length c)).setCell ⟨w.heap.size, 2, none⟩ (.slice B m d)) w.heap.size z A c B m d :=
  landed3_set (Below.al_ h _) R.al_ ⟨Box3.new w _ _ _ rfl, h.size⟩

set_option maxHeartbeats 4000000 in
theorem rcmp3_any {w : World} {Bd : Nat} {A_a : Option Addr} {n_a c_a : Nat} {x_a : List Nat} {s_a : Bool} {A_ad : Option Addr} {n_ad c_ad : Nat} {x_ad : List Nat} {A_b : Option Addr} {n_b c_b : Nat} {x_b : List Nat} {s_b : Bool} {A_bd : Option Addr} {n_bd c_bd : Nat} {x_bd : List Nat} (h_a : Rd w Bd A_a n_a c_a x_a) (g_a : n_a ≤ 1000000000) (h_ad : Rd w Bd A_ad n_ad c_ad x_ad) (g_ad : n_ad ≤ 1000000000) (h_b : Rd w Bd A_b n_b c_b x_b) (g_b : n_b ≤ 1000000000) (h_bd : Rd w Bd A_bd n_bd c_bd x_bd) (g_bd : n_bd ≤ 1000000000) (hB : Bd ≤ w.heap.size) {k : Int} (hk : sgn (qv s_a (val x_a) (val x_ad) - qv s_b (val x_b) (val x_bd)).num = k) :
    Calls Try.prog 68 #[.agg #[.bool s_a, .slice A_a n_a c_a, .slice A_ad n_ad c_ad], .agg #[.bool s_b, .slice A_b n_b c_b, .slice A_bd n_bd c_bd]] w (RetB w (.int .i64 k)) := by
  obtain ⟨z1, e_z1⟩ : ∃ v, tp s_a (val x_a) (val x_ad) = v := ⟨_, rfl⟩
  replace e_z1 := hide e_z1
  obtain ⟨d1, e_d1⟩ : ∃ v, lw (val x_ad) = v := ⟨_, rfl⟩
  replace e_d1 := hide e_d1
  have l_z1 : zmag z1 < pw n_a := by rw [← e_z1.out]; exact tp_lt h_a.lt
  replace l_z1 := hide l_z1
  have l_d1 : d1 < pw (n_ad + 1) := by rw [← e_d1.out]; exact lw_lt h_ad.lt
  replace l_d1 := hide l_d1
  have q_a : mkRat z1 d1 = qv s_a (val x_a) (val x_ad) := by rw [← e_z1.out, ← e_d1.out, qv_tp]
  replace q_a := hide q_a
  have n_d1 : d1 ≠ 0 := by rw [← e_d1.out]; exact lw_ne _
  replace n_d1 := hide n_d1
  obtain ⟨z2, e_z2⟩ : ∃ v, tp s_b (val x_b) (val x_bd) = v := ⟨_, rfl⟩
  replace e_z2 := hide e_z2
  obtain ⟨d2, e_d2⟩ : ∃ v, lw (val x_bd) = v := ⟨_, rfl⟩
  replace e_d2 := hide e_d2
  have l_z2 : zmag z2 < pw n_b := by rw [← e_z2.out]; exact tp_lt h_b.lt
  replace l_z2 := hide l_z2
  have l_d2 : d2 < pw (n_bd + 1) := by rw [← e_d2.out]; exact lw_lt h_bd.lt
  replace l_d2 := hide l_d2
  have q_b : mkRat z2 d2 = qv s_b (val x_b) (val x_bd) := by rw [← e_z2.out, ← e_d2.out, qv_tp]
  replace q_b := hide q_b
  have n_d2 : d2 ≠ 0 := by rw [← e_d2.out]; exact lw_ne _
  replace n_d2 := hide n_d2
  obtain ⟨d2i, e_d2i⟩ : ∃ v, iv false (val (dig d2)) = v := ⟨_, rfl⟩
  replace e_d2i := hide e_d2i
  have l_d2i : zmag d2i < pw (n_bd + 1) := by rw [← e_d2i.out, val_dig]; exact zl_iv l_d2.out
  replace l_d2i := hide l_d2i
  obtain ⟨z3, e_z3⟩ : ∃ v, iv (zneg z1) (val (dig (zmag z1))) * iv (zneg d2i) (val (dig (zmag d2i))) = v := ⟨_, rfl⟩
  replace e_z3 := hide e_z3
  have v_z3 : z1 * (d2 : Int) = z3 := by rw [← e_z3.out, ivz, ivz, ← e_d2i.out, iv_false, val_dig]
  replace v_z3 := hide v_z3
  have g_z3 : (dig (zmag z1)).length + (dig (zmag d2i)).length ≤ 70368744177664 := by have := zl l_z1.out; have := zl l_d2i.out; omega
  replace g_z3 := hide g_z3
  have l_z3 : zmag z3 < pw (n_a + (n_bd + 1)) := by rw [← e_z3.out, ivz, ivz]; exact zl_mul l_z1.out l_d2i.out
  replace l_z3 := hide l_z3
  obtain ⟨d1i, e_d1i⟩ : ∃ v, iv false (val (dig d1)) = v := ⟨_, rfl⟩
  replace e_d1i := hide e_d1i
  have l_d1i : zmag d1i < pw (n_ad + 1) := by rw [← e_d1i.out, val_dig]; exact zl_iv l_d1.out
  replace l_d1i := hide l_d1i
  obtain ⟨z4, e_z4⟩ : ∃ v, iv (zneg z2) (val (dig (zmag z2))) * iv (zneg d1i) (val (dig (zmag d1i))) = v := ⟨_, rfl⟩
  replace e_z4 := hide e_z4
  have v_z4 : z2 * (d1 : Int) = z4 := by rw [← e_z4.out, ivz, ivz, ← e_d1i.out, iv_false, val_dig]
  replace v_z4 := hide v_z4
  have g_z4 : (dig (zmag z2)).length + (dig (zmag d1i)).length ≤ 70368744177664 := by have := zl l_z2.out; have := zl l_d1i.out; omega
  replace g_z4 := hide g_z4
  have l_z4 : zmag z4 < pw (n_b + (n_ad + 1)) := by rw [← e_z4.out, ivz, ivz]; exact zl_mul l_z2.out l_d1i.out
  replace l_z4 := hide l_z4
  have e_k : sgn (iv (zneg z3) (val (dig (zmag z3))) - iv (zneg z4) (val (dig (zmag z4)))) = k := by rw [ivz, ivz, ← hk, ← q_a.out, ← q_b.out, mk_cmp n_d1.out n_d2.out, v_z3.out, v_z4.out]
  replace e_k := hide e_k
  clear hk
  obtain ⟨W, hW⟩ : ∃ W, W = ((w.alloc (.cells #[.bool s_a, .slice A_a n_a c_a, .slice A_ad n_ad c_ad] 27)).alloc (.cells #[.bool s_b, .slice A_b n_b c_b, .slice A_bd n_bd c_bd] 27)) := ⟨_, rfl⟩
  have b_a : Box3 W (w.heap.size) (.bool s_a) (.slice A_a n_a c_a) (.slice A_ad n_ad c_ad) := by rw [hW]; exact ((Box3.new w _ _ _ rfl).al _)
  have b_b : Box3 W (w.heap.size + 1) (.bool s_b) (.slice A_b n_b c_b) (.slice A_bd n_bd c_bd) := by rw [hW]; exact (Box3.new _ _ _ _ (by simp))
  have hwW : Below w.heap.size w W := by rw [hW]; exact (((Below.refl _ _).alloc (Nat.le_refl _) _).alloc (by simp) _)
  have R_a := hide (Rd.upto h_a hwW hB)
  clear h_a
  have R_ad := hide (Rd.upto h_ad hwW hB)
  clear h_ad
  have R_b := hide (Rd.upto h_b hwW hB)
  clear h_b
  have R_bd := hide (Rd.upto h_bd hwW hB)
  clear h_bd
  have B := hide hwW
  clear hwW
  clear hB
  have U0 : Below W.heap.size W W := Below.refl _ _
  have c_a0 := b_a.at0 b_a.lt_size (Nat.le_refl _)
  have c_a1 := b_a.at1 b_a.lt_size (Nat.le_refl _)
  have c_a2 := b_a.at2 b_a.lt_size (Nat.le_refl _)
  replace b_a := hide b_a
  have c_b0 := b_b.at0 b_b.lt_size (Nat.le_refl _)
  have c_b1 := b_b.at1 b_b.lt_size (Nat.le_refl _)
  have c_b2 := b_b.at2 b_b.lt_size (Nat.le_refl _)
  replace b_b := hide b_b
  go_enter Try.func68, Try.ntmps68
  go_wp2_with fail
  rw [← hW]
  clear hW
  refine Code.wp_mono (Q := fun e a' w' => e = .normal ∧ ∃ (g : Nat) (A : Option Addr) (c : Nat) (v7 v8 v9 v10 v11 v12 : Value), a' = ⟨#[.agg #[.bool s_a, .slice A_a n_a c_a, .slice A_ad n_ad c_ad], .agg #[.bool s_b, .slice A_b n_b c_b, .slice A_bd n_bd c_bd], (.pointer (some ⟨w.heap.size, 0, none⟩)), (.pointer (some ⟨w.heap.size + 1, 0, none⟩)), .int .i64 0, (.pointer (some ⟨g, 0, none⟩)), undef, v7, v8, v9, v10, v11, v12, undef, undef, undef, undef, undef, undef, undef, undef, undef], []⟩ ∧ Landed W w' g z3 A c) ?_ ?_
  rotate_left
  · skip
    have hd := Below.drw_ W
    replace R_a := hide (Rd.then_ R_a.out hd)
    replace R_ad := hide (Rd.then_ R_ad.out hd)
    replace R_b := hide (Rd.then_ R_b.out hd)
    replace R_bd := hide (Rd.then_ R_bd.out hd)
    have U1 : Below W.heap.size W (W.drew) := Below.then_ U0 hd
    replace B := hide (Below.then_ B.out hd)
    clear hd
    have tok1 : True := trivial
    go_region_held3 (fun w' => Below W.heap.size W w') (first | assumption | (with_reducible exact Below.al_ (by assumption) _) | (with_reducible exact Below.al_drew (by assumption) _) | (with_reducible exact (landed_new U5 R_z3.out).below) | (with_reducible exact (landed_set U5 R_z3.out X5.out).below) | (with_reducible exact (landed_late U5 R_z3.out).below) | fail)
      (first
        | (go_at_call 100; (have _t := tok1; (with_reducible refine (top_any (by first | exact R_a.out | exact Rd.al_ R_a.out | exact Rd.al_drew R_a.out) (by omega) (by first | exact R_ad.out | exact Rd.al_ R_ad.out | exact Rd.al_drew R_ad.out) (by omega) (Nat.le_refl _) e_z1.out).mono ?_); rintro e w1 ⟨A_z1, c_z1, rfl, R_z1, hb⟩; have hb1 : Below (W.drew).heap.size (W.drew) w1 := (by first | exact hb | exact Below.al_then hb | exact Below.al_then_drew hb); (first | (have X2 := hide (XBox.made_drew U1 hb)) | (have X2 := hide (XBox.made U1 hb)) | (have X2 := hide (XBox.keep X0.out hb1)) | skip); replace R_a := hide (Rd.then_ R_a.out hb1); replace R_ad := hide (Rd.then_ R_ad.out hb1); replace R_b := hide (Rd.then_ R_b.out hb1); replace R_bd := hide (Rd.then_ R_bd.out hb1); have U2 : Below W.heap.size W w1 := Below.then_ U1 hb1; replace B := hide (Below.then_ B.out hb1); clear hb1; replace R_z1 := hide R_z1; clear hb; have tok2 : True := trivial; clear _t tok1))
        | (go_at_call 102; (have _t := tok2; (with_reducible refine (rlow_any (by first | exact R_b.out | exact Rd.al_ R_b.out | exact Rd.al_drew R_b.out) (by omega) (by first | exact R_bd.out | exact Rd.al_ R_bd.out | exact Rd.al_drew R_bd.out) (by omega) (Nat.le_refl _) e_d2.out).mono ?_); rintro e w2 ⟨A_d2, c_d2, rfl, R_d2, hb⟩; have hb1 : Below w1.heap.size w1 w2 := (by first | exact hb | exact Below.al_then hb | exact Below.al_then_drew hb); (first | (have X3 := hide (XBox.made_drew U2 hb)) | (have X3 := hide (XBox.made U2 hb)) | (have X3 := hide (XBox.keep X2.out hb1)) | skip); replace R_a := hide (Rd.then_ R_a.out hb1); replace R_ad := hide (Rd.then_ R_ad.out hb1); replace R_b := hide (Rd.then_ R_b.out hb1); replace R_bd := hide (Rd.then_ R_bd.out hb1); replace R_z1 := hide (Rd.then_ R_z1.out hb1); have U3 : Below W.heap.size W w2 := Below.then_ U2 hb1; replace B := hide (Below.then_ B.out hb1); clear hb1; replace R_d2 := hide R_d2; clear hb; have tok3 : True := trivial; clear _t tok2))
        | (go_at_call 101; (have _t := tok3; (with_reducible refine (rimake_any _ _ _ _ _ _ _ (by first | exact R_d2.out | exact Rd.al_ R_d2.out | exact Rd.al_drew R_d2.out) (Nat.le_refl _)).mono ?_); rw [e_d2i.out]; rintro e w3 ⟨A_d2i, c_d2i, rfl, R_d2i, hb⟩; have hb1 : Below w2.heap.size w2 w3 := (by first | exact hb | exact Below.al_then hb | exact Below.al_then_drew hb); (first | (have X4 := hide (XBox.made_drew U3 hb)) | (have X4 := hide (XBox.made U3 hb)) | (have X4 := hide (XBox.keep X3.out hb1)) | skip); replace R_a := hide (Rd.then_ R_a.out hb1); replace R_ad := hide (Rd.then_ R_ad.out hb1); replace R_b := hide (Rd.then_ R_b.out hb1); replace R_bd := hide (Rd.then_ R_bd.out hb1); replace R_z1 := hide (Rd.then_ R_z1.out hb1); replace R_d2 := hide (Rd.then_ R_d2.out hb1); have U4 : Below W.heap.size W w3 := Below.then_ U3 hb1; replace B := hide (Below.then_ B.out hb1); clear hb1; replace R_d2i := hide R_d2i; clear hb; have tok4 : True := trivial; clear _t tok3))
        | (go_at_call 99; (have _t := tok4; (with_reducible refine (rimul_any _ _ _ _ _ _ _ _ _ _ _ _ (by first | exact R_z1.out | exact Rd.al_ R_z1.out | exact Rd.al_drew R_z1.out) (by first | exact R_d2i.out | exact Rd.al_ R_d2i.out | exact Rd.al_drew R_d2i.out) (Nat.le_refl _) g_z3.out).mono ?_); rw [e_z3.out]; rintro e w4 ⟨A_z3, c_z3, rfl, R_z3, hb⟩; have hb1 : Below w3.heap.size w3 w4 := (by first | exact hb | exact Below.al_then hb | exact Below.al_then_drew hb); (first | (have X5 := hide (XBox.made_drew U4 hb)) | (have X5 := hide (XBox.made U4 hb)) | (have X5 := hide (XBox.keep X4.out hb1)) | skip); replace R_a := hide (Rd.then_ R_a.out hb1); replace R_ad := hide (Rd.then_ R_ad.out hb1); replace R_b := hide (Rd.then_ R_b.out hb1); replace R_bd := hide (Rd.then_ R_bd.out hb1); replace R_z1 := hide (Rd.then_ R_z1.out hb1); replace R_d2 := hide (Rd.then_ R_d2.out hb1); replace R_d2i := hide (Rd.then_ R_d2i.out hb1); have U5 : Below W.heap.size W w4 := Below.then_ U4 hb1; replace B := hide (Below.then_ B.out hb1); clear hb1; replace R_z3 := hide R_z3; clear hb; have tok5 : True := trivial; clear _t tok4; (first | (have xf := XBox.facts X5.out; obtain ⟨x0, x1, x2, x3, x4⟩ := xf) | skip))))
    all_goals (refine ⟨rfl, _, A_z3, c_z3, _, _, _, _, _, _, rfl, ?_⟩; first | exact landed_new U5 R_z3.out | exact landed_set U5 R_z3.out X5.out | exact landed_late U5 R_z3.out)
  rintro e a' w5 ⟨rfl, g_z3, A_z3, c_z3, v7, v8, v9, v10, v11, v12, rfl, hbx, b_z3, R_z3, hg_z3⟩
  replace R_z3 := hide R_z3
  have ne_a_z3 : w.heap.size ≠ g_z3 := by have := (b_a.out.lt b_a.out.lt_size (Nat.le_refl _)) _ U0; omega
  replace ne_a_z3 := hide ne_a_z3
  have ne_b_z3 : w.heap.size + 1 ≠ g_z3 := by have := (b_b.out.lt b_b.out.lt_size (Nat.le_refl _)) _ U0; omega
  replace ne_b_z3 := hide ne_b_z3
  have ge_z3 : w.heap.size ≤ g_z3 := by have := B.out.size; omega
  replace ge_z3 := hide ge_z3
  clear hg_z3
  replace R_a := hide (Rd.then_ R_a.out hbx)
  replace R_ad := hide (Rd.then_ R_ad.out hbx)
  replace R_b := hide (Rd.then_ R_b.out hbx)
  replace R_bd := hide (Rd.then_ R_bd.out hbx)
  have U1 : Below W.heap.size W w5 := Below.then_ U0 hbx
  replace B := hide (Below.then_ B.out hbx)
  clear hbx
  replace b_a := hide (Box3.keep b_a.out U1)
  clear c_a0 c_a1 c_a2
  replace b_b := hide (Box3.keep b_b.out U1)
  clear c_b0 c_b1 c_b2
  replace b_z3 := hide b_z3
  have U2 : Below w5.heap.size w5 w5 := Below.refl _ _
  have c_a0 := b_a.out.at0 b_a.out.lt_size (Nat.le_refl _)
  have c_a1 := b_a.out.at1 b_a.out.lt_size (Nat.le_refl _)
  have c_a2 := b_a.out.at2 b_a.out.lt_size (Nat.le_refl _)
  have c_b0 := b_b.out.at0 b_b.out.lt_size (Nat.le_refl _)
  have c_b1 := b_b.out.at1 b_b.out.lt_size (Nat.le_refl _)
  have c_b2 := b_b.out.at2 b_b.out.lt_size (Nat.le_refl _)
  have c_z30 := b_z3.out.at0 b_z3.out.lt_size (Nat.le_refl _)
  have c_z31 := b_z3.out.at1 b_z3.out.lt_size (Nat.le_refl _)
  go_wp2_with fail
  refine Code.wp_mono (Q := fun e a' w' => e = .normal ∧ ∃ (g : Nat) (A : Option Addr) (c : Nat) (v7 v8 v9 v10 v11 v12 v13 v14 v15 v16 v17 v18 : Value), a' = ⟨#[.agg #[.bool s_a, .slice A_a n_a c_a, .slice A_ad n_ad c_ad], .agg #[.bool s_b, .slice A_b n_b c_b, .slice A_bd n_bd c_bd], (.pointer (some ⟨w.heap.size, 0, none⟩)), (.pointer (some ⟨w.heap.size + 1, 0, none⟩)), .int .i64 0, (.pointer (some ⟨g_z3, 0, none⟩)), (.pointer (some ⟨g, 0, none⟩)), v7, v8, v9, v10, v11, v12, v13, v14, v15, v16, v17, v18, undef, undef, undef], []⟩ ∧ Landed w5 w' g z4 A c) ?_ ?_
  rotate_left
  · skip
    have hd := Below.drw_ w5
    replace R_a := hide (Rd.then_ R_a.out hd)
    replace R_ad := hide (Rd.then_ R_ad.out hd)
    replace R_b := hide (Rd.then_ R_b.out hd)
    replace R_bd := hide (Rd.then_ R_bd.out hd)
    replace R_z3 := hide (Rd.then_ R_z3.out hd)
    have U3 : Below w5.heap.size w5 (w5.drew) := Below.then_ U2 hd
    replace B := hide (Below.then_ B.out hd)
    clear hd
    have tok1 : True := trivial
    go_region_held3 (fun w' => Below w5.heap.size w5 w') (first | assumption | (with_reducible exact Below.al_ (by assumption) _) | (with_reducible exact Below.al_drew (by assumption) _) | (with_reducible exact (landed_new U7 R_z4.out).below) | (with_reducible exact (landed_set U7 R_z4.out X7.out).below) | (with_reducible exact (landed_late U7 R_z4.out).below) | fail)
      (first
        | (go_at_call 100; (have _t := tok1; (with_reducible refine (top_any (by first | exact R_b.out | exact Rd.al_ R_b.out | exact Rd.al_drew R_b.out) (by omega) (by first | exact R_bd.out | exact Rd.al_ R_bd.out | exact Rd.al_drew R_bd.out) (by omega) (Nat.le_refl _) e_z2.out).mono ?_); rintro e w6 ⟨A_z2, c_z2, rfl, R_z2, hb⟩; have hb1 : Below (w5.drew).heap.size (w5.drew) w6 := (by first | exact hb | exact Below.al_then hb | exact Below.al_then_drew hb); (first | (have X4 := hide (XBox.made_drew U3 hb)) | (have X4 := hide (XBox.made U3 hb)) | (have X4 := hide (XBox.keep X0.out hb1)) | skip); replace R_a := hide (Rd.then_ R_a.out hb1); replace R_ad := hide (Rd.then_ R_ad.out hb1); replace R_b := hide (Rd.then_ R_b.out hb1); replace R_bd := hide (Rd.then_ R_bd.out hb1); replace R_z3 := hide (Rd.then_ R_z3.out hb1); have U4 : Below w5.heap.size w5 w6 := Below.then_ U3 hb1; replace B := hide (Below.then_ B.out hb1); clear hb1; replace R_z2 := hide R_z2; clear hb; have tok2 : True := trivial; clear _t tok1))
        | (go_at_call 102; (have _t := tok2; (with_reducible refine (rlow_any (by first | exact R_a.out | exact Rd.al_ R_a.out | exact Rd.al_drew R_a.out) (by omega) (by first | exact R_ad.out | exact Rd.al_ R_ad.out | exact Rd.al_drew R_ad.out) (by omega) (Nat.le_refl _) e_d1.out).mono ?_); rintro e w7 ⟨A_d1, c_d1, rfl, R_d1, hb⟩; have hb1 : Below w6.heap.size w6 w7 := (by first | exact hb | exact Below.al_then hb | exact Below.al_then_drew hb); (first | (have X5 := hide (XBox.made_drew U4 hb)) | (have X5 := hide (XBox.made U4 hb)) | (have X5 := hide (XBox.keep X4.out hb1)) | skip); replace R_a := hide (Rd.then_ R_a.out hb1); replace R_ad := hide (Rd.then_ R_ad.out hb1); replace R_b := hide (Rd.then_ R_b.out hb1); replace R_bd := hide (Rd.then_ R_bd.out hb1); replace R_z3 := hide (Rd.then_ R_z3.out hb1); replace R_z2 := hide (Rd.then_ R_z2.out hb1); have U5 : Below w5.heap.size w5 w7 := Below.then_ U4 hb1; replace B := hide (Below.then_ B.out hb1); clear hb1; replace R_d1 := hide R_d1; clear hb; have tok3 : True := trivial; clear _t tok2))
        | (go_at_call 101; (have _t := tok3; (with_reducible refine (rimake_any _ _ _ _ _ _ _ (by first | exact R_d1.out | exact Rd.al_ R_d1.out | exact Rd.al_drew R_d1.out) (Nat.le_refl _)).mono ?_); rw [e_d1i.out]; rintro e w8 ⟨A_d1i, c_d1i, rfl, R_d1i, hb⟩; have hb1 : Below w7.heap.size w7 w8 := (by first | exact hb | exact Below.al_then hb | exact Below.al_then_drew hb); (first | (have X6 := hide (XBox.made_drew U5 hb)) | (have X6 := hide (XBox.made U5 hb)) | (have X6 := hide (XBox.keep X5.out hb1)) | skip); replace R_a := hide (Rd.then_ R_a.out hb1); replace R_ad := hide (Rd.then_ R_ad.out hb1); replace R_b := hide (Rd.then_ R_b.out hb1); replace R_bd := hide (Rd.then_ R_bd.out hb1); replace R_z3 := hide (Rd.then_ R_z3.out hb1); replace R_z2 := hide (Rd.then_ R_z2.out hb1); replace R_d1 := hide (Rd.then_ R_d1.out hb1); have U6 : Below w5.heap.size w5 w8 := Below.then_ U5 hb1; replace B := hide (Below.then_ B.out hb1); clear hb1; replace R_d1i := hide R_d1i; clear hb; have tok4 : True := trivial; clear _t tok3))
        | (go_at_call 99; (have _t := tok4; (with_reducible refine (rimul_any _ _ _ _ _ _ _ _ _ _ _ _ (by first | exact R_z2.out | exact Rd.al_ R_z2.out | exact Rd.al_drew R_z2.out) (by first | exact R_d1i.out | exact Rd.al_ R_d1i.out | exact Rd.al_drew R_d1i.out) (Nat.le_refl _) g_z4.out).mono ?_); rw [e_z4.out]; rintro e w9 ⟨A_z4, c_z4, rfl, R_z4, hb⟩; have hb1 : Below w8.heap.size w8 w9 := (by first | exact hb | exact Below.al_then hb | exact Below.al_then_drew hb); (first | (have X7 := hide (XBox.made_drew U6 hb)) | (have X7 := hide (XBox.made U6 hb)) | (have X7 := hide (XBox.keep X6.out hb1)) | skip); replace R_a := hide (Rd.then_ R_a.out hb1); replace R_ad := hide (Rd.then_ R_ad.out hb1); replace R_b := hide (Rd.then_ R_b.out hb1); replace R_bd := hide (Rd.then_ R_bd.out hb1); replace R_z3 := hide (Rd.then_ R_z3.out hb1); replace R_z2 := hide (Rd.then_ R_z2.out hb1); replace R_d1 := hide (Rd.then_ R_d1.out hb1); replace R_d1i := hide (Rd.then_ R_d1i.out hb1); have U7 : Below w5.heap.size w5 w9 := Below.then_ U6 hb1; replace B := hide (Below.then_ B.out hb1); clear hb1; replace R_z4 := hide R_z4; clear hb; have tok5 : True := trivial; clear _t tok4; (first | (have xf := XBox.facts X7.out; obtain ⟨x0, x1, x2, x3, x4⟩ := xf) | skip))))
    all_goals (refine ⟨rfl, _, A_z4, c_z4, _, _, _, _, _, _, _, _, _, _, _, _, rfl, ?_⟩; first | exact landed_new U7 R_z4.out | exact landed_set U7 R_z4.out X7.out | exact landed_late U7 R_z4.out)
  rintro e a' w10 ⟨rfl, g_z4, A_z4, c_z4, v7, v8, v9, v10, v11, v12, v13, v14, v15, v16, v17, v18, rfl, hbx, b_z4, R_z4, hg_z4⟩
  replace R_z4 := hide R_z4
  have ne_a_z4 : w.heap.size ≠ g_z4 := by have := (b_a.out.lt b_a.out.lt_size (Nat.le_refl _)) _ U2; omega
  replace ne_a_z4 := hide ne_a_z4
  have ne_b_z4 : w.heap.size + 1 ≠ g_z4 := by have := (b_b.out.lt b_b.out.lt_size (Nat.le_refl _)) _ U2; omega
  replace ne_b_z4 := hide ne_b_z4
  have ne_z3_z4 : g_z3 ≠ g_z4 := by have := (b_z3.out.lt b_z3.out.lt_size (Nat.le_refl _)) _ U2; omega
  replace ne_z3_z4 := hide ne_z3_z4
  have ge_z4 : w.heap.size ≤ g_z4 := by have := B.out.size; omega
  replace ge_z4 := hide ge_z4
  clear hg_z4
  replace R_a := hide (Rd.then_ R_a.out hbx)
  replace R_ad := hide (Rd.then_ R_ad.out hbx)
  replace R_b := hide (Rd.then_ R_b.out hbx)
  replace R_bd := hide (Rd.then_ R_bd.out hbx)
  replace R_z3 := hide (Rd.then_ R_z3.out hbx)
  have U3 : Below w5.heap.size w5 w10 := Below.then_ U2 hbx
  replace B := hide (Below.then_ B.out hbx)
  clear hbx
  replace b_a := hide (Box3.keep b_a.out U3)
  clear c_a0 c_a1 c_a2
  replace b_b := hide (Box3.keep b_b.out U3)
  clear c_b0 c_b1 c_b2
  replace b_z3 := hide (Box.keep b_z3.out U3)
  clear c_z30 c_z31
  replace b_z4 := hide b_z4
  have U4 : Below w10.heap.size w10 w10 := Below.refl _ _
  have c_a0 := b_a.out.at0 b_a.out.lt_size (Nat.le_refl _)
  have c_a1 := b_a.out.at1 b_a.out.lt_size (Nat.le_refl _)
  have c_a2 := b_a.out.at2 b_a.out.lt_size (Nat.le_refl _)
  have c_b0 := b_b.out.at0 b_b.out.lt_size (Nat.le_refl _)
  have c_b1 := b_b.out.at1 b_b.out.lt_size (Nat.le_refl _)
  have c_b2 := b_b.out.at2 b_b.out.lt_size (Nat.le_refl _)
  have c_z30 := b_z3.out.at0 b_z3.out.lt_size (Nat.le_refl _)
  have c_z31 := b_z3.out.at1 b_z3.out.lt_size (Nat.le_refl _)
  have c_z40 := b_z4.out.at0 b_z4.out.lt_size (Nat.le_refl _)
  have c_z41 := b_z4.out.at1 b_z4.out.lt_size (Nat.le_refl _)
  go_wp2_with fail
  refine (ricmp_any _ _ _ _ _ _ _ _ _ _ _ _ R_z3.out R_z4.out (Nat.le_refl _)).mono ?_
  rw [e_k.out]
  rintro e w11 ⟨rfl, hb⟩
  replace R_a := hide (Rd.then_ R_a.out hb)
  replace R_ad := hide (Rd.then_ R_ad.out hb)
  replace R_b := hide (Rd.then_ R_b.out hb)
  replace R_bd := hide (Rd.then_ R_bd.out hb)
  replace R_z3 := hide (Rd.then_ R_z3.out hb)
  replace R_z4 := hide (Rd.then_ R_z4.out hb)
  have U5 : Below w10.heap.size w10 w11 := Below.then_ U4 hb
  replace B := hide (Below.then_ B.out hb)
  clear hb
  go_wp2
  go_ret
  exact ⟨rfl, B.out⟩
end

section
open Go.RowKit


theorem neg_len {s : Bool} {m d : Nat} {p : Rat} (h : -qv s m d = p) {i j : Nat} (hm : m < pw i) (hd : d < pw j) : (dig (zmag p.num)).length ≤ i ∧ (dig p.den).length ≤ max j 1 := by
  by_cases h0 : d = 0
  · subst h0; rw [qv_zero] at h; subst h
    rw [show (-0 : Rat).num = 0 from rfl, show (-0 : Rat).den = 1 from rfl, show zmag 0 = 0 from rfl, dig_zero, dig_one]
    exact ⟨Nat.zero_le _, by simp only [List.length_cons, List.length_nil]; omega⟩
  · have h1 : p = qv (!s) m d := by rw [← h]; unfold qv; rw [mk_neg, iv_not]
    subst h1
    rw [qv_num _ _ h0, qv_den _ _ h0, zmag_iv]
    exact ⟨dl (Nat.lt_of_le_of_lt (Nat.div_le_self _ _) hm), Nat.le_trans (dl (Nat.lt_of_le_of_lt (Nat.div_le_self _ _) hd)) (Nat.le_max_left _ _)⟩
theorem mul_inverse (q : Rat) {x : Int} {d : Nat} (_hx : x ≠ 0) (_hd : d ≠ 0) : q * mkRat (iv (zneg x) d) (zmag x) = q / mkRat x d := by
  rw [Rat.div_def]
  congr 1
  rw [← Rat.divInt_ofNat x d, Rat.inv_divInt]
  unfold zmag zneg
  by_cases h : x < 0
  · rw [decide_eq_true h, iv_true, ← Rat.divInt_ofNat, show ((x.natAbs : Nat) : Int) = -x by omega, Rat.neg_divInt_neg]
  · rw [decide_eq_false h, iv_false, ← Rat.divInt_ofNat, show ((x.natAbs : Nat) : Int) = x by omega]

end

section
open Go.RowKit


end
end Go.Proofs.Ytdihgmbldnekhaa
