/-
  zero, times, reduced, parts of ratio.
-/
import Derived.Test.YtieopcchchebgaaRat
namespace Go.Proofs.Ytieopcchchebgaa
open Go.RowKit


/-- parts: a numerator and a denominator that is not 0 -/
def RetParts (w : World) (q : Rat) (e : Ending) (w' : World) : Prop :=
  ∃ (s : Bool) (A : Option Addr) (n c : Nat) (xs : List Nat) (B : Option Addr) (m d : Nat) (ys : List Nat), e = .returned (.tuple #[.agg #[.bool s, .slice A n c], .slice B m d]) ∧ Rd w' w'.heap.size A n c xs ∧ Rd w' w'.heap.size B m d ys ∧
    n ≤ 1000000000 ∧ m ≤ 1000000000 ∧ val ys ≠ 0 ∧ qv s (val xs) (val ys) = q ∧ Below w.heap.size w w'
theorem RetRat.zero {w w2 : World} {q : Rat} (hq : (0 : Rat) = q) {B B1 B2 : Option Addr} {d n1 d1 n2 d2 g : Nat} {b : Bool} (hb : Below w.heap.size w w2) (hg : w.heap.size ≤ g)
    (hc0 : w2.cell? ⟨g, 0, none⟩ = some (.bool b)) (hc1 : w2.cell? ⟨g, 1, none⟩ = some (.slice B1 n1 d1)) (hc2 : w2.cell? ⟨g, 2, none⟩ = some (.slice B2 n2 d2)) (R' : Rd w2 w2.heap.size B (dig 1).length d (dig 1)) :
    RetRat w q (.returned (.agg #[.bool false, .slice none 0 0, .slice B (dig 1).length d])) (((w2.setCell ⟨g, 0, none⟩ (.bool false)).setCell ⟨g, 1, none⟩ (.slice none 0 0)).setCell ⟨g, 2, none⟩ (.slice B (dig 1).length d)) := by
  subst hq
  have e : dig (zmag (0 : Rat).num) = [] := by rw [q0num, show zmag 0 = 0 from rfl, dig_zero]
  have h := RetRat.box (q := 0) (A := none) (c := 0) (B := B) (d := d) hb hg hc0 hc1 hc2 (by rw [e]; exact Rd.empty _ _ _ (by omega)) R'
  rw [e] at h
  exact h
theorem below_q {w w' : World} (h : ∃ q, w' = w.drewN q) : Below w.heap.size w w' := by obtain ⟨q, rfl⟩ := h; exact below_drewN (Below.refl _ _) q
/-- DivMod, the quotient alone -/
def RetQuo (w : World) (m : Nat) (e : Ending) (w' : World) : Prop :=
  ∃ (A : Option Addr) (c : Nat) (A' : Option Addr) (c' r : Nat), e = .returned (.tuple #[.slice A (dig m).length c, .slice A' r c', .bool true]) ∧ Rd w' w'.heap.size A (dig m).length c (dig m) ∧ Below w.heap.size w w'
theorem RetDM.quo {w : World} {x y m : Nat} (h : x / y = m) {e : Ending} {w' : World} (hr : RetDM w x y e w') : RetQuo w m e w' := by
  subst h
  obtain ⟨A, c, A', c', rfl, R, _, hb⟩ := hr
  exact ⟨A, c, A', c', _, rfl, R, hb⟩
theorem quo_any {w : World} {Bd : Nat} {A A' : Option Addr} {n c n' c' : Nat} {xs ys : List Nat} {m : Nat} (hx : Rd w Bd A n c xs) (hy : Rd w Bd A' n' c' ys) (hB : Bd ≤ w.heap.size) (hn : n + 1 ≤ 70368744177664) (h0 : val ys ≠ 0) (hm : val xs / val ys = m) :
    Calls Try.prog 94 #[.slice A n c, .slice A' n' c'] w (RetQuo w m) := (divmod_any w Bd A A' n c n' c' xs ys hx hy hB hn h0).mono fun _ _ => RetDM.quo hm
theorem rquo_any {w : World} {Bd : Nat} {A A' : Option Addr} {n c n' c' : Nat} {xs ys : List Nat} {m : Nat} (hx : Rd w Bd A n c xs) (hy : Rd w Bd A' n' c' ys) (hB : Bd ≤ w.heap.size) (hn : n ≤ 35184372088000) (h0 : val ys ≠ 0) (hm : val xs / val ys = m) :
    Calls Try.prog 98 #[.slice A n c, .slice A' n' c'] w (RetQuo w m) := (rdivmod_any w Bd A A' n c n' c' xs ys hx hy hB hn h0).mono fun _ _ => RetDM.quo hm
theorem KeptBut.drew_ {g g' B : Nat} {W w' : World} (h : KeptBut g g' B W w') : KeptBut g g' B W w'.drew := h
theorem drew_set2 (w : World) (p q : Addr) (a b : Value) : ((w.setCell p a).setCell q b).drew = (w.drew.setCell p a).setCell q b := rfl
theorem ofne {y : Nat} (h : y ≠ 0) : (((bl y : Nat) : Int) == 0) = false := by
  have := mt (bl_eq_zero y).1 h
  simp; omega

set_option maxHeartbeats 4000000 in
theorem zero_any {w : World}   {q : Rat} (hq : (0 : Rat) = q) :
    Calls Try.prog 51 #[] w (RetRat w q) := by
  replace hq := hide hq
  obtain ⟨W, hW⟩ : ∃ W, W = (w.alloc (.cells #[.bool false, .slice none 0 0, .slice none 0 0] 27)) := ⟨_, rfl⟩
  have b_r0 : Box3 W (w.heap.size) (.bool false) (.slice none 0 0) (.slice none 0 0) := by rw [hW]; exact (Box3.new w _ _ _ rfl)
  have hwW : Below w.heap.size w W := by rw [hW]; exact ((Below.refl _ _).alloc (Nat.le_refl _) _)
  have B := hide hwW
  clear hwW
  have U0 : Below W.heap.size W W := Below.refl _ _
  have c_r00 := b_r0.at0 b_r0.lt_size (Nat.le_refl _)
  have c_r01 := b_r0.at1 b_r0.lt_size (Nat.le_refl _)
  have c_r02 := b_r0.at2 b_r0.lt_size (Nat.le_refl _)
  have f_r00 := b_r0.free0 b_r0.lt_size (Nat.le_refl _)
  have f_r01 := b_r0.free1 b_r0.lt_size (Nat.le_refl _)
  have f_r02 := b_r0.free2 b_r0.lt_size (Nat.le_refl _)
  have l_r0 := b_r0.lt b_r0.lt_size (Nat.le_refl _)
  replace b_r0 := hide b_r0
  go_enter Try.func51, Try.ntmps51
  go_wp2_with fail
  rw [← hW]
  clear hW
  refine (of_any _ 1 (by omega)).mono ?_
  rintro e w1 ⟨A_d, c_d, rfl, R_d, hb⟩
  have U1 : Below W.heap.size W w1 := Below.then_ U0 hb
  replace B := hide (Below.then_ B.out hb)
  replace R_d := hide R_d
  clear hb
  go_wp2
  exact bodyPost_ret (v := .agg #[.bool false, .slice none 0 0, .slice A_d (dig 1).length c_d]) (by simp [results, Try.results51, go_sem, c_r00 _ U1, c_r01 _ U1, c_r02 _ U1]) rfl (RetRat.zero hq.out B.out (by omega) (c_r00 _ U1) (c_r01 _ U1) (c_r02 _ U1) R_d.out)

set_option maxHeartbeats 4000000 in
theorem times_any {w : World} {Bd : Nat} {A_a : Option Addr} {n_a c_a : Nat} {x_a : List Nat} {s_a : Bool} {A_b : Option Addr} {n_b c_b : Nat} {x_b : List Nat} (h_a : Rd w Bd A_a n_a c_a x_a) (g_a : n_a ≤ 10000000000) (h_b : Rd w Bd A_b n_b c_b x_b) (g_b : n_b ≤ 10000000000) (hB : Bd ≤ w.heap.size) {z : Int} (hz : iv s_a (val x_a) * (val x_b : Int) = z) :
    Calls Try.prog 74 #[.agg #[.bool s_a, .slice A_a n_a c_a], .slice A_b n_b c_b] w (RetInt w z) := by
  have hz' : iv s_a (val x_a) * iv false (val x_b) = z := hz
  clear hz
  replace hz' := hide hz'
  have g1 : n_a + n_b ≤ 70368744177664 := by omega
  replace g1 := hide g1
  obtain ⟨W, hW⟩ : ∃ W, W = ((w.alloc (.cells #[.bool s_a, .slice A_a n_a c_a] 25)).alloc (.cells #[.bool false, .slice none 0 0] 25)) := ⟨_, rfl⟩
  have b_a : Box W (w.heap.size) (.bool s_a) (.slice A_a n_a c_a) := by rw [hW]; exact ((Box.new w _ _ rfl).al _)
  have b_r0 : Box W (w.heap.size + 1) (.bool false) (.slice none 0 0) := by rw [hW]; exact (Box.new _ _ _ (by simp))
  have hwW : Below w.heap.size w W := by rw [hW]; exact (((Below.refl _ _).alloc (Nat.le_refl _) _).alloc (by simp) _)
  have R_a := hide (Rd.upto h_a hwW hB)
  clear h_a
  have R_b := hide (Rd.upto h_b hwW hB)
  clear h_b
  have B := hide hwW
  clear hwW
  clear hB
  have U0 : Below W.heap.size W W := Below.refl _ _
  have c_a0 := b_a.at0 b_a.lt_size (Nat.le_refl _)
  have c_a1 := b_a.at1 b_a.lt_size (Nat.le_refl _)
  replace b_a := hide b_a
  have c_r00 := b_r0.at0 b_r0.lt_size (Nat.le_refl _)
  have c_r01 := b_r0.at1 b_r0.lt_size (Nat.le_refl _)
  have f_r00 := b_r0.free0 b_r0.lt_size (Nat.le_refl _)
  have f_r01 := b_r0.free1 b_r0.lt_size (Nat.le_refl _)
  have l_r0 := b_r0.lt b_r0.lt_size (Nat.le_refl _)
  replace b_r0 := hide b_r0
  go_enter Try.func74, Try.ntmps74
  go_wp2_with fail
  rw [← hW]
  clear hW
  refine (imul_any _ _ _ _ _ _ _ _ _ _ _ _ R_a.out R_b.out (Nat.le_refl _) g1.out).mono ?_
  rw [hz'.out]
  rintro e w1 ⟨A_z, c_z, rfl, R_z, hb⟩
  replace R_a := hide (Rd.then_ R_a.out hb)
  replace R_b := hide (Rd.then_ R_b.out hb)
  have U1 : Below W.heap.size W w1 := Below.then_ U0 hb
  replace B := hide (Below.then_ B.out hb)
  replace R_z := hide R_z
  clear hb
  go_wp2
  exact bodyPost_ret (v := .agg #[.bool (zneg z), .slice A_z (dig (zmag z)).length c_z]) (by simp [results, Try.results74, go_sem, c_r00 _ U1, c_r01 _ U1]) rfl (RetInt.box B.out (by omega) (c_r00 _ U1) (c_r01 _ U1) R_z.out)

set_option maxHeartbeats 4000000 in
theorem reduced_0 {w : World} {Bd : Nat} {A_a : Option Addr} {n_a c_a : Nat} {x_a : List Nat} {s_a : Bool} {A_b : Option Addr} {n_b c_b : Nat} {x_b : List Nat} (h_a : Rd w Bd A_a n_a c_a x_a) (_g_a : n_a ≤ 10000000000) (h_b : Rd w Bd A_b n_b c_b x_b) (_g_b : n_b ≤ 10000000000) (hB : Bd ≤ w.heap.size) {q : Rat} (h0 : val x_b = 0) (hq : (0 : Rat) = q) :
    Calls Try.prog 52 #[.agg #[.bool s_a, .slice A_a n_a c_a], .slice A_b n_b c_b] w (RetRat w q) := by
  replace h0 := hide h0
  replace hq := hide hq
  obtain ⟨W, hW⟩ : ∃ W, W = ((w.alloc (.cells #[.bool s_a, .slice A_a n_a c_a] 25)).alloc (.cells #[.bool false, .slice none 0 0, .slice none 0 0] 27)) := ⟨_, rfl⟩
  have b_a : Box W (w.heap.size) (.bool s_a) (.slice A_a n_a c_a) := by rw [hW]; exact ((Box.new w _ _ rfl).al _)
  have b_r0 : Box3 W (w.heap.size + 1) (.bool false) (.slice none 0 0) (.slice none 0 0) := by rw [hW]; exact (Box3.new _ _ _ _ (by simp))
  have hwW : Below w.heap.size w W := by rw [hW]; exact (((Below.refl _ _).alloc (Nat.le_refl _) _).alloc (by simp) _)
  have R_a := hide (Rd.upto h_a hwW hB)
  clear h_a
  have R_b := hide (Rd.upto h_b hwW hB)
  clear h_b
  have B := hide hwW
  clear hwW
  clear hB
  have U0 : Below W.heap.size W W := Below.refl _ _
  have c_a0 := b_a.at0 b_a.lt_size (Nat.le_refl _)
  have c_a1 := b_a.at1 b_a.lt_size (Nat.le_refl _)
  replace b_a := hide b_a
  have c_r00 := b_r0.at0 b_r0.lt_size (Nat.le_refl _)
  have c_r01 := b_r0.at1 b_r0.lt_size (Nat.le_refl _)
  have c_r02 := b_r0.at2 b_r0.lt_size (Nat.le_refl _)
  have f_r00 := b_r0.free0 b_r0.lt_size (Nat.le_refl _)
  have f_r01 := b_r0.free1 b_r0.lt_size (Nat.le_refl _)
  have f_r02 := b_r0.free2 b_r0.lt_size (Nat.le_refl _)
  have l_r0 := b_r0.lt b_r0.lt_size (Nat.le_refl _)
  replace b_r0 := hide b_r0
  go_enter Try.func52, Try.ntmps52
  go_wp2_with fail
  rw [← hW]
  clear hW
  have hbl : bl (val x_b) = 0 := by rw [h0.out, bl_zero]
  replace hbl := hide hbl
  refine (bits_any _ _ _ _ _ _ R_b.out).mono ?_
  rw [hbl.out]
  rintro e w' ⟨rfl, rfl⟩
  go_wp2_with fail
  refine (zero_any hq.out).mono ?_
  rintro e w1 ⟨A_q, c_q, A_qd, c_qd, rfl, R_q, R_qd, hb⟩
  replace R_a := hide (Rd.then_ R_a.out hb)
  replace R_b := hide (Rd.then_ R_b.out hb)
  have U1 : Below W.heap.size W w1 := Below.then_ U0 hb
  replace B := hide (Below.then_ B.out hb)
  replace R_q := hide R_q
  replace R_qd := hide R_qd
  clear hb
  go_wp2
  exact bodyPost_ret (v := .agg #[.bool (zneg q.num), .slice A_q (dig (zmag q.num)).length c_q, .slice A_qd (dig q.den).length c_qd]) (by simp [results, Try.results52, go_sem, c_r00 _ U1, c_r01 _ U1, c_r02 _ U1]) rfl (RetRat.box B.out (by omega) (c_r00 _ U1) (c_r01 _ U1) (c_r02 _ U1) R_q.out R_qd.out)

set_option maxHeartbeats 4000000 in
theorem reduced_1 {w : World} {Bd : Nat} {A_a : Option Addr} {n_a c_a : Nat} {x_a : List Nat} {s_a : Bool} {A_b : Option Addr} {n_b c_b : Nat} {x_b : List Nat} (h_a : Rd w Bd A_a n_a c_a x_a) (g_a : n_a ≤ 10000000000) (h_b : Rd w Bd A_b n_b c_b x_b) (g_b : n_b ≤ 10000000000) (hB : Bd ≤ w.heap.size) {q : Rat} (h0 : val x_b ≠ 0) (hq : qv s_a (val x_a) (val x_b) = q) :
    Calls Try.prog 52 #[.agg #[.bool s_a, .slice A_a n_a c_a], .slice A_b n_b c_b] w (RetRat w q) := by
  have e_num : iv s_a (val x_a / Nat.gcd (val x_a) (val x_b)) = q.num := by rw [← hq, qv_num _ _ h0]
  have e_den : val x_b / Nat.gcd (val x_a) (val x_b) = q.den := by rw [← hq, qv_den _ _ h0]
  have hg0 : Nat.gcd (val x_a) (val x_b) ≠ 0 := fun h => h0 (Nat.eq_zero_of_gcd_eq_zero_right h)
  obtain ⟨g, e_g⟩ : ∃ g, Nat.gcd (val x_a) (val x_b) = g := ⟨_, rfl⟩
  rw [e_g] at e_num e_den hg0
  obtain ⟨m, e_m⟩ : ∃ m, val x_a / val (dig g) = m := ⟨_, rfl⟩
  have e_n : iv s_a (val (dig m)) = q.num := by rw [val_dig, ← e_m, val_dig]; exact e_num
  have e_d : val x_b / val (dig g) = q.den := by rw [val_dig]; exact e_den
  have hg1 : val (dig g) ≠ 0 := by rw [val_dig]; exact hg0
  have hbl := ofne h0
  clear e_num e_den hg0 h0 hq
  replace e_g := hide e_g
  replace e_m := hide e_m
  replace e_n := hide e_n
  replace e_d := hide e_d
  replace hg1 := hide hg1
  have g1 : n_a + 1 ≤ 70368744177664 := by omega
  replace g1 := hide g1
  have g2 : n_b + 1 ≤ 70368744177664 := by omega
  replace g2 := hide g2
  obtain ⟨W, hW⟩ : ∃ W, W = ((w.alloc (.cells #[.bool s_a, .slice A_a n_a c_a] 25)).alloc (.cells #[.bool false, .slice none 0 0, .slice none 0 0] 27)) := ⟨_, rfl⟩
  have b_a : Box W (w.heap.size) (.bool s_a) (.slice A_a n_a c_a) := by rw [hW]; exact ((Box.new w _ _ rfl).al _)
  have b_r0 : Box3 W (w.heap.size + 1) (.bool false) (.slice none 0 0) (.slice none 0 0) := by rw [hW]; exact (Box3.new _ _ _ _ (by simp))
  have hwW : Below w.heap.size w W := by rw [hW]; exact (((Below.refl _ _).alloc (Nat.le_refl _) _).alloc (by simp) _)
  have R_a := hide (Rd.upto h_a hwW hB)
  clear h_a
  have R_b := hide (Rd.upto h_b hwW hB)
  clear h_b
  have B := hide hwW
  clear hwW
  clear hB
  have U0 : Below W.heap.size W W := Below.refl _ _
  have c_a0 := b_a.at0 b_a.lt_size (Nat.le_refl _)
  have c_a1 := b_a.at1 b_a.lt_size (Nat.le_refl _)
  replace b_a := hide b_a
  have c_r00 := b_r0.at0 b_r0.lt_size (Nat.le_refl _)
  have c_r01 := b_r0.at1 b_r0.lt_size (Nat.le_refl _)
  have c_r02 := b_r0.at2 b_r0.lt_size (Nat.le_refl _)
  have f_r00 := b_r0.free0 b_r0.lt_size (Nat.le_refl _)
  have f_r01 := b_r0.free1 b_r0.lt_size (Nat.le_refl _)
  have f_r02 := b_r0.free2 b_r0.lt_size (Nat.le_refl _)
  have l_r0 := b_r0.lt b_r0.lt_size (Nat.le_refl _)
  replace b_r0 := hide b_r0
  go_enter Try.func52, Try.ntmps52
  go_wp2_with fail
  rw [← hW]
  clear hW
  refine (bits_any _ _ _ _ _ _ R_b.out).mono ?_
  rintro e w' ⟨rfl, rfl⟩
  go_wp2_with fail
  refine (gcd_any _ _ _ _ _ _ _ _ _ _ R_a.out R_b.out (Nat.le_refl _) g1.out g2.out).mono ?_
  rw [e_g.out]
  rintro e w1 ⟨A_g, c_g, rfl, R_g, hb⟩
  replace R_a := hide (Rd.then_ R_a.out hb)
  replace R_b := hide (Rd.then_ R_b.out hb)
  have U1 : Below W.heap.size W w1 := Below.then_ U0 hb
  replace B := hide (Below.then_ B.out hb)
  replace R_g := hide R_g
  clear hb
  go_wp2_with fail
  refine (quo_any R_a.out R_g.out (Nat.le_refl _) g1.out hg1.out e_m.out).mono ?_
  rintro e w2 ⟨A_m, c_m, A_y, c_y, r_y, rfl, R_m, hb⟩
  replace R_a := hide (Rd.then_ R_a.out hb)
  replace R_b := hide (Rd.then_ R_b.out hb)
  replace R_g := hide (Rd.then_ R_g.out hb)
  have U2 : Below W.heap.size W w2 := Below.then_ U1 hb
  replace B := hide (Below.then_ B.out hb)
  replace R_m := hide R_m
  clear hb
  go_wp2_with fail
  refine (quo_any R_b.out R_g.out (Nat.le_refl _) g2.out hg1.out e_d.out).mono ?_
  rintro e w3 ⟨A_d, c_d, A_y2, c_y2, r_y2, rfl, R_d, hb⟩
  replace R_a := hide (Rd.then_ R_a.out hb)
  replace R_b := hide (Rd.then_ R_b.out hb)
  replace R_g := hide (Rd.then_ R_g.out hb)
  replace R_m := hide (Rd.then_ R_m.out hb)
  have U3 : Below W.heap.size W w3 := Below.then_ U2 hb
  replace B := hide (Below.then_ B.out hb)
  replace R_d := hide R_d
  clear hb
  go_wp2_with fail
  refine (imake_any _ _ _ _ _ _ _ R_m.out (Nat.le_refl _)).mono ?_
  rw [e_n.out]
  rintro e w4 ⟨A_q, c_q, rfl, R_q, hb⟩
  replace R_a := hide (Rd.then_ R_a.out hb)
  replace R_b := hide (Rd.then_ R_b.out hb)
  replace R_g := hide (Rd.then_ R_g.out hb)
  replace R_m := hide (Rd.then_ R_m.out hb)
  replace R_d := hide (Rd.then_ R_d.out hb)
  have U4 : Below W.heap.size W w4 := Below.then_ U3 hb
  replace B := hide (Below.then_ B.out hb)
  replace R_q := hide R_q
  clear hb
  have R_qd := R_d
  go_wp2
  exact bodyPost_ret (v := .agg #[.bool (zneg q.num), .slice A_q (dig (zmag q.num)).length c_q, .slice A_d (dig q.den).length c_d]) (by simp [results, Try.results52, go_sem, c_r00 _ U4, c_r01 _ U4, c_r02 _ U4]) rfl (RetRat.box B.out (by omega) (c_r00 _ U4) (c_r01 _ U4) (c_r02 _ U4) R_q.out R_qd.out)

theorem reduced_any {w : World} {Bd : Nat} {A_a : Option Addr} {n_a c_a : Nat} {x_a : List Nat} {s_a : Bool} {A_b : Option Addr} {n_b c_b : Nat} {x_b : List Nat} (h_a : Rd w Bd A_a n_a c_a x_a) (g_a : n_a ≤ 10000000000) (h_b : Rd w Bd A_b n_b c_b x_b) (g_b : n_b ≤ 10000000000) (hB : Bd ≤ w.heap.size) {q : Rat} (hq : qv s_a (val x_a) (val x_b) = q) :
    Calls Try.prog 52 #[.agg #[.bool s_a, .slice A_a n_a c_a], .slice A_b n_b c_b] w (RetRat w q) := by
  by_cases h0 : val x_b = 0
  · exact reduced_0 h_a g_a h_b g_b hB h0 (by rw [← hq, h0, qv_zero])
  · exact reduced_1 h_a g_a h_b g_b hB h0 hq

set_option maxHeartbeats 4000000 in
theorem parts_0 {w : World} {Bd : Nat} {A_a : Option Addr} {n_a c_a : Nat} {x_a : List Nat} {s_a : Bool} {A_ad : Option Addr} {n_ad c_ad : Nat} {x_ad : List Nat} (h_a : Rd w Bd A_a n_a c_a x_a) (_g_a : n_a ≤ 1000000000) (h_ad : Rd w Bd A_ad n_ad c_ad x_ad) (_g_ad : n_ad ≤ 1000000000) (hB : Bd ≤ w.heap.size) {q : Rat} (h0 : val x_ad = 0) (hq : (0 : Rat) = q) :
    Calls Try.prog 64 #[.agg #[.bool s_a, .slice A_a n_a c_a, .slice A_ad n_ad c_ad]] w (RetParts w q) := by
  have hbl : bl (val x_ad) = 0 := by rw [h0, bl_zero]
  replace hbl := hide hbl
  clear h0
  replace hq := hide hq
  obtain ⟨W, hW⟩ : ∃ W, W = ((w.alloc (.cells #[.bool s_a, .slice A_a n_a c_a, .slice A_ad n_ad c_ad] 27)).alloc (.cells #[.bool false, .slice none 0 0] 25)) := ⟨_, rfl⟩
  have b_a : Box3 W (w.heap.size) (.bool s_a) (.slice A_a n_a c_a) (.slice A_ad n_ad c_ad) := by rw [hW]; exact ((Box3.new w _ _ _ rfl).al _)
  have b_r0 : Box W (w.heap.size + 1) (.bool false) (.slice none 0 0) := by rw [hW]; exact (Box.new _ _ _ (by simp))
  have hwW : Below w.heap.size w W := by rw [hW]; exact (((Below.refl _ _).alloc (Nat.le_refl _) _).alloc (by simp) _)
  have R_a := hide (Rd.upto h_a hwW hB)
  clear h_a
  have R_ad := hide (Rd.upto h_ad hwW hB)
  clear h_ad
  have B := hide hwW
  clear hwW
  clear hB
  have U0 : Below W.heap.size W W := Below.refl _ _
  have c_a0 := b_a.at0 b_a.lt_size (Nat.le_refl _)
  have c_a1 := b_a.at1 b_a.lt_size (Nat.le_refl _)
  have c_a2 := b_a.at2 b_a.lt_size (Nat.le_refl _)
  replace b_a := hide b_a
  have c_r00 := b_r0.at0 b_r0.lt_size (Nat.le_refl _)
  have c_r01 := b_r0.at1 b_r0.lt_size (Nat.le_refl _)
  have f_r00 := b_r0.free0 b_r0.lt_size (Nat.le_refl _)
  have f_r01 := b_r0.free1 b_r0.lt_size (Nat.le_refl _)
  have l_r0 := b_r0.lt b_r0.lt_size (Nat.le_refl _)
  replace b_r0 := hide b_r0
  go_enter Try.func64, Try.ntmps64
  go_wp2_with fail
  rw [← hW]
  clear hW
  refine (bits_any _ _ _ _ _ _ R_ad.out).mono ?_
  rw [hbl.out]
  rintro e w' ⟨rfl, rfl⟩
  go_wp2_with fail
  refine (of_any _ 1 (by omega)).mono ?_
  rintro e w1 ⟨A_d, c_d, rfl, R_d, hb⟩
  replace R_a := hide (Rd.then_ R_a.out hb)
  replace R_ad := hide (Rd.then_ R_ad.out hb)
  have U1 : Below W.heap.size W w1 := Below.then_ U0 hb
  replace B := hide (Below.then_ B.out hb)
  replace R_d := hide R_d
  clear hb
  go_wp2
  exact bodyPost_ret (v := .tuple #[.agg #[.bool false, .slice none 0 0], .slice A_d (dig 1).length c_d]) (by simp [results, Try.results64, go_sem, c_r00 _ U1, c_r01 _ U1]) rfl ⟨false, none, 0, 0, [], A_d, _, c_d, _, rfl, Rd.empty _ _ _ (by omega), by simpa using (R_d.out.far (c_r00 _ U1) (fun x h => by cases h)).far ((World.cell?_setCell_other _ _ _ _ (by simp)).trans (c_r01 _ U1)) (fun x h => by cases h), by omega, by rw [dig_one]; exact (by omega : 1 ≤ 1000000000), by rw [val_dig]; omega, by rw [val_nil, val_dig]; exact hq.out, (B.out.setCell (by simp) _).setCell (by simp) _⟩

set_option maxHeartbeats 4000000 in
theorem parts_1 {w : World} {Bd : Nat} {A_a : Option Addr} {n_a c_a : Nat} {x_a : List Nat} {s_a : Bool} {A_ad : Option Addr} {n_ad c_ad : Nat} {x_ad : List Nat} (h_a : Rd w Bd A_a n_a c_a x_a) (g_a : n_a ≤ 1000000000) (h_ad : Rd w Bd A_ad n_ad c_ad x_ad) (g_ad : n_ad ≤ 1000000000) (hB : Bd ≤ w.heap.size) {q : Rat} (h0 : val x_ad ≠ 0) (hq : qv s_a (val x_a) (val x_ad) = q) :
    Calls Try.prog 64 #[.agg #[.bool s_a, .slice A_a n_a c_a, .slice A_ad n_ad c_ad]] w (RetParts w q) := by
  have hbl := ofne h0
  replace h0 := hide h0
  replace hq := hide hq
  obtain ⟨W, hW⟩ : ∃ W, W = ((w.alloc (.cells #[.bool s_a, .slice A_a n_a c_a, .slice A_ad n_ad c_ad] 27)).alloc (.cells #[.bool false, .slice none 0 0] 25)) := ⟨_, rfl⟩
  have b_a : Box3 W (w.heap.size) (.bool s_a) (.slice A_a n_a c_a) (.slice A_ad n_ad c_ad) := by rw [hW]; exact ((Box3.new w _ _ _ rfl).al _)
  have b_r0 : Box W (w.heap.size + 1) (.bool false) (.slice none 0 0) := by rw [hW]; exact (Box.new _ _ _ (by simp))
  have hwW : Below w.heap.size w W := by rw [hW]; exact (((Below.refl _ _).alloc (Nat.le_refl _) _).alloc (by simp) _)
  have R_a := hide (Rd.upto h_a hwW hB)
  clear h_a
  have R_ad := hide (Rd.upto h_ad hwW hB)
  clear h_ad
  have B := hide hwW
  clear hwW
  clear hB
  have U0 : Below W.heap.size W W := Below.refl _ _
  have c_a0 := b_a.at0 b_a.lt_size (Nat.le_refl _)
  have c_a1 := b_a.at1 b_a.lt_size (Nat.le_refl _)
  have c_a2 := b_a.at2 b_a.lt_size (Nat.le_refl _)
  replace b_a := hide b_a
  have c_r00 := b_r0.at0 b_r0.lt_size (Nat.le_refl _)
  have c_r01 := b_r0.at1 b_r0.lt_size (Nat.le_refl _)
  have f_r00 := b_r0.free0 b_r0.lt_size (Nat.le_refl _)
  have f_r01 := b_r0.free1 b_r0.lt_size (Nat.le_refl _)
  have l_r0 := b_r0.lt b_r0.lt_size (Nat.le_refl _)
  replace b_r0 := hide b_r0
  go_enter Try.func64, Try.ntmps64
  go_wp2_with fail
  rw [← hW]
  clear hW
  refine (bits_any _ _ _ _ _ _ R_ad.out).mono ?_
  rintro e w' ⟨rfl, rfl⟩
  go_wp2_with fail
  have k_a0 := b_a.out.but0 (g1 := w.heap.size + 1) (g2 := w.heap.size + 1) (by omega) (by omega)
  have k_a1 := b_a.out.but1 (g1 := w.heap.size + 1) (g2 := w.heap.size + 1) (by omega) (by omega)
  have k_a2 := b_a.out.but2 (g1 := w.heap.size + 1) (g2 := w.heap.size + 1) (by omega) (by omega)
  have hd := Below.drw_ W
  replace R_a := hide (Rd.then_ R_a.out hd)
  replace R_ad := hide (Rd.then_ R_ad.out hd)
  have U1 : Below W.heap.size W (W.drew) := Below.then_ U0 hd
  replace B := hide (Below.then_ B.out hd)
  have K1 : KeptBut (w.heap.size + 1) (w.heap.size + 1) W.heap.size W (W.drew) := KeptBut.below U1
  clear hd
  have tok0 : True := trivial
  go_region_held3 (fun w' => KeptBut (w.heap.size + 1) (w.heap.size + 1) W.heap.size W w') (first | assumption | (with_reducible exact KeptBut.drw _) | ((repeat (first | (with_reducible refine KeptBut.set0 ?_ _) | (with_reducible refine KeptBut.drew_ ?_))); first | assumption | (with_reducible exact KeptBut.refl _ _ _ _)))
    (first
      | fail)
  clear tok0
  clear k_a0 k_a1 k_a2
  go_wp2
  rw [drew_set2]
  exact bodyPost_ret (v := .tuple #[.agg #[.bool s_a, .slice A_a n_a c_a], .slice A_ad n_ad c_ad]) (by simp [results, Try.results64, go_sem, c_r00 _ U0, c_r01 _ U0]) rfl ⟨s_a, A_a, n_a, c_a, x_a, A_ad, n_ad, c_ad, x_ad, rfl, by simpa using (R_a.out.far (c_r00 _ U1) (fun x h => by cases h)).far ((World.cell?_setCell_other _ _ _ _ (by simp)).trans (c_r01 _ U1)) (fun x h => by cases h), by simpa using (R_ad.out.far (c_r00 _ U1) (fun x h => by cases h)).far ((World.cell?_setCell_other _ _ _ _ (by simp)).trans (c_r01 _ U1)) (fun x h => by cases h), g_a, g_ad, h0.out, hq.out, (B.out.setCell (by simp) _).setCell (by simp) _⟩

theorem parts_any {w : World} {Bd : Nat} {A_a : Option Addr} {n_a c_a : Nat} {x_a : List Nat} {s_a : Bool} {A_ad : Option Addr} {n_ad c_ad : Nat} {x_ad : List Nat} (h_a : Rd w Bd A_a n_a c_a x_a) (g_a : n_a ≤ 1000000000) (h_ad : Rd w Bd A_ad n_ad c_ad x_ad) (g_ad : n_ad ≤ 1000000000) (hB : Bd ≤ w.heap.size) {q : Rat} (hq : qv s_a (val x_a) (val x_ad) = q) :
    Calls Try.prog 64 #[.agg #[.bool s_a, .slice A_a n_a c_a, .slice A_ad n_ad c_ad]] w (RetParts w q) := by
  by_cases h0 : val x_ad = 0
  · exact parts_0 h_a g_a h_ad g_ad hB h0 (by rw [← hq, h0, qv_zero])
  · exact parts_1 h_a g_a h_ad g_ad hB h0 hq

end Go.Proofs.Ytieopcchchebgaa
