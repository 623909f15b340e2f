/-
  RRat1, RRat2.
-/
import Derived.Test.YtdihgmbldnekhaaRatB
import Derived.Test.YtdihgmbldnekhaaRefGcd
import Derived.Test.YtdihgmbldnekhaaRInt4
namespace Go.Proofs.Ytdihgmbldnekhaa
section
open Go.RowKit


/-- numerator and denominator where the denominator is not 0; 0/1 where it is -/
def tp (s : Bool) (m d : Nat) : Int := if d = 0 then 0 else iv s m
def lw (d : Nat) : Nat := if d = 0 then 1 else d
theorem tp_0 {s : Bool} {m d : Nat} (h : d = 0) : tp s m d = 0 := if_pos h
theorem tp_1 {s : Bool} {m d : Nat} (h : d ≠ 0) : tp s m d = iv s m := if_neg h
theorem lw_0 {d : Nat} (h : d = 0) : lw d = 1 := if_pos h
theorem lw_1 {d : Nat} (h : d ≠ 0) : lw d = d := if_neg h
theorem lw_ne (d : Nat) : lw d ≠ 0 := by unfold lw; split <;> omega
theorem qv_tp (s : Bool) (m d : Nat) : mkRat (tp s m d) (lw d) = qv s m d := by
  by_cases h : d = 0
  · rw [tp_0 h, lw_0 h, h, qv_zero]; rfl
  · rw [tp_1 h, lw_1 h]; rfl
theorem tp_lt {s : Bool} {m d i : Nat} (h : m < pw i) : zmag (tp s m d) < pw i := by
  by_cases hd : d = 0
  · rw [tp_0 hd]; exact pw_pos i
  · rw [tp_1 hd]; exact zl_iv h
theorem rnorm_nat {w : World} {Bd : Nat} {A : Option Addr} {n c : Nat} {xs : List Nat} (h : Rd w Bd A n c xs) (hB : Bd ≤ w.heap.size) : Calls Try.prog 123 #[.slice A n c] w (RetNat w (val xs)) := (rnorm_any w Bd A n c xs h hB).mono fun _ _ => RetOwn.nat
theorem lw_lt {d i : Nat} (h : d < pw i) : lw d < pw (i + 1) := by
  by_cases hd : d = 0
  · rw [lw_0 hd]; have := pw_pos i; rw [pw_succ]; omega
  · rw [lw_1 hd]; exact lt_up h

set_option maxHeartbeats 4000000 in
theorem rzero_any {w : World}   {q : Rat} (hq : (0 : Rat) = q) :
    Calls Try.prog 120 #[] w (RetRat w q) := by
  replace hq := hide hq
  obtain ⟨W, hW⟩ : ∃ W, W = (w.alloc (.cells #[.bool false, .slice none 0 0, .slice none 0 0] 27)) := ⟨_, rfl⟩
  have b_r0 : Box3 W (w.heap.size) (.bool false) (.slice none 0 0) (.slice none 0 0) := by rw [hW]; exact (Box3.new w _ _ _ rfl)
  have hwW : Below w.heap.size w W := by rw [hW]; exact ((Below.refl _ _).alloc (Nat.le_refl _) _)
  have B := hide hwW
  clear hwW
  have U0 : Below W.heap.size W W := Below.refl _ _
  have c_r00 := b_r0.at0 b_r0.lt_size (Nat.le_refl _)
  have c_r01 := b_r0.at1 b_r0.lt_size (Nat.le_refl _)
  have c_r02 := b_r0.at2 b_r0.lt_size (Nat.le_refl _)
  have f_r00 := b_r0.free0 b_r0.lt_size (Nat.le_refl _)
  have f_r01 := b_r0.free1 b_r0.lt_size (Nat.le_refl _)
  have f_r02 := b_r0.free2 b_r0.lt_size (Nat.le_refl _)
  have l_r0 := b_r0.lt b_r0.lt_size (Nat.le_refl _)
  replace b_r0 := hide b_r0
  go_enter Try.func120, Try.ntmps120
  go_wp2_with fail
  rw [← hW]
  clear hW
  refine (rof_any _ 1 (by omega)).mono ?_
  rintro e w1 ⟨A_d, c_d, rfl, R_d, hb⟩
  have U1 : Below W.heap.size W w1 := Below.then_ U0 hb
  replace B := hide (Below.then_ B.out hb)
  replace R_d := hide R_d
  clear hb
  go_wp2
  exact bodyPost_ret (v := .agg #[.bool false, .slice none 0 0, .slice A_d (dig 1).length c_d]) (by simp [results, Try.results120, go_sem, c_r00 _ U1, c_r01 _ U1, c_r02 _ U1]) rfl (RetRat.zero hq.out B.out (by omega) (c_r00 _ U1) (c_r01 _ U1) (c_r02 _ U1) R_d.out)

set_option maxHeartbeats 4000000 in
theorem top_0 {w : World} {Bd : Nat} {A_a : Option Addr} {n_a c_a : Nat} {x_a : List Nat} {s_a : Bool} {A_ad : Option Addr} {n_ad c_ad : Nat} {x_ad : List Nat} (h_a : Rd w Bd A_a n_a c_a x_a) (_g_a : n_a ≤ 10000000000) (h_ad : Rd w Bd A_ad n_ad c_ad x_ad) (_g_ad : n_ad ≤ 10000000000) (hB : Bd ≤ w.heap.size) {z : Int} (h0 : val x_ad = 0) (hz : 0 = z) :
    Calls Try.prog 100 #[.agg #[.bool s_a, .slice A_a n_a c_a, .slice A_ad n_ad c_ad]] w (RetInt w z) := by
  have hbl : bl (val x_ad) = 0 := by rw [h0, bl_zero]
  replace hbl := hide hbl
  clear h0
  replace hz := hide hz
  obtain ⟨W, hW⟩ : ∃ W, W = ((w.alloc (.cells #[.bool s_a, .slice A_a n_a c_a, .slice A_ad n_ad c_ad] 27)).alloc (.cells #[.bool false, .slice none 0 0] 25)) := ⟨_, rfl⟩
  have b_a : Box3 W (w.heap.size) (.bool s_a) (.slice A_a n_a c_a) (.slice A_ad n_ad c_ad) := by rw [hW]; exact ((Box3.new w _ _ _ rfl).al _)
  have b_r0 : Box W (w.heap.size + 1) (.bool false) (.slice none 0 0) := by rw [hW]; exact (Box.new _ _ _ (by simp))
  have hwW : Below w.heap.size w W := by rw [hW]; exact (((Below.refl _ _).alloc (Nat.le_refl _) _).alloc (by simp) _)
  have R_a := hide (Rd.upto h_a hwW hB)
  clear h_a
  have R_ad := hide (Rd.upto h_ad hwW hB)
  clear h_ad
  have B := hide hwW
  clear hwW
  clear hB
  have U0 : Below W.heap.size W W := Below.refl _ _
  have c_a0 := b_a.at0 b_a.lt_size (Nat.le_refl _)
  have c_a1 := b_a.at1 b_a.lt_size (Nat.le_refl _)
  have c_a2 := b_a.at2 b_a.lt_size (Nat.le_refl _)
  replace b_a := hide b_a
  have c_r00 := b_r0.at0 b_r0.lt_size (Nat.le_refl _)
  have c_r01 := b_r0.at1 b_r0.lt_size (Nat.le_refl _)
  have f_r00 := b_r0.free0 b_r0.lt_size (Nat.le_refl _)
  have f_r01 := b_r0.free1 b_r0.lt_size (Nat.le_refl _)
  have l_r0 := b_r0.lt b_r0.lt_size (Nat.le_refl _)
  replace b_r0 := hide b_r0
  go_enter Try.func100, Try.ntmps100
  go_wp2_with fail
  rw [← hW]
  clear hW
  refine (rbits_any _ _ _ _ _ _ R_ad.out (Nat.le_refl _)).mono ?_
  rw [hbl.out]
  rintro e w1 ⟨rfl, hb⟩
  replace R_a := hide (Rd.then_ R_a.out hb)
  replace R_ad := hide (Rd.then_ R_ad.out hb)
  have U1 : Below W.heap.size W w1 := Below.then_ U0 hb
  replace B := hide (Below.then_ B.out hb)
  clear hb
  go_wp2_with fail
  refine (riof_any _ 0 (by omega) (by omega)).mono ?_
  rw [hz.out]
  rintro e w2 ⟨A_z, c_z, rfl, R_z, hb⟩
  replace R_a := hide (Rd.then_ R_a.out hb)
  replace R_ad := hide (Rd.then_ R_ad.out hb)
  have U2 : Below W.heap.size W w2 := Below.then_ U1 hb
  replace B := hide (Below.then_ B.out hb)
  replace R_z := hide R_z
  clear hb
  go_wp2
  exact bodyPost_ret (v := .agg #[.bool (zneg z), .slice A_z (dig (zmag z)).length c_z]) (by simp [results, Try.results100, go_sem, c_r00 _ U2, c_r01 _ U2]) rfl (RetInt.box B.out (by omega) (c_r00 _ U2) (c_r01 _ U2) R_z.out)

set_option maxHeartbeats 4000000 in
theorem top_1 {w : World} {Bd : Nat} {A_a : Option Addr} {n_a c_a : Nat} {x_a : List Nat} {s_a : Bool} {A_ad : Option Addr} {n_ad c_ad : Nat} {x_ad : List Nat} (h_a : Rd w Bd A_a n_a c_a x_a) (_g_a : n_a ≤ 10000000000) (h_ad : Rd w Bd A_ad n_ad c_ad x_ad) (_g_ad : n_ad ≤ 10000000000) (hB : Bd ≤ w.heap.size) {z : Int} (h0 : val x_ad ≠ 0) (hz : iv s_a (val x_a) = z) :
    Calls Try.prog 100 #[.agg #[.bool s_a, .slice A_a n_a c_a, .slice A_ad n_ad c_ad]] w (RetInt w z) := by
  have hbl := ofne h0
  clear h0
  replace hz := hide hz
  obtain ⟨W, hW⟩ : ∃ W, W = ((w.alloc (.cells #[.bool s_a, .slice A_a n_a c_a, .slice A_ad n_ad c_ad] 27)).alloc (.cells #[.bool false, .slice none 0 0] 25)) := ⟨_, rfl⟩
  have b_a : Box3 W (w.heap.size) (.bool s_a) (.slice A_a n_a c_a) (.slice A_ad n_ad c_ad) := by rw [hW]; exact ((Box3.new w _ _ _ rfl).al _)
  have b_r0 : Box W (w.heap.size + 1) (.bool false) (.slice none 0 0) := by rw [hW]; exact (Box.new _ _ _ (by simp))
  have hwW : Below w.heap.size w W := by rw [hW]; exact (((Below.refl _ _).alloc (Nat.le_refl _) _).alloc (by simp) _)
  have R_a := hide (Rd.upto h_a hwW hB)
  clear h_a
  have R_ad := hide (Rd.upto h_ad hwW hB)
  clear h_ad
  have B := hide hwW
  clear hwW
  clear hB
  have U0 : Below W.heap.size W W := Below.refl _ _
  have c_a0 := b_a.at0 b_a.lt_size (Nat.le_refl _)
  have c_a1 := b_a.at1 b_a.lt_size (Nat.le_refl _)
  have c_a2 := b_a.at2 b_a.lt_size (Nat.le_refl _)
  replace b_a := hide b_a
  have c_r00 := b_r0.at0 b_r0.lt_size (Nat.le_refl _)
  have c_r01 := b_r0.at1 b_r0.lt_size (Nat.le_refl _)
  have f_r00 := b_r0.free0 b_r0.lt_size (Nat.le_refl _)
  have f_r01 := b_r0.free1 b_r0.lt_size (Nat.le_refl _)
  have l_r0 := b_r0.lt b_r0.lt_size (Nat.le_refl _)
  replace b_r0 := hide b_r0
  go_enter Try.func100, Try.ntmps100
  go_wp2_with fail
  rw [← hW]
  clear hW
  refine (rbits_any _ _ _ _ _ _ R_ad.out (Nat.le_refl _)).mono ?_
  rintro e w1 ⟨rfl, hb⟩
  replace R_a := hide (Rd.then_ R_a.out hb)
  replace R_ad := hide (Rd.then_ R_ad.out hb)
  have U1 : Below W.heap.size W w1 := Below.then_ U0 hb
  replace B := hide (Below.then_ B.out hb)
  clear hb
  go_wp2_with fail
  refine (rinorm_any _ _ _ _ _ _ _ R_a.out (Nat.le_refl _)).mono ?_
  rw [hz.out]
  rintro e w2 ⟨A_z, c_z, rfl, R_z, hb⟩
  replace R_a := hide (Rd.then_ R_a.out hb)
  replace R_ad := hide (Rd.then_ R_ad.out hb)
  have U2 : Below W.heap.size W w2 := Below.then_ U1 hb
  replace B := hide (Below.then_ B.out hb)
  replace R_z := hide R_z
  clear hb
  go_wp2
  exact bodyPost_ret (v := .agg #[.bool (zneg z), .slice A_z (dig (zmag z)).length c_z]) (by simp [results, Try.results100, go_sem, c_r00 _ U2, c_r01 _ U2]) rfl (RetInt.box B.out (by omega) (c_r00 _ U2) (c_r01 _ U2) R_z.out)

theorem top_any {w : World} {Bd : Nat} {A_a : Option Addr} {n_a c_a : Nat} {x_a : List Nat} {s_a : Bool} {A_ad : Option Addr} {n_ad c_ad : Nat} {x_ad : List Nat} (h_a : Rd w Bd A_a n_a c_a x_a) (g_a : n_a ≤ 10000000000) (h_ad : Rd w Bd A_ad n_ad c_ad x_ad) (g_ad : n_ad ≤ 10000000000) (hB : Bd ≤ w.heap.size) {z : Int} (hz : tp s_a (val x_a) (val x_ad) = z) :
    Calls Try.prog 100 #[.agg #[.bool s_a, .slice A_a n_a c_a, .slice A_ad n_ad c_ad]] w (RetInt w z) := by
  by_cases h0 : val x_ad = 0
  · exact top_0 h_a g_a h_ad g_ad hB h0 (by rw [← hz, tp_0 h0])
  · exact top_1 h_a g_a h_ad g_ad hB h0 (by rw [← hz, tp_1 h0])

set_option maxHeartbeats 4000000 in
theorem low_0 {w : World} {Bd : Nat} {A_a : Option Addr} {n_a c_a : Nat} {x_a : List Nat} {s_a : Bool} {A_ad : Option Addr} {n_ad c_ad : Nat} {x_ad : List Nat} (h_a : Rd w Bd A_a n_a c_a x_a) (_g_a : n_a ≤ 10000000000) (h_ad : Rd w Bd A_ad n_ad c_ad x_ad) (_g_ad : n_ad ≤ 10000000000) (hB : Bd ≤ w.heap.size) {m : Nat} (h0 : val x_ad = 0) (hm : 1 = m) :
    Calls Try.prog 102 #[.agg #[.bool s_a, .slice A_a n_a c_a, .slice A_ad n_ad c_ad]] w (RetNat w m) := by
  have hbl : bl (val x_ad) = 0 := by rw [h0, bl_zero]
  replace hbl := hide hbl
  clear h0
  replace hm := hide hm
  obtain ⟨W, hW⟩ : ∃ W, W = (w.alloc (.cells #[.bool s_a, .slice A_a n_a c_a, .slice A_ad n_ad c_ad] 27)) := ⟨_, rfl⟩
  have b_a : Box3 W (w.heap.size) (.bool s_a) (.slice A_a n_a c_a) (.slice A_ad n_ad c_ad) := by rw [hW]; exact (Box3.new w _ _ _ rfl)
  have hwW : Below w.heap.size w W := by rw [hW]; exact ((Below.refl _ _).alloc (Nat.le_refl _) _)
  have R_a := hide (Rd.upto h_a hwW hB)
  clear h_a
  have R_ad := hide (Rd.upto h_ad hwW hB)
  clear h_ad
  have B := hide hwW
  clear hwW
  clear hB
  have U0 : Below W.heap.size W W := Below.refl _ _
  have c_a0 := b_a.at0 b_a.lt_size (Nat.le_refl _)
  have c_a1 := b_a.at1 b_a.lt_size (Nat.le_refl _)
  have c_a2 := b_a.at2 b_a.lt_size (Nat.le_refl _)
  replace b_a := hide b_a
  go_enter Try.func102, Try.ntmps102
  go_wp2_with fail
  rw [← hW]
  clear hW
  refine (rbits_any _ _ _ _ _ _ R_ad.out (Nat.le_refl _)).mono ?_
  rw [hbl.out]
  rintro e w1 ⟨rfl, hb⟩
  replace R_a := hide (Rd.then_ R_a.out hb)
  replace R_ad := hide (Rd.then_ R_ad.out hb)
  have U1 : Below W.heap.size W w1 := Below.then_ U0 hb
  replace B := hide (Below.then_ B.out hb)
  clear hb
  go_wp2_with fail
  refine (rof_any _ 1 (by omega)).mono ?_
  rw [hm.out]
  rintro e w2 ⟨A_m, c_m, rfl, R_m, hb⟩
  replace R_a := hide (Rd.then_ R_a.out hb)
  replace R_ad := hide (Rd.then_ R_ad.out hb)
  have U2 : Below W.heap.size W w2 := Below.then_ U1 hb
  replace B := hide (Below.then_ B.out hb)
  replace R_m := hide R_m
  clear hb
  go_wp2
  go_ret
  exact ⟨A_m, c_m, rfl, R_m.out, B.out⟩

set_option maxHeartbeats 4000000 in
theorem low_1 {w : World} {Bd : Nat} {A_a : Option Addr} {n_a c_a : Nat} {x_a : List Nat} {s_a : Bool} {A_ad : Option Addr} {n_ad c_ad : Nat} {x_ad : List Nat} (h_a : Rd w Bd A_a n_a c_a x_a) (_g_a : n_a ≤ 10000000000) (h_ad : Rd w Bd A_ad n_ad c_ad x_ad) (_g_ad : n_ad ≤ 10000000000) (hB : Bd ≤ w.heap.size) {m : Nat} (h0 : val x_ad ≠ 0) (hm : val x_ad = m) :
    Calls Try.prog 102 #[.agg #[.bool s_a, .slice A_a n_a c_a, .slice A_ad n_ad c_ad]] w (RetNat w m) := by
  have hbl := ofne h0
  clear h0
  replace hm := hide hm
  obtain ⟨W, hW⟩ : ∃ W, W = (w.alloc (.cells #[.bool s_a, .slice A_a n_a c_a, .slice A_ad n_ad c_ad] 27)) := ⟨_, rfl⟩
  have b_a : Box3 W (w.heap.size) (.bool s_a) (.slice A_a n_a c_a) (.slice A_ad n_ad c_ad) := by rw [hW]; exact (Box3.new w _ _ _ rfl)
  have hwW : Below w.heap.size w W := by rw [hW]; exact ((Below.refl _ _).alloc (Nat.le_refl _) _)
  have R_a := hide (Rd.upto h_a hwW hB)
  clear h_a
  have R_ad := hide (Rd.upto h_ad hwW hB)
  clear h_ad
  have B := hide hwW
  clear hwW
  clear hB
  have U0 : Below W.heap.size W W := Below.refl _ _
  have c_a0 := b_a.at0 b_a.lt_size (Nat.le_refl _)
  have c_a1 := b_a.at1 b_a.lt_size (Nat.le_refl _)
  have c_a2 := b_a.at2 b_a.lt_size (Nat.le_refl _)
  replace b_a := hide b_a
  go_enter Try.func102, Try.ntmps102
  go_wp2_with fail
  rw [← hW]
  clear hW
  refine (rbits_any _ _ _ _ _ _ R_ad.out (Nat.le_refl _)).mono ?_
  rintro e w1 ⟨rfl, hb⟩
  replace R_a := hide (Rd.then_ R_a.out hb)
  replace R_ad := hide (Rd.then_ R_ad.out hb)
  have U1 : Below W.heap.size W w1 := Below.then_ U0 hb
  replace B := hide (Below.then_ B.out hb)
  clear hb
  go_wp2_with fail
  refine (rnorm_nat R_ad.out (Nat.le_refl _)).mono ?_
  rw [hm.out]
  rintro e w2 ⟨A_m, c_m, rfl, R_m, hb⟩
  replace R_a := hide (Rd.then_ R_a.out hb)
  replace R_ad := hide (Rd.then_ R_ad.out hb)
  have U2 : Below W.heap.size W w2 := Below.then_ U1 hb
  replace B := hide (Below.then_ B.out hb)
  replace R_m := hide R_m
  clear hb
  go_wp2
  go_ret
  exact ⟨A_m, c_m, rfl, R_m.out, B.out⟩

theorem rlow_any {w : World} {Bd : Nat} {A_a : Option Addr} {n_a c_a : Nat} {x_a : List Nat} {s_a : Bool} {A_ad : Option Addr} {n_ad c_ad : Nat} {x_ad : List Nat} (h_a : Rd w Bd A_a n_a c_a x_a) (g_a : n_a ≤ 10000000000) (h_ad : Rd w Bd A_ad n_ad c_ad x_ad) (g_ad : n_ad ≤ 10000000000) (hB : Bd ≤ w.heap.size) {m : Nat} (hm : lw (val x_ad) = m) :
    Calls Try.prog 102 #[.agg #[.bool s_a, .slice A_a n_a c_a, .slice A_ad n_ad c_ad]] w (RetNat w m) := by
  by_cases h0 : val x_ad = 0
  · exact low_0 h_a g_a h_ad g_ad hB h0 (by rw [← hm, lw_0 h0])
  · exact low_1 h_a g_a h_ad g_ad hB h0 (by rw [← hm, lw_1 h0])

set_option maxHeartbeats 4000000 in
theorem reduce_0 {w : World} {Bd : Nat} {A_a : Option Addr} {n_a c_a : Nat} {x_a : List Nat} {s_a : Bool} {A_b : Option Addr} {n_b c_b : Nat} {x_b : List Nat} (h_a : Rd w Bd A_a n_a c_a x_a) (_g_a : n_a ≤ 10000000000) (h_b : Rd w Bd A_b n_b c_b x_b) (_g_b : n_b ≤ 10000000000) (hB : Bd ≤ w.heap.size) {q : Rat} (h0 : val x_a = 0) (hq : (0 : Rat) = q) :
    Calls Try.prog 104 #[.agg #[.bool s_a, .slice A_a n_a c_a], .slice A_b n_b c_b] w (RetRat w q) := by
  have hz : iv s_a (val x_a) = 0 := by rw [h0, iv_zero]
  have hbl : bl (val (dig (zmag 0))) = 0 := by rw [val_dig]; exact bl_zero
  replace hz := hide hz
  replace hbl := hide hbl
  clear h0
  replace hq := hide hq
  obtain ⟨W, hW⟩ : ∃ W, W = ((w.alloc (.cells #[.bool s_a, .slice A_a n_a c_a] 25)).alloc (.cells #[.bool false, .slice none 0 0, .slice none 0 0] 27)) := ⟨_, rfl⟩
  have b_a : Box W (w.heap.size) (.bool s_a) (.slice A_a n_a c_a) := by rw [hW]; exact ((Box.new w _ _ rfl).al _)
  have b_r0 : Box3 W (w.heap.size + 1) (.bool false) (.slice none 0 0) (.slice none 0 0) := by rw [hW]; exact (Box3.new _ _ _ _ (by simp))
  have hwW : Below w.heap.size w W := by rw [hW]; exact (((Below.refl _ _).alloc (Nat.le_refl _) _).alloc (by simp) _)
  have R_a := hide (Rd.upto h_a hwW hB)
  clear h_a
  have R_b := hide (Rd.upto h_b hwW hB)
  clear h_b
  have B := hide hwW
  clear hwW
  clear hB
  have U0 : Below W.heap.size W W := Below.refl _ _
  have c_a0 := b_a.at0 b_a.lt_size (Nat.le_refl _)
  have c_a1 := b_a.at1 b_a.lt_size (Nat.le_refl _)
  replace b_a := hide b_a
  have c_r00 := b_r0.at0 b_r0.lt_size (Nat.le_refl _)
  have c_r01 := b_r0.at1 b_r0.lt_size (Nat.le_refl _)
  have c_r02 := b_r0.at2 b_r0.lt_size (Nat.le_refl _)
  have f_r00 := b_r0.free0 b_r0.lt_size (Nat.le_refl _)
  have f_r01 := b_r0.free1 b_r0.lt_size (Nat.le_refl _)
  have f_r02 := b_r0.free2 b_r0.lt_size (Nat.le_refl _)
  have l_r0 := b_r0.lt b_r0.lt_size (Nat.le_refl _)
  replace b_r0 := hide b_r0
  go_enter Try.func104, Try.ntmps104
  go_wp2_with fail
  rw [← hW]
  clear hW
  refine (rinorm_any _ _ _ _ _ _ _ R_a.out (Nat.le_refl _)).mono ?_
  rw [hz.out]
  rintro e w1 ⟨A_n, c_n, rfl, R_n, hb⟩
  replace R_a := hide (Rd.then_ R_a.out hb)
  replace R_b := hide (Rd.then_ R_b.out hb)
  have U1 : Below W.heap.size W w1 := Below.then_ U0 hb
  replace B := hide (Below.then_ B.out hb)
  replace R_n := hide R_n
  clear hb
  have hbx : Below w1.heap.size w1 (w1.alloc (.cells #[.bool (zneg 0), .slice A_n (dig (zmag 0)).length c_n] 25)) := ((Below.refl _ _).alloc (Nat.le_refl _) _)
  have Ux := Below.then_ U1 hbx
  go_wp2_with fail
  obtain ⟨V1, hV⟩ : ∃ V, V = (w1.alloc (.cells #[.bool (zneg 0), .slice A_n (dig (zmag 0)).length c_n] 25)) := ⟨_, rfl⟩
  obtain ⟨g_n, hg_n⟩ : ∃ g, g = w1.heap.size := ⟨_, rfl⟩
  rw [← hV]
  rw [← hV] at hbx Ux
  rw [← hg_n]
  have b_n : Box V1 g_n (.bool (zneg 0)) (.slice A_n (dig (zmag 0)).length c_n) := by rw [hV]; exact (Box.new _ _ _ hg_n)
  clear hV
  have ne_n_r0 : g_n ≠ w.heap.size + 1 := by have := l_r0 _ U1; omega
  replace ne_n_r0 := hide ne_n_r0
  have ne_a_n : w.heap.size ≠ g_n := by have := (b_a.out.lt b_a.out.lt_size (Nat.le_refl _)) _ U1; omega
  replace ne_a_n := hide ne_a_n
  have ne_r0_n := hide (Ne.symm ne_n_r0.out)
  have ge_n : w.heap.size ≤ g_n := by have := B.out.size; omega
  replace ge_n := hide ge_n
  clear hg_n
  replace R_a := hide (Rd.then_ R_a.out hbx)
  replace R_b := hide (Rd.then_ R_b.out hbx)
  replace R_n := hide (Rd.then_ R_n.out hbx)
  have U2 : Below W.heap.size W V1 := Below.then_ U1 hbx
  replace B := hide (Below.then_ B.out hbx)
  clear hbx
  replace b_a := hide (Box.keep b_a.out U2)
  clear c_a0 c_a1
  replace b_r0 := hide (Box3.keep b_r0.out U2)
  clear c_r00 c_r01 c_r02 f_r00 f_r01 f_r02 l_r0
  replace b_n := hide b_n
  have U3 : Below V1.heap.size V1 V1 := Below.refl _ _
  have c_a0 := b_a.out.at0 b_a.out.lt_size (Nat.le_refl _)
  have c_a1 := b_a.out.at1 b_a.out.lt_size (Nat.le_refl _)
  have c_r00 := b_r0.out.at0 b_r0.out.lt_size (Nat.le_refl _)
  have c_r01 := b_r0.out.at1 b_r0.out.lt_size (Nat.le_refl _)
  have c_r02 := b_r0.out.at2 b_r0.out.lt_size (Nat.le_refl _)
  have f_r00 := b_r0.out.free0 b_r0.out.lt_size (Nat.le_refl _)
  have f_r01 := b_r0.out.free1 b_r0.out.lt_size (Nat.le_refl _)
  have f_r02 := b_r0.out.free2 b_r0.out.lt_size (Nat.le_refl _)
  have l_r0 := b_r0.out.lt b_r0.out.lt_size (Nat.le_refl _)
  have c_n0 := b_n.out.at0 b_n.out.lt_size (Nat.le_refl _)
  have c_n1 := b_n.out.at1 b_n.out.lt_size (Nat.le_refl _)
  refine (rbits_any _ _ _ _ _ _ R_n.out (Nat.le_refl _)).mono ?_
  rw [hbl.out]
  rintro e w2 ⟨rfl, hb⟩
  replace R_a := hide (Rd.then_ R_a.out hb)
  replace R_b := hide (Rd.then_ R_b.out hb)
  replace R_n := hide (Rd.then_ R_n.out hb)
  have U4 : Below V1.heap.size V1 w2 := Below.then_ U3 hb
  replace B := hide (Below.then_ B.out hb)
  clear hb
  go_wp2_with fail
  refine (rzero_any hq.out).mono ?_
  rintro e w3 ⟨A_q, c_q, A_qd, c_qd, rfl, R_q, R_qd, hb⟩
  replace R_a := hide (Rd.then_ R_a.out hb)
  replace R_b := hide (Rd.then_ R_b.out hb)
  replace R_n := hide (Rd.then_ R_n.out hb)
  have U5 : Below V1.heap.size V1 w3 := Below.then_ U4 hb
  replace B := hide (Below.then_ B.out hb)
  replace R_q := hide R_q
  replace R_qd := hide R_qd
  clear hb
  go_wp2
  exact bodyPost_ret (v := .agg #[.bool (zneg q.num), .slice A_q (dig (zmag q.num)).length c_q, .slice A_qd (dig q.den).length c_qd]) (by simp [results, Try.results104, go_sem, c_r00 _ U5, c_r01 _ U5, c_r02 _ U5]) rfl (RetRat.box B.out (by omega) (c_r00 _ U5) (c_r01 _ U5) (c_r02 _ U5) R_q.out R_qd.out)

set_option maxHeartbeats 4000000 in
theorem reduce_1 {w : World} {Bd : Nat} {A_a : Option Addr} {n_a c_a : Nat} {x_a : List Nat} {s_a : Bool} {A_b : Option Addr} {n_b c_b : Nat} {x_b : List Nat} (h_a : Rd w Bd A_a n_a c_a x_a) (g_a : n_a ≤ 10000000000) (h_b : Rd w Bd A_b n_b c_b x_b) (g_b : n_b ≤ 10000000000) (hB : Bd ≤ w.heap.size) {q : Rat} (h0 : val x_a ≠ 0) (h1 : val x_b ≠ 0) (hq : qv s_a (val x_a) (val x_b) = q) :
    Calls Try.prog 104 #[.agg #[.bool s_a, .slice A_a n_a c_a], .slice A_b n_b c_b] w (RetRat w q) := by
  have e_num : iv s_a (val x_a / Nat.gcd (val x_a) (val x_b)) = q.num := by rw [← hq, qv_num _ _ h1]
  have e_den : val x_b / Nat.gcd (val x_a) (val x_b) = q.den := by rw [← hq, qv_den _ _ h1]
  have hg0 : Nat.gcd (val x_a) (val x_b) ≠ 0 := fun h => h1 (Nat.eq_zero_of_gcd_eq_zero_right h)
  obtain ⟨g, e_g0⟩ : ∃ g, Nat.gcd (val x_a) (val x_b) = g := ⟨_, rfl⟩
  rw [e_g0] at e_num e_den hg0
  have lz := zl_iv (s := s_a) h_a.lt
  obtain ⟨z, e_z⟩ : ∃ z, iv s_a (val x_a) = z := ⟨_, rfl⟩
  have hzm : zmag z = val x_a := by rw [← e_z, zmag_iv]
  have hzs : zneg z = s_a := by rw [← e_z, zneg_iv s_a h0]
  rw [e_z] at lz
  have e_g : Nat.gcd (val (dig (zmag z))) (val x_b) = g := by rw [val_dig, hzm]; exact e_g0
  obtain ⟨m, e_m⟩ : ∃ m, val (dig (zmag z)) / val (dig g) = m := ⟨_, rfl⟩
  have e_n : iv (zneg z) (val (dig m)) = q.num := by rw [hzs, val_dig, ← e_m, val_dig, val_dig, hzm]; exact e_num
  have e_d : val x_b / val (dig g) = q.den := by rw [val_dig]; exact e_den
  have hg1 : val (dig g) ≠ 0 := by rw [val_dig]; exact hg0
  have hbl : (((bl (val (dig (zmag z))) : Nat) : Int) == 0) = false := ofne (by rw [val_dig, hzm]; exact h0)
  have gz : (dig (zmag z)).length ≤ 35184372088000 := by have := zl lz; omega
  clear e_num e_den hg0 h0 hq h1 e_g0 hzm hzs lz
  replace e_g := hide e_g
  replace e_m := hide e_m
  replace e_n := hide e_n
  replace e_d := hide e_d
  replace hg1 := hide hg1
  replace e_z := hide e_z
  replace gz := hide gz
  have g2 : n_b ≤ 35184372088000 := by omega
  replace g2 := hide g2
  obtain ⟨W, hW⟩ : ∃ W, W = ((w.alloc (.cells #[.bool s_a, .slice A_a n_a c_a] 25)).alloc (.cells #[.bool false, .slice none 0 0, .slice none 0 0] 27)) := ⟨_, rfl⟩
  have b_a : Box W (w.heap.size) (.bool s_a) (.slice A_a n_a c_a) := by rw [hW]; exact ((Box.new w _ _ rfl).al _)
  have b_r0 : Box3 W (w.heap.size + 1) (.bool false) (.slice none 0 0) (.slice none 0 0) := by rw [hW]; exact (Box3.new _ _ _ _ (by simp))
  have hwW : Below w.heap.size w W := by rw [hW]; exact (((Below.refl _ _).alloc (Nat.le_refl _) _).alloc (by simp) _)
  have R_a := hide (Rd.upto h_a hwW hB)
  clear h_a
  have R_b := hide (Rd.upto h_b hwW hB)
  clear h_b
  have B := hide hwW
  clear hwW
  clear hB
  have U0 : Below W.heap.size W W := Below.refl _ _
  have c_a0 := b_a.at0 b_a.lt_size (Nat.le_refl _)
  have c_a1 := b_a.at1 b_a.lt_size (Nat.le_refl _)
  replace b_a := hide b_a
  have c_r00 := b_r0.at0 b_r0.lt_size (Nat.le_refl _)
  have c_r01 := b_r0.at1 b_r0.lt_size (Nat.le_refl _)
  have c_r02 := b_r0.at2 b_r0.lt_size (Nat.le_refl _)
  have f_r00 := b_r0.free0 b_r0.lt_size (Nat.le_refl _)
  have f_r01 := b_r0.free1 b_r0.lt_size (Nat.le_refl _)
  have f_r02 := b_r0.free2 b_r0.lt_size (Nat.le_refl _)
  have l_r0 := b_r0.lt b_r0.lt_size (Nat.le_refl _)
  replace b_r0 := hide b_r0
  go_enter Try.func104, Try.ntmps104
  go_wp2_with fail
  rw [← hW]
  clear hW
  refine (rinorm_any _ _ _ _ _ _ _ R_a.out (Nat.le_refl _)).mono ?_
  rw [e_z.out]
  rintro e w1 ⟨A_n, c_n, rfl, R_n, hb⟩
  replace R_a := hide (Rd.then_ R_a.out hb)
  replace R_b := hide (Rd.then_ R_b.out hb)
  have U1 : Below W.heap.size W w1 := Below.then_ U0 hb
  replace B := hide (Below.then_ B.out hb)
  replace R_n := hide R_n
  clear hb
  have hbx : Below w1.heap.size w1 (w1.alloc (.cells #[.bool (zneg z), .slice A_n (dig (zmag z)).length c_n] 25)) := ((Below.refl _ _).alloc (Nat.le_refl _) _)
  have Ux := Below.then_ U1 hbx
  go_wp2_with fail
  obtain ⟨V1, hV⟩ : ∃ V, V = (w1.alloc (.cells #[.bool (zneg z), .slice A_n (dig (zmag z)).length c_n] 25)) := ⟨_, rfl⟩
  obtain ⟨g_n, hg_n⟩ : ∃ g, g = w1.heap.size := ⟨_, rfl⟩
  rw [← hV]
  rw [← hV] at hbx Ux
  rw [← hg_n]
  have b_n : Box V1 g_n (.bool (zneg z)) (.slice A_n (dig (zmag z)).length c_n) := by rw [hV]; exact (Box.new _ _ _ hg_n)
  clear hV
  have ne_n_r0 : g_n ≠ w.heap.size + 1 := by have := l_r0 _ U1; omega
  replace ne_n_r0 := hide ne_n_r0
  have ne_a_n : w.heap.size ≠ g_n := by have := (b_a.out.lt b_a.out.lt_size (Nat.le_refl _)) _ U1; omega
  replace ne_a_n := hide ne_a_n
  have ne_r0_n := hide (Ne.symm ne_n_r0.out)
  have ge_n : w.heap.size ≤ g_n := by have := B.out.size; omega
  replace ge_n := hide ge_n
  clear hg_n
  replace R_a := hide (Rd.then_ R_a.out hbx)
  replace R_b := hide (Rd.then_ R_b.out hbx)
  replace R_n := hide (Rd.then_ R_n.out hbx)
  have U2 : Below W.heap.size W V1 := Below.then_ U1 hbx
  replace B := hide (Below.then_ B.out hbx)
  clear hbx
  replace b_a := hide (Box.keep b_a.out U2)
  clear c_a0 c_a1
  replace b_r0 := hide (Box3.keep b_r0.out U2)
  clear c_r00 c_r01 c_r02 f_r00 f_r01 f_r02 l_r0
  replace b_n := hide b_n
  have U3 : Below V1.heap.size V1 V1 := Below.refl _ _
  have c_a0 := b_a.out.at0 b_a.out.lt_size (Nat.le_refl _)
  have c_a1 := b_a.out.at1 b_a.out.lt_size (Nat.le_refl _)
  have c_r00 := b_r0.out.at0 b_r0.out.lt_size (Nat.le_refl _)
  have c_r01 := b_r0.out.at1 b_r0.out.lt_size (Nat.le_refl _)
  have c_r02 := b_r0.out.at2 b_r0.out.lt_size (Nat.le_refl _)
  have f_r00 := b_r0.out.free0 b_r0.out.lt_size (Nat.le_refl _)
  have f_r01 := b_r0.out.free1 b_r0.out.lt_size (Nat.le_refl _)
  have f_r02 := b_r0.out.free2 b_r0.out.lt_size (Nat.le_refl _)
  have l_r0 := b_r0.out.lt b_r0.out.lt_size (Nat.le_refl _)
  have c_n0 := b_n.out.at0 b_n.out.lt_size (Nat.le_refl _)
  have c_n1 := b_n.out.at1 b_n.out.lt_size (Nat.le_refl _)
  refine (rbits_any _ _ _ _ _ _ R_n.out (Nat.le_refl _)).mono ?_
  rintro e w2 ⟨rfl, hb⟩
  replace R_a := hide (Rd.then_ R_a.out hb)
  replace R_b := hide (Rd.then_ R_b.out hb)
  replace R_n := hide (Rd.then_ R_n.out hb)
  have U4 : Below V1.heap.size V1 w2 := Below.then_ U3 hb
  replace B := hide (Below.then_ B.out hb)
  clear hb
  go_wp2_with fail
  refine (rgcd_any _ _ _ _ _ _ _ _ _ _ R_n.out R_b.out (Nat.le_refl _) gz.out g2.out).mono ?_
  rw [e_g.out]
  rintro e w3 ⟨A_g, c_g, rfl, R_g, hb⟩
  replace R_a := hide (Rd.then_ R_a.out hb)
  replace R_b := hide (Rd.then_ R_b.out hb)
  replace R_n := hide (Rd.then_ R_n.out hb)
  have U5 : Below V1.heap.size V1 w3 := Below.then_ U4 hb
  replace B := hide (Below.then_ B.out hb)
  replace R_g := hide R_g
  clear hb
  go_wp2_with fail
  refine (rquo_any R_n.out R_g.out (Nat.le_refl _) gz.out hg1.out e_m.out).mono ?_
  rintro e w4 ⟨A_m, c_m, A_y, c_y, r_y, rfl, R_m, hb⟩
  replace R_a := hide (Rd.then_ R_a.out hb)
  replace R_b := hide (Rd.then_ R_b.out hb)
  replace R_n := hide (Rd.then_ R_n.out hb)
  replace R_g := hide (Rd.then_ R_g.out hb)
  have U6 : Below V1.heap.size V1 w4 := Below.then_ U5 hb
  replace B := hide (Below.then_ B.out hb)
  replace R_m := hide R_m
  clear hb
  go_wp2_with fail
  refine (rquo_any R_b.out R_g.out (Nat.le_refl _) g2.out hg1.out e_d.out).mono ?_
  rintro e w5 ⟨A_d, c_d, A_y2, c_y2, r_y2, rfl, R_d, hb⟩
  replace R_a := hide (Rd.then_ R_a.out hb)
  replace R_b := hide (Rd.then_ R_b.out hb)
  replace R_n := hide (Rd.then_ R_n.out hb)
  replace R_g := hide (Rd.then_ R_g.out hb)
  replace R_m := hide (Rd.then_ R_m.out hb)
  have U7 : Below V1.heap.size V1 w5 := Below.then_ U6 hb
  replace B := hide (Below.then_ B.out hb)
  replace R_d := hide R_d
  clear hb
  go_wp2_with fail
  refine (rimake_any _ _ _ _ _ _ _ R_m.out (Nat.le_refl _)).mono ?_
  rw [e_n.out]
  rintro e w6 ⟨A_q, c_q, rfl, R_q, hb⟩
  replace R_a := hide (Rd.then_ R_a.out hb)
  replace R_b := hide (Rd.then_ R_b.out hb)
  replace R_n := hide (Rd.then_ R_n.out hb)
  replace R_g := hide (Rd.then_ R_g.out hb)
  replace R_m := hide (Rd.then_ R_m.out hb)
  replace R_d := hide (Rd.then_ R_d.out hb)
  have U8 : Below V1.heap.size V1 w6 := Below.then_ U7 hb
  replace B := hide (Below.then_ B.out hb)
  replace R_q := hide R_q
  clear hb
  have R_qd := R_d
  go_wp2
  exact bodyPost_ret (v := .agg #[.bool (zneg q.num), .slice A_q (dig (zmag q.num)).length c_q, .slice A_d (dig q.den).length c_d]) (by simp [results, Try.results104, go_sem, c_r00 _ U8, c_r01 _ U8, c_r02 _ U8]) rfl (RetRat.box B.out (by omega) (c_r00 _ U8) (c_r01 _ U8) (c_r02 _ U8) R_q.out R_qd.out)

theorem reduce_any {w : World} {Bd : Nat} {A_a : Option Addr} {n_a c_a : Nat} {x_a : List Nat} {s_a : Bool} {A_b : Option Addr} {n_b c_b : Nat} {x_b : List Nat} (h_a : Rd w Bd A_a n_a c_a x_a) (g_a : n_a ≤ 10000000000) (h_b : Rd w Bd A_b n_b c_b x_b) (g_b : n_b ≤ 10000000000) (hB : Bd ≤ w.heap.size) {q : Rat} (h1 : val x_b ≠ 0) (hq : qv s_a (val x_a) (val x_b) = q) :
    Calls Try.prog 104 #[.agg #[.bool s_a, .slice A_a n_a c_a], .slice A_b n_b c_b] w (RetRat w q) := by
  by_cases h0 : val x_a = 0
  · exact reduce_0 h_a g_a h_b g_b hB h0 (by rw [← hq, h0, qv, iv_zero, Rat.zero_mkRat])
  · exact reduce_1 h_a g_a h_b g_b hB h0 h1 hq

set_option maxHeartbeats 4000000 in
theorem rmake_0 {w : World} {Bd : Nat} {A_a : Option Addr} {n_a c_a : Nat} {x_a : List Nat} {s_a : Bool} {A_b : Option Addr} {n_b c_b : Nat} {x_b : List Nat} {s_b : Bool} (h_a : Rd w Bd A_a n_a c_a x_a) (_g_a : n_a ≤ 10000000000) (h_b : Rd w Bd A_b n_b c_b x_b) (_g_b : n_b ≤ 10000000000) (hB : Bd ≤ w.heap.size) {q : Rat} (h0 : val x_b = 0) (hq : (0 : Rat) = q) :
    Calls Try.prog 97 #[.agg #[.bool s_a, .slice A_a n_a c_a], .agg #[.bool s_b, .slice A_b n_b c_b]] w (RetRatB w q false) := by
  have hz : iv s_b (val x_b) = 0 := by rw [h0, iv_zero]
  have hbl : bl (val (dig (zmag 0))) = 0 := by rw [val_dig]; exact bl_zero
  replace hz := hide hz
  replace hbl := hide hbl
  clear h0
  replace hq := hide hq
  obtain ⟨W, hW⟩ : ∃ W, W = (((w.alloc (.cells #[.bool s_a, .slice A_a n_a c_a] 25)).alloc (.cells #[.bool s_b, .slice A_b n_b c_b] 25)).alloc (.cells #[.bool false, .slice none 0 0, .slice none 0 0] 27)) := ⟨_, rfl⟩
  have b_a : Box W (w.heap.size) (.bool s_a) (.slice A_a n_a c_a) := by rw [hW]; exact (((Box.new w _ _ rfl).al _).al _)
  have b_b : Box W (w.heap.size + 1) (.bool s_b) (.slice A_b n_b c_b) := by rw [hW]; exact ((Box.new _ _ _ (by simp)).al _)
  have b_r0 : Box3 W (w.heap.size + 1 + 1) (.bool false) (.slice none 0 0) (.slice none 0 0) := by rw [hW]; exact (Box3.new _ _ _ _ (by simp))
  have hwW : Below w.heap.size w W := by rw [hW]; exact ((((Below.refl _ _).alloc (Nat.le_refl _) _).alloc (by simp) _).alloc (by simp; omega) _)
  have R_a := hide (Rd.upto h_a hwW hB)
  clear h_a
  have R_b := hide (Rd.upto h_b hwW hB)
  clear h_b
  have B := hide hwW
  clear hwW
  clear hB
  have U0 : Below W.heap.size W W := Below.refl _ _
  have c_a0 := b_a.at0 b_a.lt_size (Nat.le_refl _)
  have c_a1 := b_a.at1 b_a.lt_size (Nat.le_refl _)
  replace b_a := hide b_a
  have c_b0 := b_b.at0 b_b.lt_size (Nat.le_refl _)
  have c_b1 := b_b.at1 b_b.lt_size (Nat.le_refl _)
  replace b_b := hide b_b
  have c_r00 := b_r0.at0 b_r0.lt_size (Nat.le_refl _)
  have c_r01 := b_r0.at1 b_r0.lt_size (Nat.le_refl _)
  have c_r02 := b_r0.at2 b_r0.lt_size (Nat.le_refl _)
  have f_r00 := b_r0.free0 b_r0.lt_size (Nat.le_refl _)
  have f_r01 := b_r0.free1 b_r0.lt_size (Nat.le_refl _)
  have f_r02 := b_r0.free2 b_r0.lt_size (Nat.le_refl _)
  have l_r0 := b_r0.lt b_r0.lt_size (Nat.le_refl _)
  replace b_r0 := hide b_r0
  go_enter Try.func97, Try.ntmps97
  go_wp2_with fail
  rw [← hW]
  clear hW
  refine (rinorm_any _ _ _ _ _ _ _ R_b.out (Nat.le_refl _)).mono ?_
  rw [hz.out]
  rintro e w1 ⟨A_n, c_n, rfl, R_n, hb⟩
  replace R_a := hide (Rd.then_ R_a.out hb)
  replace R_b := hide (Rd.then_ R_b.out hb)
  have U1 : Below W.heap.size W w1 := Below.then_ U0 hb
  replace B := hide (Below.then_ B.out hb)
  replace R_n := hide R_n
  clear hb
  have hbx : Below w1.heap.size w1 (w1.alloc (.cells #[.bool (zneg 0), .slice A_n (dig (zmag 0)).length c_n] 25)) := ((Below.refl _ _).alloc (Nat.le_refl _) _)
  have Ux := Below.then_ U1 hbx
  go_wp2_with fail
  obtain ⟨V1, hV⟩ : ∃ V, V = (w1.alloc (.cells #[.bool (zneg 0), .slice A_n (dig (zmag 0)).length c_n] 25)) := ⟨_, rfl⟩
  obtain ⟨g_n, hg_n⟩ : ∃ g, g = w1.heap.size := ⟨_, rfl⟩
  rw [← hV]
  rw [← hV] at hbx Ux
  rw [← hg_n]
  have b_n : Box V1 g_n (.bool (zneg 0)) (.slice A_n (dig (zmag 0)).length c_n) := by rw [hV]; exact (Box.new _ _ _ hg_n)
  clear hV
  have ne_n_r0 : g_n ≠ w.heap.size + 1 + 1 := by have := l_r0 _ U1; omega
  replace ne_n_r0 := hide ne_n_r0
  have ne_a_n : w.heap.size ≠ g_n := by have := (b_a.out.lt b_a.out.lt_size (Nat.le_refl _)) _ U1; omega
  replace ne_a_n := hide ne_a_n
  have ne_b_n : w.heap.size + 1 ≠ g_n := by have := (b_b.out.lt b_b.out.lt_size (Nat.le_refl _)) _ U1; omega
  replace ne_b_n := hide ne_b_n
  have ne_r0_n := hide (Ne.symm ne_n_r0.out)
  have ge_n : w.heap.size ≤ g_n := by have := B.out.size; omega
  replace ge_n := hide ge_n
  clear hg_n
  replace R_a := hide (Rd.then_ R_a.out hbx)
  replace R_b := hide (Rd.then_ R_b.out hbx)
  replace R_n := hide (Rd.then_ R_n.out hbx)
  have U2 : Below W.heap.size W V1 := Below.then_ U1 hbx
  replace B := hide (Below.then_ B.out hbx)
  clear hbx
  replace b_a := hide (Box.keep b_a.out U2)
  clear c_a0 c_a1
  replace b_b := hide (Box.keep b_b.out U2)
  clear c_b0 c_b1
  replace b_r0 := hide (Box3.keep b_r0.out U2)
  clear c_r00 c_r01 c_r02 f_r00 f_r01 f_r02 l_r0
  replace b_n := hide b_n
  have U3 : Below V1.heap.size V1 V1 := Below.refl _ _
  have c_a0 := b_a.out.at0 b_a.out.lt_size (Nat.le_refl _)
  have c_a1 := b_a.out.at1 b_a.out.lt_size (Nat.le_refl _)
  have c_b0 := b_b.out.at0 b_b.out.lt_size (Nat.le_refl _)
  have c_b1 := b_b.out.at1 b_b.out.lt_size (Nat.le_refl _)
  have c_r00 := b_r0.out.at0 b_r0.out.lt_size (Nat.le_refl _)
  have c_r01 := b_r0.out.at1 b_r0.out.lt_size (Nat.le_refl _)
  have c_r02 := b_r0.out.at2 b_r0.out.lt_size (Nat.le_refl _)
  have f_r00 := b_r0.out.free0 b_r0.out.lt_size (Nat.le_refl _)
  have f_r01 := b_r0.out.free1 b_r0.out.lt_size (Nat.le_refl _)
  have f_r02 := b_r0.out.free2 b_r0.out.lt_size (Nat.le_refl _)
  have l_r0 := b_r0.out.lt b_r0.out.lt_size (Nat.le_refl _)
  have c_n0 := b_n.out.at0 b_n.out.lt_size (Nat.le_refl _)
  have c_n1 := b_n.out.at1 b_n.out.lt_size (Nat.le_refl _)
  refine (rbits_any _ _ _ _ _ _ R_n.out (Nat.le_refl _)).mono ?_
  rw [hbl.out]
  rintro e w2 ⟨rfl, hb⟩
  replace R_a := hide (Rd.then_ R_a.out hb)
  replace R_b := hide (Rd.then_ R_b.out hb)
  replace R_n := hide (Rd.then_ R_n.out hb)
  have U4 : Below V1.heap.size V1 w2 := Below.then_ U3 hb
  replace B := hide (Below.then_ B.out hb)
  clear hb
  go_wp2_with fail
  refine (rzero_any hq.out).mono ?_
  rintro e w3 ⟨A_q, c_q, A_qd, c_qd, rfl, R_q, R_qd, hb⟩
  replace R_a := hide (Rd.then_ R_a.out hb)
  replace R_b := hide (Rd.then_ R_b.out hb)
  replace R_n := hide (Rd.then_ R_n.out hb)
  have U5 : Below V1.heap.size V1 w3 := Below.then_ U4 hb
  replace B := hide (Below.then_ B.out hb)
  replace R_q := hide R_q
  replace R_qd := hide R_qd
  clear hb
  go_wp2
  exact bodyPost_ret (v := .tuple #[.agg #[.bool (zneg q.num), .slice A_q (dig (zmag q.num)).length c_q, .slice A_qd (dig q.den).length c_qd], .bool false]) (by simp [results, Try.results97, go_sem, c_r00 _ U5, c_r01 _ U5, c_r02 _ U5]) rfl (RetRatB.box B.out (by omega) (c_r00 _ U5) (c_r01 _ U5) (c_r02 _ U5) R_q.out R_qd.out)

set_option maxHeartbeats 4000000 in
theorem rmake_neg {w : World} {Bd : Nat} {A_a : Option Addr} {n_a c_a : Nat} {x_a : List Nat} {s_a : Bool} {A_b : Option Addr} {n_b c_b : Nat} {x_b : List Nat} {s_b : Bool} (h_a : Rd w Bd A_a n_a c_a x_a) (g_a : n_a ≤ 10000000000) (h_b : Rd w Bd A_b n_b c_b x_b) (g_b : n_b ≤ 10000000000) (hB : Bd ≤ w.heap.size) {q : Rat} (h0 : val x_b ≠ 0) (hs : s_b = true) (hq : qv (!(s_a == s_b)) (val x_a) (val x_b) = q) :
    Calls Try.prog 97 #[.agg #[.bool s_a, .slice A_a n_a c_a], .agg #[.bool s_b, .slice A_b n_b c_b]] w (RetRatB w q true) := by
  obtain ⟨d, e_d⟩ : ∃ v, iv s_b (val x_b) = v := ⟨_, rfl⟩
  replace e_d := hide e_d
  obtain ⟨z, e_z⟩ : ∃ v, iv s_a (val x_a) = v := ⟨_, rfl⟩
  replace e_z := hide e_z
  have hdm : zmag d = val x_b := by rw [← e_d.out, zmag_iv]
  have hds : zneg d = true := by rw [← e_d.out, zneg_iv s_b h0, hs]
  have hbl : (((bl (val (dig (zmag d))) : Nat) : Int) == 0) = false := ofne (by rw [val_dig, hdm]; exact h0)
  have gz : (dig (zmag z)).length ≤ 10000000000 := by rw [← e_z.out]; exact Nat.le_trans (zl (zl_iv h_a.lt)) g_a
  replace gz := hide gz
  have gd : (dig (zmag d)).length ≤ 10000000000 := by rw [← e_d.out]; exact Nat.le_trans (zl (zl_iv h_b.lt)) g_b
  replace gd := hide gd
  have hd1 : val (dig (zmag d)) ≠ 0 := by rw [val_dig, hdm]; exact h0
  replace hd1 := hide hd1
  obtain ⟨y, e_y⟩ : ∃ v, -iv (zneg z) (val (dig (zmag z))) = v := ⟨_, rfl⟩
  replace e_y := hide e_y
  have gy : (dig (zmag y)).length ≤ 10000000000 := by rw [← e_y.out, ivz, ← e_z.out]; exact Nat.le_trans (zl (zl_neg (zl_iv h_a.lt))) g_a
  replace gy := hide gy
  have e_q : qv (zneg y) (val (dig (zmag y))) (val (dig (zmag d))) = q := by rw [qvz, hdm, ← e_y.out, ivz, ← e_z.out, ← hq, hs, ← iv_not]; cases s_a <;> rfl
  replace e_q := hide e_q
  replace hds := hide hds
  clear h0 hs hq hdm
  obtain ⟨W, hW⟩ : ∃ W, W = (((w.alloc (.cells #[.bool s_a, .slice A_a n_a c_a] 25)).alloc (.cells #[.bool s_b, .slice A_b n_b c_b] 25)).alloc (.cells #[.bool false, .slice none 0 0, .slice none 0 0] 27)) := ⟨_, rfl⟩
  have b_a : Box W (w.heap.size) (.bool s_a) (.slice A_a n_a c_a) := by rw [hW]; exact (((Box.new w _ _ rfl).al _).al _)
  have b_b : Box W (w.heap.size + 1) (.bool s_b) (.slice A_b n_b c_b) := by rw [hW]; exact ((Box.new _ _ _ (by simp)).al _)
  have b_r0 : Box3 W (w.heap.size + 1 + 1) (.bool false) (.slice none 0 0) (.slice none 0 0) := by rw [hW]; exact (Box3.new _ _ _ _ (by simp))
  have hwW : Below w.heap.size w W := by rw [hW]; exact ((((Below.refl _ _).alloc (Nat.le_refl _) _).alloc (by simp) _).alloc (by simp; omega) _)
  have R_a := hide (Rd.upto h_a hwW hB)
  clear h_a
  have R_b := hide (Rd.upto h_b hwW hB)
  clear h_b
  have B := hide hwW
  clear hwW
  clear hB
  have U0 : Below W.heap.size W W := Below.refl _ _
  have c_a0 := b_a.at0 b_a.lt_size (Nat.le_refl _)
  have c_a1 := b_a.at1 b_a.lt_size (Nat.le_refl _)
  replace b_a := hide b_a
  have c_b0 := b_b.at0 b_b.lt_size (Nat.le_refl _)
  have c_b1 := b_b.at1 b_b.lt_size (Nat.le_refl _)
  replace b_b := hide b_b
  have c_r00 := b_r0.at0 b_r0.lt_size (Nat.le_refl _)
  have c_r01 := b_r0.at1 b_r0.lt_size (Nat.le_refl _)
  have c_r02 := b_r0.at2 b_r0.lt_size (Nat.le_refl _)
  have f_r00 := b_r0.free0 b_r0.lt_size (Nat.le_refl _)
  have f_r01 := b_r0.free1 b_r0.lt_size (Nat.le_refl _)
  have f_r02 := b_r0.free2 b_r0.lt_size (Nat.le_refl _)
  have l_r0 := b_r0.lt b_r0.lt_size (Nat.le_refl _)
  replace b_r0 := hide b_r0
  go_enter Try.func97, Try.ntmps97
  go_wp2_with fail
  rw [← hW]
  clear hW
  refine (rinorm_any _ _ _ _ _ _ _ R_b.out (Nat.le_refl _)).mono ?_
  rw [e_d.out]
  rintro e w1 ⟨A_d, c_d, rfl, R_d, hb⟩
  replace R_a := hide (Rd.then_ R_a.out hb)
  replace R_b := hide (Rd.then_ R_b.out hb)
  have U1 : Below W.heap.size W w1 := Below.then_ U0 hb
  replace B := hide (Below.then_ B.out hb)
  replace R_d := hide R_d
  clear hb
  have hbx : Below w1.heap.size w1 (w1.alloc (.cells #[.bool (zneg d), .slice A_d (dig (zmag d)).length c_d] 25)) := ((Below.refl _ _).alloc (Nat.le_refl _) _)
  have Ux := Below.then_ U1 hbx
  go_wp2_with fail
  obtain ⟨V1, hV⟩ : ∃ V, V = (w1.alloc (.cells #[.bool (zneg d), .slice A_d (dig (zmag d)).length c_d] 25)) := ⟨_, rfl⟩
  obtain ⟨g_d, hg_d⟩ : ∃ g, g = w1.heap.size := ⟨_, rfl⟩
  rw [← hV]
  rw [← hV] at hbx Ux
  rw [← hg_d]
  have b_d : Box V1 g_d (.bool (zneg d)) (.slice A_d (dig (zmag d)).length c_d) := by rw [hV]; exact (Box.new _ _ _ hg_d)
  clear hV
  have ne_d_r0 : g_d ≠ w.heap.size + 1 + 1 := by have := l_r0 _ U1; omega
  replace ne_d_r0 := hide ne_d_r0
  have ne_a_d : w.heap.size ≠ g_d := by have := (b_a.out.lt b_a.out.lt_size (Nat.le_refl _)) _ U1; omega
  replace ne_a_d := hide ne_a_d
  have ne_b_d : w.heap.size + 1 ≠ g_d := by have := (b_b.out.lt b_b.out.lt_size (Nat.le_refl _)) _ U1; omega
  replace ne_b_d := hide ne_b_d
  have ne_r0_d := hide (Ne.symm ne_d_r0.out)
  have ge_d : w.heap.size ≤ g_d := by have := B.out.size; omega
  replace ge_d := hide ge_d
  clear hg_d
  replace R_a := hide (Rd.then_ R_a.out hbx)
  replace R_b := hide (Rd.then_ R_b.out hbx)
  replace R_d := hide (Rd.then_ R_d.out hbx)
  have U2 : Below W.heap.size W V1 := Below.then_ U1 hbx
  replace B := hide (Below.then_ B.out hbx)
  clear hbx
  replace b_a := hide (Box.keep b_a.out U2)
  clear c_a0 c_a1
  replace b_b := hide (Box.keep b_b.out U2)
  clear c_b0 c_b1
  replace b_r0 := hide (Box3.keep b_r0.out U2)
  clear c_r00 c_r01 c_r02 f_r00 f_r01 f_r02 l_r0
  replace b_d := hide b_d
  have U3 : Below V1.heap.size V1 V1 := Below.refl _ _
  have c_a0 := b_a.out.at0 b_a.out.lt_size (Nat.le_refl _)
  have c_a1 := b_a.out.at1 b_a.out.lt_size (Nat.le_refl _)
  have c_b0 := b_b.out.at0 b_b.out.lt_size (Nat.le_refl _)
  have c_b1 := b_b.out.at1 b_b.out.lt_size (Nat.le_refl _)
  have c_r00 := b_r0.out.at0 b_r0.out.lt_size (Nat.le_refl _)
  have c_r01 := b_r0.out.at1 b_r0.out.lt_size (Nat.le_refl _)
  have c_r02 := b_r0.out.at2 b_r0.out.lt_size (Nat.le_refl _)
  have f_r00 := b_r0.out.free0 b_r0.out.lt_size (Nat.le_refl _)
  have f_r01 := b_r0.out.free1 b_r0.out.lt_size (Nat.le_refl _)
  have f_r02 := b_r0.out.free2 b_r0.out.lt_size (Nat.le_refl _)
  have l_r0 := b_r0.out.lt b_r0.out.lt_size (Nat.le_refl _)
  have c_d0 := b_d.out.at0 b_d.out.lt_size (Nat.le_refl _)
  have c_d1 := b_d.out.at1 b_d.out.lt_size (Nat.le_refl _)
  rw [hds.out] at c_d0
  refine (rbits_any _ _ _ _ _ _ R_d.out (Nat.le_refl _)).mono ?_
  rintro e w2 ⟨rfl, hb⟩
  replace R_a := hide (Rd.then_ R_a.out hb)
  replace R_b := hide (Rd.then_ R_b.out hb)
  replace R_d := hide (Rd.then_ R_d.out hb)
  have U4 : Below V1.heap.size V1 w2 := Below.then_ U3 hb
  replace B := hide (Below.then_ B.out hb)
  clear hb
  go_wp2_with fail
  refine (rinorm_any _ _ _ _ _ _ _ R_a.out (Nat.le_refl _)).mono ?_
  rw [e_z.out]
  rintro e w3 ⟨A_n, c_n, rfl, R_n, hb⟩
  replace R_a := hide (Rd.then_ R_a.out hb)
  replace R_b := hide (Rd.then_ R_b.out hb)
  replace R_d := hide (Rd.then_ R_d.out hb)
  have U5 : Below V1.heap.size V1 w3 := Below.then_ U4 hb
  replace B := hide (Below.then_ B.out hb)
  replace R_n := hide R_n
  clear hb
  have hbx : Below w3.heap.size w3 (w3.alloc (.cells #[.bool (zneg z), .slice A_n (dig (zmag z)).length c_n] 25)) := ((Below.refl _ _).alloc (Nat.le_refl _) _)
  have Ux := Below.then_ U5 hbx
  go_wp2_with fail
  obtain ⟨V5, hV⟩ : ∃ V, V = (w3.alloc (.cells #[.bool (zneg z), .slice A_n (dig (zmag z)).length c_n] 25)) := ⟨_, rfl⟩
  obtain ⟨g_n, hg_n⟩ : ∃ g, g = w3.heap.size := ⟨_, rfl⟩
  rw [← hV]
  rw [← hV] at hbx Ux
  rw [← hg_n]
  have b_n : Box V5 g_n (.bool (zneg z)) (.slice A_n (dig (zmag z)).length c_n) := by rw [hV]; exact (Box.new _ _ _ hg_n)
  clear hV
  have ne_n_r0 : g_n ≠ w.heap.size + 1 + 1 := by have := l_r0 _ U5; omega
  replace ne_n_r0 := hide ne_n_r0
  have ne_a_n : w.heap.size ≠ g_n := by have := (b_a.out.lt b_a.out.lt_size (Nat.le_refl _)) _ U5; omega
  replace ne_a_n := hide ne_a_n
  have ne_b_n : w.heap.size + 1 ≠ g_n := by have := (b_b.out.lt b_b.out.lt_size (Nat.le_refl _)) _ U5; omega
  replace ne_b_n := hide ne_b_n
  have ne_r0_n := hide (Ne.symm ne_n_r0.out)
  have ne_d_n : g_d ≠ g_n := by have := (b_d.out.lt b_d.out.lt_size (Nat.le_refl _)) _ U5; omega
  replace ne_d_n := hide ne_d_n
  have ge_n : w.heap.size ≤ g_n := by have := B.out.size; omega
  replace ge_n := hide ge_n
  clear hg_n
  replace R_a := hide (Rd.then_ R_a.out hbx)
  replace R_b := hide (Rd.then_ R_b.out hbx)
  replace R_d := hide (Rd.then_ R_d.out hbx)
  replace R_n := hide (Rd.then_ R_n.out hbx)
  have U6 : Below V1.heap.size V1 V5 := Below.then_ U5 hbx
  replace B := hide (Below.then_ B.out hbx)
  clear hbx
  replace b_a := hide (Box.keep b_a.out U6)
  clear c_a0 c_a1
  replace b_b := hide (Box.keep b_b.out U6)
  clear c_b0 c_b1
  replace b_r0 := hide (Box3.keep b_r0.out U6)
  clear c_r00 c_r01 c_r02 f_r00 f_r01 f_r02 l_r0
  replace b_d := hide (Box.keep b_d.out U6)
  clear c_d0 c_d1
  replace b_n := hide b_n
  have U7 : Below V5.heap.size V5 V5 := Below.refl _ _
  have c_a0 := b_a.out.at0 b_a.out.lt_size (Nat.le_refl _)
  have c_a1 := b_a.out.at1 b_a.out.lt_size (Nat.le_refl _)
  have c_b0 := b_b.out.at0 b_b.out.lt_size (Nat.le_refl _)
  have c_b1 := b_b.out.at1 b_b.out.lt_size (Nat.le_refl _)
  have c_r00 := b_r0.out.at0 b_r0.out.lt_size (Nat.le_refl _)
  have c_r01 := b_r0.out.at1 b_r0.out.lt_size (Nat.le_refl _)
  have c_r02 := b_r0.out.at2 b_r0.out.lt_size (Nat.le_refl _)
  have f_r00 := b_r0.out.free0 b_r0.out.lt_size (Nat.le_refl _)
  have f_r01 := b_r0.out.free1 b_r0.out.lt_size (Nat.le_refl _)
  have f_r02 := b_r0.out.free2 b_r0.out.lt_size (Nat.le_refl _)
  have l_r0 := b_r0.out.lt b_r0.out.lt_size (Nat.le_refl _)
  have c_d0 := b_d.out.at0 b_d.out.lt_size (Nat.le_refl _)
  have c_d1 := b_d.out.at1 b_d.out.lt_size (Nat.le_refl _)
  have c_n0 := b_n.out.at0 b_n.out.lt_size (Nat.le_refl _)
  have c_n1 := b_n.out.at1 b_n.out.lt_size (Nat.le_refl _)
  have f_n0 := b_n.out.free0 b_n.out.lt_size (Nat.le_refl _)
  have f_n1 := b_n.out.free1 b_n.out.lt_size (Nat.le_refl _)
  have l_n := b_n.out.lt b_n.out.lt_size (Nat.le_refl _)
  rw [hds.out] at c_d0
  refine (rineg_any _ _ _ _ _ _ _ R_n.out (Nat.le_refl _)).mono ?_
  rw [e_y.out]
  rintro e w4 ⟨A_y, c_y, rfl, R_y, hb⟩
  replace R_a := hide (Rd.then_ R_a.out hb)
  replace R_b := hide (Rd.then_ R_b.out hb)
  replace R_d := hide (Rd.then_ R_d.out hb)
  replace R_n := hide (Rd.then_ R_n.out hb)
  have U8 : Below V5.heap.size V5 w4 := Below.then_ U7 hb
  replace B := hide (Below.then_ B.out hb)
  replace R_y := hide R_y
  clear hb
  have nn_a := ne_a_n.out
  have nn_b := ne_b_n.out
  have nn_r0 := ne_r0_n.out
  have nn_d := ne_d_n.out
  go_wp2_with fail
  clear nn_a
  clear nn_b
  clear nn_r0
  clear nn_d
  obtain ⟨V9, hV⟩ : ∃ V, V = ((w4.setCell ⟨g_n, 0, none⟩ (.bool (zneg y))).setCell ⟨g_n, 1, none⟩ (.slice A_y (dig (zmag y)).length c_y)) := ⟨_, rfl⟩
  rw [← hV]
  have b_a' : Box V9 (w.heap.size) (.bool s_a) (.slice A_a n_a c_a) := by rw [hV]; exact (Box.other (Box.other (Box.keep b_a.out U8) ne_a_n.out _) ne_a_n.out _)
  have b_b' : Box V9 (w.heap.size + 1) (.bool s_b) (.slice A_b n_b c_b) := by rw [hV]; exact (Box.other (Box.other (Box.keep b_b.out U8) ne_b_n.out _) ne_b_n.out _)
  have b_r0' : Box3 V9 (w.heap.size + 1 + 1) (.bool false) (.slice none 0 0) (.slice none 0 0) := by rw [hV]; exact (Box3.other (Box3.other (Box3.keep b_r0.out U8) ne_r0_n.out _) ne_r0_n.out _)
  have b_d' : Box V9 (g_d) (.bool (zneg d)) (.slice A_d (dig (zmag d)).length c_d) := by rw [hV]; exact (Box.other (Box.other (Box.keep b_d.out U8) ne_d_n.out _) ne_d_n.out _)
  have b_n' : Box V9 g_n (.bool (zneg y)) (.slice A_y (dig (zmag y)).length c_y) := by rw [hV]; exact Box.set (Box.keep b_n.out U8) _ _ 
  replace R_a : Hid (Rd V9 V9.heap.size A_a n_a c_a x_a) := hide (by rw [hV]; simpa using far2 (c_n0 _ U8) (c_n1 _ U8) _ _ R_a.out)
  replace R_b : Hid (Rd V9 V9.heap.size A_b n_b c_b x_b) := hide (by rw [hV]; simpa using far2 (c_n0 _ U8) (c_n1 _ U8) _ _ R_b.out)
  replace R_d : Hid (Rd V9 V9.heap.size A_d (dig (zmag d)).length c_d (dig (zmag d))) := hide (by rw [hV]; simpa using far2 (c_n0 _ U8) (c_n1 _ U8) _ _ R_d.out)
  replace R_n : Hid (Rd V9 V9.heap.size A_n (dig (zmag z)).length c_n (dig (zmag z))) := hide (by rw [hV]; simpa using far2 (c_n0 _ U8) (c_n1 _ U8) _ _ R_n.out)
  replace R_y : Hid (Rd V9 V9.heap.size A_y (dig (zmag y)).length c_y (dig (zmag y))) := hide (by rw [hV]; simpa using far2 (c_n0 _ U8) (c_n1 _ U8) _ _ R_y.out)
  replace B : Hid (Below w.heap.size w V9) := hide (by rw [hV]; exact ((B.out.setCell ge_n.out _).setCell ge_n.out _))
  clear hV
  clear c_a0 c_a1
  replace b_a := hide b_a'
  clear b_a'
  clear c_b0 c_b1
  replace b_b := hide b_b'
  clear b_b'
  clear c_r00 c_r01 c_r02 f_r00 f_r01 f_r02 l_r0
  replace b_r0 := hide b_r0'
  clear b_r0'
  clear c_d0 c_d1
  replace b_d := hide b_d'
  clear b_d'
  clear c_n0 c_n1 f_n0 f_n1 l_n
  replace b_n := hide b_n'
  clear b_n'
  have U10 : Below V9.heap.size V9 V9 := Below.refl _ _
  have c_a0 := b_a.out.at0 b_a.out.lt_size (Nat.le_refl _)
  have c_a1 := b_a.out.at1 b_a.out.lt_size (Nat.le_refl _)
  have c_b0 := b_b.out.at0 b_b.out.lt_size (Nat.le_refl _)
  have c_b1 := b_b.out.at1 b_b.out.lt_size (Nat.le_refl _)
  have c_r00 := b_r0.out.at0 b_r0.out.lt_size (Nat.le_refl _)
  have c_r01 := b_r0.out.at1 b_r0.out.lt_size (Nat.le_refl _)
  have c_r02 := b_r0.out.at2 b_r0.out.lt_size (Nat.le_refl _)
  have f_r00 := b_r0.out.free0 b_r0.out.lt_size (Nat.le_refl _)
  have f_r01 := b_r0.out.free1 b_r0.out.lt_size (Nat.le_refl _)
  have f_r02 := b_r0.out.free2 b_r0.out.lt_size (Nat.le_refl _)
  have l_r0 := b_r0.out.lt b_r0.out.lt_size (Nat.le_refl _)
  have c_d0 := b_d.out.at0 b_d.out.lt_size (Nat.le_refl _)
  have c_d1 := b_d.out.at1 b_d.out.lt_size (Nat.le_refl _)
  have c_n0 := b_n.out.at0 b_n.out.lt_size (Nat.le_refl _)
  have c_n1 := b_n.out.at1 b_n.out.lt_size (Nat.le_refl _)
  have f_n0 := b_n.out.free0 b_n.out.lt_size (Nat.le_refl _)
  have f_n1 := b_n.out.free1 b_n.out.lt_size (Nat.le_refl _)
  have l_n := b_n.out.lt b_n.out.lt_size (Nat.le_refl _)
  rw [hds.out] at c_d0
  refine (reduce_any R_y.out gy.out R_d.out gd.out (Nat.le_refl _) hd1.out e_q.out).mono ?_
  rintro e w5 ⟨A_q, c_q, A_qd, c_qd, rfl, R_q, R_qd, hb⟩
  replace R_a := hide (Rd.then_ R_a.out hb)
  replace R_b := hide (Rd.then_ R_b.out hb)
  replace R_d := hide (Rd.then_ R_d.out hb)
  replace R_n := hide (Rd.then_ R_n.out hb)
  replace R_y := hide (Rd.then_ R_y.out hb)
  have U11 : Below V9.heap.size V9 w5 := Below.then_ U10 hb
  replace B := hide (Below.then_ B.out hb)
  replace R_q := hide R_q
  replace R_qd := hide R_qd
  clear hb
  go_wp2
  exact bodyPost_ret (v := .tuple #[.agg #[.bool (zneg q.num), .slice A_q (dig (zmag q.num)).length c_q, .slice A_qd (dig q.den).length c_qd], .bool true]) (by simp [results, Try.results97, go_sem, c_r00 _ U11, c_r01 _ U11, c_r02 _ U11]) rfl (RetRatB.box B.out (by omega) (c_r00 _ U11) (c_r01 _ U11) (c_r02 _ U11) R_q.out R_qd.out)

set_option maxHeartbeats 4000000 in
theorem rmake_pos {w : World} {Bd : Nat} {A_a : Option Addr} {n_a c_a : Nat} {x_a : List Nat} {s_a : Bool} {A_b : Option Addr} {n_b c_b : Nat} {x_b : List Nat} {s_b : Bool} (h_a : Rd w Bd A_a n_a c_a x_a) (g_a : n_a ≤ 10000000000) (h_b : Rd w Bd A_b n_b c_b x_b) (g_b : n_b ≤ 10000000000) (hB : Bd ≤ w.heap.size) {q : Rat} (h0 : val x_b ≠ 0) (hs : s_b = false) (hq : qv (!(s_a == s_b)) (val x_a) (val x_b) = q) :
    Calls Try.prog 97 #[.agg #[.bool s_a, .slice A_a n_a c_a], .agg #[.bool s_b, .slice A_b n_b c_b]] w (RetRatB w q true) := by
  obtain ⟨d, e_d⟩ : ∃ v, iv s_b (val x_b) = v := ⟨_, rfl⟩
  replace e_d := hide e_d
  obtain ⟨z, e_z⟩ : ∃ v, iv s_a (val x_a) = v := ⟨_, rfl⟩
  replace e_z := hide e_z
  have hdm : zmag d = val x_b := by rw [← e_d.out, zmag_iv]
  have hds : zneg d = false := by rw [← e_d.out, zneg_iv s_b h0, hs]
  have hbl : (((bl (val (dig (zmag d))) : Nat) : Int) == 0) = false := ofne (by rw [val_dig, hdm]; exact h0)
  have gz : (dig (zmag z)).length ≤ 10000000000 := by rw [← e_z.out]; exact Nat.le_trans (zl (zl_iv h_a.lt)) g_a
  replace gz := hide gz
  have gd : (dig (zmag d)).length ≤ 10000000000 := by rw [← e_d.out]; exact Nat.le_trans (zl (zl_iv h_b.lt)) g_b
  replace gd := hide gd
  have hd1 : val (dig (zmag d)) ≠ 0 := by rw [val_dig, hdm]; exact h0
  replace hd1 := hide hd1
  have e_q : qv (zneg z) (val (dig (zmag z))) (val (dig (zmag d))) = q := by rw [qvz, hdm, ← e_z.out, ← hq, hs]; cases s_a <;> rfl
  replace e_q := hide e_q
  replace hds := hide hds
  clear h0 hs hq hdm
  obtain ⟨W, hW⟩ : ∃ W, W = (((w.alloc (.cells #[.bool s_a, .slice A_a n_a c_a] 25)).alloc (.cells #[.bool s_b, .slice A_b n_b c_b] 25)).alloc (.cells #[.bool false, .slice none 0 0, .slice none 0 0] 27)) := ⟨_, rfl⟩
  have b_a : Box W (w.heap.size) (.bool s_a) (.slice A_a n_a c_a) := by rw [hW]; exact (((Box.new w _ _ rfl).al _).al _)
  have b_b : Box W (w.heap.size + 1) (.bool s_b) (.slice A_b n_b c_b) := by rw [hW]; exact ((Box.new _ _ _ (by simp)).al _)
  have b_r0 : Box3 W (w.heap.size + 1 + 1) (.bool false) (.slice none 0 0) (.slice none 0 0) := by rw [hW]; exact (Box3.new _ _ _ _ (by simp))
  have hwW : Below w.heap.size w W := by rw [hW]; exact ((((Below.refl _ _).alloc (Nat.le_refl _) _).alloc (by simp) _).alloc (by simp; omega) _)
  have R_a := hide (Rd.upto h_a hwW hB)
  clear h_a
  have R_b := hide (Rd.upto h_b hwW hB)
  clear h_b
  have B := hide hwW
  clear hwW
  clear hB
  have U0 : Below W.heap.size W W := Below.refl _ _
  have c_a0 := b_a.at0 b_a.lt_size (Nat.le_refl _)
  have c_a1 := b_a.at1 b_a.lt_size (Nat.le_refl _)
  replace b_a := hide b_a
  have c_b0 := b_b.at0 b_b.lt_size (Nat.le_refl _)
  have c_b1 := b_b.at1 b_b.lt_size (Nat.le_refl _)
  replace b_b := hide b_b
  have c_r00 := b_r0.at0 b_r0.lt_size (Nat.le_refl _)
  have c_r01 := b_r0.at1 b_r0.lt_size (Nat.le_refl _)
  have c_r02 := b_r0.at2 b_r0.lt_size (Nat.le_refl _)
  have f_r00 := b_r0.free0 b_r0.lt_size (Nat.le_refl _)
  have f_r01 := b_r0.free1 b_r0.lt_size (Nat.le_refl _)
  have f_r02 := b_r0.free2 b_r0.lt_size (Nat.le_refl _)
  have l_r0 := b_r0.lt b_r0.lt_size (Nat.le_refl _)
  replace b_r0 := hide b_r0
  go_enter Try.func97, Try.ntmps97
  go_wp2_with fail
  rw [← hW]
  clear hW
  refine (rinorm_any _ _ _ _ _ _ _ R_b.out (Nat.le_refl _)).mono ?_
  rw [e_d.out]
  rintro e w1 ⟨A_d, c_d, rfl, R_d, hb⟩
  replace R_a := hide (Rd.then_ R_a.out hb)
  replace R_b := hide (Rd.then_ R_b.out hb)
  have U1 : Below W.heap.size W w1 := Below.then_ U0 hb
  replace B := hide (Below.then_ B.out hb)
  replace R_d := hide R_d
  clear hb
  have hbx : Below w1.heap.size w1 (w1.alloc (.cells #[.bool (zneg d), .slice A_d (dig (zmag d)).length c_d] 25)) := ((Below.refl _ _).alloc (Nat.le_refl _) _)
  have Ux := Below.then_ U1 hbx
  go_wp2_with fail
  obtain ⟨V1, hV⟩ : ∃ V, V = (w1.alloc (.cells #[.bool (zneg d), .slice A_d (dig (zmag d)).length c_d] 25)) := ⟨_, rfl⟩
  obtain ⟨g_d, hg_d⟩ : ∃ g, g = w1.heap.size := ⟨_, rfl⟩
  rw [← hV]
  rw [← hV] at hbx Ux
  rw [← hg_d]
  have b_d : Box V1 g_d (.bool (zneg d)) (.slice A_d (dig (zmag d)).length c_d) := by rw [hV]; exact (Box.new _ _ _ hg_d)
  clear hV
  have ne_d_r0 : g_d ≠ w.heap.size + 1 + 1 := by have := l_r0 _ U1; omega
  replace ne_d_r0 := hide ne_d_r0
  have ne_a_d : w.heap.size ≠ g_d := by have := (b_a.out.lt b_a.out.lt_size (Nat.le_refl _)) _ U1; omega
  replace ne_a_d := hide ne_a_d
  have ne_b_d : w.heap.size + 1 ≠ g_d := by have := (b_b.out.lt b_b.out.lt_size (Nat.le_refl _)) _ U1; omega
  replace ne_b_d := hide ne_b_d
  have ne_r0_d := hide (Ne.symm ne_d_r0.out)
  have ge_d : w.heap.size ≤ g_d := by have := B.out.size; omega
  replace ge_d := hide ge_d
  clear hg_d
  replace R_a := hide (Rd.then_ R_a.out hbx)
  replace R_b := hide (Rd.then_ R_b.out hbx)
  replace R_d := hide (Rd.then_ R_d.out hbx)
  have U2 : Below W.heap.size W V1 := Below.then_ U1 hbx
  replace B := hide (Below.then_ B.out hbx)
  clear hbx
  replace b_a := hide (Box.keep b_a.out U2)
  clear c_a0 c_a1
  replace b_b := hide (Box.keep b_b.out U2)
  clear c_b0 c_b1
  replace b_r0 := hide (Box3.keep b_r0.out U2)
  clear c_r00 c_r01 c_r02 f_r00 f_r01 f_r02 l_r0
  replace b_d := hide b_d
  have U3 : Below V1.heap.size V1 V1 := Below.refl _ _
  have c_a0 := b_a.out.at0 b_a.out.lt_size (Nat.le_refl _)
  have c_a1 := b_a.out.at1 b_a.out.lt_size (Nat.le_refl _)
  have c_b0 := b_b.out.at0 b_b.out.lt_size (Nat.le_refl _)
  have c_b1 := b_b.out.at1 b_b.out.lt_size (Nat.le_refl _)
  have c_r00 := b_r0.out.at0 b_r0.out.lt_size (Nat.le_refl _)
  have c_r01 := b_r0.out.at1 b_r0.out.lt_size (Nat.le_refl _)
  have c_r02 := b_r0.out.at2 b_r0.out.lt_size (Nat.le_refl _)
  have f_r00 := b_r0.out.free0 b_r0.out.lt_size (Nat.le_refl _)
  have f_r01 := b_r0.out.free1 b_r0.out.lt_size (Nat.le_refl _)
  have f_r02 := b_r0.out.free2 b_r0.out.lt_size (Nat.le_refl _)
  have l_r0 := b_r0.out.lt b_r0.out.lt_size (Nat.le_refl _)
  have c_d0 := b_d.out.at0 b_d.out.lt_size (Nat.le_refl _)
  have c_d1 := b_d.out.at1 b_d.out.lt_size (Nat.le_refl _)
  rw [hds.out] at c_d0
  refine (rbits_any _ _ _ _ _ _ R_d.out (Nat.le_refl _)).mono ?_
  rintro e w2 ⟨rfl, hb⟩
  replace R_a := hide (Rd.then_ R_a.out hb)
  replace R_b := hide (Rd.then_ R_b.out hb)
  replace R_d := hide (Rd.then_ R_d.out hb)
  have U4 : Below V1.heap.size V1 w2 := Below.then_ U3 hb
  replace B := hide (Below.then_ B.out hb)
  clear hb
  go_wp2_with fail
  refine (rinorm_any _ _ _ _ _ _ _ R_a.out (Nat.le_refl _)).mono ?_
  rw [e_z.out]
  rintro e w3 ⟨A_n, c_n, rfl, R_n, hb⟩
  replace R_a := hide (Rd.then_ R_a.out hb)
  replace R_b := hide (Rd.then_ R_b.out hb)
  replace R_d := hide (Rd.then_ R_d.out hb)
  have U5 : Below V1.heap.size V1 w3 := Below.then_ U4 hb
  replace B := hide (Below.then_ B.out hb)
  replace R_n := hide R_n
  clear hb
  have hbx : Below w3.heap.size w3 (w3.alloc (.cells #[.bool (zneg z), .slice A_n (dig (zmag z)).length c_n] 25)) := ((Below.refl _ _).alloc (Nat.le_refl _) _)
  have Ux := Below.then_ U5 hbx
  go_wp2_with fail
  obtain ⟨V5, hV⟩ : ∃ V, V = (w3.alloc (.cells #[.bool (zneg z), .slice A_n (dig (zmag z)).length c_n] 25)) := ⟨_, rfl⟩
  obtain ⟨g_n, hg_n⟩ : ∃ g, g = w3.heap.size := ⟨_, rfl⟩
  rw [← hV]
  rw [← hV] at hbx Ux
  rw [← hg_n]
  have b_n : Box V5 g_n (.bool (zneg z)) (.slice A_n (dig (zmag z)).length c_n) := by rw [hV]; exact (Box.new _ _ _ hg_n)
  clear hV
  have ne_n_r0 : g_n ≠ w.heap.size + 1 + 1 := by have := l_r0 _ U5; omega
  replace ne_n_r0 := hide ne_n_r0
  have ne_a_n : w.heap.size ≠ g_n := by have := (b_a.out.lt b_a.out.lt_size (Nat.le_refl _)) _ U5; omega
  replace ne_a_n := hide ne_a_n
  have ne_b_n : w.heap.size + 1 ≠ g_n := by have := (b_b.out.lt b_b.out.lt_size (Nat.le_refl _)) _ U5; omega
  replace ne_b_n := hide ne_b_n
  have ne_r0_n := hide (Ne.symm ne_n_r0.out)
  have ne_d_n : g_d ≠ g_n := by have := (b_d.out.lt b_d.out.lt_size (Nat.le_refl _)) _ U5; omega
  replace ne_d_n := hide ne_d_n
  have ge_n : w.heap.size ≤ g_n := by have := B.out.size; omega
  replace ge_n := hide ge_n
  clear hg_n
  replace R_a := hide (Rd.then_ R_a.out hbx)
  replace R_b := hide (Rd.then_ R_b.out hbx)
  replace R_d := hide (Rd.then_ R_d.out hbx)
  replace R_n := hide (Rd.then_ R_n.out hbx)
  have U6 : Below V1.heap.size V1 V5 := Below.then_ U5 hbx
  replace B := hide (Below.then_ B.out hbx)
  clear hbx
  replace b_a := hide (Box.keep b_a.out U6)
  clear c_a0 c_a1
  replace b_b := hide (Box.keep b_b.out U6)
  clear c_b0 c_b1
  replace b_r0 := hide (Box3.keep b_r0.out U6)
  clear c_r00 c_r01 c_r02 f_r00 f_r01 f_r02 l_r0
  replace b_d := hide (Box.keep b_d.out U6)
  clear c_d0 c_d1
  replace b_n := hide b_n
  have U7 : Below V5.heap.size V5 V5 := Below.refl _ _
  have c_a0 := b_a.out.at0 b_a.out.lt_size (Nat.le_refl _)
  have c_a1 := b_a.out.at1 b_a.out.lt_size (Nat.le_refl _)
  have c_b0 := b_b.out.at0 b_b.out.lt_size (Nat.le_refl _)
  have c_b1 := b_b.out.at1 b_b.out.lt_size (Nat.le_refl _)
  have c_r00 := b_r0.out.at0 b_r0.out.lt_size (Nat.le_refl _)
  have c_r01 := b_r0.out.at1 b_r0.out.lt_size (Nat.le_refl _)
  have c_r02 := b_r0.out.at2 b_r0.out.lt_size (Nat.le_refl _)
  have f_r00 := b_r0.out.free0 b_r0.out.lt_size (Nat.le_refl _)
  have f_r01 := b_r0.out.free1 b_r0.out.lt_size (Nat.le_refl _)
  have f_r02 := b_r0.out.free2 b_r0.out.lt_size (Nat.le_refl _)
  have l_r0 := b_r0.out.lt b_r0.out.lt_size (Nat.le_refl _)
  have c_d0 := b_d.out.at0 b_d.out.lt_size (Nat.le_refl _)
  have c_d1 := b_d.out.at1 b_d.out.lt_size (Nat.le_refl _)
  have c_n0 := b_n.out.at0 b_n.out.lt_size (Nat.le_refl _)
  have c_n1 := b_n.out.at1 b_n.out.lt_size (Nat.le_refl _)
  have f_n0 := b_n.out.free0 b_n.out.lt_size (Nat.le_refl _)
  have f_n1 := b_n.out.free1 b_n.out.lt_size (Nat.le_refl _)
  have l_n := b_n.out.lt b_n.out.lt_size (Nat.le_refl _)
  rw [hds.out] at c_d0
  refine (reduce_any R_n.out gz.out R_d.out gd.out (Nat.le_refl _) hd1.out e_q.out).mono ?_
  rintro e w4 ⟨A_q, c_q, A_qd, c_qd, rfl, R_q, R_qd, hb⟩
  replace R_a := hide (Rd.then_ R_a.out hb)
  replace R_b := hide (Rd.then_ R_b.out hb)
  replace R_d := hide (Rd.then_ R_d.out hb)
  replace R_n := hide (Rd.then_ R_n.out hb)
  have U8 : Below V5.heap.size V5 w4 := Below.then_ U7 hb
  replace B := hide (Below.then_ B.out hb)
  replace R_q := hide R_q
  replace R_qd := hide R_qd
  clear hb
  go_wp2
  exact bodyPost_ret (v := .tuple #[.agg #[.bool (zneg q.num), .slice A_q (dig (zmag q.num)).length c_q, .slice A_qd (dig q.den).length c_qd], .bool true]) (by simp [results, Try.results97, go_sem, c_r00 _ U8, c_r01 _ U8, c_r02 _ U8]) rfl (RetRatB.box B.out (by omega) (c_r00 _ U8) (c_r01 _ U8) (c_r02 _ U8) R_q.out R_qd.out)

theorem rmake_any {w : World} {Bd : Nat} {A_a : Option Addr} {n_a c_a : Nat} {x_a : List Nat} {s_a : Bool} {A_b : Option Addr} {n_b c_b : Nat} {x_b : List Nat} {s_b : Bool} (h_a : Rd w Bd A_a n_a c_a x_a) (g_a : n_a ≤ 10000000000) (h_b : Rd w Bd A_b n_b c_b x_b) (g_b : n_b ≤ 10000000000) (hB : Bd ≤ w.heap.size) {q : Rat} {ok : Bool} (hq : Rat.divInt (iv s_a (val x_a)) (iv s_b (val x_b)) = q) (hok : decide (iv s_b (val x_b) ≠ 0) = ok) :
    Calls Try.prog 97 #[.agg #[.bool s_a, .slice A_a n_a c_a], .agg #[.bool s_b, .slice A_b n_b c_b]] w (RetRatB w q ok) := by
  by_cases h0 : val x_b = 0
  · rw [h0, iv_zero] at hq hok
    rw [← hok]
    exact rmake_0 h_a g_a h_b g_b hB h0 (by rw [← hq, Rat.divInt_zero])
  · have h1 : iv s_b (val x_b) ≠ 0 := fun h => h0 (by have := congrArg zmag h; rw [zmag_iv] at this; exact this)
    rw [decide_eq_true h1] at hok
    subst hok
    by_cases hs : s_b = true
    · exact rmake_neg h_a g_a h_b g_b hB h0 hs (by rw [← hq, qv_div])
    · exact rmake_pos h_a g_a h_b g_b hB h0 (by simpa using hs) (by rw [← hq, qv_div])

set_option maxHeartbeats 4000000 in
theorem rof3_any {w : World} {x y : Int}  {q : Rat} {ok : Bool} (hx0 : -9223372036854775808 ≤ x) (hx1 : x ≤ 9223372036854775807) (hy0 : -9223372036854775808 ≤ y) (hy1 : y ≤ 9223372036854775807) (hq : Rat.divInt x y = q) (hok : decide (y ≠ 0) = ok) :
    Calls Try.prog 67 #[.int .i64 x, .int .i64 y] w (RetRatB w q ok) := by
  have e_q : Rat.divInt (iv (zneg x) (val (dig (zmag x)))) (iv (zneg y) (val (dig (zmag y)))) = q := by rw [ivz, ivz]; exact hq
  have e_ok : decide (iv (zneg y) (val (dig (zmag y))) ≠ 0) = ok := by rw [ivz]; exact hok
  have lx : (dig (zmag x)).length ≤ 10000000000 := zl (pw_le (i := 3) (by omega) (by unfold zmag; simp only [pw]; omega))
  have ly : (dig (zmag y)).length ≤ 10000000000 := zl (pw_le (i := 3) (by omega) (by unfold zmag; simp only [pw]; omega))
  clear hq hok
  replace e_q := hide e_q
  replace e_ok := hide e_ok
  replace lx := hide lx
  replace ly := hide ly
  replace hx0 := hide hx0
  replace hx1 := hide hx1
  replace hy0 := hide hy0
  replace hy1 := hide hy1
  obtain ⟨W, hW⟩ : ∃ W, W = (w.alloc (.cells #[.bool false, .slice none 0 0, .slice none 0 0] 27)) := ⟨_, rfl⟩
  have b_r0 : Box3 W (w.heap.size) (.bool false) (.slice none 0 0) (.slice none 0 0) := by rw [hW]; exact (Box3.new w _ _ _ rfl)
  have hwW : Below w.heap.size w W := by rw [hW]; exact ((Below.refl _ _).alloc (Nat.le_refl _) _)
  have B := hide hwW
  clear hwW
  have U0 : Below W.heap.size W W := Below.refl _ _
  have c_r00 := b_r0.at0 b_r0.lt_size (Nat.le_refl _)
  have c_r01 := b_r0.at1 b_r0.lt_size (Nat.le_refl _)
  have c_r02 := b_r0.at2 b_r0.lt_size (Nat.le_refl _)
  have f_r00 := b_r0.free0 b_r0.lt_size (Nat.le_refl _)
  have f_r01 := b_r0.free1 b_r0.lt_size (Nat.le_refl _)
  have f_r02 := b_r0.free2 b_r0.lt_size (Nat.le_refl _)
  have l_r0 := b_r0.lt b_r0.lt_size (Nat.le_refl _)
  replace b_r0 := hide b_r0
  go_enter Try.func67, Try.ntmps67
  go_wp2_with fail
  rw [← hW]
  clear hW
  refine (riof_any _ _ hx0.out hx1.out).mono ?_
  rintro e w1 ⟨A_x, c_x, rfl, R_x, hb⟩
  have U1 : Below W.heap.size W w1 := Below.then_ U0 hb
  replace B := hide (Below.then_ B.out hb)
  replace R_x := hide R_x
  clear hb
  go_wp2_with fail
  refine (riof_any _ _ hy0.out hy1.out).mono ?_
  rintro e w2 ⟨A_y, c_y, rfl, R_y, hb⟩
  replace R_x := hide (Rd.then_ R_x.out hb)
  have U2 : Below W.heap.size W w2 := Below.then_ U1 hb
  replace B := hide (Below.then_ B.out hb)
  replace R_y := hide R_y
  clear hb
  go_wp2_with fail
  refine (rmake_any R_x.out lx.out R_y.out ly.out (Nat.le_refl _) e_q.out e_ok.out).mono ?_
  rintro e w3 ⟨A_q, c_q, A_qd, c_qd, rfl, R_q, R_qd, hb⟩
  replace R_x := hide (Rd.then_ R_x.out hb)
  replace R_y := hide (Rd.then_ R_y.out hb)
  have U3 : Below W.heap.size W w3 := Below.then_ U2 hb
  replace B := hide (Below.then_ B.out hb)
  replace R_q := hide R_q
  replace R_qd := hide R_qd
  clear hb
  go_wp2
  exact bodyPost_ret (v := .tuple #[.agg #[.bool (zneg q.num), .slice A_q (dig (zmag q.num)).length c_q, .slice A_qd (dig q.den).length c_qd], .bool ok]) (by simp [results, Try.results67, go_sem, c_r00 _ U3, c_r01 _ U3, c_r02 _ U3]) rfl (RetRatB.box B.out (by omega) (c_r00 _ U3) (c_r01 _ U3) (c_r02 _ U3) R_q.out R_qd.out)
end

section
open Go.RowKit


set_option maxHeartbeats 4000000 in
theorem rmul3_any {w : World} {Bd : Nat} {A_a : Option Addr} {n_a c_a : Nat} {x_a : List Nat} {s_a : Bool} {A_ad : Option Addr} {n_ad c_ad : Nat} {x_ad : List Nat} {A_b : Option Addr} {n_b c_b : Nat} {x_b : List Nat} {s_b : Bool} {A_bd : Option Addr} {n_bd c_bd : Nat} {x_bd : List Nat} (h_a : Rd w Bd A_a n_a c_a x_a) (g_a : n_a ≤ 2000000000) (h_ad : Rd w Bd A_ad n_ad c_ad x_ad) (g_ad : n_ad ≤ 2000000000) (h_b : Rd w Bd A_b n_b c_b x_b) (g_b : n_b ≤ 2000000000) (h_bd : Rd w Bd A_bd n_bd c_bd x_bd) (g_bd : n_bd ≤ 2000000000) (hB : Bd ≤ w.heap.size) {q : Rat} (hq : qv s_a (val x_a) (val x_ad) * qv s_b (val x_b) (val x_bd) = q) :
    Calls Try.prog 69 #[.agg #[.bool s_a, .slice A_a n_a c_a, .slice A_ad n_ad c_ad], .agg #[.bool s_b, .slice A_b n_b c_b, .slice A_bd n_bd c_bd]] w (RetRat w q) := by
  obtain ⟨z1, e_z1⟩ : ∃ v, tp s_a (val x_a) (val x_ad) = v := ⟨_, rfl⟩
  replace e_z1 := hide e_z1
  obtain ⟨d1, e_d1⟩ : ∃ v, lw (val x_ad) = v := ⟨_, rfl⟩
  replace e_d1 := hide e_d1
  have l_z1 : zmag z1 < pw n_a := by rw [← e_z1.out]; exact tp_lt h_a.lt
  replace l_z1 := hide l_z1
  have l_d1 : d1 < pw (n_ad + 1) := by rw [← e_d1.out]; exact lw_lt h_ad.lt
  replace l_d1 := hide l_d1
  have q_a : mkRat z1 d1 = qv s_a (val x_a) (val x_ad) := by rw [← e_z1.out, ← e_d1.out, qv_tp]
  replace q_a := hide q_a
  have n_d1 : d1 ≠ 0 := by rw [← e_d1.out]; exact lw_ne _
  replace n_d1 := hide n_d1
  obtain ⟨z2, e_z2⟩ : ∃ v, tp s_b (val x_b) (val x_bd) = v := ⟨_, rfl⟩
  replace e_z2 := hide e_z2
  obtain ⟨d2, e_d2⟩ : ∃ v, lw (val x_bd) = v := ⟨_, rfl⟩
  replace e_d2 := hide e_d2
  have l_z2 : zmag z2 < pw n_b := by rw [← e_z2.out]; exact tp_lt h_b.lt
  replace l_z2 := hide l_z2
  have l_d2 : d2 < pw (n_bd + 1) := by rw [← e_d2.out]; exact lw_lt h_bd.lt
  replace l_d2 := hide l_d2
  have q_b : mkRat z2 d2 = qv s_b (val x_b) (val x_bd) := by rw [← e_z2.out, ← e_d2.out, qv_tp]
  replace q_b := hide q_b
  have n_d2 : d2 ≠ 0 := by rw [← e_d2.out]; exact lw_ne _
  replace n_d2 := hide n_d2
  obtain ⟨z3, e_z3⟩ : ∃ v, iv (zneg z1) (val (dig (zmag z1))) * iv (zneg z2) (val (dig (zmag z2))) = v := ⟨_, rfl⟩
  replace e_z3 := hide e_z3
  obtain ⟨d3, e_d3⟩ : ∃ v, val (dig d1) * val (dig d2) = v := ⟨_, rfl⟩
  replace e_d3 := hide e_d3
  have e_q : qv (zneg z3) (val (dig (zmag z3))) (val (dig d3)) = q := by rw [qvz, ← hq, ← q_a.out, ← q_b.out, mk_mul, ← e_z3.out, ← e_d3.out, ivz, ivz, val_dig, val_dig]
  replace e_q := hide e_q
  have gz3 : (dig (zmag z3)).length ≤ 10000000000 := by rw [← e_z3.out, ivz, ivz]; have := zl (zl_mul l_z1.out l_z2.out); omega
  replace gz3 := hide gz3
  have gd3 : (dig d3).length ≤ 10000000000 := by rw [← e_d3.out, val_dig, val_dig]; have := dl (lt_mul l_d1.out l_d2.out); omega
  replace gd3 := hide gd3
  have hd : val (dig d3) ≠ 0 := by rw [val_dig, ← e_d3.out, val_dig, val_dig]; exact Nat.mul_ne_zero n_d1.out n_d2.out
  replace hd := hide hd
  have g1 : (dig (zmag z1)).length + (dig (zmag z2)).length ≤ 70368744177664 := by have := zl l_z1.out; have := zl l_z2.out; omega
  replace g1 := hide g1
  have g2 : (dig d1).length ≤ 2000000001 ∧ (dig d2).length ≤ 2000000001 := by have := dl l_d1.out; have := dl l_d2.out; omega
  replace g2 := hide g2
  clear hq
  obtain ⟨W, hW⟩ : ∃ W, W = (((w.alloc (.cells #[.bool s_a, .slice A_a n_a c_a, .slice A_ad n_ad c_ad] 27)).alloc (.cells #[.bool s_b, .slice A_b n_b c_b, .slice A_bd n_bd c_bd] 27)).alloc (.cells #[.bool false, .slice none 0 0, .slice none 0 0] 27)) := ⟨_, rfl⟩
  have b_a : Box3 W (w.heap.size) (.bool s_a) (.slice A_a n_a c_a) (.slice A_ad n_ad c_ad) := by rw [hW]; exact (((Box3.new w _ _ _ rfl).al _).al _)
  have b_b : Box3 W (w.heap.size + 1) (.bool s_b) (.slice A_b n_b c_b) (.slice A_bd n_bd c_bd) := by rw [hW]; exact ((Box3.new _ _ _ _ (by simp)).al _)
  have b_r0 : Box3 W (w.heap.size + 1 + 1) (.bool false) (.slice none 0 0) (.slice none 0 0) := by rw [hW]; exact (Box3.new _ _ _ _ (by simp))
  have hwW : Below w.heap.size w W := by rw [hW]; exact ((((Below.refl _ _).alloc (Nat.le_refl _) _).alloc (by simp) _).alloc (by simp; omega) _)
  have R_a := hide (Rd.upto h_a hwW hB)
  clear h_a
  have R_ad := hide (Rd.upto h_ad hwW hB)
  clear h_ad
  have R_b := hide (Rd.upto h_b hwW hB)
  clear h_b
  have R_bd := hide (Rd.upto h_bd hwW hB)
  clear h_bd
  have B := hide hwW
  clear hwW
  clear hB
  have U0 : Below W.heap.size W W := Below.refl _ _
  have c_a0 := b_a.at0 b_a.lt_size (Nat.le_refl _)
  have c_a1 := b_a.at1 b_a.lt_size (Nat.le_refl _)
  have c_a2 := b_a.at2 b_a.lt_size (Nat.le_refl _)
  replace b_a := hide b_a
  have c_b0 := b_b.at0 b_b.lt_size (Nat.le_refl _)
  have c_b1 := b_b.at1 b_b.lt_size (Nat.le_refl _)
  have c_b2 := b_b.at2 b_b.lt_size (Nat.le_refl _)
  replace b_b := hide b_b
  have c_r00 := b_r0.at0 b_r0.lt_size (Nat.le_refl _)
  have c_r01 := b_r0.at1 b_r0.lt_size (Nat.le_refl _)
  have c_r02 := b_r0.at2 b_r0.lt_size (Nat.le_refl _)
  have f_r00 := b_r0.free0 b_r0.lt_size (Nat.le_refl _)
  have f_r01 := b_r0.free1 b_r0.lt_size (Nat.le_refl _)
  have f_r02 := b_r0.free2 b_r0.lt_size (Nat.le_refl _)
  have l_r0 := b_r0.lt b_r0.lt_size (Nat.le_refl _)
  replace b_r0 := hide b_r0
  go_enter Try.func69, Try.ntmps69
  go_wp2_with fail
  rw [← hW]
  clear hW
  have k_a0 := b_a.out.but0 (g1 := w.heap.size + 1 + 1) (g2 := w.heap.size + 1 + 1) (by omega) (by omega)
  have k_a1 := b_a.out.but1 (g1 := w.heap.size + 1 + 1) (g2 := w.heap.size + 1 + 1) (by omega) (by omega)
  have k_a2 := b_a.out.but2 (g1 := w.heap.size + 1 + 1) (g2 := w.heap.size + 1 + 1) (by omega) (by omega)
  have k_b0 := b_b.out.but0 (g1 := w.heap.size + 1 + 1) (g2 := w.heap.size + 1 + 1) (by omega) (by omega)
  have k_b1 := b_b.out.but1 (g1 := w.heap.size + 1 + 1) (g2 := w.heap.size + 1 + 1) (by omega) (by omega)
  have k_b2 := b_b.out.but2 (g1 := w.heap.size + 1 + 1) (g2 := w.heap.size + 1 + 1) (by omega) (by omega)
  have hd := Below.drw_ W
  replace R_a := hide (Rd.then_ R_a.out hd)
  replace R_ad := hide (Rd.then_ R_ad.out hd)
  replace R_b := hide (Rd.then_ R_b.out hd)
  replace R_bd := hide (Rd.then_ R_bd.out hd)
  have U1 : Below W.heap.size W (W.drew) := Below.then_ U0 hd
  replace B := hide (Below.then_ B.out hd)
  have K1 : KeptBut (w.heap.size + 1 + 1) (w.heap.size + 1 + 1) W.heap.size W (W.drew) := KeptBut.below U1
  clear hd
  have tok1 : True := trivial
  go_region_held3 (fun w' => KeptBut (w.heap.size + 1 + 1) (w.heap.size + 1 + 1) W.heap.size W w') (first | assumption | (with_reducible exact KeptBut.drw _) | ((repeat (first | (with_reducible refine KeptBut.set0 ?_ _) | (with_reducible refine KeptBut.drew_ ?_))); first | assumption | (with_reducible exact KeptBut.refl _ _ _ _)))
    (first
      | (go_at_call 100; (have _t := tok1; (with_reducible refine (top_any R_a.out (by omega) R_ad.out (by omega) (Nat.le_refl _) e_z1.out).mono ?_); rintro e w1 ⟨A_z1, c_z1, rfl, R_z1, hb⟩; replace R_a := hide (Rd.then_ R_a.out hb); replace R_ad := hide (Rd.then_ R_ad.out hb); replace R_b := hide (Rd.then_ R_b.out hb); replace R_bd := hide (Rd.then_ R_bd.out hb); have U2 : Below W.heap.size W w1 := Below.then_ U1 hb; replace B := hide (Below.then_ B.out hb); have K2 : KeptBut (w.heap.size + 1 + 1) (w.heap.size + 1 + 1) W.heap.size W w1 := KeptBut.below U2; replace R_z1 := hide R_z1; clear hb; have tok2 : True := trivial; clear _t tok1))
      | (go_at_call 100; (have _t := tok2; (with_reducible refine (top_any R_b.out (by omega) R_bd.out (by omega) (Nat.le_refl _) e_z2.out).mono ?_); rintro e w2 ⟨A_z2, c_z2, rfl, R_z2, hb⟩; replace R_a := hide (Rd.then_ R_a.out hb); replace R_ad := hide (Rd.then_ R_ad.out hb); replace R_b := hide (Rd.then_ R_b.out hb); replace R_bd := hide (Rd.then_ R_bd.out hb); replace R_z1 := hide (Rd.then_ R_z1.out hb); have U3 : Below W.heap.size W w2 := Below.then_ U2 hb; replace B := hide (Below.then_ B.out hb); have K3 : KeptBut (w.heap.size + 1 + 1) (w.heap.size + 1 + 1) W.heap.size W w2 := KeptBut.below U3; replace R_z2 := hide R_z2; clear hb; have tok3 : True := trivial; clear _t tok2))
      | (go_at_call 99; (have _t := tok3; (with_reducible refine (rimul_any _ _ _ _ _ _ _ _ _ _ _ _ R_z1.out R_z2.out (Nat.le_refl _) g1.out).mono ?_); rw [e_z3.out]; rintro e w3 ⟨A_z3, c_z3, rfl, R_z3, hb⟩; replace R_a := hide (Rd.then_ R_a.out hb); replace R_ad := hide (Rd.then_ R_ad.out hb); replace R_b := hide (Rd.then_ R_b.out hb); replace R_bd := hide (Rd.then_ R_bd.out hb); replace R_z1 := hide (Rd.then_ R_z1.out hb); replace R_z2 := hide (Rd.then_ R_z2.out hb); have U4 : Below W.heap.size W w3 := Below.then_ U3 hb; replace B := hide (Below.then_ B.out hb); have K4 : KeptBut (w.heap.size + 1 + 1) (w.heap.size + 1 + 1) W.heap.size W w3 := KeptBut.below U4; replace R_z3 := hide R_z3; clear hb; have tok4 : True := trivial; clear _t tok3))
      | (go_at_call 102; (have _t := tok4; (with_reducible refine (rlow_any R_a.out (by omega) R_ad.out (by omega) (Nat.le_refl _) e_d1.out).mono ?_); rintro e w4 ⟨A_d1, c_d1, rfl, R_d1, hb⟩; replace R_a := hide (Rd.then_ R_a.out hb); replace R_ad := hide (Rd.then_ R_ad.out hb); replace R_b := hide (Rd.then_ R_b.out hb); replace R_bd := hide (Rd.then_ R_bd.out hb); replace R_z1 := hide (Rd.then_ R_z1.out hb); replace R_z2 := hide (Rd.then_ R_z2.out hb); replace R_z3 := hide (Rd.then_ R_z3.out hb); have U5 : Below W.heap.size W w4 := Below.then_ U4 hb; replace B := hide (Below.then_ B.out hb); have K5 : KeptBut (w.heap.size + 1 + 1) (w.heap.size + 1 + 1) W.heap.size W w4 := KeptBut.below U5; replace R_d1 := hide R_d1; clear hb; have tok5 : True := trivial; clear _t tok4))
      | (go_at_call 102; (have _t := tok5; (with_reducible refine (rlow_any R_b.out (by omega) R_bd.out (by omega) (Nat.le_refl _) e_d2.out).mono ?_); rintro e w5 ⟨A_d2, c_d2, rfl, R_d2, hb⟩; replace R_a := hide (Rd.then_ R_a.out hb); replace R_ad := hide (Rd.then_ R_ad.out hb); replace R_b := hide (Rd.then_ R_b.out hb); replace R_bd := hide (Rd.then_ R_bd.out hb); replace R_z1 := hide (Rd.then_ R_z1.out hb); replace R_z2 := hide (Rd.then_ R_z2.out hb); replace R_z3 := hide (Rd.then_ R_z3.out hb); replace R_d1 := hide (Rd.then_ R_d1.out hb); have U6 : Below W.heap.size W w5 := Below.then_ U5 hb; replace B := hide (Below.then_ B.out hb); have K6 : KeptBut (w.heap.size + 1 + 1) (w.heap.size + 1 + 1) W.heap.size W w5 := KeptBut.below U6; replace R_d2 := hide R_d2; clear hb; have tok6 : True := trivial; clear _t tok5))
      | (go_at_call 105; (have _t := tok6; (with_reducible refine (rmul_any _ _ _ _ _ _ _ _ _ _ R_d1.out R_d2.out (Nat.le_refl _) (by have := g2.out; omega)).mono ?_); rw [e_d3.out]; rintro e w6 ⟨A_d3, c_d3, rfl, R_d3, hb⟩; replace R_a := hide (Rd.then_ R_a.out hb); replace R_ad := hide (Rd.then_ R_ad.out hb); replace R_b := hide (Rd.then_ R_b.out hb); replace R_bd := hide (Rd.then_ R_bd.out hb); replace R_z1 := hide (Rd.then_ R_z1.out hb); replace R_z2 := hide (Rd.then_ R_z2.out hb); replace R_z3 := hide (Rd.then_ R_z3.out hb); replace R_d1 := hide (Rd.then_ R_d1.out hb); replace R_d2 := hide (Rd.then_ R_d2.out hb); have U7 : Below W.heap.size W w6 := Below.then_ U6 hb; replace B := hide (Below.then_ B.out hb); have K7 : KeptBut (w.heap.size + 1 + 1) (w.heap.size + 1 + 1) W.heap.size W w6 := KeptBut.below U7; replace R_d3 := hide R_d3; clear hb; have tok7 : True := trivial; clear _t tok6))
      | (go_at_call 104; (have _t := tok7; (with_reducible refine (reduce_any R_z3.out gz3.out R_d3.out gd3.out (Nat.le_refl _) hd.out e_q.out).mono ?_); rintro e w7 ⟨A_q, c_q, A_qd, c_qd, rfl, R_q, R_qd, hb⟩; replace R_a := hide (Rd.then_ R_a.out hb); replace R_ad := hide (Rd.then_ R_ad.out hb); replace R_b := hide (Rd.then_ R_b.out hb); replace R_bd := hide (Rd.then_ R_bd.out hb); replace R_z1 := hide (Rd.then_ R_z1.out hb); replace R_z2 := hide (Rd.then_ R_z2.out hb); replace R_z3 := hide (Rd.then_ R_z3.out hb); replace R_d1 := hide (Rd.then_ R_d1.out hb); replace R_d2 := hide (Rd.then_ R_d2.out hb); replace R_d3 := hide (Rd.then_ R_d3.out hb); have U8 : Below W.heap.size W w7 := Below.then_ U7 hb; replace B := hide (Below.then_ B.out hb); have K8 : KeptBut (w.heap.size + 1 + 1) (w.heap.size + 1 + 1) W.heap.size W w7 := KeptBut.below U8; replace R_q := hide R_q; replace R_qd := hide R_qd; clear hb; have tok8 : True := trivial; clear _t tok7)))
  clear tok8
  clear k_a0 k_a1 k_a2
  clear k_b0 k_b1 k_b2
  go_wp2
  exact bodyPost_ret (v := .agg #[.bool (zneg q.num), .slice A_q (dig (zmag q.num)).length c_q, .slice A_qd (dig q.den).length c_qd]) (by simp [results, Try.results69, go_sem, c_r00 _ U8, c_r01 _ U8, c_r02 _ U8]) rfl (RetRat.box B.out (by omega) (c_r00 _ U8) (c_r01 _ U8) (c_r02 _ U8) R_q.out R_qd.out)

end
end Go.Proofs.Ytdihgmbldnekhaa
