/-
  RatioField.
-/
import Derived.Test.YtieopcchchebgaaField3a
import Derived.Test.YtieopcchchebgaaField3b
namespace Go.Proofs.Ytieopcchchebgaa
open Go.RowKit


theorem field_walk {w : World} {Bd : Nat} {A_a : Option Addr} {n_a c_a : Nat} {x_a : List Nat} {s_a : Bool} {A_ad : Option Addr} {n_ad c_ad : Nat} {x_ad : List Nat} {A_b : Option Addr} {n_b c_b : Nat} {x_b : List Nat} {s_b : Bool} {A_bd : Option Addr} {n_bd c_bd : Nat} {x_bd : List Nat} {A_c : Option Addr} {n_c c_c : Nat} {x_c : List Nat} {s_c : Bool} {A_cd : Option Addr} {n_cd c_cd : Nat} {x_cd : List Nat} (h_a : Rd w Bd A_a n_a c_a x_a) (g_a : n_a ≤ 40) (h_ad : Rd w Bd A_ad n_ad c_ad x_ad) (g_ad : n_ad ≤ 40) (h_b : Rd w Bd A_b n_b c_b x_b) (g_b : n_b ≤ 40) (h_bd : Rd w Bd A_bd n_bd c_bd x_bd) (g_bd : n_bd ≤ 40) (h_c : Rd w Bd A_c n_c c_c x_c) (g_c : n_c ≤ 40) (h_cd : Rd w Bd A_cd n_cd c_cd x_cd) (g_cd : n_cd ≤ 40) (hB : Bd ≤ w.heap.size) :
    Calls Try.prog 8 #[.agg #[.bool s_a, .slice A_a n_a c_a, .slice A_ad n_ad c_ad], .agg #[.bool s_b, .slice A_b n_b c_b, .slice A_bd n_bd c_bd], .agg #[.bool s_c, .slice A_c n_c c_c, .slice A_cd n_cd c_cd]] w (RetB w (.bool true)) := by
  by_cases hb0 : qv s_b (val x_b) (val x_bd) = 0
  · exact field_zero h_a g_a h_ad g_ad h_b g_b h_bd g_bd h_c g_c h_cd g_cd hB hb0
  · exact field_ok h_a g_a h_ad g_ad h_b g_b h_bd g_bd h_c g_c h_cd g_cd hB hb0

set_option maxRecDepth 100000 in
set_option maxHeartbeats 4000000 in
theorem field_walk_big0 {w : World} {A_a : Option Addr} {n_a c_a : Nat} {s_a : Bool} {A_ad : Option Addr} {n_ad c_ad : Nat} {A_b : Option Addr} {n_b c_b : Nat} {s_b : Bool} {A_bd : Option Addr} {n_bd c_bd : Nat} {A_c : Option Addr} {n_c c_c : Nat} {s_c : Bool} {A_cd : Option Addr} {n_cd c_cd : Nat}  (g : ¬ (n_a ≤ 40 ∧ n_ad ≤ 40)) :
    Calls Try.prog 8 #[.agg #[.bool s_a, .slice A_a n_a c_a, .slice A_ad n_ad c_ad], .agg #[.bool s_b, .slice A_b n_b c_b, .slice A_bd n_bd c_bd], .agg #[.bool s_c, .slice A_c n_c c_c, .slice A_cd n_cd c_cd]] w (RetB w (.bool true)) := by
  obtain ⟨W, hW⟩ : ∃ W, W = (((w.alloc (.cells #[.bool s_a, .slice A_a n_a c_a, .slice A_ad n_ad c_ad] 27)).alloc (.cells #[.bool s_b, .slice A_b n_b c_b, .slice A_bd n_bd c_bd] 27)).alloc (.cells #[.bool s_c, .slice A_c n_c c_c, .slice A_cd n_cd c_cd] 27)) := ⟨_, rfl⟩
  have b_a : Box3 W (w.heap.size) (.bool s_a) (.slice A_a n_a c_a) (.slice A_ad n_ad c_ad) := by rw [hW]; exact (((Box3.new w _ _ _ rfl).al _).al _)
  have b_b : Box3 W (w.heap.size + 1) (.bool s_b) (.slice A_b n_b c_b) (.slice A_bd n_bd c_bd) := by rw [hW]; exact ((Box3.new _ _ _ _ (by simp)).al _)
  have b_c : Box3 W (w.heap.size + 1 + 1) (.bool s_c) (.slice A_c n_c c_c) (.slice A_cd n_cd c_cd) := by rw [hW]; exact (Box3.new _ _ _ _ (by simp))
  have hwW : Below w.heap.size w W := by rw [hW]; exact ((((Below.refl _ _).alloc (Nat.le_refl _) _).alloc (by simp) _).alloc (by simp; omega) _)
  have B := hide hwW
  clear hwW
  have U0 : Below W.heap.size W W := Below.refl _ _
  have c_a0 := b_a.at0 b_a.lt_size (Nat.le_refl _)
  have c_a1 := b_a.at1 b_a.lt_size (Nat.le_refl _)
  have c_a2 := b_a.at2 b_a.lt_size (Nat.le_refl _)
  replace b_a := hide b_a
  have c_b0 := b_b.at0 b_b.lt_size (Nat.le_refl _)
  have c_b1 := b_b.at1 b_b.lt_size (Nat.le_refl _)
  have c_b2 := b_b.at2 b_b.lt_size (Nat.le_refl _)
  replace b_b := hide b_b
  have c_c0 := b_c.at0 b_c.lt_size (Nat.le_refl _)
  have c_c1 := b_c.at1 b_c.lt_size (Nat.le_refl _)
  have c_c2 := b_c.at2 b_c.lt_size (Nat.le_refl _)
  replace b_c := hide b_c
  go_enter Try.func8, Try.ntmps8
  go_wp2_with fail
  rw [← hW]
  clear hW
  refine (large_yes g).mono ?_
  rintro e w1 ⟨rfl, hb⟩
  have U1 : Below W.heap.size W w1 := Below.then_ U0 hb
  replace B := hide (Below.then_ B.out hb)
  clear hb
  go_wp2
  go_ret
  exact ⟨rfl, B.out⟩

set_option maxRecDepth 100000 in
set_option maxHeartbeats 4000000 in
theorem field_walk_big1 {w : World} {A_a : Option Addr} {n_a c_a : Nat} {s_a : Bool} {A_ad : Option Addr} {n_ad c_ad : Nat} {A_b : Option Addr} {n_b c_b : Nat} {s_b : Bool} {A_bd : Option Addr} {n_bd c_bd : Nat} {A_c : Option Addr} {n_c c_c : Nat} {s_c : Bool} {A_cd : Option Addr} {n_cd c_cd : Nat}  (g_a : n_a ≤ 40) (g_ad : n_ad ≤ 40) (g : ¬ (n_b ≤ 40 ∧ n_bd ≤ 40)) :
    Calls Try.prog 8 #[.agg #[.bool s_a, .slice A_a n_a c_a, .slice A_ad n_ad c_ad], .agg #[.bool s_b, .slice A_b n_b c_b, .slice A_bd n_bd c_bd], .agg #[.bool s_c, .slice A_c n_c c_c, .slice A_cd n_cd c_cd]] w (RetB w (.bool true)) := by
  obtain ⟨W, hW⟩ : ∃ W, W = (((w.alloc (.cells #[.bool s_a, .slice A_a n_a c_a, .slice A_ad n_ad c_ad] 27)).alloc (.cells #[.bool s_b, .slice A_b n_b c_b, .slice A_bd n_bd c_bd] 27)).alloc (.cells #[.bool s_c, .slice A_c n_c c_c, .slice A_cd n_cd c_cd] 27)) := ⟨_, rfl⟩
  have b_a : Box3 W (w.heap.size) (.bool s_a) (.slice A_a n_a c_a) (.slice A_ad n_ad c_ad) := by rw [hW]; exact (((Box3.new w _ _ _ rfl).al _).al _)
  have b_b : Box3 W (w.heap.size + 1) (.bool s_b) (.slice A_b n_b c_b) (.slice A_bd n_bd c_bd) := by rw [hW]; exact ((Box3.new _ _ _ _ (by simp)).al _)
  have b_c : Box3 W (w.heap.size + 1 + 1) (.bool s_c) (.slice A_c n_c c_c) (.slice A_cd n_cd c_cd) := by rw [hW]; exact (Box3.new _ _ _ _ (by simp))
  have hwW : Below w.heap.size w W := by rw [hW]; exact ((((Below.refl _ _).alloc (Nat.le_refl _) _).alloc (by simp) _).alloc (by simp; omega) _)
  have B := hide hwW
  clear hwW
  have U0 : Below W.heap.size W W := Below.refl _ _
  have c_a0 := b_a.at0 b_a.lt_size (Nat.le_refl _)
  have c_a1 := b_a.at1 b_a.lt_size (Nat.le_refl _)
  have c_a2 := b_a.at2 b_a.lt_size (Nat.le_refl _)
  replace b_a := hide b_a
  have c_b0 := b_b.at0 b_b.lt_size (Nat.le_refl _)
  have c_b1 := b_b.at1 b_b.lt_size (Nat.le_refl _)
  have c_b2 := b_b.at2 b_b.lt_size (Nat.le_refl _)
  replace b_b := hide b_b
  have c_c0 := b_c.at0 b_c.lt_size (Nat.le_refl _)
  have c_c1 := b_c.at1 b_c.lt_size (Nat.le_refl _)
  have c_c2 := b_c.at2 b_c.lt_size (Nat.le_refl _)
  replace b_c := hide b_c
  go_enter Try.func8, Try.ntmps8
  go_wp2_with fail
  rw [← hW]
  clear hW
  refine (large_no g_a g_ad).mono ?_
  rintro e w1 ⟨rfl, hb⟩
  have U1 : Below W.heap.size W w1 := Below.then_ U0 hb
  replace B := hide (Below.then_ B.out hb)
  clear hb
  go_wp2_with fail
  refine (large_yes g).mono ?_
  rintro e w2 ⟨rfl, hb⟩
  have U2 : Below W.heap.size W w2 := Below.then_ U1 hb
  replace B := hide (Below.then_ B.out hb)
  clear hb
  go_wp2
  go_ret
  exact ⟨rfl, B.out⟩

set_option maxRecDepth 100000 in
set_option maxHeartbeats 4000000 in
theorem field_walk_big2 {w : World} {A_a : Option Addr} {n_a c_a : Nat} {s_a : Bool} {A_ad : Option Addr} {n_ad c_ad : Nat} {A_b : Option Addr} {n_b c_b : Nat} {s_b : Bool} {A_bd : Option Addr} {n_bd c_bd : Nat} {A_c : Option Addr} {n_c c_c : Nat} {s_c : Bool} {A_cd : Option Addr} {n_cd c_cd : Nat}  (g_a : n_a ≤ 40) (g_ad : n_ad ≤ 40) (g_b : n_b ≤ 40) (g_bd : n_bd ≤ 40) (g : ¬ (n_c ≤ 40 ∧ n_cd ≤ 40)) :
    Calls Try.prog 8 #[.agg #[.bool s_a, .slice A_a n_a c_a, .slice A_ad n_ad c_ad], .agg #[.bool s_b, .slice A_b n_b c_b, .slice A_bd n_bd c_bd], .agg #[.bool s_c, .slice A_c n_c c_c, .slice A_cd n_cd c_cd]] w (RetB w (.bool true)) := by
  obtain ⟨W, hW⟩ : ∃ W, W = (((w.alloc (.cells #[.bool s_a, .slice A_a n_a c_a, .slice A_ad n_ad c_ad] 27)).alloc (.cells #[.bool s_b, .slice A_b n_b c_b, .slice A_bd n_bd c_bd] 27)).alloc (.cells #[.bool s_c, .slice A_c n_c c_c, .slice A_cd n_cd c_cd] 27)) := ⟨_, rfl⟩
  have b_a : Box3 W (w.heap.size) (.bool s_a) (.slice A_a n_a c_a) (.slice A_ad n_ad c_ad) := by rw [hW]; exact (((Box3.new w _ _ _ rfl).al _).al _)
  have b_b : Box3 W (w.heap.size + 1) (.bool s_b) (.slice A_b n_b c_b) (.slice A_bd n_bd c_bd) := by rw [hW]; exact ((Box3.new _ _ _ _ (by simp)).al _)
  have b_c : Box3 W (w.heap.size + 1 + 1) (.bool s_c) (.slice A_c n_c c_c) (.slice A_cd n_cd c_cd) := by rw [hW]; exact (Box3.new _ _ _ _ (by simp))
  have hwW : Below w.heap.size w W := by rw [hW]; exact ((((Below.refl _ _).alloc (Nat.le_refl _) _).alloc (by simp) _).alloc (by simp; omega) _)
  have B := hide hwW
  clear hwW
  have U0 : Below W.heap.size W W := Below.refl _ _
  have c_a0 := b_a.at0 b_a.lt_size (Nat.le_refl _)
  have c_a1 := b_a.at1 b_a.lt_size (Nat.le_refl _)
  have c_a2 := b_a.at2 b_a.lt_size (Nat.le_refl _)
  replace b_a := hide b_a
  have c_b0 := b_b.at0 b_b.lt_size (Nat.le_refl _)
  have c_b1 := b_b.at1 b_b.lt_size (Nat.le_refl _)
  have c_b2 := b_b.at2 b_b.lt_size (Nat.le_refl _)
  replace b_b := hide b_b
  have c_c0 := b_c.at0 b_c.lt_size (Nat.le_refl _)
  have c_c1 := b_c.at1 b_c.lt_size (Nat.le_refl _)
  have c_c2 := b_c.at2 b_c.lt_size (Nat.le_refl _)
  replace b_c := hide b_c
  go_enter Try.func8, Try.ntmps8
  go_wp2_with fail
  rw [← hW]
  clear hW
  refine (large_no g_a g_ad).mono ?_
  rintro e w1 ⟨rfl, hb⟩
  have U1 : Below W.heap.size W w1 := Below.then_ U0 hb
  replace B := hide (Below.then_ B.out hb)
  clear hb
  go_wp2_with fail
  refine (large_no g_b g_bd).mono ?_
  rintro e w2 ⟨rfl, hb⟩
  have U2 : Below W.heap.size W w2 := Below.then_ U1 hb
  replace B := hide (Below.then_ B.out hb)
  clear hb
  go_wp2_with fail
  refine (large_yes g).mono ?_
  rintro e w3 ⟨rfl, hb⟩
  have U3 : Below W.heap.size W w3 := Below.then_ U2 hb
  replace B := hide (Below.then_ B.out hb)
  clear hb
  go_wp2
  go_ret
  exact ⟨rfl, B.out⟩

theorem field_walk_all {w : World} {A_a A_ad : Option Addr} {n_a c_a n_ad c_ad : Nat} {x_a x_ad : List Nat} {s_a : Bool} {A_b A_bd : Option Addr} {n_b c_b n_bd c_bd : Nat} {x_b x_bd : List Nat} {s_b : Bool} {A_c A_cd : Option Addr} {n_c c_c n_cd c_cd : Nat} {x_c x_cd : List Nat} {s_c : Bool} (h_a : n_a ≤ 70368744177664 → Rd w w.heap.size A_a n_a c_a x_a) (h_ad : n_ad ≤ 70368744177664 → Rd w w.heap.size A_ad n_ad c_ad x_ad) (h_b : n_b ≤ 70368744177664 → Rd w w.heap.size A_b n_b c_b x_b) (h_bd : n_bd ≤ 70368744177664 → Rd w w.heap.size A_bd n_bd c_bd x_bd) (h_c : n_c ≤ 70368744177664 → Rd w w.heap.size A_c n_c c_c x_c) (h_cd : n_cd ≤ 70368744177664 → Rd w w.heap.size A_cd n_cd c_cd x_cd) :
    Calls Try.prog 8 #[.agg #[.bool s_a, .slice A_a n_a c_a, .slice A_ad n_ad c_ad], .agg #[.bool s_b, .slice A_b n_b c_b, .slice A_bd n_bd c_bd], .agg #[.bool s_c, .slice A_c n_c c_c, .slice A_cd n_cd c_cd]] w (RetB w (.bool true)) := by
  by_cases g0 : n_a ≤ 40 ∧ n_ad ≤ 40
  case neg => exact field_walk_big0  g0
  by_cases g1 : n_b ≤ 40 ∧ n_bd ≤ 40
  case neg => exact field_walk_big1 g0.1 g0.2 g1
  by_cases g2 : n_c ≤ 40 ∧ n_cd ≤ 40
  case neg => exact field_walk_big2 g0.1 g0.2 g1.1 g1.2 g2
  exact field_walk (h_a (by omega)) g0.1 (h_ad (by omega)) g0.2 (h_b (by omega)) g1.1 (h_bd (by omega)) g1.2 (h_c (by omega)) g2.1 (h_cd (by omega)) g2.2 (Nat.le_refl _)

end Go.Proofs.Ytieopcchchebgaa
