/-
  Add, Sub, Mul of integer.
-/
import Derived.Test.YtjbbapibpcgnhaaInt2
import Derived.Test.YtjbbapibpcgnhaaMul
import Derived.Test.YtjbbapibpcgnhaaAdd
import Derived.Test.YtjbbapibpcgnhaaSub
namespace Go.Proofs.Ytjbbapibpcgnhaa
open Go.RowKit

theorem iv_add_same (s : Bool) (x y : Nat) : iv s x + iv s y = iv s (x + y) := by cases s <;> simp [iv] <;> omega
theorem iv_add_more {s s' : Bool} (hs : ¬ s = s') {x y : Nat} (h : y ≤ x) : iv s x + iv s' y = iv s (x - y) := by cases s <;> cases s' <;> simp [iv] at * <;> omega
theorem iv_add_less {s s' : Bool} (hs : ¬ s = s') {x y : Nat} (h : x ≤ y) : iv s x + iv s' y = iv s' (y - x) := by cases s <;> cases s' <;> simp [iv] at * <;> omega
theorem iv_mul (s s' : Bool) (x y : Nat) : iv (!(s == s')) (x * y) = iv s x * iv s' y := by cases s <;> cases s' <;> simp [iv, Int.neg_mul, Int.mul_neg]
theorem iv_sub (s s' : Bool) (x y : Nat) : iv s x + iv (!s') y = iv s x - iv s' y := by rw [iv_not]; omega

set_option maxHeartbeats 4000000 in
theorem imul0 (w : World) (Bd : Nat) (s s' : Bool) (A A' : Option Addr) (n c n' c' : Nat) (xs ys : List Nat) (h : Rd w Bd A n c xs) (h' : Rd w Bd A' n' c' ys) (hB : Bd ≤ w.heap.size) (hn : n + n' ≤ 70368744177664) :
    Calls Try.prog 30 #[.agg #[.bool s, .slice A n c], .agg #[.bool s', .slice A' n' c']] w (RetInt w (iv (!(s == s')) (val xs * val ys))) := by
  obtain ⟨z, hz0⟩ : ∃ z, z = iv (!(s == s')) (val xs * val ys) := ⟨_, rfl⟩
  rw [← hz0]
  replace hz0 := hide hz0
  have H := hide h
  have H' := hide h'
  clear h h'
  obtain ⟨W, hW⟩ : ∃ W, W = (((w.alloc (.cells #[.bool s, .slice A n c] 25)).alloc (.cells #[.bool s', .slice A' n' c'] 25)).alloc (.cells #[.bool false, .slice none 0 0] 25)) := ⟨_, rfl⟩
  have b0 : Box W (w.heap.size) (.bool s) (.slice A n c) := by rw [hW]; exact (((Box.new w _ _ rfl).al _).al _)
  have b1 : Box W (w.heap.size + 1) (.bool s') (.slice A' n' c') := by rw [hW]; exact ((Box.new _ _ _ (by simp)).al _)
  have b2 : Box W (w.heap.size + 1 + 1) (.bool false) (.slice none 0 0) := by rw [hW]; exact (Box.new _ _ _ (by simp))
  have hwW : Below w.heap.size w W := by rw [hW]; exact ((((Below.refl _ _).alloc (Nat.le_refl _) _).alloc (by simp) _).alloc (by simp; omega) _)
  have hsz : W.heap.size = w.heap.size + 3 := by rw [hW]; simp
  replace hsz := hide hsz
  go_enter Try.func30, Try.ntmps30
  go_wp2_with fail
  rw [← hW]
  clear hW
  have hg : w.heap.size + 1 + 1 ≤ W.heap.size := by have := hsz.out; omega
  have c00 := b0.at0 (B := w.heap.size + 1 + 1) (by omega) hg
  have c01 := b0.at1 (B := w.heap.size + 1 + 1) (by omega) hg
  have c10 := b1.at0 (B := w.heap.size + 1 + 1) (by omega) hg
  have c11 := b1.at1 (B := w.heap.size + 1 + 1) (by omega) hg
  have c20 := b2.at0 b2.lt_size (Nat.le_refl _)
  have c21 := b2.at1 b2.lt_size (Nat.le_refl _)
  have f20 := b2.free0 b2.lt_size (Nat.le_refl _)
  have f21 := b2.free1 b2.lt_size (Nat.le_refl _)
  have l2 := b2.lt b2.lt_size (Nat.le_refl _)
  have hS0 : Below W.heap.size W W := Below.refl _ _
  have hT0 := hS0.mono hg
  replace hg := hide hg
  replace hwW := hide hwW
  replace b0 := hide b0
  replace b1 := hide b1
  replace b2 := hide b2
  have hx : ∀ w', Below W.heap.size W w' → Rd w' w'.heap.size A n c xs := fun w' hS => H.out.there hB hwW.out hS
  have hy : ∀ w', Below W.heap.size W w' → Rd w' w'.heap.size A' n' c' ys := fun w' hS => H'.out.there hB hwW.out hS
  replace hx := hide hx
  replace hy := hide hy
  go_region_held3 (fun w' => Below (w.heap.size + 1 + 1) W w') (first | assumption | (with_reducible exact (Below.drw_ _).mono hg.out) | exact ((hT2.setCell (Nat.le_refl _) _).setCell (Nat.le_refl _) _))
    (first
      | (go_at_call 54; ((have hS : Below W.heap.size W _ := Below.drw_ W); (with_reducible refine (mul_any _ _ A A' n c n' c' xs ys (hx.out _ hS) (hy.out _ hS) (Nat.le_refl _) hn).mono ?_); rintro e w1 ⟨A1, c1, rfl, R1, hb1⟩; have hS1 : Below W.heap.size W w1 := Below.then_ hS hb1; have hT1 := hS1.mono hg.out; replace hb1 := hide hb1))
      | (go_at_call 42; ((with_reducible refine (signed_any _ _ (!(s == s')) _ _ _ _ R1 (Nat.le_refl _)).mono ?_); rw [← hz0.out]; rintro e w2 ⟨A2, c2, rfl, R2, hb2⟩; have hS2 : Below W.heap.size W w2 := Below.then_ hS1 hb2; have hT2 := hS2.mono hg.out; replace hb2 := hide hb2)))
  have R_z := hide R2
  clear R2
  go_wp2
  exact bodyPost_ret (v := .agg #[.bool (zneg z), .slice A2 (dig (zmag z)).length c2]) (by simp [results, Try.results30, go_sem, c20 _ hS2, c21 _ hS2]) rfl (RetInt.box (hwW.out.trans (hS2.mono hwW.out.size)) (by omega) (c20 _ hS2) (c21 _ hS2) R_z.out)

theorem imul_any (w : World) (Bd : Nat) (s s' : Bool) (A A' : Option Addr) (n c n' c' : Nat) (xs ys : List Nat) (h : Rd w Bd A n c xs) (h' : Rd w Bd A' n' c' ys) (hB : Bd ≤ w.heap.size) (hn : n + n' ≤ 70368744177664) :
    Calls Try.prog 30 #[.agg #[.bool s, .slice A n c], .agg #[.bool s', .slice A' n' c']] w (RetInt w (iv s (val xs) * iv s' (val ys))) := by
  rw [← iv_mul]
  exact imul0 w Bd s s' A A' n c n' c' xs ys h h' hB hn

set_option maxHeartbeats 4000000 in
theorem iadd_any_same (w : World) (Bd : Nat) (s : Bool) (A A' : Option Addr) (n c n' c' : Nat) (xs ys : List Nat) (h : Rd w Bd A n c xs) (h' : Rd w Bd A' n' c' ys) (hB : Bd ≤ w.heap.size) (hn : n + 1 ≤ 70368744177664) (hn' : n' + 1 ≤ 70368744177664) :
    Calls Try.prog 26 #[.agg #[.bool s, .slice A n c], .agg #[.bool s, .slice A' n' c']] w (RetInt w (iv s (val xs + val ys))) := by
  obtain ⟨z, hz0⟩ : ∃ z, z = iv s (val xs + val ys) := ⟨_, rfl⟩
  rw [← hz0]
  replace hz0 := hide hz0
  have H := hide h
  have H' := hide h'
  clear h h'
  obtain ⟨W, hW⟩ : ∃ W, W = (((w.alloc (.cells #[.bool s, .slice A n c] 25)).alloc (.cells #[.bool s, .slice A' n' c'] 25)).alloc (.cells #[.bool false, .slice none 0 0] 25)) := ⟨_, rfl⟩
  have b0 : Box W (w.heap.size) (.bool s) (.slice A n c) := by rw [hW]; exact (((Box.new w _ _ rfl).al _).al _)
  have b1 : Box W (w.heap.size + 1) (.bool s) (.slice A' n' c') := by rw [hW]; exact ((Box.new _ _ _ (by simp)).al _)
  have b2 : Box W (w.heap.size + 1 + 1) (.bool false) (.slice none 0 0) := by rw [hW]; exact (Box.new _ _ _ (by simp))
  have hwW : Below w.heap.size w W := by rw [hW]; exact ((((Below.refl _ _).alloc (Nat.le_refl _) _).alloc (by simp) _).alloc (by simp; omega) _)
  have hsz : W.heap.size = w.heap.size + 3 := by rw [hW]; simp
  replace hsz := hide hsz
  go_enter Try.func26, Try.ntmps26
  go_wp2_with fail
  rw [← hW]
  clear hW
  have hg : w.heap.size + 1 + 1 ≤ W.heap.size := by have := hsz.out; omega
  have c00 := b0.at0 (B := w.heap.size + 1 + 1) (by omega) hg
  have c01 := b0.at1 (B := w.heap.size + 1 + 1) (by omega) hg
  have c10 := b1.at0 (B := w.heap.size + 1 + 1) (by omega) hg
  have c11 := b1.at1 (B := w.heap.size + 1 + 1) (by omega) hg
  have c20 := b2.at0 b2.lt_size (Nat.le_refl _)
  have c21 := b2.at1 b2.lt_size (Nat.le_refl _)
  have f20 := b2.free0 b2.lt_size (Nat.le_refl _)
  have f21 := b2.free1 b2.lt_size (Nat.le_refl _)
  have l2 := b2.lt b2.lt_size (Nat.le_refl _)
  have hS0 : Below W.heap.size W W := Below.refl _ _
  have hT0 := hS0.mono hg
  replace hg := hide hg
  replace hwW := hide hwW
  replace b0 := hide b0
  replace b1 := hide b1
  replace b2 := hide b2
  have hx : ∀ w', Below W.heap.size W w' → Rd w' w'.heap.size A n c xs := fun w' hS => H.out.there hB hwW.out hS
  have hy : ∀ w', Below W.heap.size W w' → Rd w' w'.heap.size A' n' c' ys := fun w' hS => H'.out.there hB hwW.out hS
  replace hx := hide hx
  replace hy := hide hy
  go_wp2_with fail
  go_region_held3 (fun w' => Below (w.heap.size + 1 + 1) W w') (first | assumption | (with_reducible exact (Below.drw_ _).mono hg.out) | exact ((hT2.setCell (Nat.le_refl _) _).setCell (Nat.le_refl _) _))
    (first
      | (go_at_call 50; ((have hS : Below W.heap.size W _ := Below.drw_ W); (with_reducible refine (add_any _ _ A A' n c n' c' xs ys (hx.out _ hS) (hy.out _ hS) (Nat.le_refl _) hn hn').mono ?_); rintro e w1 ⟨A1, c1, rfl, R1, hb1⟩; have hS1 : Below W.heap.size W w1 := Below.then_ hS hb1; have hT1 := hS1.mono hg.out; replace hb1 := hide hb1))
      | (go_at_call 42; ((with_reducible refine (signed_any _ _ (s) _ _ _ _ R1 (Nat.le_refl _)).mono ?_); rw [← hz0.out]; rintro e w2 ⟨A2, c2, rfl, R2, hb2⟩; have hS2 : Below W.heap.size W w2 := Below.then_ hS1 hb2; have hT2 := hS2.mono hg.out; replace hb2 := hide hb2)))
  have R_z := hide R2
  clear R2
  go_wp2
  exact bodyPost_ret (v := .agg #[.bool (zneg z), .slice A2 (dig (zmag z)).length c2]) (by simp [results, Try.results26, go_sem, c20 _ hS2, c21 _ hS2]) rfl (RetInt.box (hwW.out.trans (hS2.mono hwW.out.size)) (by omega) (c20 _ hS2) (c21 _ hS2) R_z.out)

set_option maxHeartbeats 4000000 in
theorem iadd_any_more (w : World) (Bd : Nat) (s s' : Bool) (A A' : Option Addr) (n c n' c' : Nat) (xs ys : List Nat) (h : Rd w Bd A n c xs) (h' : Rd w Bd A' n' c' ys) (hB : Bd ≤ w.heap.size) (hs : (s == s') = false) (hle : val ys ≤ val xs) :
    Calls Try.prog 26 #[.agg #[.bool s, .slice A n c], .agg #[.bool s', .slice A' n' c']] w (RetInt w (iv s (val xs - val ys))) := by
  obtain ⟨z, hz0⟩ : ∃ z, z = iv s (val xs - val ys) := ⟨_, rfl⟩
  rw [← hz0]
  replace hz0 := hide hz0
  replace hle := hide hle
  have H := hide h
  have H' := hide h'
  clear h h'
  obtain ⟨W, hW⟩ : ∃ W, W = (((w.alloc (.cells #[.bool s, .slice A n c] 25)).alloc (.cells #[.bool s', .slice A' n' c'] 25)).alloc (.cells #[.bool false, .slice none 0 0] 25)) := ⟨_, rfl⟩
  have b0 : Box W (w.heap.size) (.bool s) (.slice A n c) := by rw [hW]; exact (((Box.new w _ _ rfl).al _).al _)
  have b1 : Box W (w.heap.size + 1) (.bool s') (.slice A' n' c') := by rw [hW]; exact ((Box.new _ _ _ (by simp)).al _)
  have b2 : Box W (w.heap.size + 1 + 1) (.bool false) (.slice none 0 0) := by rw [hW]; exact (Box.new _ _ _ (by simp))
  have hwW : Below w.heap.size w W := by rw [hW]; exact ((((Below.refl _ _).alloc (Nat.le_refl _) _).alloc (by simp) _).alloc (by simp; omega) _)
  have hsz : W.heap.size = w.heap.size + 3 := by rw [hW]; simp
  replace hsz := hide hsz
  go_enter Try.func26, Try.ntmps26
  go_wp2_with fail
  rw [← hW]
  clear hW
  have hg : w.heap.size + 1 + 1 ≤ W.heap.size := by have := hsz.out; omega
  have c00 := b0.at0 (B := w.heap.size + 1 + 1) (by omega) hg
  have c01 := b0.at1 (B := w.heap.size + 1 + 1) (by omega) hg
  have c10 := b1.at0 (B := w.heap.size + 1 + 1) (by omega) hg
  have c11 := b1.at1 (B := w.heap.size + 1 + 1) (by omega) hg
  have c20 := b2.at0 b2.lt_size (Nat.le_refl _)
  have c21 := b2.at1 b2.lt_size (Nat.le_refl _)
  have f20 := b2.free0 b2.lt_size (Nat.le_refl _)
  have f21 := b2.free1 b2.lt_size (Nat.le_refl _)
  have l2 := b2.lt b2.lt_size (Nat.le_refl _)
  have hS0 : Below W.heap.size W W := Below.refl _ _
  have hT0 := hS0.mono hg
  replace hg := hide hg
  replace hwW := hide hwW
  replace b0 := hide b0
  replace b1 := hide b1
  replace b2 := hide b2
  have hx : ∀ w', Below W.heap.size W w' → Rd w' w'.heap.size A n c xs := fun w' hS => H.out.there hB hwW.out hS
  have hy : ∀ w', Below W.heap.size W w' → Rd w' w'.heap.size A' n' c' ys := fun w' hS => H'.out.there hB hwW.out hS
  replace hx := hide hx
  replace hy := hide hy
  go_wp2_with fail
  refine (sub_more _ _ A A' n c n' c' xs ys (hx.out _ hS0) (hy.out _ hS0) (Nat.le_refl _) hle.out).mono ?_
  rintro e w1 ⟨A1, c1, rfl, R1, hb1⟩
  have hS1 : Below W.heap.size W w1 := Below.then_ hS0 hb1
  have hT1 := hS1.mono hg.out
  replace hb1 := hide hb1
  replace R1 := hide R1
  go_wp2_with fail
  refine (signed_any _ _ (s) _ _ _ _ R1.out (Nat.le_refl _)).mono ?_
  rw [← hz0.out]
  rintro e w2 ⟨A2, c2, rfl, R2, hb2⟩
  have hS2 : Below W.heap.size W w2 := Below.then_ hS1 hb2
  have hT2 := hS2.mono hg.out
  replace hb2 := hide hb2
  have R_z := hide R2
  clear R2
  go_wp2
  exact bodyPost_ret (v := .agg #[.bool (zneg z), .slice A2 (dig (zmag z)).length c2]) (by simp [results, Try.results26, go_sem, c20 _ hS2, c21 _ hS2]) rfl (RetInt.box (hwW.out.trans (hS2.mono hwW.out.size)) (by omega) (c20 _ hS2) (c21 _ hS2) R_z.out)

set_option maxHeartbeats 4000000 in
theorem iadd_any_less (w : World) (Bd : Nat) (s s' : Bool) (A A' : Option Addr) (n c n' c' : Nat) (xs ys : List Nat) (h : Rd w Bd A n c xs) (h' : Rd w Bd A' n' c' ys) (hB : Bd ≤ w.heap.size) (hs : (s == s') = false) (hle : val xs < val ys) :
    Calls Try.prog 26 #[.agg #[.bool s, .slice A n c], .agg #[.bool s', .slice A' n' c']] w (RetInt w (iv s' (val ys - val xs))) := by
  obtain ⟨z, hz0⟩ : ∃ z, z = iv s' (val ys - val xs) := ⟨_, rfl⟩
  rw [← hz0]
  replace hz0 := hide hz0
  replace hle := hide hle
  have H := hide h
  have H' := hide h'
  clear h h'
  obtain ⟨W, hW⟩ : ∃ W, W = (((w.alloc (.cells #[.bool s, .slice A n c] 25)).alloc (.cells #[.bool s', .slice A' n' c'] 25)).alloc (.cells #[.bool false, .slice none 0 0] 25)) := ⟨_, rfl⟩
  have b0 : Box W (w.heap.size) (.bool s) (.slice A n c) := by rw [hW]; exact (((Box.new w _ _ rfl).al _).al _)
  have b1 : Box W (w.heap.size + 1) (.bool s') (.slice A' n' c') := by rw [hW]; exact ((Box.new _ _ _ (by simp)).al _)
  have b2 : Box W (w.heap.size + 1 + 1) (.bool false) (.slice none 0 0) := by rw [hW]; exact (Box.new _ _ _ (by simp))
  have hwW : Below w.heap.size w W := by rw [hW]; exact ((((Below.refl _ _).alloc (Nat.le_refl _) _).alloc (by simp) _).alloc (by simp; omega) _)
  have hsz : W.heap.size = w.heap.size + 3 := by rw [hW]; simp
  replace hsz := hide hsz
  go_enter Try.func26, Try.ntmps26
  go_wp2_with fail
  rw [← hW]
  clear hW
  have hg : w.heap.size + 1 + 1 ≤ W.heap.size := by have := hsz.out; omega
  have c00 := b0.at0 (B := w.heap.size + 1 + 1) (by omega) hg
  have c01 := b0.at1 (B := w.heap.size + 1 + 1) (by omega) hg
  have c10 := b1.at0 (B := w.heap.size + 1 + 1) (by omega) hg
  have c11 := b1.at1 (B := w.heap.size + 1 + 1) (by omega) hg
  have c20 := b2.at0 b2.lt_size (Nat.le_refl _)
  have c21 := b2.at1 b2.lt_size (Nat.le_refl _)
  have f20 := b2.free0 b2.lt_size (Nat.le_refl _)
  have f21 := b2.free1 b2.lt_size (Nat.le_refl _)
  have l2 := b2.lt b2.lt_size (Nat.le_refl _)
  have hS0 : Below W.heap.size W W := Below.refl _ _
  have hT0 := hS0.mono hg
  replace hg := hide hg
  replace hwW := hide hwW
  replace b0 := hide b0
  replace b1 := hide b1
  replace b2 := hide b2
  have hx : ∀ w', Below W.heap.size W w' → Rd w' w'.heap.size A n c xs := fun w' hS => H.out.there hB hwW.out hS
  have hy : ∀ w', Below W.heap.size W w' → Rd w' w'.heap.size A' n' c' ys := fun w' hS => H'.out.there hB hwW.out hS
  replace hx := hide hx
  replace hy := hide hy
  go_wp2_with fail
  refine (sub_less _ _ A A' n c n' c' xs ys (hx.out _ hS0) (hy.out _ hS0) hle.out).mono ?_
  rintro e w1 ⟨A1, c1, rfl, R1, hb1⟩
  have hS1 : Below W.heap.size W w1 := Below.then_ hS0 hb1
  have hT1 := hS1.mono hg.out
  replace hb1 := hide hb1
  clear R1
  go_wp2_with fail
  refine (sub_more _ _ A' A n' c' n c ys xs (hy.out _ hS1) (hx.out _ hS1) (Nat.le_refl _) (Nat.le_of_lt hle.out)).mono ?_
  rintro e w2 ⟨A2, c2, rfl, R2, hb2⟩
  have hS2 : Below W.heap.size W w2 := Below.then_ hS1 hb2
  have hT2 := hS2.mono hg.out
  replace hb2 := hide hb2
  replace R2 := hide R2
  go_wp2_with fail
  refine (signed_any _ _ (s') _ _ _ _ R2.out (Nat.le_refl _)).mono ?_
  rw [← hz0.out]
  rintro e w3 ⟨A3, c3, rfl, R3, hb3⟩
  have hS3 : Below W.heap.size W w3 := Below.then_ hS2 hb3
  have hT3 := hS3.mono hg.out
  replace hb3 := hide hb3
  have R_z := hide R3
  clear R3
  go_wp2
  exact bodyPost_ret (v := .agg #[.bool (zneg z), .slice A3 (dig (zmag z)).length c3]) (by simp [results, Try.results26, go_sem, c20 _ hS3, c21 _ hS3]) rfl (RetInt.box (hwW.out.trans (hS3.mono hwW.out.size)) (by omega) (c20 _ hS3) (c21 _ hS3) R_z.out)

theorem iadd_any (w : World) (Bd : Nat) (s s' : Bool) (A A' : Option Addr) (n c n' c' : Nat) (xs ys : List Nat) (h : Rd w Bd A n c xs) (h' : Rd w Bd A' n' c' ys) (hB : Bd ≤ w.heap.size) (hn : n + 1 ≤ 70368744177664) (hn' : n' + 1 ≤ 70368744177664) :
    Calls Try.prog 26 #[.agg #[.bool s, .slice A n c], .agg #[.bool s', .slice A' n' c']] w (RetInt w (iv s (val xs) + iv s' (val ys))) := by
  by_cases hs : s = s'
  · subst hs
    rw [iv_add_same]
    exact iadd_any_same w Bd s A A' n c n' c' xs ys h h' hB hn hn'
  · have hs' : (s == s') = false := by simpa using hs
    by_cases hle : val ys ≤ val xs
    · rw [iv_add_more hs hle]
      exact iadd_any_more w Bd s s' A A' n c n' c' xs ys h h' hB hs' hle
    · rw [iv_add_less hs (Nat.le_of_lt (Nat.lt_of_not_le hle))]
      exact iadd_any_less w Bd s s' A A' n c n' c' xs ys h h' hB hs' (Nat.lt_of_not_le hle)

set_option maxHeartbeats 4000000 in
theorem isub_any (w : World) (Bd : Nat) (s s' : Bool) (A A' : Option Addr) (n c n' c' : Nat) (xs ys : List Nat) (h : Rd w Bd A n c xs) (h' : Rd w Bd A' n' c' ys) (hB : Bd ≤ w.heap.size) (hn : n + 1 ≤ 70368744177664) (hn' : n' + 1 ≤ 70368744177664) :
    Calls Try.prog 28 #[.agg #[.bool s, .slice A n c], .agg #[.bool s', .slice A' n' c']] w (RetInt w (iv s (val xs) - iv s' (val ys))) := by
  rw [← iv_sub]
  obtain ⟨z, hz0⟩ : ∃ z, z = iv s (val xs) + iv (!s') (val ys) := ⟨_, rfl⟩
  rw [← hz0]
  replace hz0 := hide hz0
  have H := hide h
  have H' := hide h'
  clear h h'
  obtain ⟨W, hW⟩ : ∃ W, W = (((w.alloc (.cells #[.bool s, .slice A n c] 25)).alloc (.cells #[.bool s', .slice A' n' c'] 25)).alloc (.cells #[.bool false, .slice none 0 0] 25)) := ⟨_, rfl⟩
  have b0 : Box W (w.heap.size) (.bool s) (.slice A n c) := by rw [hW]; exact (((Box.new w _ _ rfl).al _).al _)
  have b1 : Box W (w.heap.size + 1) (.bool s') (.slice A' n' c') := by rw [hW]; exact ((Box.new _ _ _ (by simp)).al _)
  have b2 : Box W (w.heap.size + 1 + 1) (.bool false) (.slice none 0 0) := by rw [hW]; exact (Box.new _ _ _ (by simp))
  have hwW : Below w.heap.size w W := by rw [hW]; exact ((((Below.refl _ _).alloc (Nat.le_refl _) _).alloc (by simp) _).alloc (by simp; omega) _)
  have hsz : W.heap.size = w.heap.size + 3 := by rw [hW]; simp
  replace hsz := hide hsz
  go_enter Try.func28, Try.ntmps28
  go_wp2_with fail
  rw [← hW]
  clear hW
  have hg : w.heap.size + 1 + 1 ≤ W.heap.size := by have := hsz.out; omega
  have c00 := b0.at0 (B := w.heap.size + 1 + 1) (by omega) hg
  have c01 := b0.at1 (B := w.heap.size + 1 + 1) (by omega) hg
  have c10 := b1.at0 (B := w.heap.size + 1 + 1) (by omega) hg
  have c11 := b1.at1 (B := w.heap.size + 1 + 1) (by omega) hg
  have c20 := b2.at0 b2.lt_size (Nat.le_refl _)
  have c21 := b2.at1 b2.lt_size (Nat.le_refl _)
  have f20 := b2.free0 b2.lt_size (Nat.le_refl _)
  have f21 := b2.free1 b2.lt_size (Nat.le_refl _)
  have l2 := b2.lt b2.lt_size (Nat.le_refl _)
  have hS0 : Below W.heap.size W W := Below.refl _ _
  have hT0 := hS0.mono hg
  replace hg := hide hg
  replace hwW := hide hwW
  replace b0 := hide b0
  replace b1 := hide b1
  replace b2 := hide b2
  have hx : ∀ w', Below W.heap.size W w' → Rd w' w'.heap.size A n c xs := fun w' hS => H.out.there hB hwW.out hS
  have hy : ∀ w', Below W.heap.size W w' → Rd w' w'.heap.size A' n' c' ys := fun w' hS => H'.out.there hB hwW.out hS
  replace hx := hide hx
  replace hy := hide hy
  refine (iadd_any _ _ s (!s') A A' n c n' c' xs ys (hx.out _ hS0) (hy.out _ hS0) (Nat.le_refl _) hn hn').mono ?_
  rw [← hz0.out]
  rintro e w1 ⟨A1, c1, rfl, R1, hb1⟩
  have hS1 : Below W.heap.size W w1 := Below.then_ hS0 hb1
  have hT1 := hS1.mono hg.out
  replace hb1 := hide hb1
  have R_z := hide R1
  clear R1
  go_wp2
  exact bodyPost_ret (v := .agg #[.bool (zneg z), .slice A1 (dig (zmag z)).length c1]) (by simp [results, Try.results28, go_sem, c20 _ hS1, c21 _ hS1]) rfl (RetInt.box (hwW.out.trans (hS1.mono hwW.out.size)) (by omega) (c20 _ hS1) (c21 _ hS1) R_z.out)

end Go.Proofs.Ytjbbapibpcgnhaa
