/-
  Int4, Cut, Int5.
-/
import Derived.Test.YtdihgmbldnekhaaIntA
import Derived.Test.YtdihgmbldnekhaaNatMem
import Derived.Test.YtdihgmbldnekhaaNatText
import Derived.Test.YtdihgmbldnekhaaNatBits
namespace Go.Proofs.Ytdihgmbldnekhaa
section
open Go.RowKit

theorem compare_z (w : World) (a b : Int) :
    Calls Try.prog 95 #[.int .i64 a, .int .i64 b] w fun e w' => e = .returned (.int .i64 (sgn (a - b))) ∧ w = w' := by
  rcases Int.lt_trichotomy a b with h | h | h
  · have H : Hid (sgn (a - b) = -1) := hide (Int.sign_eq_neg_one_of_neg (by omega))
    go_enter Try.func95, Try.ntmps95
    go_wp2
    go_ret
    rw [H.out]
    exact ⟨rfl, rfl⟩
  · subst h
    have H : Hid (sgn (a - a) = 0) := hide (by rw [Int.sub_self]; rfl)
    go_enter Try.func95, Try.ntmps95
    go_wp2
    go_ret
    rw [H.out]
    exact ⟨rfl, rfl⟩
  · have H : Hid (sgn (a - b) = 1) := hide (Int.sign_eq_one_of_pos (by omega))
    go_enter Try.func95, Try.ntmps95
    go_wp2
    go_ret
    rw [H.out]
    exact ⟨rfl, rfl⟩
theorem sgn_neg_iff (z : Int) : sgn z = -1 ↔ z < 0 := Int.sign_eq_neg_one_iff_neg
theorem sgn_pos_iff (z : Int) : sgn z = 1 ↔ 0 < z := Int.sign_eq_one_iff_pos
theorem sgn_zero_iff (z : Int) : sgn z = 0 ↔ z = 0 := Int.sign_eq_zero_iff_zero
theorem sgn_three (z : Int) : (sgn z = -1 ∧ z < 0) ∨ (sgn z = 0 ∧ z = 0) ∨ (sgn z = 1 ∧ 0 < z) := by
  rcases Int.lt_trichotomy z 0 with h | h | h
  · exact Or.inl ⟨(sgn_neg_iff z).2 h, h⟩
  · exact Or.inr (Or.inl ⟨(sgn_zero_iff z).2 h, h⟩)
  · exact Or.inr (Or.inr ⟨(sgn_pos_iff z).2 h, h⟩)
theorem sgn_eq_of {x y : Int} (hn : x < 0 ↔ y < 0) (hp : 0 < x ↔ 0 < y) : sgn x = sgn y := by
  rcases sgn_three x with ⟨h, hx⟩ | ⟨h, hx⟩ | ⟨h, hx⟩ <;> rcases sgn_three y with ⟨k, hy⟩ | ⟨k, hy⟩ | ⟨k, hy⟩ <;> first | (rw [h, k]; done) | omega
theorem sgn_ne {x y : Int} (h : sgn x ≠ sgn y) : sgn (sgn x - sgn y) = sgn (x - y) := by
  apply sgn_eq_of <;> rcases sgn_three x with ⟨hx, hx'⟩ | ⟨hx, hx'⟩ | ⟨hx, hx'⟩ <;> rcases sgn_three y with ⟨hy, hy'⟩ | ⟨hy, hy'⟩ | ⟨hy, hy'⟩ <;> omega
theorem cmpN_sgn (a b : Nat) : cmpN a b = sgn ((a : Int) - b) := by
  rcases Nat.lt_trichotomy a b with h | h | h
  · rw [cmpN_lt h, (sgn_neg_iff _).2 (by omega)]
  · rw [cmpN_eq h, (sgn_zero_iff _).2 (by omega)]
  · rw [cmpN_gt h, (sgn_pos_iff _).2 (by omega)]
theorem iv_neg {s : Bool} {m : Nat} (h : sgn (iv s m) = -1) : iv s m = -(m : Int) := by
  have := (sgn_neg_iff _).1 h; cases s <;> simp [iv] at * ; omega
theorem iv_pos {s : Bool} {m : Nat} (h : 0 ≤ sgn (iv s m)) : iv s m = (m : Int) := by
  have := sgn_three (iv s m); cases s <;> simp [iv] at * ; omega

set_option maxHeartbeats 4000000 in
theorem icmp_any_ne (w : World) (Bd : Nat) (s s' : Bool) (A A' : Option Addr) (n c n' c' : Nat) (xs ys : List Nat) (h : Rd w Bd A n c xs) (h' : Rd w Bd A' n' c' ys) (hB : Bd ≤ w.heap.size) (p q : Int) (hp0 : sgn (iv s (val xs)) = p) (hq0 : sgn (iv s' (val ys)) = q) (hpq : p ≠ q) :
    Calls Try.prog 62 #[.agg #[.bool s, .slice A n c], .agg #[.bool s', .slice A' n' c']] w (RetB w (.int .i64 (sgn (iv s (val xs) - iv s' (val ys))))) := by
  obtain ⟨z, hz0⟩ : ∃ z : Int, z = sgn (iv s (val xs) - iv s' (val ys)) := ⟨_, rfl⟩
  rw [← hz0]
  replace hz0 := hide hz0
  have H := hide h
  have H' := hide h'
  clear h h'
  have hz1 : z = sgn (p - q) := by rw [hz0.out, ← hp0, ← hq0]; exact (sgn_ne (by rw [hp0, hq0]; exact hpq)).symm
  replace hz1 := hide hz1
  have hp := hide hp0
  have hq := hide hq0
  clear hp0 hq0
  have hn1 : (p == q) = false := by simpa using hpq
  have hn2 : (p != q) = true := by simpa using hpq
  clear hpq hz0
  obtain ⟨W, hW⟩ : ∃ W, W = ((w.alloc (.cells #[.bool s, .slice A n c] 25)).alloc (.cells #[.bool s', .slice A' n' c'] 25)) := ⟨_, rfl⟩
  have b0 : Box W (w.heap.size) (.bool s) (.slice A n c) := by rw [hW]; exact ((Box.new w _ _ rfl).al _)
  have b1 : Box W (w.heap.size + 1) (.bool s') (.slice A' n' c') := by rw [hW]; exact (Box.new _ _ _ (by simp))
  have hwW : Below w.heap.size w W := by rw [hW]; exact (((Below.refl _ _).alloc (Nat.le_refl _) _).alloc (by simp) _)
  have hsz : W.heap.size = w.heap.size + 2 := by rw [hW]; simp
  replace hsz := hide hsz
  go_enter Try.func62, Try.ntmps62
  go_wp2_with fail
  rw [← hW]
  clear hW
  have hg : w.heap.size + 1 + 1 ≤ W.heap.size := by have := hsz.out; omega
  have c00 := b0.at0 (B := w.heap.size + 1 + 1) (by omega) hg
  have c01 := b0.at1 (B := w.heap.size + 1 + 1) (by omega) hg
  have c10 := b1.at0 (B := w.heap.size + 1 + 1) (by omega) hg
  have c11 := b1.at1 (B := w.heap.size + 1 + 1) (by omega) hg
  have hS0 : Below W.heap.size W W := Below.refl _ _
  have hT0 := hS0.mono hg
  replace hg := hide hg
  replace hwW := hide hwW
  replace b0 := hide b0
  replace b1 := hide b1
  have hx : ∀ w', Below W.heap.size W w' → Rd w' w'.heap.size A n c xs := fun w' hS => H.out.there hB hwW.out hS
  have hy : ∀ w', Below W.heap.size W w' → Rd w' w'.heap.size A' n' c' ys := fun w' hS => H'.out.there hB hwW.out hS
  replace hx := hide hx
  replace hy := hide hy
  go_region_held3 (fun w' => Below (w.heap.size + 1 + 1) W w') (first | assumption | (with_reducible exact (Below.drw_ _).mono hg.out) | exact ((hT2.setCell (Nat.le_refl _) _).setCell (Nat.le_refl _) _))
    (first
      | (go_at_call 73; ((have hS : Below W.heap.size W _ := Below.drw_ W); (with_reducible refine (isign_any _ _ s A n c xs (hx.out _ hS) (Nat.le_refl _)).mono ?_); rw [hp.out]; rintro e w1 ⟨rfl, hb1⟩; have hS1 : Below W.heap.size W w1 := Below.then_ hS hb1; have hT1 := hS1.mono hg.out; replace hb1 := hide hb1))
      | (go_at_call 73; ((with_reducible refine (isign_any _ _ s' A' n' c' ys (hy.out _ hS1) (Nat.le_refl _)).mono ?_); rw [hq.out]; rintro e w2 ⟨rfl, hb2⟩; have hS2 : Below W.heap.size W w2 := Below.then_ hS1 hb2; have hT2 := hS2.mono hg.out; replace hb2 := hide hb2)))
  go_wp2_with fail
  refine (compare_z _ p q).mono ?_
  rw [← hz1.out]
  rintro e w3 ⟨rfl, rfl⟩
  go_wp2
  go_ret
  exact ⟨rfl, hwW.out.trans (hS2.mono hwW.out.size)⟩

set_option maxHeartbeats 4000000 in
theorem icmp_any_neg (w : World) (Bd : Nat) (s s' : Bool) (A A' : Option Addr) (n c n' c' : Nat) (xs ys : List Nat) (h : Rd w Bd A n c xs) (h' : Rd w Bd A' n' c' ys) (hB : Bd ≤ w.heap.size) (hp0 : sgn (iv s (val xs)) = -1) (hq0 : sgn (iv s' (val ys)) = -1) :
    Calls Try.prog 62 #[.agg #[.bool s, .slice A n c], .agg #[.bool s', .slice A' n' c']] w (RetB w (.int .i64 (sgn (iv s (val xs) - iv s' (val ys))))) := by
  obtain ⟨z, hz0⟩ : ∃ z : Int, z = sgn (iv s (val xs) - iv s' (val ys)) := ⟨_, rfl⟩
  rw [← hz0]
  replace hz0 := hide hz0
  have H := hide h
  have H' := hide h'
  clear h h'
  have hz1 : z = cmpN (val ys) (val xs) := by rw [hz0.out, cmpN_sgn, iv_neg hp0, iv_neg hq0]; exact congrArg sgn (by omega)
  replace hz0 := hide hz1
  clear hz1
  have hp := hide hp0
  have hq := hide hq0
  clear hp0 hq0
  obtain ⟨W, hW⟩ : ∃ W, W = ((w.alloc (.cells #[.bool s, .slice A n c] 25)).alloc (.cells #[.bool s', .slice A' n' c'] 25)) := ⟨_, rfl⟩
  have b0 : Box W (w.heap.size) (.bool s) (.slice A n c) := by rw [hW]; exact ((Box.new w _ _ rfl).al _)
  have b1 : Box W (w.heap.size + 1) (.bool s') (.slice A' n' c') := by rw [hW]; exact (Box.new _ _ _ (by simp))
  have hwW : Below w.heap.size w W := by rw [hW]; exact (((Below.refl _ _).alloc (Nat.le_refl _) _).alloc (by simp) _)
  have hsz : W.heap.size = w.heap.size + 2 := by rw [hW]; simp
  replace hsz := hide hsz
  go_enter Try.func62, Try.ntmps62
  go_wp2_with fail
  rw [← hW]
  clear hW
  have hg : w.heap.size + 1 + 1 ≤ W.heap.size := by have := hsz.out; omega
  have c00 := b0.at0 (B := w.heap.size + 1 + 1) (by omega) hg
  have c01 := b0.at1 (B := w.heap.size + 1 + 1) (by omega) hg
  have c10 := b1.at0 (B := w.heap.size + 1 + 1) (by omega) hg
  have c11 := b1.at1 (B := w.heap.size + 1 + 1) (by omega) hg
  have hS0 : Below W.heap.size W W := Below.refl _ _
  have hT0 := hS0.mono hg
  replace hg := hide hg
  replace hwW := hide hwW
  replace b0 := hide b0
  replace b1 := hide b1
  have hx : ∀ w', Below W.heap.size W w' → Rd w' w'.heap.size A n c xs := fun w' hS => H.out.there hB hwW.out hS
  have hy : ∀ w', Below W.heap.size W w' → Rd w' w'.heap.size A' n' c' ys := fun w' hS => H'.out.there hB hwW.out hS
  replace hx := hide hx
  replace hy := hide hy
  go_region_held3 (fun w' => Below (w.heap.size + 1 + 1) W w') (first | assumption | (with_reducible exact (Below.drw_ _).mono hg.out) | exact ((hT2.setCell (Nat.le_refl _) _).setCell (Nat.le_refl _) _))
    (first
      | (go_at_call 73; ((have hS : Below W.heap.size W _ := Below.drw_ W); (with_reducible refine (isign_any _ _ s A n c xs (hx.out _ hS) (Nat.le_refl _)).mono ?_); rw [hp.out]; rintro e w1 ⟨rfl, hb1⟩; have hS1 : Below W.heap.size W w1 := Below.then_ hS hb1; have hT1 := hS1.mono hg.out; replace hb1 := hide hb1))
      | (go_at_call 73; ((with_reducible refine (isign_any _ _ s' A' n' c' ys (hy.out _ hS1) (Nat.le_refl _)).mono ?_); rw [hq.out]; rintro e w2 ⟨rfl, hb2⟩; have hS2 : Below W.heap.size W w2 := Below.then_ hS1 hb2; have hT2 := hS2.mono hg.out; replace hb2 := hide hb2)))
  go_wp2_with fail
  refine (cmp_any _ _ A' A n' c' n c ys xs (hy.out _ hS2) (hx.out _ hS2)).mono ?_
  rw [← hz0.out]
  rintro e w3 ⟨rfl, q, rfl⟩
  go_wp2
  go_ret
  exact ⟨rfl, below_drewN (hwW.out.trans (hS2.mono hwW.out.size)) q⟩

set_option maxHeartbeats 4000000 in
theorem icmp_any_nul (w : World) (Bd : Nat) (s s' : Bool) (A A' : Option Addr) (n c n' c' : Nat) (xs ys : List Nat) (h : Rd w Bd A n c xs) (h' : Rd w Bd A' n' c' ys) (hB : Bd ≤ w.heap.size) (hp0 : sgn (iv s (val xs)) = 0) (hq0 : sgn (iv s' (val ys)) = 0) :
    Calls Try.prog 62 #[.agg #[.bool s, .slice A n c], .agg #[.bool s', .slice A' n' c']] w (RetB w (.int .i64 (sgn (iv s (val xs) - iv s' (val ys))))) := by
  obtain ⟨z, hz0⟩ : ∃ z : Int, z = sgn (iv s (val xs) - iv s' (val ys)) := ⟨_, rfl⟩
  rw [← hz0]
  replace hz0 := hide hz0
  have H := hide h
  have H' := hide h'
  clear h h'
  have hz1 : z = cmpN (val xs) (val ys) := by rw [hz0.out, cmpN_sgn, iv_pos (by omega), iv_pos (by omega)]
  replace hz0 := hide hz1
  clear hz1
  have hp := hide hp0
  have hq := hide hq0
  clear hp0 hq0
  obtain ⟨W, hW⟩ : ∃ W, W = ((w.alloc (.cells #[.bool s, .slice A n c] 25)).alloc (.cells #[.bool s', .slice A' n' c'] 25)) := ⟨_, rfl⟩
  have b0 : Box W (w.heap.size) (.bool s) (.slice A n c) := by rw [hW]; exact ((Box.new w _ _ rfl).al _)
  have b1 : Box W (w.heap.size + 1) (.bool s') (.slice A' n' c') := by rw [hW]; exact (Box.new _ _ _ (by simp))
  have hwW : Below w.heap.size w W := by rw [hW]; exact (((Below.refl _ _).alloc (Nat.le_refl _) _).alloc (by simp) _)
  have hsz : W.heap.size = w.heap.size + 2 := by rw [hW]; simp
  replace hsz := hide hsz
  go_enter Try.func62, Try.ntmps62
  go_wp2_with fail
  rw [← hW]
  clear hW
  have hg : w.heap.size + 1 + 1 ≤ W.heap.size := by have := hsz.out; omega
  have c00 := b0.at0 (B := w.heap.size + 1 + 1) (by omega) hg
  have c01 := b0.at1 (B := w.heap.size + 1 + 1) (by omega) hg
  have c10 := b1.at0 (B := w.heap.size + 1 + 1) (by omega) hg
  have c11 := b1.at1 (B := w.heap.size + 1 + 1) (by omega) hg
  have hS0 : Below W.heap.size W W := Below.refl _ _
  have hT0 := hS0.mono hg
  replace hg := hide hg
  replace hwW := hide hwW
  replace b0 := hide b0
  replace b1 := hide b1
  have hx : ∀ w', Below W.heap.size W w' → Rd w' w'.heap.size A n c xs := fun w' hS => H.out.there hB hwW.out hS
  have hy : ∀ w', Below W.heap.size W w' → Rd w' w'.heap.size A' n' c' ys := fun w' hS => H'.out.there hB hwW.out hS
  replace hx := hide hx
  replace hy := hide hy
  go_region_held3 (fun w' => Below (w.heap.size + 1 + 1) W w') (first | assumption | (with_reducible exact (Below.drw_ _).mono hg.out) | exact ((hT2.setCell (Nat.le_refl _) _).setCell (Nat.le_refl _) _))
    (first
      | (go_at_call 73; ((have hS : Below W.heap.size W _ := Below.drw_ W); (with_reducible refine (isign_any _ _ s A n c xs (hx.out _ hS) (Nat.le_refl _)).mono ?_); rw [hp.out]; rintro e w1 ⟨rfl, hb1⟩; have hS1 : Below W.heap.size W w1 := Below.then_ hS hb1; have hT1 := hS1.mono hg.out; replace hb1 := hide hb1))
      | (go_at_call 73; ((with_reducible refine (isign_any _ _ s' A' n' c' ys (hy.out _ hS1) (Nat.le_refl _)).mono ?_); rw [hq.out]; rintro e w2 ⟨rfl, hb2⟩; have hS2 : Below W.heap.size W w2 := Below.then_ hS1 hb2; have hT2 := hS2.mono hg.out; replace hb2 := hide hb2)))
  go_wp2_with fail
  refine (cmp_any _ _ A A' n c n' c' xs ys (hx.out _ hS2) (hy.out _ hS2)).mono ?_
  rw [← hz0.out]
  rintro e w3 ⟨rfl, q, rfl⟩
  go_wp2
  go_ret
  exact ⟨rfl, below_drewN (hwW.out.trans (hS2.mono hwW.out.size)) q⟩

set_option maxHeartbeats 4000000 in
theorem icmp_any_pos (w : World) (Bd : Nat) (s s' : Bool) (A A' : Option Addr) (n c n' c' : Nat) (xs ys : List Nat) (h : Rd w Bd A n c xs) (h' : Rd w Bd A' n' c' ys) (hB : Bd ≤ w.heap.size) (hp0 : sgn (iv s (val xs)) = 1) (hq0 : sgn (iv s' (val ys)) = 1) :
    Calls Try.prog 62 #[.agg #[.bool s, .slice A n c], .agg #[.bool s', .slice A' n' c']] w (RetB w (.int .i64 (sgn (iv s (val xs) - iv s' (val ys))))) := by
  obtain ⟨z, hz0⟩ : ∃ z : Int, z = sgn (iv s (val xs) - iv s' (val ys)) := ⟨_, rfl⟩
  rw [← hz0]
  replace hz0 := hide hz0
  have H := hide h
  have H' := hide h'
  clear h h'
  have hz1 : z = cmpN (val xs) (val ys) := by rw [hz0.out, cmpN_sgn, iv_pos (by omega), iv_pos (by omega)]
  replace hz0 := hide hz1
  clear hz1
  have hp := hide hp0
  have hq := hide hq0
  clear hp0 hq0
  obtain ⟨W, hW⟩ : ∃ W, W = ((w.alloc (.cells #[.bool s, .slice A n c] 25)).alloc (.cells #[.bool s', .slice A' n' c'] 25)) := ⟨_, rfl⟩
  have b0 : Box W (w.heap.size) (.bool s) (.slice A n c) := by rw [hW]; exact ((Box.new w _ _ rfl).al _)
  have b1 : Box W (w.heap.size + 1) (.bool s') (.slice A' n' c') := by rw [hW]; exact (Box.new _ _ _ (by simp))
  have hwW : Below w.heap.size w W := by rw [hW]; exact (((Below.refl _ _).alloc (Nat.le_refl _) _).alloc (by simp) _)
  have hsz : W.heap.size = w.heap.size + 2 := by rw [hW]; simp
  replace hsz := hide hsz
  go_enter Try.func62, Try.ntmps62
  go_wp2_with fail
  rw [← hW]
  clear hW
  have hg : w.heap.size + 1 + 1 ≤ W.heap.size := by have := hsz.out; omega
  have c00 := b0.at0 (B := w.heap.size + 1 + 1) (by omega) hg
  have c01 := b0.at1 (B := w.heap.size + 1 + 1) (by omega) hg
  have c10 := b1.at0 (B := w.heap.size + 1 + 1) (by omega) hg
  have c11 := b1.at1 (B := w.heap.size + 1 + 1) (by omega) hg
  have hS0 : Below W.heap.size W W := Below.refl _ _
  have hT0 := hS0.mono hg
  replace hg := hide hg
  replace hwW := hide hwW
  replace b0 := hide b0
  replace b1 := hide b1
  have hx : ∀ w', Below W.heap.size W w' → Rd w' w'.heap.size A n c xs := fun w' hS => H.out.there hB hwW.out hS
  have hy : ∀ w', Below W.heap.size W w' → Rd w' w'.heap.size A' n' c' ys := fun w' hS => H'.out.there hB hwW.out hS
  replace hx := hide hx
  replace hy := hide hy
  go_region_held3 (fun w' => Below (w.heap.size + 1 + 1) W w') (first | assumption | (with_reducible exact (Below.drw_ _).mono hg.out) | exact ((hT2.setCell (Nat.le_refl _) _).setCell (Nat.le_refl _) _))
    (first
      | (go_at_call 73; ((have hS : Below W.heap.size W _ := Below.drw_ W); (with_reducible refine (isign_any _ _ s A n c xs (hx.out _ hS) (Nat.le_refl _)).mono ?_); rw [hp.out]; rintro e w1 ⟨rfl, hb1⟩; have hS1 : Below W.heap.size W w1 := Below.then_ hS hb1; have hT1 := hS1.mono hg.out; replace hb1 := hide hb1))
      | (go_at_call 73; ((with_reducible refine (isign_any _ _ s' A' n' c' ys (hy.out _ hS1) (Nat.le_refl _)).mono ?_); rw [hq.out]; rintro e w2 ⟨rfl, hb2⟩; have hS2 : Below W.heap.size W w2 := Below.then_ hS1 hb2; have hT2 := hS2.mono hg.out; replace hb2 := hide hb2)))
  go_wp2_with fail
  refine (cmp_any _ _ A A' n c n' c' xs ys (hx.out _ hS2) (hy.out _ hS2)).mono ?_
  rw [← hz0.out]
  rintro e w3 ⟨rfl, q, rfl⟩
  go_wp2
  go_ret
  exact ⟨rfl, below_drewN (hwW.out.trans (hS2.mono hwW.out.size)) q⟩

theorem icmp_any (w : World) (Bd : Nat) (s s' : Bool) (A A' : Option Addr) (n c n' c' : Nat) (xs ys : List Nat) (h : Rd w Bd A n c xs) (h' : Rd w Bd A' n' c' ys) (hB : Bd ≤ w.heap.size) :
    Calls Try.prog 62 #[.agg #[.bool s, .slice A n c], .agg #[.bool s', .slice A' n' c']] w (RetB w (.int .i64 (sgn (iv s (val xs) - iv s' (val ys))))) := by
  rcases sgn_three (iv s (val xs)) with ⟨hx, _⟩ | ⟨hx, _⟩ | ⟨hx, _⟩ <;> rcases sgn_three (iv s' (val ys)) with ⟨hy, _⟩ | ⟨hy, _⟩ | ⟨hy, _⟩ <;> first
    | exact icmp_any_neg w Bd s s' A A' n c n' c' xs ys h h' hB hx hy
    | exact icmp_any_nul w Bd s s' A A' n c n' c' xs ys h h' hB hx hy
    | exact icmp_any_pos w Bd s s' A A' n c n' c' xs ys h h' hB hx hy
    | exact icmp_any_ne w Bd s s' A A' n c n' c' xs ys h h' hB _ _ hx hy (by omega)

/-- an integer in decimal notation -/
def zstr (z : Int) : ByteArray := if z < 0 then (⟨#[45]⟩ : ByteArray) ++ strN (dec (zmag z)) else strN (dec (zmag z))
theorem zstr_neg {s : Bool} {m : Nat} (h : sgn (iv s m) = -1) : zstr (iv s m) = (⟨#[45]⟩ : ByteArray) ++ strN (dec m) := by
  unfold zstr; rw [if_pos ((sgn_neg_iff _).1 h), zmag_iv]
theorem zstr_pos {s : Bool} {m : Nat} (h : 0 ≤ sgn (iv s m)) : zstr (iv s m) = strN (dec m) := by
  unfold zstr; rw [if_neg (by have := sgn_three (iv s m); omega), zmag_iv]

set_option maxHeartbeats 4000000 in
theorem iprint_any_neg (w : World) (Bd : Nat) (s : Bool) (A : Option Addr) (n c : Nat) (xs : List Nat) (h : Rd w Bd A n c xs) (hB : Bd ≤ w.heap.size) (hn : n ≤ 17592186044416) (hp0 : sgn (iv s (val xs)) = -1) :
    Calls Try.prog 106 #[.agg #[.bool s, .slice A n c]] w (RetB w (.string (zstr (iv s (val xs))))) := by
  rw [zstr_neg hp0]
  have hp := hide hp0
  clear hp0
  obtain ⟨z, hz0⟩ : ∃ z, z = strN (dec (val xs)) := ⟨_, rfl⟩
  have hzs : ¬ 9223372036854775807 < 1 + z.size := by
    have h1 := val_lt h.limbs
    have h2 := dec_len h1
    have := h.len
    rw [hz0, strN_size]
    omega
  rw [← hz0]
  replace hz0 := hide hz0
  have H := hide h
  clear h
  obtain ⟨W, hW⟩ : ∃ W, W = (w.alloc (.cells #[.bool s, .slice A n c] 25)) := ⟨_, rfl⟩
  have b0 : Box W (w.heap.size) (.bool s) (.slice A n c) := by rw [hW]; exact (Box.new w _ _ rfl)
  have hwW : Below w.heap.size w W := by rw [hW]; exact ((Below.refl _ _).alloc (Nat.le_refl _) _)
  have hsz : W.heap.size = w.heap.size + 1 := by rw [hW]; simp
  replace hsz := hide hsz
  go_enter Try.func106, Try.ntmps106
  go_wp2_with fail
  rw [← hW]
  clear hW
  have hg : w.heap.size + 1 ≤ W.heap.size := by have := hsz.out; omega
  have c00 := b0.at0 (B := w.heap.size + 1) (by omega) hg
  have c01 := b0.at1 (B := w.heap.size + 1) (by omega) hg
  have hS0 : Below W.heap.size W W := Below.refl _ _
  have hT0 := hS0.mono hg
  replace hg := hide hg
  replace hwW := hide hwW
  replace b0 := hide b0
  have hx : ∀ w', Below W.heap.size W w' → Rd w' w'.heap.size A n c xs := fun w' hS => H.out.there hB hwW.out hS
  replace hx := hide hx
  refine (isign_any _ _ s A n c xs (hx.out _ hS0) (Nat.le_refl _)).mono ?_
  rw [hp.out]
  rintro e w1 ⟨rfl, hb1⟩
  have hS1 : Below W.heap.size W w1 := Below.then_ hS0 hb1
  have hT1 := hS1.mono hg.out
  replace hb1 := hide hb1
  go_wp2_with fail
  refine (print_any _ _ A n c xs (hx.out _ hS1) (Nat.le_refl _) hn).mono ?_
  rw [← hz0.out]
  rintro e w2 ⟨rfl, hb2⟩
  have hS2 : Below W.heap.size W w2 := Below.then_ hS1 hb2
  have hT2 := hS2.mono hg.out
  replace hb2 := hide hb2
  go_wp2
  go_ret
  exact ⟨rfl, hwW.out.trans (hS2.mono hwW.out.size)⟩

set_option maxHeartbeats 4000000 in
theorem iprint_any_nul (w : World) (Bd : Nat) (s : Bool) (A : Option Addr) (n c : Nat) (xs : List Nat) (h : Rd w Bd A n c xs) (hB : Bd ≤ w.heap.size) (hn : n ≤ 17592186044416) (hp0 : sgn (iv s (val xs)) = 0) :
    Calls Try.prog 106 #[.agg #[.bool s, .slice A n c]] w (RetB w (.string (zstr (iv s (val xs))))) := by
  rw [zstr_pos (by omega)]
  have hp := hide hp0
  clear hp0
  obtain ⟨z, hz0⟩ : ∃ z, z = strN (dec (val xs)) := ⟨_, rfl⟩
  have hzs : ¬ 9223372036854775807 < 1 + z.size := by
    have h1 := val_lt h.limbs
    have h2 := dec_len h1
    have := h.len
    rw [hz0, strN_size]
    omega
  rw [← hz0]
  replace hz0 := hide hz0
  have H := hide h
  clear h
  obtain ⟨W, hW⟩ : ∃ W, W = (w.alloc (.cells #[.bool s, .slice A n c] 25)) := ⟨_, rfl⟩
  have b0 : Box W (w.heap.size) (.bool s) (.slice A n c) := by rw [hW]; exact (Box.new w _ _ rfl)
  have hwW : Below w.heap.size w W := by rw [hW]; exact ((Below.refl _ _).alloc (Nat.le_refl _) _)
  have hsz : W.heap.size = w.heap.size + 1 := by rw [hW]; simp
  replace hsz := hide hsz
  go_enter Try.func106, Try.ntmps106
  go_wp2_with fail
  rw [← hW]
  clear hW
  have hg : w.heap.size + 1 ≤ W.heap.size := by have := hsz.out; omega
  have c00 := b0.at0 (B := w.heap.size + 1) (by omega) hg
  have c01 := b0.at1 (B := w.heap.size + 1) (by omega) hg
  have hS0 : Below W.heap.size W W := Below.refl _ _
  have hT0 := hS0.mono hg
  replace hg := hide hg
  replace hwW := hide hwW
  replace b0 := hide b0
  have hx : ∀ w', Below W.heap.size W w' → Rd w' w'.heap.size A n c xs := fun w' hS => H.out.there hB hwW.out hS
  replace hx := hide hx
  refine (isign_any _ _ s A n c xs (hx.out _ hS0) (Nat.le_refl _)).mono ?_
  rw [hp.out]
  rintro e w1 ⟨rfl, hb1⟩
  have hS1 : Below W.heap.size W w1 := Below.then_ hS0 hb1
  have hT1 := hS1.mono hg.out
  replace hb1 := hide hb1
  go_wp2_with fail
  refine (print_any _ _ A n c xs (hx.out _ hS1) (Nat.le_refl _) hn).mono ?_
  rw [← hz0.out]
  rintro e w2 ⟨rfl, hb2⟩
  have hS2 : Below W.heap.size W w2 := Below.then_ hS1 hb2
  have hT2 := hS2.mono hg.out
  replace hb2 := hide hb2
  go_wp2
  go_ret
  exact ⟨rfl, hwW.out.trans (hS2.mono hwW.out.size)⟩

set_option maxHeartbeats 4000000 in
theorem iprint_any_pos (w : World) (Bd : Nat) (s : Bool) (A : Option Addr) (n c : Nat) (xs : List Nat) (h : Rd w Bd A n c xs) (hB : Bd ≤ w.heap.size) (hn : n ≤ 17592186044416) (hp0 : sgn (iv s (val xs)) = 1) :
    Calls Try.prog 106 #[.agg #[.bool s, .slice A n c]] w (RetB w (.string (zstr (iv s (val xs))))) := by
  rw [zstr_pos (by omega)]
  have hp := hide hp0
  clear hp0
  obtain ⟨z, hz0⟩ : ∃ z, z = strN (dec (val xs)) := ⟨_, rfl⟩
  have hzs : ¬ 9223372036854775807 < 1 + z.size := by
    have h1 := val_lt h.limbs
    have h2 := dec_len h1
    have := h.len
    rw [hz0, strN_size]
    omega
  rw [← hz0]
  replace hz0 := hide hz0
  have H := hide h
  clear h
  obtain ⟨W, hW⟩ : ∃ W, W = (w.alloc (.cells #[.bool s, .slice A n c] 25)) := ⟨_, rfl⟩
  have b0 : Box W (w.heap.size) (.bool s) (.slice A n c) := by rw [hW]; exact (Box.new w _ _ rfl)
  have hwW : Below w.heap.size w W := by rw [hW]; exact ((Below.refl _ _).alloc (Nat.le_refl _) _)
  have hsz : W.heap.size = w.heap.size + 1 := by rw [hW]; simp
  replace hsz := hide hsz
  go_enter Try.func106, Try.ntmps106
  go_wp2_with fail
  rw [← hW]
  clear hW
  have hg : w.heap.size + 1 ≤ W.heap.size := by have := hsz.out; omega
  have c00 := b0.at0 (B := w.heap.size + 1) (by omega) hg
  have c01 := b0.at1 (B := w.heap.size + 1) (by omega) hg
  have hS0 : Below W.heap.size W W := Below.refl _ _
  have hT0 := hS0.mono hg
  replace hg := hide hg
  replace hwW := hide hwW
  replace b0 := hide b0
  have hx : ∀ w', Below W.heap.size W w' → Rd w' w'.heap.size A n c xs := fun w' hS => H.out.there hB hwW.out hS
  replace hx := hide hx
  refine (isign_any _ _ s A n c xs (hx.out _ hS0) (Nat.le_refl _)).mono ?_
  rw [hp.out]
  rintro e w1 ⟨rfl, hb1⟩
  have hS1 : Below W.heap.size W w1 := Below.then_ hS0 hb1
  have hT1 := hS1.mono hg.out
  replace hb1 := hide hb1
  go_wp2_with fail
  refine (print_any _ _ A n c xs (hx.out _ hS1) (Nat.le_refl _) hn).mono ?_
  rw [← hz0.out]
  rintro e w2 ⟨rfl, hb2⟩
  have hS2 : Below W.heap.size W w2 := Below.then_ hS1 hb2
  have hT2 := hS2.mono hg.out
  replace hb2 := hide hb2
  go_wp2
  go_ret
  exact ⟨rfl, hwW.out.trans (hS2.mono hwW.out.size)⟩

theorem iprint_any (w : World) (Bd : Nat) (s : Bool) (A : Option Addr) (n c : Nat) (xs : List Nat) (h : Rd w Bd A n c xs) (hB : Bd ≤ w.heap.size) (hn : n ≤ 17592186044416) :
    Calls Try.prog 106 #[.agg #[.bool s, .slice A n c]] w (RetB w (.string (zstr (iv s (val xs))))) := by
  rcases sgn_three (iv s (val xs)) with ⟨hx, _⟩ | ⟨hx, _⟩ | ⟨hx, _⟩
  · exact iprint_any_neg w Bd s A n c xs h hB hn hx
  · exact iprint_any_nul w Bd s A n c xs h hB hn hx
  · exact iprint_any_pos w Bd s A n c xs h hB hn hx

def i64v (z : Int) : Int := if -9223372036854775808 ≤ z ∧ z ≤ 9223372036854775807 then z else 0
def i64ok (z : Int) : Bool := decide (-9223372036854775808 ≤ z ∧ z ≤ 9223372036854775807)
theorem i64_in {z : Int} (h : -9223372036854775808 ≤ z ∧ z ≤ 9223372036854775807) : i64v z = z ∧ i64ok z = true := ⟨if_pos h, decide_eq_true h⟩
theorem i64_out {z : Int} (h : ¬ (-9223372036854775808 ≤ z ∧ z ≤ 9223372036854775807)) : i64v z = 0 ∧ i64ok z = false := ⟨if_neg h, decide_eq_false h⟩
theorem wrap_neg {m : Nat} (h : m ≤ 9223372036854775808) : wrap64 (IntKind.u64.wrap (-(m : Int))) = -(m : Int) := by
  simp [wrap64, IntKind.wrap, IntKind.bits, IntKind.signed]
  omega

end

section
open Go.RowKit

theorem is_minus (s : ByteArray) : s.toList = [45] ↔ s.size = 1 ∧ bt s 0 = 45 := by
  rw [ByteArray.toList_eq]
  obtain ⟨⟨l⟩⟩ := s
  match l with
  | [] =>
    constructor
    · intro h; cases h
    · rintro ⟨h, _⟩
      cases h
  | [a] =>
    simp only [ByteArray.size, bt]
    constructor
    · intro h
      have : a = 45 := by simpa using h
      subst this
      exact ⟨rfl, rfl⟩
    · rintro ⟨_, h⟩
      have h2 : a.toNat = 45 := h
      have : a = 45 := UInt8.toNat_inj.1 h2
      rw [this]
  | a :: b :: l =>
    constructor
    · intro h; cases h
    · rintro ⟨h, _⟩
      have h2 : (a :: b :: l).length = 1 := h
      simp at h2
theorem minus_test (s : ByteArray) (h0 : 0 < s.size) : ((s.extract 0 1).toList == [45]) = decide (bt s 0 = 45) := by
  have e1 := size_ext (s := s) (a := 0) (b := 1) (by omega)
  have e2 := bt_ext (s := s) (a := 0) (b := 1) (k := 0) (by omega) (by omega)
  have := is_minus (s.extract 0 1)
  rw [e1, e2] at this
  by_cases h : bt s 0 = 45
  · rw [decide_eq_true h, beq_iff_eq]; exact this.2 ⟨rfl, h⟩
  · rw [decide_eq_false h, beq_eq_false_iff_ne]; exact fun k => h (this.1 k).2

end

section
open Go.RowKit

/-- what nat.Parse hands back: a number, or 0 and an error -/
def RetPV (w : World) (m : Nat) (k : Int) (e : Ending) (w' : World) : Prop :=
  ∃ A c, e = .returned (.tuple #[.slice A (dig m).length c, .int .i64 k]) ∧ Rd w' w'.heap.size A (dig m).length c (dig m) ∧ Below w.heap.size w w'
theorem RetErr.pv {w : World} {k : Int} {e : Ending} {w' : World} (h : RetErr w k e w') : RetPV w 0 k e w' := by
  obtain ⟨rfl, rfl⟩ := h
  exact ⟨none, 0, by rw [dig_zero]; rfl, by rw [dig_zero]; exact Rd.empty _ _ _ (by omega), Below.refl _ _⟩
/-- what integer.Parse hands back -/
def RetIV (w : World) (z k : Int) (e : Ending) (w' : World) : Prop :=
  ∃ A c, e = .returned (.tuple #[.agg #[.bool (zneg z), .slice A (dig (zmag z)).length c], .int .i64 k]) ∧ Rd w' w'.heap.size A (dig (zmag z)).length c (dig (zmag z)) ∧ Below w.heap.size w w'
theorem RetIV.of {w : World} {z k : Int} {v : Value} {w' : World} (h : RetInt w z (.returned v) w') : RetIV w z k (.returned (.tuple #[v, .int .i64 k])) w' := by
  obtain ⟨A, c, hv, hR, hb⟩ := h
  cases hv
  exact ⟨A, c, rfl, hR, hb⟩
theorem RetInt.zero {w w2 : World} {A' : Option Addr} {n' c' g : Nat} {b : Bool} (hb : Below w.heap.size w w2) (hg : w.heap.size ≤ g) (hc0 : w2.cell? ⟨g, 0, none⟩ = some (.bool b)) (hc1 : w2.cell? ⟨g, 1, none⟩ = some (.slice A' n' c')) :
    RetInt w 0 (.returned (.agg #[.bool false, .slice none 0 0])) ((w2.setCell ⟨g, 0, none⟩ (.bool false)).setCell ⟨g, 1, none⟩ (.slice none 0 0)) := by
  have e : dig (zmag 0) = [] := by rw [show zmag 0 = 0 from rfl, dig_zero]
  have := RetInt.box (z := 0) (A := none) (c := 0) hb hg hc0 hc1 (by rw [e]; exact Rd.empty _ _ _ (by omega))
  rw [e] at this
  exact this
theorem RetIV.zero {w w2 : World} {A' : Option Addr} {n' c' g : Nat} {b : Bool} {k : Int} (hb : Below w.heap.size w w2) (hg : w.heap.size ≤ g) (hc0 : w2.cell? ⟨g, 0, none⟩ = some (.bool b)) (hc1 : w2.cell? ⟨g, 1, none⟩ = some (.slice A' n' c')) :
    RetIV w 0 k (.returned (.tuple #[.agg #[.bool false, .slice none 0 0], .int .i64 k])) ((w2.setCell ⟨g, 0, none⟩ (.bool false)).setCell ⟨g, 1, none⟩ (.slice none 0 0)) :=
  RetIV.of (RetInt.zero hb hg hc0 hc1)

end
end Go.Proofs.Ytdihgmbldnekhaa
