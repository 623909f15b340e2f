/-
  RInt1, RInt2.
-/
import Derived.Test.YtdihgmbldnekhaaIntC
import Derived.Test.YtdihgmbldnekhaaRefSum
namespace Go.Proofs.Ytdihgmbldnekhaa
section
open Go.RowKit

theorem Box.both {W : World} {g : Nat} {a b : Value} (h : Box W g a b) (w' : World) (hb : Below W.heap.size W w') : w'.cell? ⟨g, 0, none⟩ = some a ∧ w'.cell? ⟨g, 1, none⟩ = some b ∧ w'.frozen? ⟨g, 0, none⟩ = false ∧ w'.frozen? ⟨g, 1, none⟩ = false ∧ g < w'.heap.size :=
  box_kept_at h h.lt_size (Nat.le_refl _) hb
theorem val_ieta (z : Int) : iv (zneg z) (val (dig (zmag z))) = z := by rw [val_dig, iv_eta]
theorem RetInt.box' {w w2 : World} {s : Bool} {m n c n' c' g : Nat} {A A' : Option Addr} {b : Bool} (hb : Below w.heap.size w w2) (hg : w.heap.size ≤ g) (hc0 : w2.cell? ⟨g, 0, none⟩ = some (.bool b)) (hc1 : w2.cell? ⟨g, 1, none⟩ = some (.slice A' n' c'))
    (R : Rd w2 w2.heap.size A n c (dig m)) (hs : m = 0 → s = false) :
    RetInt w (iv s m) (.returned (.agg #[.bool s, .slice A n c])) ((w2.setCell ⟨g, 0, none⟩ (.bool s)).setCell ⟨g, 1, none⟩ (.slice A n c)) := by
  have h1 : (w2.setCell ⟨g, 0, none⟩ (.bool s)).cell? ⟨g, 1, none⟩ = some (.slice A' n' c') := (World.cell?_setCell_other _ _ _ _ (by simp)).trans hc1
  refine RetInt.mk ?_ hs ((hb.setCell hg _).setCell hg _)
  have := (R.far (u := .bool s) hc0 (fun x h => by cases h)).far (u := .slice A n c) h1 (fun x h => by cases h)
  simpa using this

set_option maxHeartbeats 4000000 in
theorem rinorm_pos (w : World) (Bd : Nat) (A : Option Addr) (n c : Nat) (xs : List Nat) (h : Rd w Bd A n c xs) (hB : Bd ≤ w.heap.size) :
    Calls Try.prog 118 #[.agg #[.bool false, .slice A n c]] w (RetInt w (iv false (val xs))) := by
  have H := hide h
  clear h
  obtain ⟨n1, hn1⟩ : ∃ n1, n1 = (dig (val xs)).length := ⟨_, rfl⟩
  replace hn1 := hide hn1
  obtain ⟨W, hW⟩ : ∃ W, W = ((w.alloc (.cells #[.bool false, .slice A n c] 25)).alloc (.cells #[.bool false, .slice none 0 0] 25)) := ⟨_, rfl⟩
  have b0 : Box W (w.heap.size) (.bool false) (.slice A n c) := by rw [hW]; exact ((Box.new w _ _ rfl).al _)
  have b1 : Box W (w.heap.size + 1) (.bool false) (.slice none 0 0) := by rw [hW]; exact (Box.new _ _ _ (by simp))
  have hwW : Below w.heap.size w W := by rw [hW]; exact (((Below.refl _ _).alloc (Nat.le_refl _) _).alloc (by simp) _)
  have hsz : W.heap.size = w.heap.size + 2 := by rw [hW]; simp
  replace hsz := hide hsz
  go_enter Try.func118, Try.ntmps118
  go_wp2_with fail
  rw [← hW]
  clear hW
  have hg : w.heap.size + 1 ≤ W.heap.size := by have := hsz.out; omega
  have c00 := b0.at0 (B := w.heap.size + 1) (by omega) hg
  have c01 := b0.at1 (B := w.heap.size + 1) (by omega) hg
  have c10 := b1.at0 b1.lt_size (Nat.le_refl _)
  have c11 := b1.at1 b1.lt_size (Nat.le_refl _)
  have f10 := b1.free0 b1.lt_size (Nat.le_refl _)
  have f11 := b1.free1 b1.lt_size (Nat.le_refl _)
  have l1 := b1.lt b1.lt_size (Nat.le_refl _)
  have hS0 : Below W.heap.size W W := Below.refl _ _
  have hT0 := hS0.mono hg
  replace hg := hide hg
  replace hwW := hide hwW
  replace b0 := hide b0
  replace b1 := hide b1
  have hx : ∀ w', Below W.heap.size W w' → Rd w' w'.heap.size A n c xs := fun w' hS => H.out.there hB hwW.out hS
  replace hx := hide hx
  refine (rnorm_any _ _ A n c xs (hx.out _ hS0) (Nat.le_refl _)).mono ?_
  intro e w1 hr
  obtain ⟨A1, c1, rfl, R1, hb1⟩ := RetOwn.nat hr
  clear hr
  have hS1 : Below W.heap.size W w1 := Below.then_ hS0 hb1
  have hT1 := hS1.mono hg.out
  replace hb1 := hide hb1
  rw [← hn1.out] at R1 ⊢
  replace R1 := hide R1
  go_wp2
  exact bodyPost_ret (v := .agg #[.bool false, .slice A1 n1 c1]) (by simp [results, Try.results118, go_sem, c10 _ hS1, c11 _ hS1]) rfl (RetInt.box' (hwW.out.trans (hS1.mono hwW.out.size)) (by omega) (c10 _ hS1) (c11 _ hS1) R1.out (fun _ => rfl))

set_option maxHeartbeats 4000000 in
theorem rinorm_neg (w : World) (Bd : Nat) (A : Option Addr) (n c : Nat) (xs : List Nat) (h : Rd w Bd A n c xs) (hB : Bd ≤ w.heap.size) (hm : val xs ≠ 0) :
    Calls Try.prog 118 #[.agg #[.bool true, .slice A n c]] w (RetInt w (iv true (val xs))) := by
  have H := hide h
  clear h
  obtain ⟨n1, hn1⟩ : ∃ n1, n1 = (dig (val xs)).length := ⟨_, rfl⟩
  have hl : 0 < n1 := by rw [hn1]; exact Nat.pos_of_ne_zero (mt dig_len_zero.1 hm)
  replace hm := hide hm
  replace hn1 := hide hn1
  obtain ⟨W, hW⟩ : ∃ W, W = ((w.alloc (.cells #[.bool true, .slice A n c] 25)).alloc (.cells #[.bool false, .slice none 0 0] 25)) := ⟨_, rfl⟩
  have b0 : Box W (w.heap.size) (.bool true) (.slice A n c) := by rw [hW]; exact ((Box.new w _ _ rfl).al _)
  have b1 : Box W (w.heap.size + 1) (.bool false) (.slice none 0 0) := by rw [hW]; exact (Box.new _ _ _ (by simp))
  have hwW : Below w.heap.size w W := by rw [hW]; exact (((Below.refl _ _).alloc (Nat.le_refl _) _).alloc (by simp) _)
  have hsz : W.heap.size = w.heap.size + 2 := by rw [hW]; simp
  replace hsz := hide hsz
  go_enter Try.func118, Try.ntmps118
  go_wp2_with fail
  rw [← hW]
  clear hW
  have hg : w.heap.size + 1 ≤ W.heap.size := by have := hsz.out; omega
  have c00 := b0.at0 (B := w.heap.size + 1) (by omega) hg
  have c01 := b0.at1 (B := w.heap.size + 1) (by omega) hg
  have c10 := b1.at0 b1.lt_size (Nat.le_refl _)
  have c11 := b1.at1 b1.lt_size (Nat.le_refl _)
  have f10 := b1.free0 b1.lt_size (Nat.le_refl _)
  have f11 := b1.free1 b1.lt_size (Nat.le_refl _)
  have l1 := b1.lt b1.lt_size (Nat.le_refl _)
  have hS0 : Below W.heap.size W W := Below.refl _ _
  have hT0 := hS0.mono hg
  replace hg := hide hg
  replace hwW := hide hwW
  replace b0 := hide b0
  replace b1 := hide b1
  have hx : ∀ w', Below W.heap.size W w' → Rd w' w'.heap.size A n c xs := fun w' hS => H.out.there hB hwW.out hS
  replace hx := hide hx
  refine (rnorm_any _ _ A n c xs (hx.out _ hS0) (Nat.le_refl _)).mono ?_
  intro e w1 hr
  obtain ⟨A1, c1, rfl, R1, hb1⟩ := RetOwn.nat hr
  clear hr
  have hS1 : Below W.heap.size W w1 := Below.then_ hS0 hb1
  have hT1 := hS1.mono hg.out
  replace hb1 := hide hb1
  rw [← hn1.out] at R1 ⊢
  replace R1 := hide R1
  go_wp2
  exact bodyPost_ret (v := .agg #[.bool true, .slice A1 n1 c1]) (by simp [results, Try.results118, go_sem, c10 _ hS1, c11 _ hS1]) rfl (RetInt.box' (hwW.out.trans (hS1.mono hwW.out.size)) (by omega) (c10 _ hS1) (c11 _ hS1) R1.out (fun h => absurd h hm.out))

set_option maxHeartbeats 4000000 in
theorem rinorm_nul (w : World) (Bd : Nat) (A : Option Addr) (n c : Nat) (xs : List Nat) (h : Rd w Bd A n c xs) (hB : Bd ≤ w.heap.size) (hm : val xs = 0) :
    Calls Try.prog 118 #[.agg #[.bool true, .slice A n c]] w (RetInt w (iv false (val xs))) := by
  have H := hide h
  clear h
  obtain ⟨n1, hn1⟩ : ∃ n1, n1 = (dig (val xs)).length := ⟨_, rfl⟩
  obtain rfl : n1 = 0 := by rw [hn1, hm, dig_zero]; rfl
  replace hm := hide hm
  replace hn1 := hide hn1
  obtain ⟨W, hW⟩ : ∃ W, W = ((w.alloc (.cells #[.bool true, .slice A n c] 25)).alloc (.cells #[.bool false, .slice none 0 0] 25)) := ⟨_, rfl⟩
  have b0 : Box W (w.heap.size) (.bool true) (.slice A n c) := by rw [hW]; exact ((Box.new w _ _ rfl).al _)
  have b1 : Box W (w.heap.size + 1) (.bool false) (.slice none 0 0) := by rw [hW]; exact (Box.new _ _ _ (by simp))
  have hwW : Below w.heap.size w W := by rw [hW]; exact (((Below.refl _ _).alloc (Nat.le_refl _) _).alloc (by simp) _)
  have hsz : W.heap.size = w.heap.size + 2 := by rw [hW]; simp
  replace hsz := hide hsz
  go_enter Try.func118, Try.ntmps118
  go_wp2_with fail
  rw [← hW]
  clear hW
  have hg : w.heap.size + 1 ≤ W.heap.size := by have := hsz.out; omega
  have c00 := b0.at0 (B := w.heap.size + 1) (by omega) hg
  have c01 := b0.at1 (B := w.heap.size + 1) (by omega) hg
  have c10 := b1.at0 b1.lt_size (Nat.le_refl _)
  have c11 := b1.at1 b1.lt_size (Nat.le_refl _)
  have f10 := b1.free0 b1.lt_size (Nat.le_refl _)
  have f11 := b1.free1 b1.lt_size (Nat.le_refl _)
  have l1 := b1.lt b1.lt_size (Nat.le_refl _)
  have hS0 : Below W.heap.size W W := Below.refl _ _
  have hT0 := hS0.mono hg
  replace hg := hide hg
  replace hwW := hide hwW
  replace b0 := hide b0
  replace b1 := hide b1
  have hx : ∀ w', Below W.heap.size W w' → Rd w' w'.heap.size A n c xs := fun w' hS => H.out.there hB hwW.out hS
  replace hx := hide hx
  refine (rnorm_any _ _ A n c xs (hx.out _ hS0) (Nat.le_refl _)).mono ?_
  intro e w1 hr
  obtain ⟨A1, c1, rfl, R1, hb1⟩ := RetOwn.nat hr
  clear hr
  have hS1 : Below W.heap.size W w1 := Below.then_ hS0 hb1
  have hT1 := hS1.mono hg.out
  replace hb1 := hide hb1
  rw [← hn1.out] at R1 ⊢
  replace R1 := hide R1
  go_wp2
  exact bodyPost_ret (v := .agg #[.bool false, .slice A1 0 c1]) (by simp [results, Try.results118, go_sem, c10 _ hS1, c11 _ hS1]) rfl (RetInt.box' (hwW.out.trans (hS1.mono hwW.out.size)) (by omega) (c10 _ hS1) (c11 _ hS1) R1.out (fun _ => rfl))

theorem rinorm_any (w : World) (Bd : Nat) (s : Bool) (A : Option Addr) (n c : Nat) (xs : List Nat) (h : Rd w Bd A n c xs) (hB : Bd ≤ w.heap.size) :
    Calls Try.prog 118 #[.agg #[.bool s, .slice A n c]] w (RetInt w (iv s (val xs))) := by
  cases s
  · exact rinorm_pos w Bd A n c xs h hB
  · by_cases hm : val xs = 0
    · have := rinorm_nul w Bd A n c xs h hB hm
      rw [hm, iv_zero] at *
      exact this
    · exact rinorm_neg w Bd A n c xs h hB hm

set_option maxHeartbeats 4000000 in
theorem rimake_any (w : World) (Bd : Nat) (s : Bool) (A : Option Addr) (n c : Nat) (xs : List Nat) (h : Rd w Bd A n c xs) (hB : Bd ≤ w.heap.size) :
    Calls Try.prog 101 #[.bool s, .slice A n c] w (RetInt w (iv s (val xs))) := by
  obtain ⟨z, hz0⟩ : ∃ z, z = iv s (val xs) := ⟨_, rfl⟩
  rw [← hz0]
  replace hz0 := hide hz0
  have H := hide h
  clear h
  obtain ⟨W, hW⟩ : ∃ W, W = (w.alloc (.cells #[.bool false, .slice none 0 0] 25)) := ⟨_, rfl⟩
  have b0 : Box W (w.heap.size) (.bool false) (.slice none 0 0) := by rw [hW]; exact (Box.new w _ _ rfl)
  have hwW : Below w.heap.size w W := by rw [hW]; exact ((Below.refl _ _).alloc (Nat.le_refl _) _)
  have hsz : W.heap.size = w.heap.size + 1 := by rw [hW]; simp
  replace hsz := hide hsz
  go_enter Try.func101, Try.ntmps101
  go_wp2_with fail
  rw [← hW]
  clear hW
  have hg : w.heap.size ≤ W.heap.size := by have := hsz.out; omega
  have c00 := b0.at0 b0.lt_size (Nat.le_refl _)
  have c01 := b0.at1 b0.lt_size (Nat.le_refl _)
  have f00 := b0.free0 b0.lt_size (Nat.le_refl _)
  have f01 := b0.free1 b0.lt_size (Nat.le_refl _)
  have l0 := b0.lt b0.lt_size (Nat.le_refl _)
  have hS0 : Below W.heap.size W W := Below.refl _ _
  have hT0 := hS0.mono hg
  replace hg := hide hg
  replace hwW := hide hwW
  replace b0 := hide b0
  have hx : ∀ w', Below W.heap.size W w' → Rd w' w'.heap.size A n c xs := fun w' hS => H.out.there hB hwW.out hS
  replace hx := hide hx
  refine (rinorm_any _ _ s A n c xs (hx.out _ hS0) (Nat.le_refl _)).mono ?_
  rw [← hz0.out]
  rintro e w1 ⟨A1, c1, rfl, R1, hb1⟩
  have hS1 : Below W.heap.size W w1 := Below.then_ hS0 hb1
  have hT1 := hS1.mono hg.out
  replace hb1 := hide hb1
  have R_z := hide R1
  clear R1
  go_wp2
  exact bodyPost_ret (v := .agg #[.bool (zneg z), .slice A1 (dig (zmag z)).length c1]) (by simp [results, Try.results101, go_sem, c00 _ hS1, c01 _ hS1]) rfl (RetInt.box (hwW.out.trans (hS1.mono hwW.out.size)) (by omega) (c00 _ hS1) (c01 _ hS1) R_z.out)

set_option maxHeartbeats 4000000 in
theorem rineg0 (w : World) (Bd : Nat) (s : Bool) (A : Option Addr) (n c : Nat) (xs : List Nat) (h : Rd w Bd A n c xs) (hB : Bd ≤ w.heap.size) :
    Calls Try.prog 121 #[.agg #[.bool s, .slice A n c]] w (RetInt w (iv (!s) (val xs))) := by
  obtain ⟨z, hz0⟩ : ∃ z, z = iv (!s) (val xs) := ⟨_, rfl⟩
  rw [← hz0]
  replace hz0 := hide hz0
  have H := hide h
  clear h
  obtain ⟨W, hW⟩ : ∃ W, W = ((w.alloc (.cells #[.bool s, .slice A n c] 25)).alloc (.cells #[.bool false, .slice none 0 0] 25)) := ⟨_, rfl⟩
  have b0 : Box W (w.heap.size) (.bool s) (.slice A n c) := by rw [hW]; exact ((Box.new w _ _ rfl).al _)
  have b1 : Box W (w.heap.size + 1) (.bool false) (.slice none 0 0) := by rw [hW]; exact (Box.new _ _ _ (by simp))
  have hwW : Below w.heap.size w W := by rw [hW]; exact (((Below.refl _ _).alloc (Nat.le_refl _) _).alloc (by simp) _)
  have hsz : W.heap.size = w.heap.size + 2 := by rw [hW]; simp
  replace hsz := hide hsz
  go_enter Try.func121, Try.ntmps121
  go_wp2_with fail
  rw [← hW]
  clear hW
  have hg : w.heap.size + 1 ≤ W.heap.size := by have := hsz.out; omega
  have c00 := b0.at0 (B := w.heap.size + 1) (by omega) hg
  have c01 := b0.at1 (B := w.heap.size + 1) (by omega) hg
  have c10 := b1.at0 b1.lt_size (Nat.le_refl _)
  have c11 := b1.at1 b1.lt_size (Nat.le_refl _)
  have f10 := b1.free0 b1.lt_size (Nat.le_refl _)
  have f11 := b1.free1 b1.lt_size (Nat.le_refl _)
  have l1 := b1.lt b1.lt_size (Nat.le_refl _)
  have hS0 : Below W.heap.size W W := Below.refl _ _
  have hT0 := hS0.mono hg
  replace hg := hide hg
  replace hwW := hide hwW
  replace b0 := hide b0
  replace b1 := hide b1
  have hx : ∀ w', Below W.heap.size W w' → Rd w' w'.heap.size A n c xs := fun w' hS => H.out.there hB hwW.out hS
  replace hx := hide hx
  refine (rimake_any _ _ (!s) A n c xs (hx.out _ hS0) (Nat.le_refl _)).mono ?_
  rw [← hz0.out]
  rintro e w1 ⟨A1, c1, rfl, R1, hb1⟩
  have hS1 : Below W.heap.size W w1 := Below.then_ hS0 hb1
  have hT1 := hS1.mono hg.out
  replace hb1 := hide hb1
  have R_z := hide R1
  clear R1
  go_wp2
  exact bodyPost_ret (v := .agg #[.bool (zneg z), .slice A1 (dig (zmag z)).length c1]) (by simp [results, Try.results121, go_sem, c10 _ hS1, c11 _ hS1]) rfl (RetInt.box (hwW.out.trans (hS1.mono hwW.out.size)) (by omega) (c10 _ hS1) (c11 _ hS1) R_z.out)

theorem rineg_any (w : World) (Bd : Nat) (s : Bool) (A : Option Addr) (n c : Nat) (xs : List Nat) (h : Rd w Bd A n c xs) (hB : Bd ≤ w.heap.size) : Calls Try.prog 121 #[.agg #[.bool s, .slice A n c]] w (RetInt w (-iv s (val xs))) := by
  rw [← iv_not]
  exact rineg0 w Bd s A n c xs h hB

set_option maxHeartbeats 4000000 in
theorem riof_neg (w : World) (z : Int) (h0 : -9223372036854775808 ≤ z) (h1 : z ≤ 9223372036854775807) (hn : z < 0) :
    Calls Try.prog 98 #[.int .i64 z] w (RetInt w z) := by
  obtain ⟨m, hm⟩ : ∃ m : Nat, m = (-z).toNat := ⟨_, rfl⟩
  have e1 : -(z + 1) + 1 = (m : Int) := by omega
  have hm2 : m < 18446744073709551616 := by omega
  have e2 : iv true (val (dig m)) = z := by rw [val_dig, iv_true]; omega
  replace e1 := hide e1
  replace e2 := hide e2
  clear hm
  obtain ⟨W, hW⟩ : ∃ W, W = (w.alloc (.cells #[.bool false, .slice none 0 0] 25)) := ⟨_, rfl⟩
  have b0 : Box W (w.heap.size) (.bool false) (.slice none 0 0) := by rw [hW]; exact (Box.new w _ _ rfl)
  have hwW : Below w.heap.size w W := by rw [hW]; exact ((Below.refl _ _).alloc (Nat.le_refl _) _)
  have hsz : W.heap.size = w.heap.size + 1 := by rw [hW]; simp
  replace hsz := hide hsz
  go_enter Try.func98, Try.ntmps98
  go_wp2_with fail
  rw [← hW]
  clear hW
  have hg : w.heap.size ≤ W.heap.size := by have := hsz.out; omega
  have c00 := b0.at0 b0.lt_size (Nat.le_refl _)
  have c01 := b0.at1 b0.lt_size (Nat.le_refl _)
  have f00 := b0.free0 b0.lt_size (Nat.le_refl _)
  have f01 := b0.free1 b0.lt_size (Nat.le_refl _)
  have l0 := b0.lt b0.lt_size (Nat.le_refl _)
  have hS0 : Below W.heap.size W W := Below.refl _ _
  have hT0 := hS0.mono hg
  replace hg := hide hg
  replace hwW := hide hwW
  replace b0 := hide b0
  rw [e1.out]
  refine (rof_any _ m hm2).mono ?_
  rintro e w1 ⟨A1, c1, rfl, R1, hb1⟩
  have hS1 : Below W.heap.size W w1 := Below.then_ hS0 hb1
  have hT1 := hS1.mono hg.out
  replace hb1 := hide hb1
  replace R1 := hide R1
  go_wp2_with fail
  refine (rimake_any _ _ true _ _ _ _ R1.out (Nat.le_refl _)).mono ?_
  rw [e2.out]
  rintro e w2 ⟨A2, c2, rfl, R2, hb2⟩
  have hS2 : Below W.heap.size W w2 := Below.then_ hS1 hb2
  have hT2 := hS2.mono hg.out
  replace hb2 := hide hb2
  have R_z := hide R2
  clear R2
  go_wp2
  exact bodyPost_ret (v := .agg #[.bool (zneg z), .slice A2 (dig (zmag z)).length c2]) (by simp [results, Try.results98, go_sem, c00 _ hS2, c01 _ hS2]) rfl (RetInt.box (hwW.out.trans (hS2.mono hwW.out.size)) (by omega) (c00 _ hS2) (c01 _ hS2) R_z.out)

set_option maxHeartbeats 4000000 in
theorem riof_pos (w : World) (z : Int) (h0 : -9223372036854775808 ≤ z) (h1 : z ≤ 9223372036854775807) (hn : ¬ z < 0) :
    Calls Try.prog 98 #[.int .i64 z] w (RetInt w z) := by
  obtain ⟨m, rfl⟩ : ∃ m : Nat, z = m := ⟨z.toNat, by omega⟩
  have hm2 : m < 18446744073709551616 := by omega
  have e2 : iv false (val (dig m)) = (m : Int) := by rw [val_dig, iv_false]
  suffices H : ∀ z' : Int, iv false (val (dig m)) = z' → Calls Try.prog 98 #[.int .i64 (m : Int)] w (RetInt w z') from H _ e2
  clear e2
  intro z e2
  replace e2 := hide e2
  clear h0 hn
  obtain ⟨W, hW⟩ : ∃ W, W = (w.alloc (.cells #[.bool false, .slice none 0 0] 25)) := ⟨_, rfl⟩
  have b0 : Box W (w.heap.size) (.bool false) (.slice none 0 0) := by rw [hW]; exact (Box.new w _ _ rfl)
  have hwW : Below w.heap.size w W := by rw [hW]; exact ((Below.refl _ _).alloc (Nat.le_refl _) _)
  have hsz : W.heap.size = w.heap.size + 1 := by rw [hW]; simp
  replace hsz := hide hsz
  go_enter Try.func98, Try.ntmps98
  go_wp2_with fail
  rw [← hW]
  clear hW
  have hg : w.heap.size ≤ W.heap.size := by have := hsz.out; omega
  have c00 := b0.at0 b0.lt_size (Nat.le_refl _)
  have c01 := b0.at1 b0.lt_size (Nat.le_refl _)
  have f00 := b0.free0 b0.lt_size (Nat.le_refl _)
  have f01 := b0.free1 b0.lt_size (Nat.le_refl _)
  have l0 := b0.lt b0.lt_size (Nat.le_refl _)
  have hS0 : Below W.heap.size W W := Below.refl _ _
  have hT0 := hS0.mono hg
  replace hg := hide hg
  replace hwW := hide hwW
  replace b0 := hide b0
  refine (rof_any _ m hm2).mono ?_
  rintro e w1 ⟨A1, c1, rfl, R1, hb1⟩
  have hS1 : Below W.heap.size W w1 := Below.then_ hS0 hb1
  have hT1 := hS1.mono hg.out
  replace hb1 := hide hb1
  replace R1 := hide R1
  go_wp2_with fail
  refine (rimake_any _ _ false _ _ _ _ R1.out (Nat.le_refl _)).mono ?_
  rw [e2.out]
  rintro e w2 ⟨A2, c2, rfl, R2, hb2⟩
  have hS2 : Below W.heap.size W w2 := Below.then_ hS1 hb2
  have hT2 := hS2.mono hg.out
  replace hb2 := hide hb2
  have R_z := hide R2
  clear R2
  go_wp2
  exact bodyPost_ret (v := .agg #[.bool (zneg z), .slice A2 (dig (zmag z)).length c2]) (by simp [results, Try.results98, go_sem, c00 _ hS2, c01 _ hS2]) rfl (RetInt.box (hwW.out.trans (hS2.mono hwW.out.size)) (by omega) (c00 _ hS2) (c01 _ hS2) R_z.out)

theorem riof_any (w : World) (z : Int) (h0 : -9223372036854775808 ≤ z) (h1 : z ≤ 9223372036854775807) :
    Calls Try.prog 98 #[.int .i64 z] w (RetInt w z) := by
  by_cases hn : z < 0
  · exact riof_neg w z h0 h1 hn
  · exact riof_pos w z h0 h1 hn

set_option maxHeartbeats 4000000 in
theorem risign_neg (w : World) (Bd : Nat) (s : Bool) (A : Option Addr) (n c : Nat) (xs : List Nat) (h : Rd w Bd A n c xs) (hB : Bd ≤ w.heap.size) (hp0 : sgn (iv s (val xs)) = -1) :
    Calls Try.prog 124 #[.agg #[.bool s, .slice A n c]] w (RetB w (.int .i64 (-1))) := by
  obtain ⟨z, hz0⟩ : ∃ z, z = iv s (val xs) := ⟨_, rfl⟩
  rw [← hz0] at hp0
  replace hz0 := hide hz0
  have hzn : zneg z = true := by have := (sgn_neg_iff z).1 hp0; simp [zneg, this]
  replace hzn := hide hzn
  obtain ⟨n1, hn1⟩ : ∃ n1, n1 = (dig (zmag z)).length := ⟨_, rfl⟩
  have hl : 0 < n1 := by rw [hn1]; refine Nat.pos_of_ne_zero (mt dig_len_zero.1 ?_); have := sgn_three z; unfold zmag; omega
  replace hn1 := hide hn1
  clear hp0
  have H := hide h
  clear h
  obtain ⟨W, hW⟩ : ∃ W, W = (w.alloc (.cells #[.bool s, .slice A n c] 25)) := ⟨_, rfl⟩
  have b0 : Box W (w.heap.size) (.bool s) (.slice A n c) := by rw [hW]; exact (Box.new w _ _ rfl)
  have hwW : Below w.heap.size w W := by rw [hW]; exact ((Below.refl _ _).alloc (Nat.le_refl _) _)
  have hsz : W.heap.size = w.heap.size + 1 := by rw [hW]; simp
  replace hsz := hide hsz
  go_enter Try.func124, Try.ntmps124
  go_wp2_with fail
  rw [← hW]
  clear hW
  have hg : w.heap.size + 1 ≤ W.heap.size := by have := hsz.out; omega
  have c00 := b0.at0 (B := w.heap.size + 1) (by omega) hg
  have c01 := b0.at1 (B := w.heap.size + 1) (by omega) hg
  have hS0 : Below W.heap.size W W := Below.refl _ _
  have hT0 := hS0.mono hg
  replace hg := hide hg
  replace hwW := hide hwW
  replace b0 := hide b0
  have hx : ∀ w', Below W.heap.size W w' → Rd w' w'.heap.size A n c xs := fun w' hS => H.out.there hB hwW.out hS
  replace hx := hide hx
  refine (rinorm_any _ _ s A n c xs (hx.out _ hS0) (Nat.le_refl _)).mono ?_
  rw [← hz0.out]
  rintro e w1 ⟨A1, c1, rfl, R1, hb1⟩
  have hS1 : Below W.heap.size W w1 := Below.then_ hS0 hb1
  have hT1 := hS1.mono hg.out
  replace hb1 := hide hb1
  rw [← hn1.out, hzn.out]
  clear R1
  have hb2 := hide (hwW.out.trans (((hS1.mono hwW.out.size)).alloc (by have := hwW.out.size; have := hS1.size; omega) (.cells #[.bool true, .slice A1 n1 c1] 25)))
  go_wp2
  go_ret
  exact ⟨rfl, hb2.out⟩

set_option maxHeartbeats 4000000 in
theorem risign_nul (w : World) (Bd : Nat) (s : Bool) (A : Option Addr) (n c : Nat) (xs : List Nat) (h : Rd w Bd A n c xs) (hB : Bd ≤ w.heap.size) (hp0 : sgn (iv s (val xs)) = 0) :
    Calls Try.prog 124 #[.agg #[.bool s, .slice A n c]] w (RetB w (.int .i64 (0))) := by
  obtain ⟨z, hz0⟩ : ∃ z, z = iv s (val xs) := ⟨_, rfl⟩
  rw [← hz0] at hp0
  replace hz0 := hide hz0
  have hzn : zneg z = false := by have := sgn_three z; simp [zneg]; omega
  replace hzn := hide hzn
  obtain ⟨n1, hn1⟩ : ∃ n1, n1 = (dig (zmag z)).length := ⟨_, rfl⟩
  obtain rfl : n1 = 0 := by rw [hn1, (sgn_zero_iff z).1 hp0, show zmag 0 = 0 from rfl, dig_zero]; rfl
  replace hn1 := hide hn1
  clear hp0
  have H := hide h
  clear h
  obtain ⟨W, hW⟩ : ∃ W, W = (w.alloc (.cells #[.bool s, .slice A n c] 25)) := ⟨_, rfl⟩
  have b0 : Box W (w.heap.size) (.bool s) (.slice A n c) := by rw [hW]; exact (Box.new w _ _ rfl)
  have hwW : Below w.heap.size w W := by rw [hW]; exact ((Below.refl _ _).alloc (Nat.le_refl _) _)
  have hsz : W.heap.size = w.heap.size + 1 := by rw [hW]; simp
  replace hsz := hide hsz
  go_enter Try.func124, Try.ntmps124
  go_wp2_with fail
  rw [← hW]
  clear hW
  have hg : w.heap.size + 1 ≤ W.heap.size := by have := hsz.out; omega
  have c00 := b0.at0 (B := w.heap.size + 1) (by omega) hg
  have c01 := b0.at1 (B := w.heap.size + 1) (by omega) hg
  have hS0 : Below W.heap.size W W := Below.refl _ _
  have hT0 := hS0.mono hg
  replace hg := hide hg
  replace hwW := hide hwW
  replace b0 := hide b0
  have hx : ∀ w', Below W.heap.size W w' → Rd w' w'.heap.size A n c xs := fun w' hS => H.out.there hB hwW.out hS
  replace hx := hide hx
  refine (rinorm_any _ _ s A n c xs (hx.out _ hS0) (Nat.le_refl _)).mono ?_
  rw [← hz0.out]
  rintro e w1 ⟨A1, c1, rfl, R1, hb1⟩
  have hS1 : Below W.heap.size W w1 := Below.then_ hS0 hb1
  have hT1 := hS1.mono hg.out
  replace hb1 := hide hb1
  rw [← hn1.out, hzn.out]
  clear R1
  have hb2 := hide (hwW.out.trans (((hS1.mono hwW.out.size)).alloc (by have := hwW.out.size; have := hS1.size; omega) (.cells #[.bool false, .slice A1 0 c1] 25)))
  go_wp2
  go_ret
  exact ⟨rfl, hb2.out⟩

set_option maxHeartbeats 4000000 in
theorem risign_pos (w : World) (Bd : Nat) (s : Bool) (A : Option Addr) (n c : Nat) (xs : List Nat) (h : Rd w Bd A n c xs) (hB : Bd ≤ w.heap.size) (hp0 : sgn (iv s (val xs)) = 1) :
    Calls Try.prog 124 #[.agg #[.bool s, .slice A n c]] w (RetB w (.int .i64 (1))) := by
  obtain ⟨z, hz0⟩ : ∃ z, z = iv s (val xs) := ⟨_, rfl⟩
  rw [← hz0] at hp0
  replace hz0 := hide hz0
  have hzn : zneg z = false := by have := sgn_three z; simp [zneg]; omega
  replace hzn := hide hzn
  obtain ⟨n1, hn1⟩ : ∃ n1, n1 = (dig (zmag z)).length := ⟨_, rfl⟩
  have hl : 0 < n1 := by rw [hn1]; refine Nat.pos_of_ne_zero (mt dig_len_zero.1 ?_); have := sgn_three z; unfold zmag; omega
  replace hn1 := hide hn1
  clear hp0
  have H := hide h
  clear h
  obtain ⟨W, hW⟩ : ∃ W, W = (w.alloc (.cells #[.bool s, .slice A n c] 25)) := ⟨_, rfl⟩
  have b0 : Box W (w.heap.size) (.bool s) (.slice A n c) := by rw [hW]; exact (Box.new w _ _ rfl)
  have hwW : Below w.heap.size w W := by rw [hW]; exact ((Below.refl _ _).alloc (Nat.le_refl _) _)
  have hsz : W.heap.size = w.heap.size + 1 := by rw [hW]; simp
  replace hsz := hide hsz
  go_enter Try.func124, Try.ntmps124
  go_wp2_with fail
  rw [← hW]
  clear hW
  have hg : w.heap.size + 1 ≤ W.heap.size := by have := hsz.out; omega
  have c00 := b0.at0 (B := w.heap.size + 1) (by omega) hg
  have c01 := b0.at1 (B := w.heap.size + 1) (by omega) hg
  have hS0 : Below W.heap.size W W := Below.refl _ _
  have hT0 := hS0.mono hg
  replace hg := hide hg
  replace hwW := hide hwW
  replace b0 := hide b0
  have hx : ∀ w', Below W.heap.size W w' → Rd w' w'.heap.size A n c xs := fun w' hS => H.out.there hB hwW.out hS
  replace hx := hide hx
  refine (rinorm_any _ _ s A n c xs (hx.out _ hS0) (Nat.le_refl _)).mono ?_
  rw [← hz0.out]
  rintro e w1 ⟨A1, c1, rfl, R1, hb1⟩
  have hS1 : Below W.heap.size W w1 := Below.then_ hS0 hb1
  have hT1 := hS1.mono hg.out
  replace hb1 := hide hb1
  rw [← hn1.out, hzn.out]
  clear R1
  have hb2 := hide (hwW.out.trans (((hS1.mono hwW.out.size)).alloc (by have := hwW.out.size; have := hS1.size; omega) (.cells #[.bool false, .slice A1 n1 c1] 25)))
  go_wp2
  go_ret
  exact ⟨rfl, hb2.out⟩

theorem risign_any (w : World) (Bd : Nat) (s : Bool) (A : Option Addr) (n c : Nat) (xs : List Nat) (h : Rd w Bd A n c xs) (hB : Bd ≤ w.heap.size) : Calls Try.prog 124 #[.agg #[.bool s, .slice A n c]] w (RetB w (.int .i64 (sgn (iv s (val xs))))) := by
  rcases sgn_three (iv s (val xs)) with ⟨hx, _⟩ | ⟨hx, _⟩ | ⟨hx, _⟩ <;> rw [hx]
  · exact risign_neg w Bd s A n c xs h hB hx
  · exact risign_nul w Bd s A n c xs h hB hx
  · exact risign_pos w Bd s A n c xs h hB hx
end

section
open Go.RowKit

set_option maxHeartbeats 4000000 in
theorem rimul0 (w : World) (Bd : Nat) (s s' : Bool) (A A' : Option Addr) (n c n' c' : Nat) (xs ys : List Nat) (h : Rd w Bd A n c xs) (h' : Rd w Bd A' n' c' ys) (hB : Bd ≤ w.heap.size) (hn : n + n' ≤ 70368744177664) :
    Calls Try.prog 99 #[.agg #[.bool s, .slice A n c], .agg #[.bool s', .slice A' n' c']] w (RetInt w (iv (!(s == s')) (val xs * val ys))) := by
  obtain ⟨z, hz0⟩ : ∃ z, z = iv (!(s == s')) (val xs * val ys) := ⟨_, rfl⟩
  rw [← hz0]
  replace hz0 := hide hz0
  have H := hide h
  have H' := hide h'
  clear h h'
  obtain ⟨W, hW⟩ : ∃ W, W = (((w.alloc (.cells #[.bool s, .slice A n c] 25)).alloc (.cells #[.bool s', .slice A' n' c'] 25)).alloc (.cells #[.bool false, .slice none 0 0] 25)) := ⟨_, rfl⟩
  have b0 : Box W (w.heap.size) (.bool s) (.slice A n c) := by rw [hW]; exact (((Box.new w _ _ rfl).al _).al _)
  have b1 : Box W (w.heap.size + 1) (.bool s') (.slice A' n' c') := by rw [hW]; exact ((Box.new _ _ _ (by simp)).al _)
  have b2 : Box W (w.heap.size + 1 + 1) (.bool false) (.slice none 0 0) := by rw [hW]; exact (Box.new _ _ _ (by simp))
  have hwW : Below w.heap.size w W := by rw [hW]; exact ((((Below.refl _ _).alloc (Nat.le_refl _) _).alloc (by simp) _).alloc (by simp; omega) _)
  have hsz : W.heap.size = w.heap.size + 3 := by rw [hW]; simp
  replace hsz := hide hsz
  go_enter Try.func99, Try.ntmps99
  go_wp2_with fail
  rw [← hW]
  clear hW
  have hg : w.heap.size + 1 + 1 ≤ W.heap.size := by have := hsz.out; omega
  have c00 := b0.at0 (B := w.heap.size + 1 + 1) (by omega) hg
  have c01 := b0.at1 (B := w.heap.size + 1 + 1) (by omega) hg
  have c10 := b1.at0 (B := w.heap.size + 1 + 1) (by omega) hg
  have c11 := b1.at1 (B := w.heap.size + 1 + 1) (by omega) hg
  have c20 := b2.at0 b2.lt_size (Nat.le_refl _)
  have c21 := b2.at1 b2.lt_size (Nat.le_refl _)
  have f20 := b2.free0 b2.lt_size (Nat.le_refl _)
  have f21 := b2.free1 b2.lt_size (Nat.le_refl _)
  have l2 := b2.lt b2.lt_size (Nat.le_refl _)
  have hS0 : Below W.heap.size W W := Below.refl _ _
  have hT0 := hS0.mono hg
  replace hg := hide hg
  replace hwW := hide hwW
  replace b0 := hide b0
  replace b1 := hide b1
  replace b2 := hide b2
  have hx : ∀ w', Below W.heap.size W w' → Rd w' w'.heap.size A n c xs := fun w' hS => H.out.there hB hwW.out hS
  have hy : ∀ w', Below W.heap.size W w' → Rd w' w'.heap.size A' n' c' ys := fun w' hS => H'.out.there hB hwW.out hS
  replace hx := hide hx
  replace hy := hide hy
  go_region_held3 (fun w' => Below (w.heap.size + 1 + 1) W w') (first | assumption | (with_reducible exact (Below.drw_ _).mono hg.out) | exact ((hT2.setCell (Nat.le_refl _) _).setCell (Nat.le_refl _) _))
    (first
      | (go_at_call 105; ((have hS : Below W.heap.size W _ := Below.drw_ W); (with_reducible refine (rmul_any _ _ A A' n c n' c' xs ys (hx.out _ hS) (hy.out _ hS) (Nat.le_refl _) hn).mono ?_); rintro e w1 ⟨A1, c1, rfl, R1, hb1⟩; have hS1 : Below W.heap.size W w1 := Below.then_ hS hb1; have hT1 := hS1.mono hg.out; replace hb1 := hide hb1))
      | (go_at_call 101; ((with_reducible refine (rimake_any _ _ (!(s == s')) _ _ _ _ R1 (Nat.le_refl _)).mono ?_); rw [val_dig, ← hz0.out]; rintro e w2 ⟨A2, c2, rfl, R2, hb2⟩; have hS2 : Below W.heap.size W w2 := Below.then_ hS1 hb2; have hT2 := hS2.mono hg.out; replace hb2 := hide hb2)))
  have R_z := hide R2
  clear R2
  go_wp2
  exact bodyPost_ret (v := .agg #[.bool (zneg z), .slice A2 (dig (zmag z)).length c2]) (by simp [results, Try.results99, go_sem, c20 _ hS2, c21 _ hS2]) rfl (RetInt.box (hwW.out.trans (hS2.mono hwW.out.size)) (by omega) (c20 _ hS2) (c21 _ hS2) R_z.out)

theorem rimul_any (w : World) (Bd : Nat) (s s' : Bool) (A A' : Option Addr) (n c n' c' : Nat) (xs ys : List Nat) (h : Rd w Bd A n c xs) (h' : Rd w Bd A' n' c' ys) (hB : Bd ≤ w.heap.size) (hn : n + n' ≤ 70368744177664) :
    Calls Try.prog 99 #[.agg #[.bool s, .slice A n c], .agg #[.bool s', .slice A' n' c']] w (RetInt w (iv s (val xs) * iv s' (val ys))) := by
  rw [← iv_mul]
  exact rimul0 w Bd s s' A A' n c n' c' xs ys h h' hB hn

set_option maxHeartbeats 4000000 in
theorem ricmp_any_lt (w : World) (Bd : Nat) (s s' : Bool) (A A' : Option Addr) (n c n' c' : Nat) (xs ys : List Nat) (h : Rd w Bd A n c xs) (h' : Rd w Bd A' n' c' ys) (hB : Bd ≤ w.heap.size) (p q : Int) (hp0 : sgn (iv s (val xs)) = p) (hq0 : sgn (iv s' (val ys)) = q) (hpq : p < q) :
    Calls Try.prog 103 #[.agg #[.bool s, .slice A n c], .agg #[.bool s', .slice A' n' c']] w (RetB w (.int .i64 (sgn (iv s (val xs) - iv s' (val ys))))) := by
  obtain ⟨z, hz0⟩ : ∃ z : Int, z = sgn (iv s (val xs) - iv s' (val ys)) := ⟨_, rfl⟩
  rw [← hz0]
  replace hz0 := hide hz0
  have H := hide h
  have H' := hide h'
  clear h h'
  have hz1 : z = -1 := by
    have h1 := sgn_ne (x := iv s (val xs)) (y := iv s' (val ys)) (by rw [hp0, hq0]; omega)
    rw [hz0.out, ← h1, hp0, hq0]
    exact (sgn_neg_iff _).2 (by omega)
  replace hz1 := hide hz1
  have hp := hide hp0
  have hq := hide hq0
  clear hp0 hq0
  clear hz0
  obtain ⟨W, hW⟩ : ∃ W, W = ((w.alloc (.cells #[.bool s, .slice A n c] 25)).alloc (.cells #[.bool s', .slice A' n' c'] 25)) := ⟨_, rfl⟩
  have b0 : Box W (w.heap.size) (.bool s) (.slice A n c) := by rw [hW]; exact ((Box.new w _ _ rfl).al _)
  have b1 : Box W (w.heap.size + 1) (.bool s') (.slice A' n' c') := by rw [hW]; exact (Box.new _ _ _ (by simp))
  have hwW : Below w.heap.size w W := by rw [hW]; exact (((Below.refl _ _).alloc (Nat.le_refl _) _).alloc (by simp) _)
  have hsz : W.heap.size = w.heap.size + 2 := by rw [hW]; simp
  replace hsz := hide hsz
  go_enter Try.func103, Try.ntmps103
  go_wp2_with fail
  rw [← hW]
  clear hW
  have hg : w.heap.size + 1 + 1 ≤ W.heap.size := by have := hsz.out; omega
  have c00 := b0.at0 (B := w.heap.size + 1 + 1) (by omega) hg
  have c01 := b0.at1 (B := w.heap.size + 1 + 1) (by omega) hg
  have c10 := b1.at0 (B := w.heap.size + 1 + 1) (by omega) hg
  have c11 := b1.at1 (B := w.heap.size + 1 + 1) (by omega) hg
  have hS0 : Below W.heap.size W W := Below.refl _ _
  have hT0 := hS0.mono hg
  replace hg := hide hg
  replace hwW := hide hwW
  replace b0 := hide b0
  replace b1 := hide b1
  have hx : ∀ w', Below W.heap.size W w' → Rd w' w'.heap.size A n c xs := fun w' hS => H.out.there hB hwW.out hS
  have hy : ∀ w', Below W.heap.size W w' → Rd w' w'.heap.size A' n' c' ys := fun w' hS => H'.out.there hB hwW.out hS
  replace hx := hide hx
  replace hy := hide hy
  refine (risign_any _ _ s A n c xs (hx.out _ hS0) (Nat.le_refl _)).mono ?_
  rw [hp.out]
  rintro e w1 ⟨rfl, hb1⟩
  have hS1 : Below W.heap.size W w1 := Below.then_ hS0 hb1
  have hT1 := hS1.mono hg.out
  replace hb1 := hide hb1
  go_wp2_with fail
  refine (risign_any _ _ s' A' n' c' ys (hy.out _ hS1) (Nat.le_refl _)).mono ?_
  rw [hq.out]
  rintro e w2 ⟨rfl, hb2⟩
  have hS2 : Below W.heap.size W w2 := Below.then_ hS1 hb2
  have hT2 := hS2.mono hg.out
  replace hb2 := hide hb2
  go_wp2
  go_ret
  rw [hz1.out]
  exact ⟨rfl, hwW.out.trans (hS2.mono hwW.out.size)⟩

set_option maxHeartbeats 4000000 in
theorem ricmp_any_gt (w : World) (Bd : Nat) (s s' : Bool) (A A' : Option Addr) (n c n' c' : Nat) (xs ys : List Nat) (h : Rd w Bd A n c xs) (h' : Rd w Bd A' n' c' ys) (hB : Bd ≤ w.heap.size) (p q : Int) (hp0 : sgn (iv s (val xs)) = p) (hq0 : sgn (iv s' (val ys)) = q) (hpq : q < p) :
    Calls Try.prog 103 #[.agg #[.bool s, .slice A n c], .agg #[.bool s', .slice A' n' c']] w (RetB w (.int .i64 (sgn (iv s (val xs) - iv s' (val ys))))) := by
  obtain ⟨z, hz0⟩ : ∃ z : Int, z = sgn (iv s (val xs) - iv s' (val ys)) := ⟨_, rfl⟩
  rw [← hz0]
  replace hz0 := hide hz0
  have H := hide h
  have H' := hide h'
  clear h h'
  have hz1 : z = 1 := by
    have h1 := sgn_ne (x := iv s (val xs)) (y := iv s' (val ys)) (by rw [hp0, hq0]; omega)
    rw [hz0.out, ← h1, hp0, hq0]
    exact (sgn_pos_iff _).2 (by omega)
  replace hz1 := hide hz1
  have hp := hide hp0
  have hq := hide hq0
  clear hp0 hq0
  have hpq' : ¬ p < q := by omega
  clear hz0
  obtain ⟨W, hW⟩ : ∃ W, W = ((w.alloc (.cells #[.bool s, .slice A n c] 25)).alloc (.cells #[.bool s', .slice A' n' c'] 25)) := ⟨_, rfl⟩
  have b0 : Box W (w.heap.size) (.bool s) (.slice A n c) := by rw [hW]; exact ((Box.new w _ _ rfl).al _)
  have b1 : Box W (w.heap.size + 1) (.bool s') (.slice A' n' c') := by rw [hW]; exact (Box.new _ _ _ (by simp))
  have hwW : Below w.heap.size w W := by rw [hW]; exact (((Below.refl _ _).alloc (Nat.le_refl _) _).alloc (by simp) _)
  have hsz : W.heap.size = w.heap.size + 2 := by rw [hW]; simp
  replace hsz := hide hsz
  go_enter Try.func103, Try.ntmps103
  go_wp2_with fail
  rw [← hW]
  clear hW
  have hg : w.heap.size + 1 + 1 ≤ W.heap.size := by have := hsz.out; omega
  have c00 := b0.at0 (B := w.heap.size + 1 + 1) (by omega) hg
  have c01 := b0.at1 (B := w.heap.size + 1 + 1) (by omega) hg
  have c10 := b1.at0 (B := w.heap.size + 1 + 1) (by omega) hg
  have c11 := b1.at1 (B := w.heap.size + 1 + 1) (by omega) hg
  have hS0 : Below W.heap.size W W := Below.refl _ _
  have hT0 := hS0.mono hg
  replace hg := hide hg
  replace hwW := hide hwW
  replace b0 := hide b0
  replace b1 := hide b1
  have hx : ∀ w', Below W.heap.size W w' → Rd w' w'.heap.size A n c xs := fun w' hS => H.out.there hB hwW.out hS
  have hy : ∀ w', Below W.heap.size W w' → Rd w' w'.heap.size A' n' c' ys := fun w' hS => H'.out.there hB hwW.out hS
  replace hx := hide hx
  replace hy := hide hy
  refine (risign_any _ _ s A n c xs (hx.out _ hS0) (Nat.le_refl _)).mono ?_
  rw [hp.out]
  rintro e w1 ⟨rfl, hb1⟩
  have hS1 : Below W.heap.size W w1 := Below.then_ hS0 hb1
  have hT1 := hS1.mono hg.out
  replace hb1 := hide hb1
  go_wp2_with fail
  refine (risign_any _ _ s' A' n' c' ys (hy.out _ hS1) (Nat.le_refl _)).mono ?_
  rw [hq.out]
  rintro e w2 ⟨rfl, hb2⟩
  have hS2 : Below W.heap.size W w2 := Below.then_ hS1 hb2
  have hT2 := hS2.mono hg.out
  replace hb2 := hide hb2
  go_wp2
  go_ret
  rw [hz1.out]
  exact ⟨rfl, hwW.out.trans (hS2.mono hwW.out.size)⟩

set_option maxHeartbeats 4000000 in
theorem ricmp_any_neg (w : World) (Bd : Nat) (s s' : Bool) (A A' : Option Addr) (n c n' c' : Nat) (xs ys : List Nat) (h : Rd w Bd A n c xs) (h' : Rd w Bd A' n' c' ys) (hB : Bd ≤ w.heap.size) (hp0 : sgn (iv s (val xs)) = -1) (hq0 : sgn (iv s' (val ys)) = -1) :
    Calls Try.prog 103 #[.agg #[.bool s, .slice A n c], .agg #[.bool s', .slice A' n' c']] w (RetB w (.int .i64 (sgn (iv s (val xs) - iv s' (val ys))))) := by
  obtain ⟨z, hz0⟩ : ∃ z : Int, z = sgn (iv s (val xs) - iv s' (val ys)) := ⟨_, rfl⟩
  rw [← hz0]
  replace hz0 := hide hz0
  have H := hide h
  have H' := hide h'
  clear h h'
  have hz1 : z = cmpN (val ys) (val xs) := by rw [hz0.out, cmpN_sgn, iv_neg hp0, iv_neg hq0]; exact congrArg sgn (by omega)
  replace hz0 := hide hz1
  clear hz1
  have hp := hide hp0
  have hq := hide hq0
  clear hp0 hq0
  obtain ⟨W, hW⟩ : ∃ W, W = ((w.alloc (.cells #[.bool s, .slice A n c] 25)).alloc (.cells #[.bool s', .slice A' n' c'] 25)) := ⟨_, rfl⟩
  have b0 : Box W (w.heap.size) (.bool s) (.slice A n c) := by rw [hW]; exact ((Box.new w _ _ rfl).al _)
  have b1 : Box W (w.heap.size + 1) (.bool s') (.slice A' n' c') := by rw [hW]; exact (Box.new _ _ _ (by simp))
  have hwW : Below w.heap.size w W := by rw [hW]; exact (((Below.refl _ _).alloc (Nat.le_refl _) _).alloc (by simp) _)
  have hsz : W.heap.size = w.heap.size + 2 := by rw [hW]; simp
  replace hsz := hide hsz
  go_enter Try.func103, Try.ntmps103
  go_wp2_with fail
  rw [← hW]
  clear hW
  have hg : w.heap.size + 1 + 1 ≤ W.heap.size := by have := hsz.out; omega
  have c00 := b0.at0 (B := w.heap.size + 1 + 1) (by omega) hg
  have c01 := b0.at1 (B := w.heap.size + 1 + 1) (by omega) hg
  have c10 := b1.at0 (B := w.heap.size + 1 + 1) (by omega) hg
  have c11 := b1.at1 (B := w.heap.size + 1 + 1) (by omega) hg
  have hS0 : Below W.heap.size W W := Below.refl _ _
  have hT0 := hS0.mono hg
  replace hg := hide hg
  replace hwW := hide hwW
  replace b0 := hide b0
  replace b1 := hide b1
  have hx : ∀ w', Below W.heap.size W w' → Rd w' w'.heap.size A n c xs := fun w' hS => H.out.there hB hwW.out hS
  have hy : ∀ w', Below W.heap.size W w' → Rd w' w'.heap.size A' n' c' ys := fun w' hS => H'.out.there hB hwW.out hS
  replace hx := hide hx
  replace hy := hide hy
  refine (risign_any _ _ s A n c xs (hx.out _ hS0) (Nat.le_refl _)).mono ?_
  rw [hp.out]
  rintro e w1 ⟨rfl, hb1⟩
  have hS1 : Below W.heap.size W w1 := Below.then_ hS0 hb1
  have hT1 := hS1.mono hg.out
  replace hb1 := hide hb1
  go_wp2_with fail
  refine (risign_any _ _ s' A' n' c' ys (hy.out _ hS1) (Nat.le_refl _)).mono ?_
  rw [hq.out]
  rintro e w2 ⟨rfl, hb2⟩
  have hS2 : Below W.heap.size W w2 := Below.then_ hS1 hb2
  have hT2 := hS2.mono hg.out
  replace hb2 := hide hb2
  go_wp2_with fail
  refine (rcmp_any _ _ A' A n' c' n c ys xs (hy.out _ hS2) (hx.out _ hS2)).mono ?_
  rw [← hz0.out]
  rintro e w3 ⟨rfl, rfl⟩
  go_wp2
  go_ret
  exact ⟨rfl, hwW.out.trans (hS2.mono hwW.out.size)⟩

set_option maxHeartbeats 4000000 in
theorem ricmp_any_nul (w : World) (Bd : Nat) (s s' : Bool) (A A' : Option Addr) (n c n' c' : Nat) (xs ys : List Nat) (h : Rd w Bd A n c xs) (h' : Rd w Bd A' n' c' ys) (hB : Bd ≤ w.heap.size) (hp0 : sgn (iv s (val xs)) = 0) (hq0 : sgn (iv s' (val ys)) = 0) :
    Calls Try.prog 103 #[.agg #[.bool s, .slice A n c], .agg #[.bool s', .slice A' n' c']] w (RetB w (.int .i64 (sgn (iv s (val xs) - iv s' (val ys))))) := by
  obtain ⟨z, hz0⟩ : ∃ z : Int, z = sgn (iv s (val xs) - iv s' (val ys)) := ⟨_, rfl⟩
  rw [← hz0]
  replace hz0 := hide hz0
  have H := hide h
  have H' := hide h'
  clear h h'
  have hz1 : z = cmpN (val xs) (val ys) := by rw [hz0.out, cmpN_sgn, iv_pos (by omega), iv_pos (by omega)]
  replace hz0 := hide hz1
  clear hz1
  have hp := hide hp0
  have hq := hide hq0
  clear hp0 hq0
  obtain ⟨W, hW⟩ : ∃ W, W = ((w.alloc (.cells #[.bool s, .slice A n c] 25)).alloc (.cells #[.bool s', .slice A' n' c'] 25)) := ⟨_, rfl⟩
  have b0 : Box W (w.heap.size) (.bool s) (.slice A n c) := by rw [hW]; exact ((Box.new w _ _ rfl).al _)
  have b1 : Box W (w.heap.size + 1) (.bool s') (.slice A' n' c') := by rw [hW]; exact (Box.new _ _ _ (by simp))
  have hwW : Below w.heap.size w W := by rw [hW]; exact (((Below.refl _ _).alloc (Nat.le_refl _) _).alloc (by simp) _)
  have hsz : W.heap.size = w.heap.size + 2 := by rw [hW]; simp
  replace hsz := hide hsz
  go_enter Try.func103, Try.ntmps103
  go_wp2_with fail
  rw [← hW]
  clear hW
  have hg : w.heap.size + 1 + 1 ≤ W.heap.size := by have := hsz.out; omega
  have c00 := b0.at0 (B := w.heap.size + 1 + 1) (by omega) hg
  have c01 := b0.at1 (B := w.heap.size + 1 + 1) (by omega) hg
  have c10 := b1.at0 (B := w.heap.size + 1 + 1) (by omega) hg
  have c11 := b1.at1 (B := w.heap.size + 1 + 1) (by omega) hg
  have hS0 : Below W.heap.size W W := Below.refl _ _
  have hT0 := hS0.mono hg
  replace hg := hide hg
  replace hwW := hide hwW
  replace b0 := hide b0
  replace b1 := hide b1
  have hx : ∀ w', Below W.heap.size W w' → Rd w' w'.heap.size A n c xs := fun w' hS => H.out.there hB hwW.out hS
  have hy : ∀ w', Below W.heap.size W w' → Rd w' w'.heap.size A' n' c' ys := fun w' hS => H'.out.there hB hwW.out hS
  replace hx := hide hx
  replace hy := hide hy
  refine (risign_any _ _ s A n c xs (hx.out _ hS0) (Nat.le_refl _)).mono ?_
  rw [hp.out]
  rintro e w1 ⟨rfl, hb1⟩
  have hS1 : Below W.heap.size W w1 := Below.then_ hS0 hb1
  have hT1 := hS1.mono hg.out
  replace hb1 := hide hb1
  go_wp2_with fail
  refine (risign_any _ _ s' A' n' c' ys (hy.out _ hS1) (Nat.le_refl _)).mono ?_
  rw [hq.out]
  rintro e w2 ⟨rfl, hb2⟩
  have hS2 : Below W.heap.size W w2 := Below.then_ hS1 hb2
  have hT2 := hS2.mono hg.out
  replace hb2 := hide hb2
  go_wp2_with fail
  refine (rcmp_any _ _ A A' n c n' c' xs ys (hx.out _ hS2) (hy.out _ hS2)).mono ?_
  rw [← hz0.out]
  rintro e w3 ⟨rfl, rfl⟩
  go_wp2
  go_ret
  exact ⟨rfl, hwW.out.trans (hS2.mono hwW.out.size)⟩

set_option maxHeartbeats 4000000 in
theorem ricmp_any_pos (w : World) (Bd : Nat) (s s' : Bool) (A A' : Option Addr) (n c n' c' : Nat) (xs ys : List Nat) (h : Rd w Bd A n c xs) (h' : Rd w Bd A' n' c' ys) (hB : Bd ≤ w.heap.size) (hp0 : sgn (iv s (val xs)) = 1) (hq0 : sgn (iv s' (val ys)) = 1) :
    Calls Try.prog 103 #[.agg #[.bool s, .slice A n c], .agg #[.bool s', .slice A' n' c']] w (RetB w (.int .i64 (sgn (iv s (val xs) - iv s' (val ys))))) := by
  obtain ⟨z, hz0⟩ : ∃ z : Int, z = sgn (iv s (val xs) - iv s' (val ys)) := ⟨_, rfl⟩
  rw [← hz0]
  replace hz0 := hide hz0
  have H := hide h
  have H' := hide h'
  clear h h'
  have hz1 : z = cmpN (val xs) (val ys) := by rw [hz0.out, cmpN_sgn, iv_pos (by omega), iv_pos (by omega)]
  replace hz0 := hide hz1
  clear hz1
  have hp := hide hp0
  have hq := hide hq0
  clear hp0 hq0
  obtain ⟨W, hW⟩ : ∃ W, W = ((w.alloc (.cells #[.bool s, .slice A n c] 25)).alloc (.cells #[.bool s', .slice A' n' c'] 25)) := ⟨_, rfl⟩
  have b0 : Box W (w.heap.size) (.bool s) (.slice A n c) := by rw [hW]; exact ((Box.new w _ _ rfl).al _)
  have b1 : Box W (w.heap.size + 1) (.bool s') (.slice A' n' c') := by rw [hW]; exact (Box.new _ _ _ (by simp))
  have hwW : Below w.heap.size w W := by rw [hW]; exact (((Below.refl _ _).alloc (Nat.le_refl _) _).alloc (by simp) _)
  have hsz : W.heap.size = w.heap.size + 2 := by rw [hW]; simp
  replace hsz := hide hsz
  go_enter Try.func103, Try.ntmps103
  go_wp2_with fail
  rw [← hW]
  clear hW
  have hg : w.heap.size + 1 + 1 ≤ W.heap.size := by have := hsz.out; omega
  have c00 := b0.at0 (B := w.heap.size + 1 + 1) (by omega) hg
  have c01 := b0.at1 (B := w.heap.size + 1 + 1) (by omega) hg
  have c10 := b1.at0 (B := w.heap.size + 1 + 1) (by omega) hg
  have c11 := b1.at1 (B := w.heap.size + 1 + 1) (by omega) hg
  have hS0 : Below W.heap.size W W := Below.refl _ _
  have hT0 := hS0.mono hg
  replace hg := hide hg
  replace hwW := hide hwW
  replace b0 := hide b0
  replace b1 := hide b1
  have hx : ∀ w', Below W.heap.size W w' → Rd w' w'.heap.size A n c xs := fun w' hS => H.out.there hB hwW.out hS
  have hy : ∀ w', Below W.heap.size W w' → Rd w' w'.heap.size A' n' c' ys := fun w' hS => H'.out.there hB hwW.out hS
  replace hx := hide hx
  replace hy := hide hy
  refine (risign_any _ _ s A n c xs (hx.out _ hS0) (Nat.le_refl _)).mono ?_
  rw [hp.out]
  rintro e w1 ⟨rfl, hb1⟩
  have hS1 : Below W.heap.size W w1 := Below.then_ hS0 hb1
  have hT1 := hS1.mono hg.out
  replace hb1 := hide hb1
  go_wp2_with fail
  refine (risign_any _ _ s' A' n' c' ys (hy.out _ hS1) (Nat.le_refl _)).mono ?_
  rw [hq.out]
  rintro e w2 ⟨rfl, hb2⟩
  have hS2 : Below W.heap.size W w2 := Below.then_ hS1 hb2
  have hT2 := hS2.mono hg.out
  replace hb2 := hide hb2
  go_wp2_with fail
  refine (rcmp_any _ _ A A' n c n' c' xs ys (hx.out _ hS2) (hy.out _ hS2)).mono ?_
  rw [← hz0.out]
  rintro e w3 ⟨rfl, rfl⟩
  go_wp2
  go_ret
  exact ⟨rfl, hwW.out.trans (hS2.mono hwW.out.size)⟩

theorem ricmp_any (w : World) (Bd : Nat) (s s' : Bool) (A A' : Option Addr) (n c n' c' : Nat) (xs ys : List Nat) (h : Rd w Bd A n c xs) (h' : Rd w Bd A' n' c' ys) (hB : Bd ≤ w.heap.size) :
    Calls Try.prog 103 #[.agg #[.bool s, .slice A n c], .agg #[.bool s', .slice A' n' c']] w (RetB w (.int .i64 (sgn (iv s (val xs) - iv s' (val ys))))) := by
  rcases sgn_three (iv s (val xs)) with ⟨hx, _⟩ | ⟨hx, _⟩ | ⟨hx, _⟩ <;> rcases sgn_three (iv s' (val ys)) with ⟨hy, _⟩ | ⟨hy, _⟩ | ⟨hy, _⟩ <;> first
    | exact ricmp_any_neg w Bd s s' A A' n c n' c' xs ys h h' hB hx hy
    | exact ricmp_any_nul w Bd s s' A A' n c n' c' xs ys h h' hB hx hy
    | exact ricmp_any_pos w Bd s s' A A' n c n' c' xs ys h h' hB hx hy
    | exact ricmp_any_lt w Bd s s' A A' n c n' c' xs ys h h' hB _ _ hx hy (by omega)
    | exact ricmp_any_gt w Bd s s' A A' n c n' c' xs ys h h' hB _ _ hx hy (by omega)
end
end Go.Proofs.Ytdihgmbldnekhaa
