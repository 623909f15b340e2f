/-
  The reference's DivMod.
-/
import Derived.Test.YtdlmfembnmomjaaGreatDoorRIntA
import Derived.Test.YtdlmfembnmomjaaGreatDoorRefQuo
namespace Go.Proofs.YtdlmfembnmomjaaGreatDoor
open Go.RowKit

theorem fq_norm {s s' : Bool} {x y : Nat} (h0 : y ≠ 0) : fq (zneg (iv s x)) (zneg (iv s' y)) x y = fq s s' x y := by
  rw [zneg_iv s' h0]
  by_cases hx : x = 0
  · subst hx
    rw [iv_zero, zneg_zero]
    unfold fq
    cases s <;> cases s' <;> simp
  · rw [zneg_iv s hx]
theorem fq_step (p p' : Bool) (hp : ¬ p = p') {x y : Nat} (h : ¬ x % y = 0) : iv true (x / y) - 1 = fq p p' x y := by rw [fq_below hp h, iv_true, iv_true]; omega
theorem fq_mag (p p' : Bool) (x y : Nat) : zmag (fq p p' x y) ≤ x / y + 1 := by
  unfold fq zmag
  generalize x / y = d
  generalize x % y = r
  split
  · omega
  · split <;> omega
theorem fq_len (p p' : Bool) (x y : Nat) : (dig (zmag (fq p p' x y))).length ≤ (dig x).length + 1 := by
  have h1 := dig_len_mono (Nat.div_le_self x y)
  have h5 := dig_len_mono (fq_mag p p' x y)
  have h6 : (dig (x / y + 1)).length ≤ (dig (x / y)).length + 1 := by
    rw [dig_len_le]
    have := (dig_len_le (x / y) (dig (x / y)).length).1 (Nat.le_refl _)
    rw [pw_succ]
    have := pw_pos (dig (x / y)).length
    omega
  omega

set_option maxHeartbeats 4000000 in
theorem ridiv_zero (w : World) (Bd : Nat) (s s' : Bool) (A A' : Option Addr) (n c n' c' : Nat) (xs ys : List Nat) (h : Rd w Bd A n c xs) (h' : Rd w Bd A' n' c' ys) (hB : Bd ≤ w.heap.size) (h0 : val ys = 0) :
    Calls Tryz.prog 85 #[.agg #[.bool s, .slice A n c], .agg #[.bool s', .slice A' n' c']] w (RetIDM w 0 0 false) := by
  obtain ⟨z1, hz1⟩ : ∃ z, z = iv s (val xs) := ⟨_, rfl⟩
  obtain ⟨z2, hz2'⟩ : ∃ z, z = iv s' (val ys) := ⟨_, rfl⟩
  have hz2 := hz2'.symm
  obtain ⟨p1, hp1⟩ : ∃ p, p = zneg z1 := ⟨_, rfl⟩
  obtain ⟨m1, hm1⟩ : ∃ m, m = zmag z1 := ⟨_, rfl⟩
  obtain ⟨n1, hn1⟩ : ∃ n, n = (dig m1).length := ⟨_, rfl⟩
  obtain ⟨p2, hp2⟩ : ∃ p, p = zneg z2 := ⟨_, rfl⟩
  obtain ⟨m2, hm2⟩ : ∃ m, m = zmag z2 := ⟨_, rfl⟩
  obtain ⟨n2, hn2⟩ : ∃ n, n = (dig m2).length := ⟨_, rfl⟩
  have he1 : m1 = val xs := by rw [hm1, hz1, zmag_iv]
  have he2 : m2 = val ys := by rw [hm2, ← hz2, zmag_iv]
  rw [hm1] at hn1
  rw [hm2] at hn2
  have h02 : val (dig m2) = 0 := by rw [val_dig, he2, h0]
  clear h0 he1 he2
  replace hz1 := hide hz1
  replace hz2 := hide hz2
  replace hp1 := hide hp1
  replace hp2 := hide hp2
  replace hm1 := hide hm1
  replace hm2 := hide hm2
  replace hn1 := hide hn1
  replace hn2 := hide hn2
  clear hz2'
  have H := hide h
  have H' := hide h'
  clear h h'
  obtain ⟨W, hW⟩ : ∃ W, W = ((((w.alloc (.cells #[.bool s, .slice A n c] 25)).alloc (.cells #[.bool s', .slice A' n' c'] 25)).alloc (.cells #[.bool false, .slice none 0 0] 25)).alloc (.cells #[.bool false, .slice none 0 0] 25)) := ⟨_, rfl⟩
  have b0 : Box W (w.heap.size) (.bool s) (.slice A n c) := by rw [hW]; exact ((((Box.new w _ _ rfl).al _).al _).al _)
  have b1 : Box W (w.heap.size + 1) (.bool s') (.slice A' n' c') := by rw [hW]; exact (((Box.new _ _ _ (by simp)).al _).al _)
  have b2 : Box W (w.heap.size + 1 + 1) (.bool false) (.slice none 0 0) := by rw [hW]; exact ((Box.new _ _ _ (by simp)).al _)
  have b3 : Box W (w.heap.size + 1 + 1 + 1) (.bool false) (.slice none 0 0) := by rw [hW]; exact (Box.new _ _ _ (by simp))
  have hwW : Below w.heap.size w W := by rw [hW]; exact (((((Below.refl _ _).alloc (Nat.le_refl _) _).alloc (by simp) _).alloc (by simp; omega) _).alloc (by simp; omega) _)
  have hsz : W.heap.size = w.heap.size + 4 := by rw [hW]; simp
  replace hsz := hide hsz
  go_enter Tryz.func85, Tryz.ntmps85
  go_wp2_with fail
  rw [← hW]
  clear hW
  have hg : w.heap.size + 1 + 1 ≤ W.heap.size := by have := hsz.out; omega
  have c00 := b0.at0 (B := w.heap.size + 1 + 1) (by omega) hg
  have c01 := b0.at1 (B := w.heap.size + 1 + 1) (by omega) hg
  have c10 := b1.at0 (B := w.heap.size + 1 + 1) (by omega) hg
  have c11 := b1.at1 (B := w.heap.size + 1 + 1) (by omega) hg
  have c20 := b2.at0 b2.lt_size (Nat.le_refl _)
  have c21 := b2.at1 b2.lt_size (Nat.le_refl _)
  have f20 := b2.free0 b2.lt_size (Nat.le_refl _)
  have f21 := b2.free1 b2.lt_size (Nat.le_refl _)
  have l2 := b2.lt b2.lt_size (Nat.le_refl _)
  have c30 := b3.at0 b3.lt_size (Nat.le_refl _)
  have c31 := b3.at1 b3.lt_size (Nat.le_refl _)
  have f30 := b3.free0 b3.lt_size (Nat.le_refl _)
  have f31 := b3.free1 b3.lt_size (Nat.le_refl _)
  have l3 := b3.lt b3.lt_size (Nat.le_refl _)
  have hS0 : Below W.heap.size W W := Below.refl _ _
  have hT0 := hS0.mono hg
  replace hg := hide hg
  replace hwW := hide hwW
  replace b0 := hide b0
  replace b1 := hide b1
  replace b2 := hide b2
  replace b3 := hide b3
  have hx : ∀ w', Below W.heap.size W w' → Rd w' w'.heap.size A n c xs := fun w' hS => H.out.there hB hwW.out hS
  have hy : ∀ w', Below W.heap.size W w' → Rd w' w'.heap.size A' n' c' ys := fun w' hS => H'.out.there hB hwW.out hS
  replace hx := hide hx
  replace hy := hide hy
  refine (rinorm_any _ _ s A n c xs (hx.out _ hS0) (Nat.le_refl _)).mono ?_
  rw [← hz1.out]
  rintro e w1 ⟨A1, c1, rfl, R1, hb1⟩
  have hS1 : Below W.heap.size W w1 := Below.then_ hS0 hb1
  have hT1 := hS1.mono hg.out
  replace hb1 := hide hb1
  rw [← hn1.out, ← hm1.out] at R1
  rw [← hn1.out, ← hp1.out]
  replace R1 := hide R1
  have hwW0 := Nat.le_refl W.heap.size
  have hT1a : Below (w.heap.size + 1 + 1) W (w1.alloc (.cells #[.bool p1, .slice A1 n1 c1] 25)) := hT1.alloc (Nat.le_trans hg.out (Nat.le_trans hwW0 hS1.size)) _
  go_wp2_with fail
  clear hT1a
  obtain ⟨W1, hW1⟩ : ∃ W1, W1 = w1.alloc (.cells #[.bool p1, .slice A1 n1 c1] 25) := ⟨_, rfl⟩
  obtain ⟨g7, hg7⟩ : ∃ g7, g7 = w1.heap.size := ⟨_, rfl⟩
  rw [← hW1, ← hg7]
  have hlg7 : Below w1.heap.size w1 W1 := by rw [hW1]; exact (Below.refl _ _).alloc (Nat.le_refl _) _
  have hSW1 : Below W.heap.size W W1 := Below.then_ hS1 hlg7
  have b7 : Box W1 g7 (.bool p1) (.slice A1 n1 c1) := by rw [hW1]; exact Box.new _ _ _ hg7
  replace hg7 := hide hg7
  clear hW1
  have hTW1 := hSW1.mono hg.out
  refine (rinorm_any _ _ s' A' n' c' ys (hy.out _ hSW1) (Nat.le_refl _)).mono ?_
  rw [hz2.out]
  rintro e w2 ⟨A2, c2, rfl, R2, hb2⟩
  have hS2 : Below W.heap.size W w2 := Below.then_ hSW1 hb2
  have hT2 := hS2.mono hg.out
  have b7' := b7.keep hb2
  replace hb2 := hide hb2
  rw [← hn2.out, ← hm2.out] at R2
  rw [← hn2.out, ← hp2.out]
  replace R2 := hide R2
  have hT2a : Below (w.heap.size + 1 + 1) W (w2.alloc (.cells #[.bool p2, .slice A2 n2 c2] 25)) := hT2.alloc (Nat.le_trans hg.out (Nat.le_trans hwW0 hS2.size)) _
  have c7 := (b7'.al (.cells #[.bool p2, .slice A2 n2 c2] 25)).both _ (Below.refl _ _)
  obtain ⟨c70, c71, f70, f71, l7⟩ := c7
  replace b7 := hide b7'
  clear b7'
  go_wp2_with fail
  clear hT2a c70 c71 f70 f71 l7
  obtain ⟨W2, hW2⟩ : ∃ W2, W2 = w2.alloc (.cells #[.bool p2, .slice A2 n2 c2] 25) := ⟨_, rfl⟩
  obtain ⟨g8, hg8⟩ : ∃ g8, g8 = w2.heap.size := ⟨_, rfl⟩
  rw [← hW2, ← hg8]
  have hlg8 : Below w2.heap.size w2 W2 := by rw [hW2]; exact (Below.refl _ _).alloc (Nat.le_refl _) _
  have hSW2 : Below W.heap.size W W2 := Below.then_ hS2 hlg8
  have b8 : Box W2 g8 (.bool p2) (.slice A2 n2 c2) := by rw [hW2]; exact Box.new _ _ _ hg8
  replace hg8 := hide hg8
  clear hW2
  have hTW2 := hSW2.mono hg.out
  replace b7 := hide (b7.out.keep hlg8)
  have x1 : Rd W2 W2.heap.size A1 n1 c1 (dig m1) := Rd.then_ (Rd.then_ (Rd.then_ R1.out hlg7) hb2.out) hlg8
  have x2 : Rd W2 W2.heap.size A2 n2 c2 (dig m2) := Rd.then_ R2.out hlg8
  replace x1 := hide x1
  replace x2 := hide x2
  clear R1 R2
  refine (rdiv_zero _ _ A1 A2 n1 c1 n2 c2 _ _ x1.out x2.out (Nat.le_refl _) h02).mono ?_
  rintro e w3 ⟨rfl, hb3⟩
  have hS3 : Below W.heap.size W w3 := Below.then_ hSW2 hb3
  have hT3 := hS3.mono hg.out
  replace hb3 := hide hb3
  have e : dig (zmag 0) = [] := by rw [show zmag 0 = 0 from rfl, dig_zero]
  have hr := RetIDM.box (ok := false) (q := 0) (r := 0) (A1 := none) (A2 := none) (c1 := 0) (c2 := 0) (hwW.out.trans (hS3.mono hwW.out.size)) (g := w.heap.size + 1 + 1) (g' := w.heap.size + 1 + 1 + 1) (by omega) (by omega) (c20 _ hS3) (c21 _ hS3) (c30 _ hS3) (c31 _ hS3)
    (by rw [e]; exact Rd.empty _ _ _ (by omega)) (by rw [e]; exact Rd.empty _ _ _ (by omega))
  rw [e] at hr
  replace hr := hide hr
  clear e h02
  go_wp2
  exact bodyPost_ret (v := .tuple #[.agg #[.bool false, .slice none 0 0], .agg #[.bool false, .slice none 0 0], .bool false]) (by simp [results, Tryz.results85, go_sem, c20 _ hS3, c21 _ hS3, c30 _ hS3, c31 _ hS3]) rfl hr.out

/-- all blocks below B but two are as they were -/
def KeptBut (g g' B : Nat) (W w' : World) : Prop := ∀ b, b < B → b ≠ g → b ≠ g' → w'.heap[b]? = W.heap[b]?
theorem KeptBut.refl (g g' B : Nat) (W : World) : KeptBut g g' B W W := fun _ _ _ _ => rfl
theorem KeptBut.drw {g g' B : Nat} (W : World) : KeptBut g g' B W W.drew := fun _ _ _ _ => rfl
theorem KeptBut.below {g g' : Nat} {W w' : World} (h : Below W.heap.size W w') : KeptBut g g' W.heap.size W w' := fun b hb _ _ => h.block b hb
theorem KeptBut.set0 {g g' B o : Nat} {W w' : World} (h : KeptBut g g' B W w') (v : Value) : KeptBut g g' B W (w'.setCell ⟨g, o, none⟩ v) := fun b hb h1 h2 => (Below.heap_setCell _ _ _ _ h1).trans (h b hb h1 h2)
theorem KeptBut.set1 {g g' B o : Nat} {W w' : World} (h : KeptBut g g' B W w') (v : Value) : KeptBut g g' B W (w'.setCell ⟨g', o, none⟩ v) := fun b hb h1 h2 => (Below.heap_setCell _ _ _ _ h2).trans (h b hb h1 h2)
theorem Box.but0 {W : World} {g g1 g2 : Nat} {a b : Value} (h : Box W g a b) (h1 : g ≠ g1) (h2 : g ≠ g2) : ∀ w', KeptBut g1 g2 W.heap.size W w' → w'.cell? ⟨g, 0, none⟩ = some a := fun w' hk => by
  rw [cell_of_row w' g 0 _ _ _ ((hk g h.lt_size h1 h2).trans h)]; rfl
theorem Box.but1 {W : World} {g g1 g2 : Nat} {a b : Value} (h : Box W g a b) (h1 : g ≠ g1) (h2 : g ≠ g2) : ∀ w', KeptBut g1 g2 W.heap.size W w' → w'.cell? ⟨g, 1, none⟩ = some b := fun w' hk => by
  rw [cell_of_row w' g 1 _ _ _ ((hk g h.lt_size h1 h2).trans h)]; rfl
theorem Box.set {W : World} {g : Nat} {a b : Value} (h : Box W g a b) (a' b' : Value) : Box ((W.setCell ⟨g, 0, none⟩ a').setCell ⟨g, 1, none⟩ b') g a' b' :=
  heap_setCell_same _ g 1 _ _ b' (heap_setCell_same W g 0 _ _ a' h)
theorem Box.other {W : World} {g g' o : Nat} {a b : Value} (h : Box W g a b) (hne : g ≠ g') (v : Value) : Box (W.setCell ⟨g', o, none⟩ v) g a b := (Below.heap_setCell _ _ _ _ hne).trans h

theorem RetDM_dig (w : World) (m1 m2 : Nat) (e : Ending) (w' : World) : RetDM w (val (dig m1)) (val (dig m2)) e w' = RetDM w m1 m2 e w' := by rw [val_dig, val_dig]

set_option maxHeartbeats 4000000 in
theorem ridiv_same (w : World) (Bd : Nat) (s s' : Bool) (A A' : Option Addr) (n c n' c' : Nat) (xs ys : List Nat) (h : Rd w Bd A n c xs) (h' : Rd w Bd A' n' c' ys) (hB : Bd ≤ w.heap.size) (hn : n + n' + 2 ≤ 70368744177664) (hnn : n ≤ 35184372088000) (h0 : val ys ≠ 0) (hpp : zneg (iv s (val xs)) = zneg (iv s' (val ys))) :
    Calls Tryz.prog 85 #[.agg #[.bool s, .slice A n c], .agg #[.bool s', .slice A' n' c']] w (RetIDM w (fq s s' (val xs) (val ys)) (fr s s' (val xs) (val ys)) true) := by
  obtain ⟨z1, hz1⟩ : ∃ z, z = iv s (val xs) := ⟨_, rfl⟩
  obtain ⟨z2, hz2'⟩ : ∃ z, z = iv s' (val ys) := ⟨_, rfl⟩
  have hz2 := hz2'.symm
  obtain ⟨p1, hp1⟩ : ∃ p, p = zneg z1 := ⟨_, rfl⟩
  obtain ⟨m1, hm1⟩ : ∃ m, m = zmag z1 := ⟨_, rfl⟩
  obtain ⟨n1, hn1⟩ : ∃ n, n = (dig m1).length := ⟨_, rfl⟩
  obtain ⟨p2, hp2⟩ : ∃ p, p = zneg z2 := ⟨_, rfl⟩
  obtain ⟨m2, hm2⟩ : ∃ m, m = zmag z2 := ⟨_, rfl⟩
  obtain ⟨n2, hn2⟩ : ∃ n, n = (dig m2).length := ⟨_, rfl⟩
  have he1 : m1 = val xs := by rw [hm1, hz1, zmag_iv]
  have he2 : m2 = val ys := by rw [hm2, ← hz2, zmag_iv]
  rw [hm1] at hn1
  rw [hm2] at hn2
  obtain ⟨q, hq⟩ : ∃ q, q = fq s s' (val xs) (val ys) := ⟨_, rfl⟩
  obtain ⟨r, hr⟩ : ∃ r, r = fr s s' (val xs) (val ys) := ⟨_, rfl⟩
  rw [← hq, ← hr]
  have hr1 : z1 - z2 * q = r := by rw [hr, hq, hz1, hz2']; rfl
  have hq1 : q = fq p1 p2 m1 m2 := by rw [hq, hp1, hp2, he1, he2, hz1, hz2', fq_norm h0]
  rw [← hz1, ← hz2', ← hp1, ← hp2] at hpp
  have hpb : (p1 == p2) = true := by simpa using hpp
  have hq2 : iv false (val (dig (m1 / m2))) = q := by rw [hq1, hpp, val_dig, fq_same]
  have hN1 : n1 ≤ n := by have h2 := dig_len_val h.limbs; have := h.len; rw [← he1] at h2; rw [← hm1] at hn1; omega
  have hN2 : n2 ≤ n' := by have h2 := dig_len_val h'.limbs; have := h'.len; rw [← he2] at h2; rw [← hm2] at hn2; omega
  have hqn : (dig (zmag q)).length ≤ n + 1 := by
    have h2 := dig_len_val h.limbs
    have h3 := h.len
    rw [← he1] at h2
    have h4 := fq_len p1 p2 m1 m2
    rw [← hq1] at h4
    omega
  have hv2 : val (dig m2) ≠ 0 := by rw [val_dig, he2]; exact h0
  have hrr : iv p1 (val (dig m1)) - iv (zneg (z2 * q)) (val (dig (zmag (z2 * q)))) = r := by rw [val_ieta, hp1, hm1, val_ieta]; exact hr1
  have hyq : iv p2 (val (dig m2)) * iv (zneg q) (val (dig (zmag q))) = z2 * q := by rw [val_ieta, hp2, hm2, val_ieta]
  have hml : (dig (zmag (z2 * q))).length + 1 ≤ 70368744177664 := by
    have h1 : zmag (z2 * q) = zmag z2 * zmag q := Int.natAbs_mul _ _
    have h2 := lt_mul ((dig_len_le (zmag z2) _).1 (Nat.le_refl _)) ((dig_len_le (zmag q) _).1 (Nat.le_refl _))
    rw [← h1] at h2
    have h3 := (dig_len_le _ _).2 h2
    rw [← hn2] at h3
    omega
  clear hr1 hq hr h0 hpp hq1
  replace hq2 := hide hq2
  replace hv2 := hide hv2
  replace hrr := hide hrr
  replace hyq := hide hyq
  replace hml := hide hml
  replace hqn := hide hqn
  replace hN1 := hide hN1
  replace hN2 := hide hN2
  clear he1 he2
  replace hz1 := hide hz1
  replace hz2 := hide hz2
  replace hp1 := hide hp1
  replace hp2 := hide hp2
  replace hm1 := hide hm1
  replace hm2 := hide hm2
  replace hn1 := hide hn1
  replace hn2 := hide hn2
  clear hz2'
  have H := hide h
  have H' := hide h'
  clear h h'
  obtain ⟨W, hW⟩ : ∃ W, W = ((((w.alloc (.cells #[.bool s, .slice A n c] 25)).alloc (.cells #[.bool s', .slice A' n' c'] 25)).alloc (.cells #[.bool false, .slice none 0 0] 25)).alloc (.cells #[.bool false, .slice none 0 0] 25)) := ⟨_, rfl⟩
  have b0 : Box W (w.heap.size) (.bool s) (.slice A n c) := by rw [hW]; exact ((((Box.new w _ _ rfl).al _).al _).al _)
  have b1 : Box W (w.heap.size + 1) (.bool s') (.slice A' n' c') := by rw [hW]; exact (((Box.new _ _ _ (by simp)).al _).al _)
  have b2 : Box W (w.heap.size + 1 + 1) (.bool false) (.slice none 0 0) := by rw [hW]; exact ((Box.new _ _ _ (by simp)).al _)
  have b3 : Box W (w.heap.size + 1 + 1 + 1) (.bool false) (.slice none 0 0) := by rw [hW]; exact (Box.new _ _ _ (by simp))
  have hwW : Below w.heap.size w W := by rw [hW]; exact (((((Below.refl _ _).alloc (Nat.le_refl _) _).alloc (by simp) _).alloc (by simp; omega) _).alloc (by simp; omega) _)
  have hsz : W.heap.size = w.heap.size + 4 := by rw [hW]; simp
  replace hsz := hide hsz
  go_enter Tryz.func85, Tryz.ntmps85
  go_wp2_with fail
  rw [← hW]
  clear hW
  have hg : w.heap.size + 1 + 1 ≤ W.heap.size := by have := hsz.out; omega
  have c00 := b0.at0 (B := w.heap.size + 1 + 1) (by omega) hg
  have c01 := b0.at1 (B := w.heap.size + 1 + 1) (by omega) hg
  have c10 := b1.at0 (B := w.heap.size + 1 + 1) (by omega) hg
  have c11 := b1.at1 (B := w.heap.size + 1 + 1) (by omega) hg
  have c20 := b2.at0 b2.lt_size (Nat.le_refl _)
  have c21 := b2.at1 b2.lt_size (Nat.le_refl _)
  have f20 := b2.free0 b2.lt_size (Nat.le_refl _)
  have f21 := b2.free1 b2.lt_size (Nat.le_refl _)
  have l2 := b2.lt b2.lt_size (Nat.le_refl _)
  have c30 := b3.at0 b3.lt_size (Nat.le_refl _)
  have c31 := b3.at1 b3.lt_size (Nat.le_refl _)
  have f30 := b3.free0 b3.lt_size (Nat.le_refl _)
  have f31 := b3.free1 b3.lt_size (Nat.le_refl _)
  have l3 := b3.lt b3.lt_size (Nat.le_refl _)
  have hS0 : Below W.heap.size W W := Below.refl _ _
  have hT0 := hS0.mono hg
  replace hg := hide hg
  replace hwW := hide hwW
  replace b0 := hide b0
  replace b1 := hide b1
  replace b2 := hide b2
  replace b3 := hide b3
  have hx : ∀ w', Below W.heap.size W w' → Rd w' w'.heap.size A n c xs := fun w' hS => H.out.there hB hwW.out hS
  have hy : ∀ w', Below W.heap.size W w' → Rd w' w'.heap.size A' n' c' ys := fun w' hS => H'.out.there hB hwW.out hS
  replace hx := hide hx
  replace hy := hide hy
  refine (rinorm_any _ _ s A n c xs (hx.out _ hS0) (Nat.le_refl _)).mono ?_
  rw [← hz1.out]
  rintro e w1 ⟨A1, c1, rfl, R1, hb1⟩
  have hS1 : Below W.heap.size W w1 := Below.then_ hS0 hb1
  have hT1 := hS1.mono hg.out
  replace hb1 := hide hb1
  rw [← hn1.out, ← hm1.out] at R1
  rw [← hn1.out, ← hp1.out]
  replace R1 := hide R1
  have hwW0 := Nat.le_refl W.heap.size
  have hT1a : Below (w.heap.size + 1 + 1) W (w1.alloc (.cells #[.bool p1, .slice A1 n1 c1] 25)) := hT1.alloc (Nat.le_trans hg.out (Nat.le_trans hwW0 hS1.size)) _
  go_wp2_with fail
  clear hT1a
  obtain ⟨W1, hW1⟩ : ∃ W1, W1 = w1.alloc (.cells #[.bool p1, .slice A1 n1 c1] 25) := ⟨_, rfl⟩
  obtain ⟨g7, hg7⟩ : ∃ g7, g7 = w1.heap.size := ⟨_, rfl⟩
  rw [← hW1, ← hg7]
  have hlg7 : Below w1.heap.size w1 W1 := by rw [hW1]; exact (Below.refl _ _).alloc (Nat.le_refl _) _
  have hSW1 : Below W.heap.size W W1 := Below.then_ hS1 hlg7
  have b7 : Box W1 g7 (.bool p1) (.slice A1 n1 c1) := by rw [hW1]; exact Box.new _ _ _ hg7
  replace hg7 := hide hg7
  clear hW1
  have hTW1 := hSW1.mono hg.out
  refine (rinorm_any _ _ s' A' n' c' ys (hy.out _ hSW1) (Nat.le_refl _)).mono ?_
  rw [hz2.out]
  rintro e w2 ⟨A2, c2, rfl, R2, hb2⟩
  have hS2 : Below W.heap.size W w2 := Below.then_ hSW1 hb2
  have hT2 := hS2.mono hg.out
  have b7' := b7.keep hb2
  replace hb2 := hide hb2
  rw [← hn2.out, ← hm2.out] at R2
  rw [← hn2.out, ← hp2.out]
  replace R2 := hide R2
  have hT2a : Below (w.heap.size + 1 + 1) W (w2.alloc (.cells #[.bool p2, .slice A2 n2 c2] 25)) := hT2.alloc (Nat.le_trans hg.out (Nat.le_trans hwW0 hS2.size)) _
  have c7 := (b7'.al (.cells #[.bool p2, .slice A2 n2 c2] 25)).both _ (Below.refl _ _)
  obtain ⟨c70, c71, f70, f71, l7⟩ := c7
  replace b7 := hide b7'
  clear b7'
  go_wp2_with fail
  clear hT2a c70 c71 f70 f71 l7
  obtain ⟨W2, hW2⟩ : ∃ W2, W2 = w2.alloc (.cells #[.bool p2, .slice A2 n2 c2] 25) := ⟨_, rfl⟩
  obtain ⟨g8, hg8⟩ : ∃ g8, g8 = w2.heap.size := ⟨_, rfl⟩
  rw [← hW2, ← hg8]
  have hlg8 : Below w2.heap.size w2 W2 := by rw [hW2]; exact (Below.refl _ _).alloc (Nat.le_refl _) _
  have hSW2 : Below W.heap.size W W2 := Below.then_ hS2 hlg8
  have b8 : Box W2 g8 (.bool p2) (.slice A2 n2 c2) := by rw [hW2]; exact Box.new _ _ _ hg8
  replace hg8 := hide hg8
  clear hW2
  have hTW2 := hSW2.mono hg.out
  replace b7 := hide (b7.out.keep hlg8)
  have x1 : Rd W2 W2.heap.size A1 n1 c1 (dig m1) := Rd.then_ (Rd.then_ (Rd.then_ R1.out hlg7) hb2.out) hlg8
  have x2 : Rd W2 W2.heap.size A2 n2 c2 (dig m2) := Rd.then_ R2.out hlg8
  replace x1 := hide x1
  replace x2 := hide x2
  clear R1 R2
  refine (rdivmod_any _ _ A1 A2 n1 c1 n2 c2 _ _ x1.out x2.out (Nat.le_refl _) (by have := hN1.out; omega) hv2.out).mono ?_
  intro e w3 hr3
  rw [RetDM_dig] at hr3
  obtain ⟨A3, c3, A4, c4, rfl, R3, R4, hb3⟩ := hr3
  have hS3 : Below W.heap.size W w3 := Below.then_ hSW2 hb3
  have hT3 := hS3.mono hg.out
  have b7' := b7.out.keep hb3
  have b8' := b8.keep hb3
  replace b8 := b8'
  clear b8'
  replace x1 := hide (Rd.then_ x1.out hb3)
  replace x2 := hide (Rd.then_ x2.out hb3)
  replace hb3 := hide hb3
  replace R3 := hide R3
  replace R4 := hide R4
  obtain ⟨c70, c71, f70, f71, l7⟩ := b7'.both _ (Below.refl _ _)
  obtain ⟨c80, c81, f80, f81, l8⟩ := b8.both _ (Below.refl _ _)
  replace b7 := hide b7'
  replace b8 := hide b8
  clear b7'
  go_wp2_with fail
  clear c70 c71 f70 f71 l7 c80 c81 f80 f81 l8
  refine (rimake_any _ _ false _ _ _ _ R3.out (Nat.le_refl _)).mono ?_
  rw [hq2.out]
  rintro e w4 ⟨A5, c5, rfl, R5, hb4⟩
  have hS4 : Below W.heap.size W w4 := Below.then_ hS3 hb4
  have hT4 := hS4.mono hg.out
  have b7' := b7.out.keep hb4
  have b8' := b8.out.keep hb4
  replace x1 := hide (Rd.then_ x1.out hb4)
  replace x2 := hide (Rd.then_ x2.out hb4)
  replace R4 := hide (Rd.then_ R4.out hb4)
  replace hb4 := hide hb4
  replace R5 := hide R5
  clear R3
  have hT4a : Below (w.heap.size + 1 + 1) W (w4.alloc (.cells #[.bool (zneg q), .slice A5 (dig (zmag q)).length c5] 25)) := hT4.alloc (Nat.le_trans hg.out (Nat.le_trans hwW0 hS4.size)) _
  obtain ⟨c70, c71, f70, f71, l7⟩ := (b7'.al (.cells #[.bool (zneg q), .slice A5 (dig (zmag q)).length c5] 25)).both _ (Below.refl _ _)
  obtain ⟨c80, c81, f80, f81, l8⟩ := (b8'.al (.cells #[.bool (zneg q), .slice A5 (dig (zmag q)).length c5] 25)).both _ (Below.refl _ _)
  have h7lt := b7'.lt_size
  have h8lt := b8'.lt_size
  replace b7 := hide b7'
  replace b8 := hide b8'
  clear b7' b8'
  go_wp2_with fail
  clear hT4a c70 c71 f70 f71 l7 c80 c81 f80 f81 l8
  obtain ⟨W4, hW4⟩ : ∃ W4, W4 = w4.alloc (.cells #[.bool (zneg q), .slice A5 (dig (zmag q)).length c5] 25) := ⟨_, rfl⟩
  obtain ⟨g12, hg12⟩ : ∃ g12, g12 = w4.heap.size := ⟨_, rfl⟩
  rw [← hW4, ← hg12]
  have hlg12 : Below w4.heap.size w4 W4 := by rw [hW4]; exact (Below.refl _ _).alloc (Nat.le_refl _) _
  have hSW4 : Below W.heap.size W W4 := Below.then_ hS4 hlg12
  have b12 : Box W4 g12 (.bool (zneg q)) (.slice A5 (dig (zmag q)).length c5) := by rw [hW4]; exact Box.new _ _ _ hg12
  replace hg12 := hide hg12
  clear hW4
  have hTW4 := hSW4.mono hg.out
  replace b7 := hide (b7.out.keep hlg12)
  replace b8 := hide (b8.out.keep hlg12)
  replace x1 := hide (Rd.then_ x1.out hlg12)
  replace x2 := hide (Rd.then_ x2.out hlg12)
  replace R4 := hide (Rd.then_ R4.out hlg12)
  replace R5 := hide (Rd.then_ R5.out hlg12)
  replace b12 := hide b12
  have n7 : W.heap.size ≤ g7 := by rw [hg7.out]; exact hS1.size
  have n8 : W.heap.size ≤ g8 := by rw [hg8.out]; exact hS2.size
  have n12 : W.heap.size ≤ g12 := by rw [hg12.out]; exact hS4.size
  have R_q0 := R5
  have k70 := b7.out.but0 (g1 := w.heap.size + 1 + 1) (g2 := w.heap.size + 1 + 1 + 1) (by have := hsz.out; omega) (by have := hsz.out; omega)
  have k71 := b7.out.but1 (g1 := w.heap.size + 1 + 1) (g2 := w.heap.size + 1 + 1 + 1) (by have := hsz.out; omega) (by have := hsz.out; omega)
  have k80 := b8.out.but0 (g1 := w.heap.size + 1 + 1) (g2 := w.heap.size + 1 + 1 + 1) (by have := hsz.out; omega) (by have := hsz.out; omega)
  have k81 := b8.out.but1 (g1 := w.heap.size + 1 + 1) (g2 := w.heap.size + 1 + 1 + 1) (by have := hsz.out; omega) (by have := hsz.out; omega)
  have k120 := b12.out.but0 (g1 := w.heap.size + 1 + 1) (g2 := w.heap.size + 1 + 1 + 1) (by have := hsz.out; omega) (by have := hsz.out; omega)
  have k121 := b12.out.but1 (g1 := w.heap.size + 1 + 1) (g2 := w.heap.size + 1 + 1 + 1) (by have := hsz.out; omega) (by have := hsz.out; omega)
  have hmn : n2 + (dig (zmag q)).length ≤ 70368744177664 := by have := hN2.out; have := hqn.out; omega
  have hn1' : n1 + 1 ≤ 70368744177664 := by have := hN1.out; omega
  replace hmn := hide hmn
  replace hn1' := hide hn1'
  clear n7 n8 n12
  go_region_held3 (fun w' => KeptBut (w.heap.size + 1 + 1) (w.heap.size + 1 + 1 + 1) W4.heap.size W4 w') (first | assumption | (with_reducible exact KeptBut.drw _) | ((repeat (first | (with_reducible refine KeptBut.set0 ?_ _) | (with_reducible refine KeptBut.set1 ?_ _))); with_reducible exact hK7))
    (first
      | (go_at_call 79; ((with_reducible refine (rimul_any _ _ p2 (zneg q) A2 A5 n2 c2 _ c5 _ _ (Rd.then_ x2.out (Below.drw_ _)) (Rd.then_ R_q0.out (Below.drw_ _)) (Nat.le_refl _) hmn.out).mono ?_); rw [hyq.out]; rintro e w6 ⟨A6, c6, rfl, R6, hb6⟩; have hU6 : Below W4.heap.size W4 w6 := Below.then_ (Below.drw_ _) hb6; have hS6 : Below W.heap.size W w6 := Below.then_ hSW4 hU6; have hT6 := hS6.mono hg.out; have hK6 : KeptBut (w.heap.size + 1 + 1) (w.heap.size + 1 + 1 + 1) W4.heap.size W4 w6 := KeptBut.below hU6; replace hb6 := hide hb6; replace hU6 := hide hU6; replace R6 := hide R6))
      | (go_at_call 124; ((with_reducible refine (risub_any _ _ p1 _ A1 _ n1 c1 _ _ _ _ (Rd.then_ x1.out hU6.out) R6.out (Nat.le_refl _) hn1'.out hml.out).mono ?_); rw [hrr.out]; rintro e w7 ⟨A7, c7, rfl, R7, hb7⟩; have hU7 : Below W4.heap.size W4 w7 := Below.then_ hU6.out hb7; have hS7 : Below W.heap.size W w7 := Below.then_ hSW4 hU7; have hT7 := hS7.mono hg.out; have hK7 : KeptBut (w.heap.size + 1 + 1) (w.heap.size + 1 + 1 + 1) W4.heap.size W4 w7 := KeptBut.below hU7; replace hb7 := hide hb7; replace hU7 := hide hU7; replace R7 := hide R7)))
  have R_q := R_q0
  have R_r := hide R7.out
  clear k70 k71 k80 k81 k120 k121
  go_wp2
  exact bodyPost_ret (v := .tuple #[.agg #[.bool (zneg q), .slice A5 (dig (zmag q)).length c5], .agg #[.bool (zneg r), .slice A7 (dig (zmag r)).length c7], .bool true]) (by simp [results, Tryz.results85, go_sem, c20 _ hS7, c21 _ hS7, c30 _ hS7, c31 _ hS7]) rfl
    (RetIDM.box (hwW.out.trans (hS7.mono hwW.out.size)) (by omega) (by omega) (c20 _ hS7) (c21 _ hS7) (c30 _ hS7) (c31 _ hS7) (Rd.then_ R_q.out hU7.out) R_r.out)

set_option maxHeartbeats 4000000 in
theorem ridiv_whole (w : World) (Bd : Nat) (s s' : Bool) (A A' : Option Addr) (n c n' c' : Nat) (xs ys : List Nat) (h : Rd w Bd A n c xs) (h' : Rd w Bd A' n' c' ys) (hB : Bd ≤ w.heap.size) (hn : n + n' + 2 ≤ 70368744177664) (hnn : n ≤ 35184372088000) (h0 : val ys ≠ 0) (hpp : ¬ zneg (iv s (val xs)) = zneg (iv s' (val ys))) (hm0 : val xs % val ys = 0) :
    Calls Tryz.prog 85 #[.agg #[.bool s, .slice A n c], .agg #[.bool s', .slice A' n' c']] w (RetIDM w (fq s s' (val xs) (val ys)) (fr s s' (val xs) (val ys)) true) := by
  obtain ⟨z1, hz1⟩ : ∃ z, z = iv s (val xs) := ⟨_, rfl⟩
  obtain ⟨z2, hz2'⟩ : ∃ z, z = iv s' (val ys) := ⟨_, rfl⟩
  have hz2 := hz2'.symm
  obtain ⟨p1, hp1⟩ : ∃ p, p = zneg z1 := ⟨_, rfl⟩
  obtain ⟨m1, hm1⟩ : ∃ m, m = zmag z1 := ⟨_, rfl⟩
  obtain ⟨n1, hn1⟩ : ∃ n, n = (dig m1).length := ⟨_, rfl⟩
  obtain ⟨p2, hp2⟩ : ∃ p, p = zneg z2 := ⟨_, rfl⟩
  obtain ⟨m2, hm2⟩ : ∃ m, m = zmag z2 := ⟨_, rfl⟩
  obtain ⟨n2, hn2⟩ : ∃ n, n = (dig m2).length := ⟨_, rfl⟩
  have he1 : m1 = val xs := by rw [hm1, hz1, zmag_iv]
  have he2 : m2 = val ys := by rw [hm2, ← hz2, zmag_iv]
  rw [hm1] at hn1
  rw [hm2] at hn2
  obtain ⟨q, hq⟩ : ∃ q, q = fq s s' (val xs) (val ys) := ⟨_, rfl⟩
  obtain ⟨r, hr⟩ : ∃ r, r = fr s s' (val xs) (val ys) := ⟨_, rfl⟩
  rw [← hq, ← hr]
  have hr1 : z1 - z2 * q = r := by rw [hr, hq, hz1, hz2']; rfl
  have hq1 : q = fq p1 p2 m1 m2 := by rw [hq, hp1, hp2, he1, he2, hz1, hz2', fq_norm h0]
  rw [← hz1, ← hz2', ← hp1, ← hp2] at hpp
  rw [← he1, ← he2] at hm0
  have hpb : (p1 == p2) = false := by simpa using hpp
  have hq2 : iv true (val (dig (m1 / m2))) = q := by rw [hq1, fq_whole hpp hm0, val_dig]
  have hN1 : n1 ≤ n := by have h2 := dig_len_val h.limbs; have := h.len; rw [← he1] at h2; rw [← hm1] at hn1; omega
  have hN2 : n2 ≤ n' := by have h2 := dig_len_val h'.limbs; have := h'.len; rw [← he2] at h2; rw [← hm2] at hn2; omega
  have hqn : (dig (zmag q)).length ≤ n + 1 := by
    have h2 := dig_len_val h.limbs
    have h3 := h.len
    rw [← he1] at h2
    have h4 := fq_len p1 p2 m1 m2
    rw [← hq1] at h4
    omega
  have hv2 : val (dig m2) ≠ 0 := by rw [val_dig, he2]; exact h0
  have hrr : iv p1 (val (dig m1)) - iv (zneg (z2 * q)) (val (dig (zmag (z2 * q)))) = r := by rw [val_ieta, hp1, hm1, val_ieta]; exact hr1
  have hyq : iv p2 (val (dig m2)) * iv (zneg q) (val (dig (zmag q))) = z2 * q := by rw [val_ieta, hp2, hm2, val_ieta]
  have hml : (dig (zmag (z2 * q))).length + 1 ≤ 70368744177664 := by
    have h1 : zmag (z2 * q) = zmag z2 * zmag q := Int.natAbs_mul _ _
    have h2 := lt_mul ((dig_len_le (zmag z2) _).1 (Nat.le_refl _)) ((dig_len_le (zmag q) _).1 (Nat.le_refl _))
    rw [← h1] at h2
    have h3 := (dig_len_le _ _).2 h2
    rw [← hn2] at h3
    omega
  clear hr1 hq hr h0 hpp hq1
  replace hq2 := hide hq2
  replace hv2 := hide hv2
  replace hrr := hide hrr
  replace hyq := hide hyq
  replace hml := hide hml
  replace hqn := hide hqn
  replace hN1 := hide hN1
  replace hN2 := hide hN2
  replace hm0 := hide hm0
  clear he1 he2
  replace hz1 := hide hz1
  replace hz2 := hide hz2
  replace hp1 := hide hp1
  replace hp2 := hide hp2
  replace hm1 := hide hm1
  replace hm2 := hide hm2
  replace hn1 := hide hn1
  replace hn2 := hide hn2
  clear hz2'
  have H := hide h
  have H' := hide h'
  clear h h'
  obtain ⟨W, hW⟩ : ∃ W, W = ((((w.alloc (.cells #[.bool s, .slice A n c] 25)).alloc (.cells #[.bool s', .slice A' n' c'] 25)).alloc (.cells #[.bool false, .slice none 0 0] 25)).alloc (.cells #[.bool false, .slice none 0 0] 25)) := ⟨_, rfl⟩
  have b0 : Box W (w.heap.size) (.bool s) (.slice A n c) := by rw [hW]; exact ((((Box.new w _ _ rfl).al _).al _).al _)
  have b1 : Box W (w.heap.size + 1) (.bool s') (.slice A' n' c') := by rw [hW]; exact (((Box.new _ _ _ (by simp)).al _).al _)
  have b2 : Box W (w.heap.size + 1 + 1) (.bool false) (.slice none 0 0) := by rw [hW]; exact ((Box.new _ _ _ (by simp)).al _)
  have b3 : Box W (w.heap.size + 1 + 1 + 1) (.bool false) (.slice none 0 0) := by rw [hW]; exact (Box.new _ _ _ (by simp))
  have hwW : Below w.heap.size w W := by rw [hW]; exact (((((Below.refl _ _).alloc (Nat.le_refl _) _).alloc (by simp) _).alloc (by simp; omega) _).alloc (by simp; omega) _)
  have hsz : W.heap.size = w.heap.size + 4 := by rw [hW]; simp
  replace hsz := hide hsz
  go_enter Tryz.func85, Tryz.ntmps85
  go_wp2_with fail
  rw [← hW]
  clear hW
  have hg : w.heap.size + 1 + 1 ≤ W.heap.size := by have := hsz.out; omega
  have c00 := b0.at0 (B := w.heap.size + 1 + 1) (by omega) hg
  have c01 := b0.at1 (B := w.heap.size + 1 + 1) (by omega) hg
  have c10 := b1.at0 (B := w.heap.size + 1 + 1) (by omega) hg
  have c11 := b1.at1 (B := w.heap.size + 1 + 1) (by omega) hg
  have c20 := b2.at0 b2.lt_size (Nat.le_refl _)
  have c21 := b2.at1 b2.lt_size (Nat.le_refl _)
  have f20 := b2.free0 b2.lt_size (Nat.le_refl _)
  have f21 := b2.free1 b2.lt_size (Nat.le_refl _)
  have l2 := b2.lt b2.lt_size (Nat.le_refl _)
  have c30 := b3.at0 b3.lt_size (Nat.le_refl _)
  have c31 := b3.at1 b3.lt_size (Nat.le_refl _)
  have f30 := b3.free0 b3.lt_size (Nat.le_refl _)
  have f31 := b3.free1 b3.lt_size (Nat.le_refl _)
  have l3 := b3.lt b3.lt_size (Nat.le_refl _)
  have hS0 : Below W.heap.size W W := Below.refl _ _
  have hT0 := hS0.mono hg
  replace hg := hide hg
  replace hwW := hide hwW
  replace b0 := hide b0
  replace b1 := hide b1
  replace b2 := hide b2
  replace b3 := hide b3
  have hx : ∀ w', Below W.heap.size W w' → Rd w' w'.heap.size A n c xs := fun w' hS => H.out.there hB hwW.out hS
  have hy : ∀ w', Below W.heap.size W w' → Rd w' w'.heap.size A' n' c' ys := fun w' hS => H'.out.there hB hwW.out hS
  replace hx := hide hx
  replace hy := hide hy
  refine (rinorm_any _ _ s A n c xs (hx.out _ hS0) (Nat.le_refl _)).mono ?_
  rw [← hz1.out]
  rintro e w1 ⟨A1, c1, rfl, R1, hb1⟩
  have hS1 : Below W.heap.size W w1 := Below.then_ hS0 hb1
  have hT1 := hS1.mono hg.out
  replace hb1 := hide hb1
  rw [← hn1.out, ← hm1.out] at R1
  rw [← hn1.out, ← hp1.out]
  replace R1 := hide R1
  have hwW0 := Nat.le_refl W.heap.size
  have hT1a : Below (w.heap.size + 1 + 1) W (w1.alloc (.cells #[.bool p1, .slice A1 n1 c1] 25)) := hT1.alloc (Nat.le_trans hg.out (Nat.le_trans hwW0 hS1.size)) _
  go_wp2_with fail
  clear hT1a
  obtain ⟨W1, hW1⟩ : ∃ W1, W1 = w1.alloc (.cells #[.bool p1, .slice A1 n1 c1] 25) := ⟨_, rfl⟩
  obtain ⟨g7, hg7⟩ : ∃ g7, g7 = w1.heap.size := ⟨_, rfl⟩
  rw [← hW1, ← hg7]
  have hlg7 : Below w1.heap.size w1 W1 := by rw [hW1]; exact (Below.refl _ _).alloc (Nat.le_refl _) _
  have hSW1 : Below W.heap.size W W1 := Below.then_ hS1 hlg7
  have b7 : Box W1 g7 (.bool p1) (.slice A1 n1 c1) := by rw [hW1]; exact Box.new _ _ _ hg7
  replace hg7 := hide hg7
  clear hW1
  have hTW1 := hSW1.mono hg.out
  refine (rinorm_any _ _ s' A' n' c' ys (hy.out _ hSW1) (Nat.le_refl _)).mono ?_
  rw [hz2.out]
  rintro e w2 ⟨A2, c2, rfl, R2, hb2⟩
  have hS2 : Below W.heap.size W w2 := Below.then_ hSW1 hb2
  have hT2 := hS2.mono hg.out
  have b7' := b7.keep hb2
  replace hb2 := hide hb2
  rw [← hn2.out, ← hm2.out] at R2
  rw [← hn2.out, ← hp2.out]
  replace R2 := hide R2
  have hT2a : Below (w.heap.size + 1 + 1) W (w2.alloc (.cells #[.bool p2, .slice A2 n2 c2] 25)) := hT2.alloc (Nat.le_trans hg.out (Nat.le_trans hwW0 hS2.size)) _
  have c7 := (b7'.al (.cells #[.bool p2, .slice A2 n2 c2] 25)).both _ (Below.refl _ _)
  obtain ⟨c70, c71, f70, f71, l7⟩ := c7
  replace b7 := hide b7'
  clear b7'
  go_wp2_with fail
  clear hT2a c70 c71 f70 f71 l7
  obtain ⟨W2, hW2⟩ : ∃ W2, W2 = w2.alloc (.cells #[.bool p2, .slice A2 n2 c2] 25) := ⟨_, rfl⟩
  obtain ⟨g8, hg8⟩ : ∃ g8, g8 = w2.heap.size := ⟨_, rfl⟩
  rw [← hW2, ← hg8]
  have hlg8 : Below w2.heap.size w2 W2 := by rw [hW2]; exact (Below.refl _ _).alloc (Nat.le_refl _) _
  have hSW2 : Below W.heap.size W W2 := Below.then_ hS2 hlg8
  have b8 : Box W2 g8 (.bool p2) (.slice A2 n2 c2) := by rw [hW2]; exact Box.new _ _ _ hg8
  replace hg8 := hide hg8
  clear hW2
  have hTW2 := hSW2.mono hg.out
  replace b7 := hide (b7.out.keep hlg8)
  have x1 : Rd W2 W2.heap.size A1 n1 c1 (dig m1) := Rd.then_ (Rd.then_ (Rd.then_ R1.out hlg7) hb2.out) hlg8
  have x2 : Rd W2 W2.heap.size A2 n2 c2 (dig m2) := Rd.then_ R2.out hlg8
  replace x1 := hide x1
  replace x2 := hide x2
  clear R1 R2
  refine (rdivmod_any _ _ A1 A2 n1 c1 n2 c2 _ _ x1.out x2.out (Nat.le_refl _) (by have := hN1.out; omega) hv2.out).mono ?_
  intro e w3 hr3
  rw [RetDM_dig] at hr3
  obtain ⟨A3, c3, A4, c4, rfl, R3, R4, hb3⟩ := hr3
  have hS3 : Below W.heap.size W w3 := Below.then_ hSW2 hb3
  have hT3 := hS3.mono hg.out
  have b7' := b7.out.keep hb3
  have b8' := b8.keep hb3
  replace b8 := b8'
  clear b8'
  replace x1 := hide (Rd.then_ x1.out hb3)
  replace x2 := hide (Rd.then_ x2.out hb3)
  replace hb3 := hide hb3
  replace R3 := hide R3
  replace R4 := hide R4
  obtain ⟨c70, c71, f70, f71, l7⟩ := b7'.both _ (Below.refl _ _)
  obtain ⟨c80, c81, f80, f81, l8⟩ := b8.both _ (Below.refl _ _)
  replace b7 := hide b7'
  replace b8 := hide b8
  clear b7'
  go_wp2_with fail
  clear c70 c71 f70 f71 l7 c80 c81 f80 f81 l8
  refine (rimake_any _ _ true _ _ _ _ R3.out (Nat.le_refl _)).mono ?_
  rw [hq2.out]
  rintro e w4 ⟨A5, c5, rfl, R5, hb4⟩
  have hS4 : Below W.heap.size W w4 := Below.then_ hS3 hb4
  have hT4 := hS4.mono hg.out
  have b7' := b7.out.keep hb4
  have b8' := b8.out.keep hb4
  replace x1 := hide (Rd.then_ x1.out hb4)
  replace x2 := hide (Rd.then_ x2.out hb4)
  replace R4 := hide (Rd.then_ R4.out hb4)
  replace hb4 := hide hb4
  replace R5 := hide R5
  clear R3
  have hT4a : Below (w.heap.size + 1 + 1) W (w4.alloc (.cells #[.bool (zneg q), .slice A5 (dig (zmag q)).length c5] 25)) := hT4.alloc (Nat.le_trans hg.out (Nat.le_trans hwW0 hS4.size)) _
  obtain ⟨c70, c71, f70, f71, l7⟩ := (b7'.al (.cells #[.bool (zneg q), .slice A5 (dig (zmag q)).length c5] 25)).both _ (Below.refl _ _)
  obtain ⟨c80, c81, f80, f81, l8⟩ := (b8'.al (.cells #[.bool (zneg q), .slice A5 (dig (zmag q)).length c5] 25)).both _ (Below.refl _ _)
  have h7lt := b7'.lt_size
  have h8lt := b8'.lt_size
  replace b7 := hide b7'
  replace b8 := hide b8'
  clear b7' b8'
  go_wp2_with fail
  clear hT4a c70 c71 f70 f71 l7 c80 c81 f80 f81 l8
  obtain ⟨W4, hW4⟩ : ∃ W4, W4 = w4.alloc (.cells #[.bool (zneg q), .slice A5 (dig (zmag q)).length c5] 25) := ⟨_, rfl⟩
  obtain ⟨g12, hg12⟩ : ∃ g12, g12 = w4.heap.size := ⟨_, rfl⟩
  rw [← hW4, ← hg12]
  have hlg12 : Below w4.heap.size w4 W4 := by rw [hW4]; exact (Below.refl _ _).alloc (Nat.le_refl _) _
  have hSW4 : Below W.heap.size W W4 := Below.then_ hS4 hlg12
  have b12 : Box W4 g12 (.bool (zneg q)) (.slice A5 (dig (zmag q)).length c5) := by rw [hW4]; exact Box.new _ _ _ hg12
  replace hg12 := hide hg12
  clear hW4
  have hTW4 := hSW4.mono hg.out
  replace b7 := hide (b7.out.keep hlg12)
  replace b8 := hide (b8.out.keep hlg12)
  replace x1 := hide (Rd.then_ x1.out hlg12)
  replace x2 := hide (Rd.then_ x2.out hlg12)
  replace R4 := hide (Rd.then_ R4.out hlg12)
  replace R5 := hide (Rd.then_ R5.out hlg12)
  replace b12 := hide b12
  have n7 : W.heap.size ≤ g7 := by rw [hg7.out]; exact hS1.size
  have n8 : W.heap.size ≤ g8 := by rw [hg8.out]; exact hS2.size
  have n12 : W.heap.size ≤ g12 := by rw [hg12.out]; exact hS4.size
  refine (rnorm_any _ _ _ _ _ _ R4.out (Nat.le_refl _)).mono ?_
  intro e w5 hr5
  obtain ⟨A6, c6, rfl, R6, hb5⟩ := RetOwn.nat hr5
  clear hr5
  have hS5 : Below W.heap.size W w5 := Below.then_ hSW4 hb5
  have hT5 := hS5.mono hg.out
  have b12' := b12.out.keep hb5
  replace b7 := hide (b7.out.keep hb5)
  replace b8 := hide (b8.out.keep hb5)
  replace x1 := hide (Rd.then_ x1.out hb5)
  replace x2 := hide (Rd.then_ x2.out hb5)
  replace R5 := hide (Rd.then_ R5.out hb5)
  replace hb5 := hide hb5
  clear R4 R6
  replace b12 := hide b12'
  clear b12'
  rw [val_dig, hm0.out, dig_zero, List.length_nil]
  go_wp2_with fail
  have R_q0 := R5
  have k70 := b7.out.but0 (g1 := w.heap.size + 1 + 1) (g2 := w.heap.size + 1 + 1 + 1) (by have := hsz.out; omega) (by have := hsz.out; omega)
  have k71 := b7.out.but1 (g1 := w.heap.size + 1 + 1) (g2 := w.heap.size + 1 + 1 + 1) (by have := hsz.out; omega) (by have := hsz.out; omega)
  have k80 := b8.out.but0 (g1 := w.heap.size + 1 + 1) (g2 := w.heap.size + 1 + 1 + 1) (by have := hsz.out; omega) (by have := hsz.out; omega)
  have k81 := b8.out.but1 (g1 := w.heap.size + 1 + 1) (g2 := w.heap.size + 1 + 1 + 1) (by have := hsz.out; omega) (by have := hsz.out; omega)
  have k120 := b12.out.but0 (g1 := w.heap.size + 1 + 1) (g2 := w.heap.size + 1 + 1 + 1) (by have := hsz.out; omega) (by have := hsz.out; omega)
  have k121 := b12.out.but1 (g1 := w.heap.size + 1 + 1) (g2 := w.heap.size + 1 + 1 + 1) (by have := hsz.out; omega) (by have := hsz.out; omega)
  have hmn : n2 + (dig (zmag q)).length ≤ 70368744177664 := by have := hN2.out; have := hqn.out; omega
  have hn1' : n1 + 1 ≤ 70368744177664 := by have := hN1.out; omega
  replace hmn := hide hmn
  replace hn1' := hide hn1'
  clear n7 n8 n12
  go_region_held3 (fun w' => KeptBut (w.heap.size + 1 + 1) (w.heap.size + 1 + 1 + 1) w5.heap.size w5 w') (first | assumption | (with_reducible exact KeptBut.drw _) | ((repeat (first | (with_reducible refine KeptBut.set0 ?_ _) | (with_reducible refine KeptBut.set1 ?_ _))); with_reducible exact hK7))
    (first
      | (go_at_call 79; ((with_reducible refine (rimul_any _ _ p2 (zneg q) A2 A5 n2 c2 _ c5 _ _ (Rd.then_ x2.out (Below.drw_ _)) (Rd.then_ R_q0.out (Below.drw_ _)) (Nat.le_refl _) hmn.out).mono ?_); rw [hyq.out]; rintro e w6 ⟨A6, c6, rfl, R6, hb6⟩; have hU6 : Below w5.heap.size w5 w6 := Below.then_ (Below.drw_ _) hb6; have hS6 : Below W.heap.size W w6 := Below.then_ hS5 hU6; have hT6 := hS6.mono hg.out; have hK6 : KeptBut (w.heap.size + 1 + 1) (w.heap.size + 1 + 1 + 1) w5.heap.size w5 w6 := KeptBut.below hU6; replace hb6 := hide hb6; replace hU6 := hide hU6; replace R6 := hide R6))
      | (go_at_call 124; ((with_reducible refine (risub_any _ _ p1 _ A1 _ n1 c1 _ _ _ _ (Rd.then_ x1.out hU6.out) R6.out (Nat.le_refl _) hn1'.out hml.out).mono ?_); rw [hrr.out]; rintro e w7 ⟨A7, c7, rfl, R7, hb7⟩; have hU7 : Below w5.heap.size w5 w7 := Below.then_ hU6.out hb7; have hS7 : Below W.heap.size W w7 := Below.then_ hS5 hU7; have hT7 := hS7.mono hg.out; have hK7 : KeptBut (w.heap.size + 1 + 1) (w.heap.size + 1 + 1 + 1) w5.heap.size w5 w7 := KeptBut.below hU7; replace hb7 := hide hb7; replace hU7 := hide hU7; replace R7 := hide R7)))
  have R_q := R_q0
  have R_r := hide R7.out
  clear k70 k71 k80 k81 k120 k121
  go_wp2
  exact bodyPost_ret (v := .tuple #[.agg #[.bool (zneg q), .slice A5 (dig (zmag q)).length c5], .agg #[.bool (zneg r), .slice A7 (dig (zmag r)).length c7], .bool true]) (by simp [results, Tryz.results85, go_sem, c20 _ hS7, c21 _ hS7, c30 _ hS7, c31 _ hS7]) rfl
    (RetIDM.box (hwW.out.trans (hS7.mono hwW.out.size)) (by omega) (by omega) (c20 _ hS7) (c21 _ hS7) (c30 _ hS7) (c31 _ hS7) (Rd.then_ R_q.out hU7.out) R_r.out)

set_option maxHeartbeats 4000000 in
theorem ridiv_below (w : World) (Bd : Nat) (s s' : Bool) (A A' : Option Addr) (n c n' c' : Nat) (xs ys : List Nat) (h : Rd w Bd A n c xs) (h' : Rd w Bd A' n' c' ys) (hB : Bd ≤ w.heap.size) (hn : n + n' + 2 ≤ 70368744177664) (hnn : n ≤ 35184372088000) (h0 : val ys ≠ 0) (hpp : ¬ zneg (iv s (val xs)) = zneg (iv s' (val ys))) (hm0 : ¬ val xs % val ys = 0) :
    Calls Tryz.prog 85 #[.agg #[.bool s, .slice A n c], .agg #[.bool s', .slice A' n' c']] w (RetIDM w (fq s s' (val xs) (val ys)) (fr s s' (val xs) (val ys)) true) := by
  obtain ⟨z1, hz1⟩ : ∃ z, z = iv s (val xs) := ⟨_, rfl⟩
  obtain ⟨z2, hz2'⟩ : ∃ z, z = iv s' (val ys) := ⟨_, rfl⟩
  have hz2 := hz2'.symm
  obtain ⟨p1, hp1⟩ : ∃ p, p = zneg z1 := ⟨_, rfl⟩
  obtain ⟨m1, hm1⟩ : ∃ m, m = zmag z1 := ⟨_, rfl⟩
  obtain ⟨n1, hn1⟩ : ∃ n, n = (dig m1).length := ⟨_, rfl⟩
  obtain ⟨p2, hp2⟩ : ∃ p, p = zneg z2 := ⟨_, rfl⟩
  obtain ⟨m2, hm2⟩ : ∃ m, m = zmag z2 := ⟨_, rfl⟩
  obtain ⟨n2, hn2⟩ : ∃ n, n = (dig m2).length := ⟨_, rfl⟩
  have he1 : m1 = val xs := by rw [hm1, hz1, zmag_iv]
  have he2 : m2 = val ys := by rw [hm2, ← hz2, zmag_iv]
  rw [hm1] at hn1
  rw [hm2] at hn2
  obtain ⟨q, hq⟩ : ∃ q, q = fq s s' (val xs) (val ys) := ⟨_, rfl⟩
  obtain ⟨r, hr⟩ : ∃ r, r = fr s s' (val xs) (val ys) := ⟨_, rfl⟩
  rw [← hq, ← hr]
  have hr1 : z1 - z2 * q = r := by rw [hr, hq, hz1, hz2']; rfl
  have hq1 : q = fq p1 p2 m1 m2 := by rw [hq, hp1, hp2, he1, he2, hz1, hz2', fq_norm h0]
  rw [← hz1, ← hz2', ← hp1, ← hp2] at hpp
  rw [← he1, ← he2] at hm0
  obtain ⟨q0, hq00⟩ : ∃ z, z = iv true (m1 / m2) := ⟨_, rfl⟩
  have hpb : (p1 == p2) = false := by simpa using hpp
  have hq2 : iv true (val (dig (m1 / m2))) = q0 := by rw [hq00, val_dig]
  have hq3 : iv (zneg q0) (val (dig (zmag q0))) - iv (zneg 1) (val (dig (zmag 1))) = q := by rw [val_ieta, val_ieta, hq00, hq1, fq_step p1 p2 hpp hm0]
  have hql : (dig (zmag q0)).length ≤ n := by
    rw [hq00, zmag_iv]
    have h1 := dig_len_mono (Nat.div_le_self m1 m2)
    have h2 := dig_len_val h.limbs
    have := h.len
    rw [← he1] at h2
    omega
  have hN1 : n1 ≤ n := by have h2 := dig_len_val h.limbs; have := h.len; rw [← he1] at h2; rw [← hm1] at hn1; omega
  have hN2 : n2 ≤ n' := by have h2 := dig_len_val h'.limbs; have := h'.len; rw [← he2] at h2; rw [← hm2] at hn2; omega
  have hqn : (dig (zmag q)).length ≤ n + 1 := by
    have h2 := dig_len_val h.limbs
    have h3 := h.len
    rw [← he1] at h2
    have h4 := fq_len p1 p2 m1 m2
    rw [← hq1] at h4
    omega
  have hv2 : val (dig m2) ≠ 0 := by rw [val_dig, he2]; exact h0
  have hrr : iv p1 (val (dig m1)) - iv (zneg (z2 * q)) (val (dig (zmag (z2 * q)))) = r := by rw [val_ieta, hp1, hm1, val_ieta]; exact hr1
  have hyq : iv p2 (val (dig m2)) * iv (zneg q) (val (dig (zmag q))) = z2 * q := by rw [val_ieta, hp2, hm2, val_ieta]
  have hml : (dig (zmag (z2 * q))).length + 1 ≤ 70368744177664 := by
    have h1 : zmag (z2 * q) = zmag z2 * zmag q := Int.natAbs_mul _ _
    have h2 := lt_mul ((dig_len_le (zmag z2) _).1 (Nat.le_refl _)) ((dig_len_le (zmag q) _).1 (Nat.le_refl _))
    rw [← h1] at h2
    have h3 := (dig_len_le _ _).2 h2
    rw [← hn2] at h3
    omega
  clear hr1 hq hr h0 hpp hq00 hq1
  replace hq2 := hide hq2
  replace hv2 := hide hv2
  replace hrr := hide hrr
  replace hyq := hide hyq
  replace hml := hide hml
  replace hqn := hide hqn
  replace hN1 := hide hN1
  replace hN2 := hide hN2
  replace hm0 := hide hm0
  replace hq3 := hide hq3
  replace hql := hide hql
  clear he1 he2
  replace hz1 := hide hz1
  replace hz2 := hide hz2
  replace hp1 := hide hp1
  replace hp2 := hide hp2
  replace hm1 := hide hm1
  replace hm2 := hide hm2
  replace hn1 := hide hn1
  replace hn2 := hide hn2
  clear hz2'
  have H := hide h
  have H' := hide h'
  clear h h'
  obtain ⟨W, hW⟩ : ∃ W, W = ((((w.alloc (.cells #[.bool s, .slice A n c] 25)).alloc (.cells #[.bool s', .slice A' n' c'] 25)).alloc (.cells #[.bool false, .slice none 0 0] 25)).alloc (.cells #[.bool false, .slice none 0 0] 25)) := ⟨_, rfl⟩
  have b0 : Box W (w.heap.size) (.bool s) (.slice A n c) := by rw [hW]; exact ((((Box.new w _ _ rfl).al _).al _).al _)
  have b1 : Box W (w.heap.size + 1) (.bool s') (.slice A' n' c') := by rw [hW]; exact (((Box.new _ _ _ (by simp)).al _).al _)
  have b2 : Box W (w.heap.size + 1 + 1) (.bool false) (.slice none 0 0) := by rw [hW]; exact ((Box.new _ _ _ (by simp)).al _)
  have b3 : Box W (w.heap.size + 1 + 1 + 1) (.bool false) (.slice none 0 0) := by rw [hW]; exact (Box.new _ _ _ (by simp))
  have hwW : Below w.heap.size w W := by rw [hW]; exact (((((Below.refl _ _).alloc (Nat.le_refl _) _).alloc (by simp) _).alloc (by simp; omega) _).alloc (by simp; omega) _)
  have hsz : W.heap.size = w.heap.size + 4 := by rw [hW]; simp
  replace hsz := hide hsz
  go_enter Tryz.func85, Tryz.ntmps85
  go_wp2_with fail
  rw [← hW]
  clear hW
  have hg : w.heap.size + 1 + 1 ≤ W.heap.size := by have := hsz.out; omega
  have c00 := b0.at0 (B := w.heap.size + 1 + 1) (by omega) hg
  have c01 := b0.at1 (B := w.heap.size + 1 + 1) (by omega) hg
  have c10 := b1.at0 (B := w.heap.size + 1 + 1) (by omega) hg
  have c11 := b1.at1 (B := w.heap.size + 1 + 1) (by omega) hg
  have c20 := b2.at0 b2.lt_size (Nat.le_refl _)
  have c21 := b2.at1 b2.lt_size (Nat.le_refl _)
  have f20 := b2.free0 b2.lt_size (Nat.le_refl _)
  have f21 := b2.free1 b2.lt_size (Nat.le_refl _)
  have l2 := b2.lt b2.lt_size (Nat.le_refl _)
  have c30 := b3.at0 b3.lt_size (Nat.le_refl _)
  have c31 := b3.at1 b3.lt_size (Nat.le_refl _)
  have f30 := b3.free0 b3.lt_size (Nat.le_refl _)
  have f31 := b3.free1 b3.lt_size (Nat.le_refl _)
  have l3 := b3.lt b3.lt_size (Nat.le_refl _)
  have hS0 : Below W.heap.size W W := Below.refl _ _
  have hT0 := hS0.mono hg
  replace hg := hide hg
  replace hwW := hide hwW
  replace b0 := hide b0
  replace b1 := hide b1
  replace b2 := hide b2
  replace b3 := hide b3
  have hx : ∀ w', Below W.heap.size W w' → Rd w' w'.heap.size A n c xs := fun w' hS => H.out.there hB hwW.out hS
  have hy : ∀ w', Below W.heap.size W w' → Rd w' w'.heap.size A' n' c' ys := fun w' hS => H'.out.there hB hwW.out hS
  replace hx := hide hx
  replace hy := hide hy
  refine (rinorm_any _ _ s A n c xs (hx.out _ hS0) (Nat.le_refl _)).mono ?_
  rw [← hz1.out]
  rintro e w1 ⟨A1, c1, rfl, R1, hb1⟩
  have hS1 : Below W.heap.size W w1 := Below.then_ hS0 hb1
  have hT1 := hS1.mono hg.out
  replace hb1 := hide hb1
  rw [← hn1.out, ← hm1.out] at R1
  rw [← hn1.out, ← hp1.out]
  replace R1 := hide R1
  have hwW0 := Nat.le_refl W.heap.size
  have hT1a : Below (w.heap.size + 1 + 1) W (w1.alloc (.cells #[.bool p1, .slice A1 n1 c1] 25)) := hT1.alloc (Nat.le_trans hg.out (Nat.le_trans hwW0 hS1.size)) _
  go_wp2_with fail
  clear hT1a
  obtain ⟨W1, hW1⟩ : ∃ W1, W1 = w1.alloc (.cells #[.bool p1, .slice A1 n1 c1] 25) := ⟨_, rfl⟩
  obtain ⟨g7, hg7⟩ : ∃ g7, g7 = w1.heap.size := ⟨_, rfl⟩
  rw [← hW1, ← hg7]
  have hlg7 : Below w1.heap.size w1 W1 := by rw [hW1]; exact (Below.refl _ _).alloc (Nat.le_refl _) _
  have hSW1 : Below W.heap.size W W1 := Below.then_ hS1 hlg7
  have b7 : Box W1 g7 (.bool p1) (.slice A1 n1 c1) := by rw [hW1]; exact Box.new _ _ _ hg7
  replace hg7 := hide hg7
  clear hW1
  have hTW1 := hSW1.mono hg.out
  refine (rinorm_any _ _ s' A' n' c' ys (hy.out _ hSW1) (Nat.le_refl _)).mono ?_
  rw [hz2.out]
  rintro e w2 ⟨A2, c2, rfl, R2, hb2⟩
  have hS2 : Below W.heap.size W w2 := Below.then_ hSW1 hb2
  have hT2 := hS2.mono hg.out
  have b7' := b7.keep hb2
  replace hb2 := hide hb2
  rw [← hn2.out, ← hm2.out] at R2
  rw [← hn2.out, ← hp2.out]
  replace R2 := hide R2
  have hT2a : Below (w.heap.size + 1 + 1) W (w2.alloc (.cells #[.bool p2, .slice A2 n2 c2] 25)) := hT2.alloc (Nat.le_trans hg.out (Nat.le_trans hwW0 hS2.size)) _
  have c7 := (b7'.al (.cells #[.bool p2, .slice A2 n2 c2] 25)).both _ (Below.refl _ _)
  obtain ⟨c70, c71, f70, f71, l7⟩ := c7
  replace b7 := hide b7'
  clear b7'
  go_wp2_with fail
  clear hT2a c70 c71 f70 f71 l7
  obtain ⟨W2, hW2⟩ : ∃ W2, W2 = w2.alloc (.cells #[.bool p2, .slice A2 n2 c2] 25) := ⟨_, rfl⟩
  obtain ⟨g8, hg8⟩ : ∃ g8, g8 = w2.heap.size := ⟨_, rfl⟩
  rw [← hW2, ← hg8]
  have hlg8 : Below w2.heap.size w2 W2 := by rw [hW2]; exact (Below.refl _ _).alloc (Nat.le_refl _) _
  have hSW2 : Below W.heap.size W W2 := Below.then_ hS2 hlg8
  have b8 : Box W2 g8 (.bool p2) (.slice A2 n2 c2) := by rw [hW2]; exact Box.new _ _ _ hg8
  replace hg8 := hide hg8
  clear hW2
  have hTW2 := hSW2.mono hg.out
  replace b7 := hide (b7.out.keep hlg8)
  have x1 : Rd W2 W2.heap.size A1 n1 c1 (dig m1) := Rd.then_ (Rd.then_ (Rd.then_ R1.out hlg7) hb2.out) hlg8
  have x2 : Rd W2 W2.heap.size A2 n2 c2 (dig m2) := Rd.then_ R2.out hlg8
  replace x1 := hide x1
  replace x2 := hide x2
  clear R1 R2
  refine (rdivmod_any _ _ A1 A2 n1 c1 n2 c2 _ _ x1.out x2.out (Nat.le_refl _) (by have := hN1.out; omega) hv2.out).mono ?_
  intro e w3 hr3
  rw [RetDM_dig] at hr3
  obtain ⟨A3, c3, A4, c4, rfl, R3, R4, hb3⟩ := hr3
  have hS3 : Below W.heap.size W w3 := Below.then_ hSW2 hb3
  have hT3 := hS3.mono hg.out
  have b7' := b7.out.keep hb3
  have b8' := b8.keep hb3
  replace b8 := b8'
  clear b8'
  replace x1 := hide (Rd.then_ x1.out hb3)
  replace x2 := hide (Rd.then_ x2.out hb3)
  replace hb3 := hide hb3
  replace R3 := hide R3
  replace R4 := hide R4
  obtain ⟨c70, c71, f70, f71, l7⟩ := b7'.both _ (Below.refl _ _)
  obtain ⟨c80, c81, f80, f81, l8⟩ := b8.both _ (Below.refl _ _)
  replace b7 := hide b7'
  replace b8 := hide b8
  clear b7'
  go_wp2_with fail
  clear c70 c71 f70 f71 l7 c80 c81 f80 f81 l8
  refine (rimake_any _ _ true _ _ _ _ R3.out (Nat.le_refl _)).mono ?_
  rw [hq2.out]
  rintro e w4 ⟨A5, c5, rfl, R5, hb4⟩
  have hS4 : Below W.heap.size W w4 := Below.then_ hS3 hb4
  have hT4 := hS4.mono hg.out
  have b7' := b7.out.keep hb4
  have b8' := b8.out.keep hb4
  replace x1 := hide (Rd.then_ x1.out hb4)
  replace x2 := hide (Rd.then_ x2.out hb4)
  replace R4 := hide (Rd.then_ R4.out hb4)
  replace hb4 := hide hb4
  replace R5 := hide R5
  clear R3
  have hT4a : Below (w.heap.size + 1 + 1) W (w4.alloc (.cells #[.bool (zneg q0), .slice A5 (dig (zmag q0)).length c5] 25)) := hT4.alloc (Nat.le_trans hg.out (Nat.le_trans hwW0 hS4.size)) _
  obtain ⟨c70, c71, f70, f71, l7⟩ := (b7'.al (.cells #[.bool (zneg q0), .slice A5 (dig (zmag q0)).length c5] 25)).both _ (Below.refl _ _)
  obtain ⟨c80, c81, f80, f81, l8⟩ := (b8'.al (.cells #[.bool (zneg q0), .slice A5 (dig (zmag q0)).length c5] 25)).both _ (Below.refl _ _)
  have h7lt := b7'.lt_size
  have h8lt := b8'.lt_size
  replace b7 := hide b7'
  replace b8 := hide b8'
  clear b7' b8'
  go_wp2_with fail
  clear hT4a c70 c71 f70 f71 l7 c80 c81 f80 f81 l8
  obtain ⟨W4, hW4⟩ : ∃ W4, W4 = w4.alloc (.cells #[.bool (zneg q0), .slice A5 (dig (zmag q0)).length c5] 25) := ⟨_, rfl⟩
  obtain ⟨g12, hg12⟩ : ∃ g12, g12 = w4.heap.size := ⟨_, rfl⟩
  rw [← hW4, ← hg12]
  have hlg12 : Below w4.heap.size w4 W4 := by rw [hW4]; exact (Below.refl _ _).alloc (Nat.le_refl _) _
  have hSW4 : Below W.heap.size W W4 := Below.then_ hS4 hlg12
  have b12 : Box W4 g12 (.bool (zneg q0)) (.slice A5 (dig (zmag q0)).length c5) := by rw [hW4]; exact Box.new _ _ _ hg12
  replace hg12 := hide hg12
  clear hW4
  have hTW4 := hSW4.mono hg.out
  replace b7 := hide (b7.out.keep hlg12)
  replace b8 := hide (b8.out.keep hlg12)
  replace x1 := hide (Rd.then_ x1.out hlg12)
  replace x2 := hide (Rd.then_ x2.out hlg12)
  replace R4 := hide (Rd.then_ R4.out hlg12)
  replace R5 := hide (Rd.then_ R5.out hlg12)
  replace b12 := hide b12
  have n7 : W.heap.size ≤ g7 := by rw [hg7.out]; exact hS1.size
  have n8 : W.heap.size ≤ g8 := by rw [hg8.out]; exact hS2.size
  have n12 : W.heap.size ≤ g12 := by rw [hg12.out]; exact hS4.size
  have n7' : g7 ≠ g12 := by rw [hg12.out]; exact Nat.ne_of_lt h7lt
  have n8' : g8 ≠ g12 := by rw [hg12.out]; exact Nat.ne_of_lt h8lt
  refine (rnorm_any _ _ _ _ _ _ R4.out (Nat.le_refl _)).mono ?_
  intro e w5 hr5
  obtain ⟨A6, c6, rfl, R6, hb5⟩ := RetOwn.nat hr5
  clear hr5
  have hS5 : Below W.heap.size W w5 := Below.then_ hSW4 hb5
  have hT5 := hS5.mono hg.out
  have b12' := b12.out.keep hb5
  replace b7 := hide (b7.out.keep hb5)
  replace b8 := hide (b8.out.keep hb5)
  replace x1 := hide (Rd.then_ x1.out hb5)
  replace x2 := hide (Rd.then_ x2.out hb5)
  replace R5 := hide (Rd.then_ R5.out hb5)
  replace hb5 := hide hb5
  clear R4 R6
  replace b12 := hide b12'
  clear b12'
  rw [val_dig]
  obtain ⟨nl, hnl⟩ : ∃ nl, nl = (dig (m1 % m2)).length := ⟨_, rfl⟩
  have hlp : 0 < nl := by rw [hnl]; exact Nat.pos_of_ne_zero (mt dig_len_zero.1 hm0.out)
  rw [← hnl]
  clear hnl
  go_wp2_with fail
  have h1of : Hid ((1 : Int) = 1) := hide rfl
  obtain ⟨c120, c121, f120, f121, l12⟩ : (∀ w', Below w5.heap.size w5 w' → w'.cell? ⟨g12, 0, none⟩ = some (.bool (zneg q0))) ∧ (∀ w', Below w5.heap.size w5 w' → w'.cell? ⟨g12, 1, none⟩ = some (.slice A5 (dig (zmag q0)).length c5)) ∧ (∀ w', Below w5.heap.size w5 w' → w'.frozen? ⟨g12, 0, none⟩ = false) ∧ (∀ w', Below w5.heap.size w5 w' → w'.frozen? ⟨g12, 1, none⟩ = false) ∧ (∀ w', Below w5.heap.size w5 w' → g12 < w'.heap.size) := ⟨b12.out.at0 b12.out.lt_size (Nat.le_refl _), b12.out.at1 b12.out.lt_size (Nat.le_refl _), b12.out.free0 b12.out.lt_size (Nat.le_refl _), b12.out.free1 b12.out.lt_size (Nat.le_refl _), b12.out.lt b12.out.lt_size (Nat.le_refl _)⟩
  have hU5 := Below.drw_ w5
  have hU5' := Below.drw_ w5
  have hq1l : (dig (zmag q0)).length + 1 ≤ 70368744177664 := by have := hql.out; omega
  replace hq1l := hide hq1l
  go_region_with (first
      | (go_at_call 122; ((with_reducible refine (riof_any _ 1 (by omega) (by omega)).mono ?_); rintro e w6 ⟨A7, c7, rfl, R7, hb6⟩; have hU6 : Below w5.heap.size w5 w6 := Below.then_ (Below.drw_ _) hb6; have hS6 : Below W.heap.size W w6 := Below.then_ hS5 hU6; replace hb6 := hide hb6; replace R7 := hide R7))
      | (go_at_call 124; ((with_reducible refine (risub_any _ _ (zneg q0) _ A5 _ _ c5 _ _ _ _ (Rd.then_ R5.out hU6) R7.out (Nat.le_refl _) hq1l.out (by rw [show zmag 1 = 1 from rfl, dig_one]; simp)).mono ?_); rw [hq3.out]; rintro e w7 ⟨A8, c8, rfl, R8, hb7⟩; have hU7 : Below w5.heap.size w5 w7 := Below.then_ hU6 hb7; have hS7 : Below W.heap.size W w7 := Below.then_ hS5 hU7; replace hb7 := hide hb7; replace R8 := hide R8)))
  all_goals
    clear c120 c121 f120 f121 l12
    go_wp2_with fail
    obtain ⟨W5, hW5⟩ : ∃ W5, W5 = (w7.setCell ⟨g12, 0, none⟩ (.bool (zneg q))).setCell ⟨g12, 1, none⟩ (.slice A8 (dig (zmag q)).length c8) := ⟨_, rfl⟩
    rw [← hW5]
    have b12w := b12.out.keep hU7
    have h12 := b12w.both _ (Below.refl _ _)
    have h121 : (w7.setCell ⟨g12, 0, none⟩ (.bool (zneg q))).cell? ⟨g12, 1, none⟩ = some (.slice A5 (dig (zmag q0)).length c5) := (World.cell?_setCell_other _ _ _ _ (by simp)).trans h12.2.1
    have far : ∀ {A n c xs}, Rd w7 w7.heap.size A n c xs → Rd W5 W5.heap.size A n c xs := fun R => by
      have := (R.far (u := .bool (zneg q)) h12.1 (fun x h => by cases h)).far (u := .slice A8 (dig (zmag q)).length c8) h121 (fun x h => by cases h)
      rw [hW5]
      simpa using this
    have b12' : Box W5 g12 (.bool (zneg q)) (.slice A8 (dig (zmag q)).length c8) := by rw [hW5]; exact b12w.set _ _
    have b7' : Box W5 g7 (.bool p1) (.slice A1 n1 c1) := by rw [hW5]; exact (((b7.out.keep hU7).other n7' _).other n7' _)
    have b8' : Box W5 g8 (.bool p2) (.slice A2 n2 c2) := by rw [hW5]; exact (((b8.out.keep hU7).other n8' _).other n8' _)
    have hS8 : Below W.heap.size W W5 := by rw [hW5]; exact (hS7.setCell n12 _).setCell n12 _
    have hT8 := hS8.mono hg.out
    have x1' := far (Rd.then_ x1.out hU7)
    have x2' := far (Rd.then_ x2.out hU7)
    have R8' := far R8.out
    clear h12 h121 b12w hU7 hU6 hS6 hS7 far hW5 n7' n8'
    replace b7 := hide b7'
    replace b8 := hide b8'
    replace b12 := hide b12'
    replace x1 := hide x1'
    replace x2 := hide x2'
    replace R5 := hide R8'
    clear R8 R7 b7' b8' b12' x1' x2' R8'
    have R_q0 := R5
    have k70 := b7.out.but0 (g1 := w.heap.size + 1 + 1) (g2 := w.heap.size + 1 + 1 + 1) (by have := hsz.out; omega) (by have := hsz.out; omega)
    have k71 := b7.out.but1 (g1 := w.heap.size + 1 + 1) (g2 := w.heap.size + 1 + 1 + 1) (by have := hsz.out; omega) (by have := hsz.out; omega)
    have k80 := b8.out.but0 (g1 := w.heap.size + 1 + 1) (g2 := w.heap.size + 1 + 1 + 1) (by have := hsz.out; omega) (by have := hsz.out; omega)
    have k81 := b8.out.but1 (g1 := w.heap.size + 1 + 1) (g2 := w.heap.size + 1 + 1 + 1) (by have := hsz.out; omega) (by have := hsz.out; omega)
    have k120 := b12.out.but0 (g1 := w.heap.size + 1 + 1) (g2 := w.heap.size + 1 + 1 + 1) (by have := hsz.out; omega) (by have := hsz.out; omega)
    have k121 := b12.out.but1 (g1 := w.heap.size + 1 + 1) (g2 := w.heap.size + 1 + 1 + 1) (by have := hsz.out; omega) (by have := hsz.out; omega)
    have hmn : n2 + (dig (zmag q)).length ≤ 70368744177664 := by have := hN2.out; have := hqn.out; omega
    have hn1' : n1 + 1 ≤ 70368744177664 := by have := hN1.out; omega
    replace hmn := hide hmn
    replace hn1' := hide hn1'
    clear n7 n8 n12
    go_region_held3 (fun w' => KeptBut (w.heap.size + 1 + 1) (w.heap.size + 1 + 1 + 1) W5.heap.size W5 w') (first | assumption | (with_reducible exact KeptBut.drw _) | ((repeat (first | (with_reducible refine KeptBut.set0 ?_ _) | (with_reducible refine KeptBut.set1 ?_ _))); with_reducible exact hK10))
      (first
        | (go_at_call 79; ((with_reducible refine (rimul_any _ _ p2 (zneg q) A2 A8 n2 c2 _ c8 _ _ (Rd.then_ x2.out (Below.drw_ _)) (Rd.then_ R_q0.out (Below.drw_ _)) (Nat.le_refl _) hmn.out).mono ?_); rw [hyq.out]; rintro e w9 ⟨A9, c9, rfl, R9, hb9⟩; have hU9 : Below W5.heap.size W5 w9 := Below.then_ (Below.drw_ _) hb9; have hS9 : Below W.heap.size W w9 := Below.then_ hS8 hU9; have hT9 := hS9.mono hg.out; have hK9 : KeptBut (w.heap.size + 1 + 1) (w.heap.size + 1 + 1 + 1) W5.heap.size W5 w9 := KeptBut.below hU9; replace hb9 := hide hb9; replace hU9 := hide hU9; replace R9 := hide R9))
        | (go_at_call 124; ((with_reducible refine (risub_any _ _ p1 _ A1 _ n1 c1 _ _ _ _ (Rd.then_ x1.out hU9.out) R9.out (Nat.le_refl _) hn1'.out hml.out).mono ?_); rw [hrr.out]; rintro e w10 ⟨A10, c10, rfl, R10, hb10⟩; have hU10 : Below W5.heap.size W5 w10 := Below.then_ hU9.out hb10; have hS10 : Below W.heap.size W w10 := Below.then_ hS8 hU10; have hT10 := hS10.mono hg.out; have hK10 : KeptBut (w.heap.size + 1 + 1) (w.heap.size + 1 + 1 + 1) W5.heap.size W5 w10 := KeptBut.below hU10; replace hb10 := hide hb10; replace hU10 := hide hU10; replace R10 := hide R10)))
    have R_q := R_q0
    have R_r := hide R10.out
    clear k70 k71 k80 k81 k120 k121
    go_wp2
    exact bodyPost_ret (v := .tuple #[.agg #[.bool (zneg q), .slice A8 (dig (zmag q)).length c8], .agg #[.bool (zneg r), .slice A10 (dig (zmag r)).length c10], .bool true]) (by simp [results, Tryz.results85, go_sem, c20 _ hS10, c21 _ hS10, c30 _ hS10, c31 _ hS10]) rfl
      (RetIDM.box (hwW.out.trans (hS10.mono hwW.out.size)) (by omega) (by omega) (c20 _ hS10) (c21 _ hS10) (c30 _ hS10) (c31 _ hS10) (Rd.then_ R_q.out hU10.out) R_r.out)

theorem ridiv_any (w : World) (Bd : Nat) (s s' : Bool) (A A' : Option Addr) (n c n' c' : Nat) (xs ys : List Nat) (h : Rd w Bd A n c xs) (h' : Rd w Bd A' n' c' ys) (hB : Bd ≤ w.heap.size) (hn : n + n' + 2 ≤ 70368744177664) (hnn : n ≤ 35184372088000) (h0 : val ys ≠ 0) :
    Calls Tryz.prog 85 #[.agg #[.bool s, .slice A n c], .agg #[.bool s', .slice A' n' c']] w (RetIDM w (fq s s' (val xs) (val ys)) (fr s s' (val xs) (val ys)) true) := by
  by_cases hpp : zneg (iv s (val xs)) = zneg (iv s' (val ys))
  · exact ridiv_same w Bd s s' A A' n c n' c' xs ys h h' hB hn hnn h0 hpp
  · by_cases hm : val xs % val ys = 0
    · exact ridiv_whole w Bd s s' A A' n c n' c' xs ys h h' hB hn hnn h0 hpp hm
    · exact ridiv_below w Bd s s' A A' n c n' c' xs ys h h' hB hn hnn h0 hpp hm

end Go.Proofs.YtdlmfembnmomjaaGreatDoor
