/-
  Int6.
-/
import Derived.Test.YtdlmfembnmomjaaGreatDoorIntB
import Derived.Test.YtdlmfembnmomjaaGreatDoorNatLong
import Derived.Test.YtdlmfembnmomjaaGreatDoorNatMem
namespace Go.Proofs.YtdlmfembnmomjaaGreatDoor
section
open Go.RowKit

theorem dig_one : dig 1 = [1] := by rw [dig_pos (by omega), show 1 / 4294967296 = 0 from rfl, dig_zero]
/-- the floored quotient, by signs and magnitudes -/
def fq (s s' : Bool) (x y : Nat) : Int := if s = s' then ((x / y : Nat) : Int) else if x % y = 0 then -((x / y : Nat) : Int) else -((x / y + 1 : Nat) : Int)
def fr (s s' : Bool) (x y : Nat) : Int := iv s x - iv s' y * fq s s' x y
theorem fq_same (s : Bool) (x y : Nat) : fq s s x y = iv false (x / y) := by unfold fq; rw [if_pos rfl, iv_false]
theorem fq_whole {s s' : Bool} (hs : ¬ s = s') {x y : Nat} (h : x % y = 0) : fq s s' x y = iv true (x / y) := by unfold fq; rw [if_neg hs, if_pos h, iv_true]
theorem fq_below {s s' : Bool} (hs : ¬ s = s') {x y : Nat} (h : ¬ x % y = 0) : fq s s' x y = iv true (x / y + 1) := by unfold fq; rw [if_neg hs, if_neg h, iv_true]
theorem dm_int (x y : Nat) : (x : Int) = y * ((x / y : Nat) : Int) + ((x % y : Nat) : Int) := by exact_mod_cast (Nat.div_add_mod x y).symm
theorem fr_same (s : Bool) (x y : Nat) : fr s s x y = iv s (x % y) := by
  unfold fr; rw [fq_same, iv_false]
  have h := dm_int x y
  cases s
  · simp only [iv_false]; omega
  · simp only [iv_true, Int.neg_mul]; omega
theorem fr_whole {s s' : Bool} (hs : ¬ s = s') {x y : Nat} (h : x % y = 0) : fr s s' x y = 0 := by
  unfold fr; rw [fq_whole hs h, iv_true]
  have e := dm_int x y
  rw [h] at e
  cases s <;> cases s'
  · exact absurd rfl hs
  · simp only [iv_true, iv_false, Int.neg_mul, Int.mul_neg]; omega
  · simp only [iv_true, iv_false, Int.mul_neg]; omega
  · exact absurd rfl hs
theorem fr_below {s s' : Bool} (hs : ¬ s = s') {x y : Nat} (h : ¬ x % y = 0) (h0 : y ≠ 0) : fr s s' x y = iv s' (y - x % y) := by
  unfold fr; rw [fq_below hs h, iv_true]
  have e := dm_int x y
  have hl := Nat.mod_lt x (Nat.pos_of_ne_zero h0)
  have e2 : (y : Int) * ((x / y + 1 : Nat) : Int) = y * ((x / y : Nat) : Int) + y := by rw [Int.natCast_add, Int.mul_add]; omega
  cases s <;> cases s'
  · exact absurd rfl hs
  · simp only [iv_true, iv_false, Int.neg_mul, Int.mul_neg, e2]; omega
  · simp only [iv_true, iv_false, Int.mul_neg, e2]; omega
  · exact absurd rfl hs
/-- what DivMod hands back -/
def RetIDM (w : World) (q r : Int) (ok : Bool) (e : Ending) (w' : World) : Prop :=
  ∃ A c A' c', e = .returned (.tuple #[.agg #[.bool (zneg q), .slice A (dig (zmag q)).length c], .agg #[.bool (zneg r), .slice A' (dig (zmag r)).length c'], .bool ok]) ∧
    Rd w' w'.heap.size A (dig (zmag q)).length c (dig (zmag q)) ∧ Rd w' w'.heap.size A' (dig (zmag r)).length c' (dig (zmag r)) ∧ Below w.heap.size w w'
theorem RetIDM.box {w w2 : World} {q r : Int} {A1 A2 B1 B2 : Option Addr} {c1 c2 n1 n2 d1 d2 g g' : Nat} {b1 b2 ok : Bool} (hb : Below w.heap.size w w2) (hg : w.heap.size ≤ g) (hgg : g < g')
    (hc0 : w2.cell? ⟨g, 0, none⟩ = some (.bool b1)) (hc1 : w2.cell? ⟨g, 1, none⟩ = some (.slice B1 n1 d1)) (hd0 : w2.cell? ⟨g', 0, none⟩ = some (.bool b2)) (hd1 : w2.cell? ⟨g', 1, none⟩ = some (.slice B2 n2 d2))
    (R1 : Rd w2 w2.heap.size A1 (dig (zmag q)).length c1 (dig (zmag q))) (R2 : Rd w2 w2.heap.size A2 (dig (zmag r)).length c2 (dig (zmag r))) :
    RetIDM w q r ok (.returned (.tuple #[.agg #[.bool (zneg q), .slice A1 (dig (zmag q)).length c1], .agg #[.bool (zneg r), .slice A2 (dig (zmag r)).length c2], .bool ok]))
      ((((w2.setCell ⟨g, 0, none⟩ (.bool (zneg q))).setCell ⟨g, 1, none⟩ (.slice A1 (dig (zmag q)).length c1)).setCell ⟨g', 0, none⟩ (.bool (zneg r))).setCell ⟨g', 1, none⟩ (.slice A2 (dig (zmag r)).length c2)) := by
  have h1 : (w2.setCell ⟨g, 0, none⟩ (.bool (zneg q))).cell? ⟨g, 1, none⟩ = some (.slice B1 n1 d1) := (World.cell?_setCell_other _ _ _ _ (by simp)).trans hc1
  have h2 : ((w2.setCell ⟨g, 0, none⟩ (.bool (zneg q))).setCell ⟨g, 1, none⟩ (.slice A1 (dig (zmag q)).length c1)).cell? ⟨g', 0, none⟩ = some (.bool b2) :=
    ((World.cell?_setCell_other _ _ _ _ (by simp)).trans (World.cell?_setCell_other _ _ _ _ (by simp <;> omega))).trans hd0
  have h3 : (((w2.setCell ⟨g, 0, none⟩ (.bool (zneg q))).setCell ⟨g, 1, none⟩ (.slice A1 (dig (zmag q)).length c1)).setCell ⟨g', 0, none⟩ (.bool (zneg r))).cell? ⟨g', 1, none⟩ = some (.slice B2 n2 d2) :=
    ((World.cell?_setCell_other _ _ _ _ (by simp)).trans ((World.cell?_setCell_other _ _ _ _ (by simp <;> omega)).trans (World.cell?_setCell_other _ _ _ _ (by simp <;> omega)))).trans hd1
  have far : ∀ {A n c xs}, Rd w2 w2.heap.size A n c xs → Rd ((((w2.setCell ⟨g, 0, none⟩ (.bool (zneg q))).setCell ⟨g, 1, none⟩ (.slice A1 (dig (zmag q)).length c1)).setCell ⟨g', 0, none⟩ (.bool (zneg r))).setCell ⟨g', 1, none⟩ (.slice A2 (dig (zmag r)).length c2)) w2.heap.size A n c xs :=
    fun R => (((R.far hc0 (fun x h => by cases h)).far h1 (fun x h => by cases h)).far h2 (fun x h => by cases h)).far h3 (fun x h => by cases h)
  have hg' : w.heap.size ≤ g' := by omega
  refine ⟨A1, c1, A2, c2, rfl, ?_, ?_, ((((hb.setCell hg _).setCell hg _).setCell hg' _).setCell hg' _)⟩
  · simpa using far R1
  · simpa using far R2

set_option maxHeartbeats 4000000 in
theorem idiv_zero (w : World) (Bd : Nat) (s s' : Bool) (A A' : Option Addr) (n c n' c' : Nat) (xs ys : List Nat) (h : Rd w Bd A n c xs) (h' : Rd w Bd A' n' c' ys) (hB : Bd ≤ w.heap.size) (h0 : val ys = 0) :
    Calls Tryz.prog 32 #[.agg #[.bool s, .slice A n c], .agg #[.bool s', .slice A' n' c']] w (RetIDM w 0 0 false) := by
  have H := hide h
  have H' := hide h'
  clear h h'
  replace h0 := hide h0
  obtain ⟨W, hW⟩ : ∃ W, W = ((((w.alloc (.cells #[.bool s, .slice A n c] 25)).alloc (.cells #[.bool s', .slice A' n' c'] 25)).alloc (.cells #[.bool false, .slice none 0 0] 25)).alloc (.cells #[.bool false, .slice none 0 0] 25)) := ⟨_, rfl⟩
  have b0 : Box W (w.heap.size) (.bool s) (.slice A n c) := by rw [hW]; exact ((((Box.new w _ _ rfl).al _).al _).al _)
  have b1 : Box W (w.heap.size + 1) (.bool s') (.slice A' n' c') := by rw [hW]; exact (((Box.new _ _ _ (by simp)).al _).al _)
  have b2 : Box W (w.heap.size + 1 + 1) (.bool false) (.slice none 0 0) := by rw [hW]; exact ((Box.new _ _ _ (by simp)).al _)
  have b3 : Box W (w.heap.size + 1 + 1 + 1) (.bool false) (.slice none 0 0) := by rw [hW]; exact (Box.new _ _ _ (by simp))
  have hwW : Below w.heap.size w W := by rw [hW]; exact (((((Below.refl _ _).alloc (Nat.le_refl _) _).alloc (by simp) _).alloc (by simp; omega) _).alloc (by simp; omega) _)
  have hsz : W.heap.size = w.heap.size + 4 := by rw [hW]; simp
  replace hsz := hide hsz
  go_enter Tryz.func32, Tryz.ntmps32
  go_wp2_with fail
  rw [← hW]
  clear hW
  have hg : w.heap.size + 1 + 1 ≤ W.heap.size := by have := hsz.out; omega
  have c00 := b0.at0 (B := w.heap.size + 1 + 1) (by omega) hg
  have c01 := b0.at1 (B := w.heap.size + 1 + 1) (by omega) hg
  have c10 := b1.at0 (B := w.heap.size + 1 + 1) (by omega) hg
  have c11 := b1.at1 (B := w.heap.size + 1 + 1) (by omega) hg
  have c20 := b2.at0 b2.lt_size (Nat.le_refl _)
  have c21 := b2.at1 b2.lt_size (Nat.le_refl _)
  have f20 := b2.free0 b2.lt_size (Nat.le_refl _)
  have f21 := b2.free1 b2.lt_size (Nat.le_refl _)
  have l2 := b2.lt b2.lt_size (Nat.le_refl _)
  have c30 := b3.at0 b3.lt_size (Nat.le_refl _)
  have c31 := b3.at1 b3.lt_size (Nat.le_refl _)
  have f30 := b3.free0 b3.lt_size (Nat.le_refl _)
  have f31 := b3.free1 b3.lt_size (Nat.le_refl _)
  have l3 := b3.lt b3.lt_size (Nat.le_refl _)
  have hS0 : Below W.heap.size W W := Below.refl _ _
  have hT0 := hS0.mono hg
  replace hg := hide hg
  replace hwW := hide hwW
  replace b0 := hide b0
  replace b1 := hide b1
  replace b2 := hide b2
  replace b3 := hide b3
  have hx : ∀ w', Below W.heap.size W w' → Rd w' w'.heap.size A n c xs := fun w' hS => H.out.there hB hwW.out hS
  have hy : ∀ w', Below W.heap.size W w' → Rd w' w'.heap.size A' n' c' ys := fun w' hS => H'.out.there hB hwW.out hS
  replace hx := hide hx
  replace hy := hide hy
  refine (divmod_zero _ _ A A' n c n' c' xs ys (hx.out _ hS0) (hy.out _ hS0) h0.out).mono ?_
  rintro e w' ⟨rfl, rfl⟩
  have e : dig (zmag 0) = [] := by rw [show zmag 0 = 0 from rfl, dig_zero]
  have hr := RetIDM.box (ok := false) (q := 0) (r := 0) (A1 := none) (A2 := none) (c1 := 0) (c2 := 0) (hwW.out.trans (hS0.mono hwW.out.size)) (g := w.heap.size + 1 + 1) (g' := w.heap.size + 1 + 1 + 1) (by omega) (by omega) (c20 _ hS0) (c21 _ hS0) (c30 _ hS0) (c31 _ hS0)
    (by rw [e]; exact Rd.empty _ _ _ (by omega)) (by rw [e]; exact Rd.empty _ _ _ (by omega))
  rw [e] at hr
  replace hr := hide hr
  clear e
  go_wp2
  exact bodyPost_ret (v := .tuple #[.agg #[.bool false, .slice none 0 0], .agg #[.bool false, .slice none 0 0], .bool false]) (by simp [results, Tryz.results32, go_sem, c20 _ hS0, c21 _ hS0, c30 _ hS0, c31 _ hS0]) rfl hr.out

set_option maxHeartbeats 4000000 in
theorem idiv_same (w : World) (Bd : Nat) (s : Bool) (A A' : Option Addr) (n c n' c' : Nat) (xs ys : List Nat) (h : Rd w Bd A n c xs) (h' : Rd w Bd A' n' c' ys) (hB : Bd ≤ w.heap.size) (hn : n + 1 ≤ 70368744177664) (h0 : val ys ≠ 0)  :
    Calls Tryz.prog 32 #[.agg #[.bool s, .slice A n c], .agg #[.bool s, .slice A' n' c']] w (RetIDM w (fq s s (val xs) (val ys)) (fr s s (val xs) (val ys)) true) := by
  obtain ⟨q, hq0⟩ : ∃ q, q = fq s s (val xs) (val ys) := ⟨_, rfl⟩
  obtain ⟨r, hr0⟩ : ∃ r, r = fr s s (val xs) (val ys) := ⟨_, rfl⟩
  rw [← hq0, ← hr0]
  rw [fq_same] at hq0
  rw [fr_same] at hr0
  replace hq0 := hide hq0
  replace hr0 := hide hr0
  replace h0 := hide h0
  have H := hide h
  have H' := hide h'
  clear h h'
  obtain ⟨W, hW⟩ : ∃ W, W = ((((w.alloc (.cells #[.bool s, .slice A n c] 25)).alloc (.cells #[.bool s, .slice A' n' c'] 25)).alloc (.cells #[.bool false, .slice none 0 0] 25)).alloc (.cells #[.bool false, .slice none 0 0] 25)) := ⟨_, rfl⟩
  have b0 : Box W (w.heap.size) (.bool s) (.slice A n c) := by rw [hW]; exact ((((Box.new w _ _ rfl).al _).al _).al _)
  have b1 : Box W (w.heap.size + 1) (.bool s) (.slice A' n' c') := by rw [hW]; exact (((Box.new _ _ _ (by simp)).al _).al _)
  have b2 : Box W (w.heap.size + 1 + 1) (.bool false) (.slice none 0 0) := by rw [hW]; exact ((Box.new _ _ _ (by simp)).al _)
  have b3 : Box W (w.heap.size + 1 + 1 + 1) (.bool false) (.slice none 0 0) := by rw [hW]; exact (Box.new _ _ _ (by simp))
  have hwW : Below w.heap.size w W := by rw [hW]; exact (((((Below.refl _ _).alloc (Nat.le_refl _) _).alloc (by simp) _).alloc (by simp; omega) _).alloc (by simp; omega) _)
  have hsz : W.heap.size = w.heap.size + 4 := by rw [hW]; simp
  replace hsz := hide hsz
  go_enter Tryz.func32, Tryz.ntmps32
  go_wp2_with fail
  rw [← hW]
  clear hW
  have hg : w.heap.size + 1 + 1 ≤ W.heap.size := by have := hsz.out; omega
  have c00 := b0.at0 (B := w.heap.size + 1 + 1) (by omega) hg
  have c01 := b0.at1 (B := w.heap.size + 1 + 1) (by omega) hg
  have c10 := b1.at0 (B := w.heap.size + 1 + 1) (by omega) hg
  have c11 := b1.at1 (B := w.heap.size + 1 + 1) (by omega) hg
  have c20 := b2.at0 b2.lt_size (Nat.le_refl _)
  have c21 := b2.at1 b2.lt_size (Nat.le_refl _)
  have f20 := b2.free0 b2.lt_size (Nat.le_refl _)
  have f21 := b2.free1 b2.lt_size (Nat.le_refl _)
  have l2 := b2.lt b2.lt_size (Nat.le_refl _)
  have c30 := b3.at0 b3.lt_size (Nat.le_refl _)
  have c31 := b3.at1 b3.lt_size (Nat.le_refl _)
  have f30 := b3.free0 b3.lt_size (Nat.le_refl _)
  have f31 := b3.free1 b3.lt_size (Nat.le_refl _)
  have l3 := b3.lt b3.lt_size (Nat.le_refl _)
  have hS0 : Below W.heap.size W W := Below.refl _ _
  have hT0 := hS0.mono hg
  replace hg := hide hg
  replace hwW := hide hwW
  replace b0 := hide b0
  replace b1 := hide b1
  replace b2 := hide b2
  replace b3 := hide b3
  have hx : ∀ w', Below W.heap.size W w' → Rd w' w'.heap.size A n c xs := fun w' hS => H.out.there hB hwW.out hS
  have hy : ∀ w', Below W.heap.size W w' → Rd w' w'.heap.size A' n' c' ys := fun w' hS => H'.out.there hB hwW.out hS
  replace hx := hide hx
  replace hy := hide hy
  refine (divmod_any _ _ A A' n c n' c' xs ys (hx.out _ hS0) (hy.out _ hS0) (Nat.le_refl _) hn h0.out).mono ?_
  rintro e w1 ⟨A1, c1, A2, c2, rfl, R1, R2, hb1⟩
  have hS1 : Below W.heap.size W w1 := Below.then_ hS0 hb1
  have hT1 := hS1.mono hg.out
  replace hb1 := hide hb1
  replace R1 := hide R1
  replace R2 := hide R2
  obtain ⟨n2, hn2⟩ : ∃ n2, n2 = (dig (val xs % val ys)).length := ⟨_, rfl⟩
  rw [← hn2] at R2 ⊢
  clear hn2
  have hSd : Below W.heap.size W w1.drew := Below.then_ hS1 (Below.drw_ _)
  have hTd := hSd.mono hg.out
  go_wp2_with fail
  go_region_held3 (fun w' => Below (w.heap.size + 1 + 1) W w') (first | assumption | (with_reducible exact (Below.drw_ _).mono hg.out) | ((repeat (refine Below.setCell ?_ (by first | exact Nat.le_refl _ | exact Nat.le_succ _) _)); exact hT7))
    (first
      | (go_at_call 70; ((with_reducible refine (signed_any _ _ false _ _ _ _ (Rd.then_ R1.out (Below.drw_ _)) (Nat.le_refl _)).mono ?_); rw [← hq0.out]; rintro e w6 ⟨A6, c6, rfl, R6, hb6⟩; have hS6 : Below W.heap.size W w6 := Below.then_ hSd hb6; have hT6 := hS6.mono hg.out; replace hb6 := hide hb6; replace R6 := hide R6))
      | (go_at_call 70; ((with_reducible refine (signed_any _ _ s _ _ _ _ (Rd.then_ R2.out (Below.then_ (Below.drw_ _) hb6.out)) (Nat.le_refl _)).mono ?_); rw [← hr0.out]; rintro e w7 ⟨A7, c7, rfl, R7, hb7⟩; have hS7 : Below W.heap.size W w7 := Below.then_ hS6 hb7; have hT7 := hS7.mono hg.out; replace hb7 := hide hb7; replace R7 := hide R7)))
  have R_q := hide R6.out
  have R_r := hide R7.out
  clear R6 R7
  go_wp2
  exact bodyPost_ret (v := .tuple #[.agg #[.bool (zneg q), .slice A6 (dig (zmag q)).length c6], .agg #[.bool (zneg r), .slice A7 (dig (zmag r)).length c7], .bool true]) (by simp [results, Tryz.results32, go_sem, c20 _ hS7, c21 _ hS7, c30 _ hS7, c31 _ hS7]) rfl
    (RetIDM.box (hwW.out.trans (hS7.mono hwW.out.size)) (by omega) (by omega) (c20 _ hS7) (c21 _ hS7) (c30 _ hS7) (c31 _ hS7) (Rd.then_ R_q.out hb7.out) R_r.out)

set_option maxHeartbeats 4000000 in
theorem idiv_whole (w : World) (Bd : Nat) (s s' : Bool) (A A' : Option Addr) (n c n' c' : Nat) (xs ys : List Nat) (h : Rd w Bd A n c xs) (h' : Rd w Bd A' n' c' ys) (hB : Bd ≤ w.heap.size) (hn : n + 1 ≤ 70368744177664) (h0 : val ys ≠ 0) (hs : (s == s') = false) (hm0 : val xs % val ys = 0) :
    Calls Tryz.prog 32 #[.agg #[.bool s, .slice A n c], .agg #[.bool s', .slice A' n' c']] w (RetIDM w (fq s s' (val xs) (val ys)) (fr s s' (val xs) (val ys)) true) := by
  have hs' : ¬ s = s' := by simpa using hs
  obtain ⟨q, hq0⟩ : ∃ q, q = fq s s' (val xs) (val ys) := ⟨_, rfl⟩
  obtain ⟨r, hr0⟩ : ∃ r, r = fr s s' (val xs) (val ys) := ⟨_, rfl⟩
  rw [← hq0, ← hr0]
  rw [fq_whole hs' hm0] at hq0
  rw [fr_whole hs' hm0, ← iv_zero s'] at hr0
  clear hs'
  replace hq0 := hide hq0
  replace hr0 := hide hr0
  replace h0 := hide h0
  replace hm0 := hide hm0
  have H := hide h
  have H' := hide h'
  clear h h'
  obtain ⟨W, hW⟩ : ∃ W, W = ((((w.alloc (.cells #[.bool s, .slice A n c] 25)).alloc (.cells #[.bool s', .slice A' n' c'] 25)).alloc (.cells #[.bool false, .slice none 0 0] 25)).alloc (.cells #[.bool false, .slice none 0 0] 25)) := ⟨_, rfl⟩
  have b0 : Box W (w.heap.size) (.bool s) (.slice A n c) := by rw [hW]; exact ((((Box.new w _ _ rfl).al _).al _).al _)
  have b1 : Box W (w.heap.size + 1) (.bool s') (.slice A' n' c') := by rw [hW]; exact (((Box.new _ _ _ (by simp)).al _).al _)
  have b2 : Box W (w.heap.size + 1 + 1) (.bool false) (.slice none 0 0) := by rw [hW]; exact ((Box.new _ _ _ (by simp)).al _)
  have b3 : Box W (w.heap.size + 1 + 1 + 1) (.bool false) (.slice none 0 0) := by rw [hW]; exact (Box.new _ _ _ (by simp))
  have hwW : Below w.heap.size w W := by rw [hW]; exact (((((Below.refl _ _).alloc (Nat.le_refl _) _).alloc (by simp) _).alloc (by simp; omega) _).alloc (by simp; omega) _)
  have hsz : W.heap.size = w.heap.size + 4 := by rw [hW]; simp
  replace hsz := hide hsz
  go_enter Tryz.func32, Tryz.ntmps32
  go_wp2_with fail
  rw [← hW]
  clear hW
  have hg : w.heap.size + 1 + 1 ≤ W.heap.size := by have := hsz.out; omega
  have c00 := b0.at0 (B := w.heap.size + 1 + 1) (by omega) hg
  have c01 := b0.at1 (B := w.heap.size + 1 + 1) (by omega) hg
  have c10 := b1.at0 (B := w.heap.size + 1 + 1) (by omega) hg
  have c11 := b1.at1 (B := w.heap.size + 1 + 1) (by omega) hg
  have c20 := b2.at0 b2.lt_size (Nat.le_refl _)
  have c21 := b2.at1 b2.lt_size (Nat.le_refl _)
  have f20 := b2.free0 b2.lt_size (Nat.le_refl _)
  have f21 := b2.free1 b2.lt_size (Nat.le_refl _)
  have l2 := b2.lt b2.lt_size (Nat.le_refl _)
  have c30 := b3.at0 b3.lt_size (Nat.le_refl _)
  have c31 := b3.at1 b3.lt_size (Nat.le_refl _)
  have f30 := b3.free0 b3.lt_size (Nat.le_refl _)
  have f31 := b3.free1 b3.lt_size (Nat.le_refl _)
  have l3 := b3.lt b3.lt_size (Nat.le_refl _)
  have hS0 : Below W.heap.size W W := Below.refl _ _
  have hT0 := hS0.mono hg
  replace hg := hide hg
  replace hwW := hide hwW
  replace b0 := hide b0
  replace b1 := hide b1
  replace b2 := hide b2
  replace b3 := hide b3
  have hx : ∀ w', Below W.heap.size W w' → Rd w' w'.heap.size A n c xs := fun w' hS => H.out.there hB hwW.out hS
  have hy : ∀ w', Below W.heap.size W w' → Rd w' w'.heap.size A' n' c' ys := fun w' hS => H'.out.there hB hwW.out hS
  replace hx := hide hx
  replace hy := hide hy
  refine (divmod_any _ _ A A' n c n' c' xs ys (hx.out _ hS0) (hy.out _ hS0) (Nat.le_refl _) hn h0.out).mono ?_
  rintro e w1 ⟨A1, c1, A2, c2, rfl, R1, R2, hb1⟩
  have hS1 : Below W.heap.size W w1 := Below.then_ hS0 hb1
  have hT1 := hS1.mono hg.out
  replace hb1 := hide hb1
  rw [hm0.out, dig_zero] at R2
  rw [hm0.out, dig_zero, List.length_nil]
  replace R1 := hide R1
  replace R2 := hide R2
  have hSd : Below W.heap.size W w1.drew := Below.then_ hS1 (Below.drw_ _)
  have hTd := hSd.mono hg.out
  go_wp2_with fail
  go_region_held3 (fun w' => Below (w.heap.size + 1 + 1) W w') (first | assumption | (with_reducible exact (Below.drw_ _).mono hg.out) | ((repeat (refine Below.setCell ?_ (by first | exact Nat.le_refl _ | exact Nat.le_succ _) _)); exact hT7))
    (first
      | (go_at_call 70; ((with_reducible refine (signed_any _ _ true _ _ _ _ (Rd.then_ R1.out (Below.drw_ _)) (Nat.le_refl _)).mono ?_); rw [← hq0.out]; rintro e w6 ⟨A6, c6, rfl, R6, hb6⟩; have hS6 : Below W.heap.size W w6 := Below.then_ hSd hb6; have hT6 := hS6.mono hg.out; replace hb6 := hide hb6; replace R6 := hide R6))
      | (go_at_call 70; ((with_reducible refine (signed_any _ _ s' _ _ _ 0 (by rw [dig_zero]; exact Rd.then_ R2.out (Below.then_ (Below.drw_ _) hb6.out)) (Nat.le_refl _)).mono ?_); rw [← hr0.out]; rintro e w7 ⟨A7, c7, rfl, R7, hb7⟩; have hS7 : Below W.heap.size W w7 := Below.then_ hS6 hb7; have hT7 := hS7.mono hg.out; replace hb7 := hide hb7; replace R7 := hide R7)))
  have R_q := hide R6.out
  have R_r := hide R7.out
  clear R6 R7
  go_wp2
  exact bodyPost_ret (v := .tuple #[.agg #[.bool (zneg q), .slice A6 (dig (zmag q)).length c6], .agg #[.bool (zneg r), .slice A7 (dig (zmag r)).length c7], .bool true]) (by simp [results, Tryz.results32, go_sem, c20 _ hS7, c21 _ hS7, c30 _ hS7, c31 _ hS7]) rfl
    (RetIDM.box (hwW.out.trans (hS7.mono hwW.out.size)) (by omega) (by omega) (c20 _ hS7) (c21 _ hS7) (c30 _ hS7) (c31 _ hS7) (Rd.then_ R_q.out hb7.out) R_r.out)

set_option maxHeartbeats 4000000 in
theorem idiv_below (w : World) (Bd : Nat) (s s' : Bool) (A A' : Option Addr) (n c n' c' : Nat) (xs ys : List Nat) (h : Rd w Bd A n c xs) (h' : Rd w Bd A' n' c' ys) (hB : Bd ≤ w.heap.size) (hn : n + 1 ≤ 70368744177664) (h0 : val ys ≠ 0) (hs : (s == s') = false) (hm0 : ¬ val xs % val ys = 0) :
    Calls Tryz.prog 32 #[.agg #[.bool s, .slice A n c], .agg #[.bool s', .slice A' n' c']] w (RetIDM w (fq s s' (val xs) (val ys)) (fr s s' (val xs) (val ys)) true) := by
  have hs' : ¬ s = s' := by simpa using hs
  obtain ⟨q, hq0⟩ : ∃ q, q = fq s s' (val xs) (val ys) := ⟨_, rfl⟩
  obtain ⟨r, hr0⟩ : ∃ r, r = fr s s' (val xs) (val ys) := ⟨_, rfl⟩
  rw [← hq0, ← hr0]
  rw [fq_below hs' hm0] at hq0
  rw [fr_below hs' hm0 h0] at hr0
  clear hs'
  replace hq0 := hide hq0
  replace hr0 := hide hr0
  replace h0 := hide h0
  replace hm0 := hide hm0
  have H := hide h
  have H' := hide h'
  clear h h'
  have hql : (dig (val xs / val ys)).length + 1 ≤ 70368744177664 := by
    have h1 := dig_len_mono (Nat.div_le_self (val xs) (val ys))
    have h2 := dig_len_val H.out.limbs
    have := H.out.len
    omega
  replace hql := hide hql
  obtain ⟨W, hW⟩ : ∃ W, W = ((((w.alloc (.cells #[.bool s, .slice A n c] 25)).alloc (.cells #[.bool s', .slice A' n' c'] 25)).alloc (.cells #[.bool false, .slice none 0 0] 25)).alloc (.cells #[.bool false, .slice none 0 0] 25)) := ⟨_, rfl⟩
  have b0 : Box W (w.heap.size) (.bool s) (.slice A n c) := by rw [hW]; exact ((((Box.new w _ _ rfl).al _).al _).al _)
  have b1 : Box W (w.heap.size + 1) (.bool s') (.slice A' n' c') := by rw [hW]; exact (((Box.new _ _ _ (by simp)).al _).al _)
  have b2 : Box W (w.heap.size + 1 + 1) (.bool false) (.slice none 0 0) := by rw [hW]; exact ((Box.new _ _ _ (by simp)).al _)
  have b3 : Box W (w.heap.size + 1 + 1 + 1) (.bool false) (.slice none 0 0) := by rw [hW]; exact (Box.new _ _ _ (by simp))
  have hwW : Below w.heap.size w W := by rw [hW]; exact (((((Below.refl _ _).alloc (Nat.le_refl _) _).alloc (by simp) _).alloc (by simp; omega) _).alloc (by simp; omega) _)
  have hsz : W.heap.size = w.heap.size + 4 := by rw [hW]; simp
  replace hsz := hide hsz
  go_enter Tryz.func32, Tryz.ntmps32
  go_wp2_with fail
  rw [← hW]
  clear hW
  have hg : w.heap.size + 1 + 1 ≤ W.heap.size := by have := hsz.out; omega
  have c00 := b0.at0 (B := w.heap.size + 1 + 1) (by omega) hg
  have c01 := b0.at1 (B := w.heap.size + 1 + 1) (by omega) hg
  have c10 := b1.at0 (B := w.heap.size + 1 + 1) (by omega) hg
  have c11 := b1.at1 (B := w.heap.size + 1 + 1) (by omega) hg
  have c20 := b2.at0 b2.lt_size (Nat.le_refl _)
  have c21 := b2.at1 b2.lt_size (Nat.le_refl _)
  have f20 := b2.free0 b2.lt_size (Nat.le_refl _)
  have f21 := b2.free1 b2.lt_size (Nat.le_refl _)
  have l2 := b2.lt b2.lt_size (Nat.le_refl _)
  have c30 := b3.at0 b3.lt_size (Nat.le_refl _)
  have c31 := b3.at1 b3.lt_size (Nat.le_refl _)
  have f30 := b3.free0 b3.lt_size (Nat.le_refl _)
  have f31 := b3.free1 b3.lt_size (Nat.le_refl _)
  have l3 := b3.lt b3.lt_size (Nat.le_refl _)
  have hS0 : Below W.heap.size W W := Below.refl _ _
  have hT0 := hS0.mono hg
  replace hg := hide hg
  replace hwW := hide hwW
  replace b0 := hide b0
  replace b1 := hide b1
  replace b2 := hide b2
  replace b3 := hide b3
  have hx : ∀ w', Below W.heap.size W w' → Rd w' w'.heap.size A n c xs := fun w' hS => H.out.there hB hwW.out hS
  have hy : ∀ w', Below W.heap.size W w' → Rd w' w'.heap.size A' n' c' ys := fun w' hS => H'.out.there hB hwW.out hS
  replace hx := hide hx
  replace hy := hide hy
  refine (divmod_any _ _ A A' n c n' c' xs ys (hx.out _ hS0) (hy.out _ hS0) (Nat.le_refl _) hn h0.out).mono ?_
  rintro e w1 ⟨A1, c1, A2, c2, rfl, R1, R2, hb1⟩
  have hS1 : Below W.heap.size W w1 := Below.then_ hS0 hb1
  have hT1 := hS1.mono hg.out
  replace hb1 := hide hb1
  have hl2 : 0 < (dig (val xs % val ys)).length := Nat.pos_of_ne_zero (mt dig_len_zero.1 hm0.out)
  replace R1 := hide R1
  replace R2 := hide R2
  obtain ⟨n2, hn2⟩ : ∃ n2, n2 = (dig (val xs % val ys)).length := ⟨_, rfl⟩
  rw [← hn2] at R2 ⊢
  rw [← hn2] at hl2
  clear hn2
  go_wp2_with fail
  refine (of_any _ 1 (by omega)).mono ?_
  rintro e w3 ⟨A3, c3, rfl, R3, hb3⟩
  have hS3 : Below W.heap.size W w3 := Below.then_ hS1 hb3
  have hT3 := hS3.mono hg.out
  replace hb3 := hide hb3
  replace R3 := hide R3
  go_wp2_with fail
  refine (add_any _ _ _ _ _ _ _ _ _ _ (Rd.then_ R1.out (hb3.out)) R3.out (Nat.le_refl _) hql.out (by rw [dig_one]; simp)).mono ?_
  rintro e w4 ⟨A4, c4, rfl, R4, hb4⟩
  have hS4 : Below W.heap.size W w4 := Below.then_ hS3 hb4
  have hT4 := hS4.mono hg.out
  replace hb4 := hide hb4
  rw [val_dig, val_dig] at R4 ⊢
  replace R4 := hide R4
  go_wp2_with fail
  refine (sub_more _ _ _ _ _ _ _ _ _ _ (hy.out _ hS4) (Rd.then_ R2.out (Below.then_ hb3.out hb4.out)) (Nat.le_refl _) (by rw [val_dig]; exact Nat.le_of_lt (Nat.mod_lt _ (Nat.pos_of_ne_zero h0.out)))).mono ?_
  rintro e w5 ⟨A5, c5, rfl, R5, hb5⟩
  have hS5 : Below W.heap.size W w5 := Below.then_ hS4 hb5
  have hT5 := hS5.mono hg.out
  replace hb5 := hide hb5
  rw [val_dig] at R5 ⊢
  replace R5 := hide R5
  have hSd : Below W.heap.size W w5.drew := Below.then_ hS5 (Below.drw_ _)
  have hTd := hSd.mono hg.out
  go_wp2_with fail
  go_region_held3 (fun w' => Below (w.heap.size + 1 + 1) W w') (first | assumption | (with_reducible exact (Below.drw_ _).mono hg.out) | ((repeat (refine Below.setCell ?_ (by first | exact Nat.le_refl _ | exact Nat.le_succ _) _)); exact hT7))
    (first
      | (go_at_call 70; ((with_reducible refine (signed_any _ _ true _ _ _ _ (Rd.then_ R4.out (Below.then_ hb5.out (Below.drw_ _))) (Nat.le_refl _)).mono ?_); rw [← hq0.out]; rintro e w6 ⟨A6, c6, rfl, R6, hb6⟩; have hS6 : Below W.heap.size W w6 := Below.then_ hSd hb6; have hT6 := hS6.mono hg.out; replace hb6 := hide hb6; replace R6 := hide R6))
      | (go_at_call 70; ((with_reducible refine (signed_any _ _ s' _ _ _ (val ys - val xs % val ys) (Rd.then_ R5.out (Below.then_ (Below.drw_ _) hb6.out)) (Nat.le_refl _)).mono ?_); rw [← hr0.out]; rintro e w7 ⟨A7, c7, rfl, R7, hb7⟩; have hS7 : Below W.heap.size W w7 := Below.then_ hS6 hb7; have hT7 := hS7.mono hg.out; replace hb7 := hide hb7; replace R7 := hide R7)))
  have R_q := hide R6.out
  have R_r := hide R7.out
  clear R6 R7
  go_wp2
  exact bodyPost_ret (v := .tuple #[.agg #[.bool (zneg q), .slice A6 (dig (zmag q)).length c6], .agg #[.bool (zneg r), .slice A7 (dig (zmag r)).length c7], .bool true]) (by simp [results, Tryz.results32, go_sem, c20 _ hS7, c21 _ hS7, c30 _ hS7, c31 _ hS7]) rfl
    (RetIDM.box (hwW.out.trans (hS7.mono hwW.out.size)) (by omega) (by omega) (c20 _ hS7) (c21 _ hS7) (c30 _ hS7) (c31 _ hS7) (Rd.then_ R_q.out hb7.out) R_r.out)

theorem idiv_any (w : World) (Bd : Nat) (s s' : Bool) (A A' : Option Addr) (n c n' c' : Nat) (xs ys : List Nat) (h : Rd w Bd A n c xs) (h' : Rd w Bd A' n' c' ys) (hB : Bd ≤ w.heap.size) (hn : n + 1 ≤ 70368744177664) (h0 : val ys ≠ 0) :
    Calls Tryz.prog 32 #[.agg #[.bool s, .slice A n c], .agg #[.bool s', .slice A' n' c']] w (RetIDM w (fq s s' (val xs) (val ys)) (fr s s' (val xs) (val ys)) true) := by
  by_cases hs : s = s'
  · subst hs
    exact idiv_same w Bd s A A' n c n' c' xs ys h h' hB hn h0
  · have hs' : (s == s') = false := by simpa using hs
    by_cases hm : val xs % val ys = 0
    · exact idiv_whole w Bd s s' A A' n c n' c' xs ys h h' hB hn h0 hs' hm
    · exact idiv_below w Bd s s' A A' n c n' c' xs ys h h' hB hn h0 hs' hm
end
end Go.Proofs.YtdlmfembnmomjaaGreatDoor
