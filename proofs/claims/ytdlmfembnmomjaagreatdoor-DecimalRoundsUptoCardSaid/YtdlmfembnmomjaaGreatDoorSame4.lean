/-
  The reference of decimal: Same.
-/
import Derived.Test.YtdlmfembnmomjaaGreatDoorDecA
import Derived.Test.YtdlmfembnmomjaaGreatDoorSame
namespace Go.Proofs.YtdlmfembnmomjaaGreatDoor
open Go.RowKit


theorem same_b {w : World} {Bd Bd' : Nat} {A A' : Option Addr} {n c n' c' : Nat} {xs ys : List Nat} (hx : Rd w Bd A n c xs) (hy : Rd w Bd' A' n' c' ys) (he : xs = ys) : Calls Tryz.prog 49 #[.slice A n c, .slice A' n' c'] w (RetB w (.bool true)) :=
  (same_true w Bd Bd' A A' n c n' c' xs ys hx hy he).mono fun _e _w' ⟨h1, h2⟩ => ⟨h1, below_q h2⟩

set_option maxHeartbeats 4000000 in
theorem sameint_any {w : World} {Bd : Nat} {A_a A_b : Option Addr} {c_a c_b : Nat} {z : Int} (h_a : Rd w Bd A_a (dig (zmag z)).length c_a (dig (zmag z))) (h_b : Rd w Bd A_b (dig (zmag z)).length c_b (dig (zmag z))) (hB : Bd ≤ w.heap.size) :
    Calls Tryz.prog 14 #[.agg #[.bool (zneg z), .slice A_a (dig (zmag z)).length c_a], .agg #[.bool (zneg z), .slice A_b (dig (zmag z)).length c_b]] w (RetB w (.bool true)) := by
  obtain ⟨W, hW⟩ : ∃ W, W = ((w.alloc (.cells #[.bool (zneg z), .slice A_a (dig (zmag z)).length c_a] 25)).alloc (.cells #[.bool (zneg z), .slice A_b (dig (zmag z)).length c_b] 25)) := ⟨_, rfl⟩
  have b_a : Box W (w.heap.size) (.bool (zneg z)) (.slice A_a (dig (zmag z)).length c_a) := by rw [hW]; exact ((Box.new w _ _ rfl).al _)
  have b_b : Box W (w.heap.size + 1) (.bool (zneg z)) (.slice A_b (dig (zmag z)).length c_b) := by rw [hW]; exact (Box.new _ _ _ (by simp))
  have hwW : Below w.heap.size w W := by rw [hW]; exact (((Below.refl _ _).alloc (Nat.le_refl _) _).alloc (by simp) _)
  have R_a := hide (Rd.upto h_a hwW hB)
  clear h_a
  have R_b := hide (Rd.upto h_b hwW hB)
  clear h_b
  have B := hide hwW
  clear hwW
  clear hB
  have U0 : Below W.heap.size W W := Below.refl _ _
  have c_a0 := b_a.at0 b_a.lt_size (Nat.le_refl _)
  have c_a1 := b_a.at1 b_a.lt_size (Nat.le_refl _)
  replace b_a := hide b_a
  have c_b0 := b_b.at0 b_b.lt_size (Nat.le_refl _)
  have c_b1 := b_b.at1 b_b.lt_size (Nat.le_refl _)
  replace b_b := hide b_b
  go_enter Tryz.func14, Tryz.ntmps14
  go_wp2_with fail
  rw [← hW]
  clear hW
  refine (same_b R_a.out R_b.out rfl).mono ?_
  rintro e w1 ⟨rfl, hb⟩
  replace R_a := hide (Rd.then_ R_a.out hb)
  replace R_b := hide (Rd.then_ R_b.out hb)
  have U1 : Below W.heap.size W w1 := Below.then_ U0 hb
  replace B := hide (Below.then_ B.out hb)
  clear hb
  go_wp2
  go_ret
  exact ⟨rfl, B.out⟩

set_option maxHeartbeats 4000000 in
theorem samedec_any {w : World} {Bd : Nat} {A_a A_b : Option Addr} {c_a c_b : Nat} {z : Int} (h_a : Rd w Bd A_a (dig (zmag z)).length c_a (dig (zmag z))) (h_b : Rd w Bd A_b (dig (zmag z)).length c_b (dig (zmag z))) (hB : Bd ≤ w.heap.size) {p : Int} :
    Calls Tryz.prog 11 #[.agg #[.bool (zneg z), .slice A_a (dig (zmag z)).length c_a, .int .i64 p], .agg #[.bool (zneg z), .slice A_b (dig (zmag z)).length c_b, .int .i64 p]] w (RetB w (.bool true)) := by
  obtain ⟨W, hW⟩ : ∃ W, W = ((w.alloc (.cells #[.bool (zneg z), .slice A_a (dig (zmag z)).length c_a, .int .i64 p] 29)).alloc (.cells #[.bool (zneg z), .slice A_b (dig (zmag z)).length c_b, .int .i64 p] 29)) := ⟨_, rfl⟩
  have b_a : BoxD W (w.heap.size) (.bool (zneg z)) (.slice A_a (dig (zmag z)).length c_a) (.int .i64 p) := by rw [hW]; exact ((BoxD.new w _ _ _ rfl).al _)
  have b_b : BoxD W (w.heap.size + 1) (.bool (zneg z)) (.slice A_b (dig (zmag z)).length c_b) (.int .i64 p) := by rw [hW]; exact (BoxD.new _ _ _ _ (by simp))
  have hwW : Below w.heap.size w W := by rw [hW]; exact (((Below.refl _ _).alloc (Nat.le_refl _) _).alloc (by simp) _)
  have R_a := hide (Rd.upto h_a hwW hB)
  clear h_a
  have R_b := hide (Rd.upto h_b hwW hB)
  clear h_b
  have B := hide hwW
  clear hwW
  clear hB
  have U0 : Below W.heap.size W W := Below.refl _ _
  have c_a0 := b_a.at0 b_a.lt_size (Nat.le_refl _)
  have c_a1 := b_a.at1 b_a.lt_size (Nat.le_refl _)
  have c_a2 := b_a.at2 b_a.lt_size (Nat.le_refl _)
  replace b_a := hide b_a
  have c_b0 := b_b.at0 b_b.lt_size (Nat.le_refl _)
  have c_b1 := b_b.at1 b_b.lt_size (Nat.le_refl _)
  have c_b2 := b_b.at2 b_b.lt_size (Nat.le_refl _)
  replace b_b := hide b_b
  go_enter Tryz.func11, Tryz.ntmps11
  go_wp2_with fail
  rw [← hW]
  clear hW
  refine (sameint_any R_a.out R_b.out (Nat.le_refl _)).mono ?_
  rintro e w1 ⟨rfl, hb⟩
  replace R_a := hide (Rd.then_ R_a.out hb)
  replace R_b := hide (Rd.then_ R_b.out hb)
  have U1 : Below W.heap.size W w1 := Below.then_ U0 hb
  replace B := hide (Below.then_ B.out hb)
  clear hb
  go_wp2
  go_ret
  exact ⟨rfl, B.out⟩

end Go.Proofs.YtdlmfembnmomjaaGreatDoor
