/-
  Parse of integer.
-/
import Derived.Test.YtjbbapibpcgnhaaInt4
import Derived.Test.YtjbbapibpcgnhaaCut
import Derived.Test.YtjbbapibpcgnhaaParse2
namespace Go.Proofs.Ytjbbapibpcgnhaa
open Go.RowKit

/-- what nat.Parse hands back: a number, or 0 and an error -/
def RetPV (w : World) (m : Nat) (k : Int) (e : Ending) (w' : World) : Prop :=
  ∃ A c, e = .returned (.tuple #[.slice A (dig m).length c, .int .i64 k]) ∧ Rd w' w'.heap.size A (dig m).length c (dig m) ∧ Below w.heap.size w w'
theorem RetErr.pv {w : World} {k : Int} {e : Ending} {w' : World} (h : RetErr w k e w') : RetPV w 0 k e w' := by
  obtain ⟨rfl, rfl⟩ := h
  exact ⟨none, 0, by rw [dig_zero]; rfl, by rw [dig_zero]; exact Rd.empty _ _ _ (by omega), Below.refl _ _⟩
/-- what integer.Parse hands back -/
def RetIV (w : World) (z k : Int) (e : Ending) (w' : World) : Prop :=
  ∃ A c, e = .returned (.tuple #[.agg #[.bool (zneg z), .slice A (dig (zmag z)).length c], .int .i64 k]) ∧ Rd w' w'.heap.size A (dig (zmag z)).length c (dig (zmag z)) ∧ Below w.heap.size w w'
theorem RetIV.of {w : World} {z k : Int} {v : Value} {w' : World} (h : RetInt w z (.returned v) w') : RetIV w z k (.returned (.tuple #[v, .int .i64 k])) w' := by
  obtain ⟨A, c, hv, hR, hb⟩ := h
  cases hv
  exact ⟨A, c, rfl, hR, hb⟩
theorem RetInt.zero {w w2 : World} {A' : Option Addr} {n' c' g : Nat} {b : Bool} (hb : Below w.heap.size w w2) (hg : w.heap.size ≤ g) (hc0 : w2.cell? ⟨g, 0, none⟩ = some (.bool b)) (hc1 : w2.cell? ⟨g, 1, none⟩ = some (.slice A' n' c')) :
    RetInt w 0 (.returned (.agg #[.bool false, .slice none 0 0])) ((w2.setCell ⟨g, 0, none⟩ (.bool false)).setCell ⟨g, 1, none⟩ (.slice none 0 0)) := by
  have e : dig (zmag 0) = [] := by rw [show zmag 0 = 0 from rfl, dig_zero]
  have := RetInt.box (z := 0) (A := none) (c := 0) hb hg hc0 hc1 (by rw [e]; exact Rd.empty _ _ _ (by omega))
  rw [e] at this
  exact this
theorem RetIV.zero {w w2 : World} {A' : Option Addr} {n' c' g : Nat} {b : Bool} {k : Int} (hb : Below w.heap.size w w2) (hg : w.heap.size ≤ g) (hc0 : w2.cell? ⟨g, 0, none⟩ = some (.bool b)) (hc1 : w2.cell? ⟨g, 1, none⟩ = some (.slice A' n' c')) :
    RetIV w 0 k (.returned (.tuple #[.agg #[.bool false, .slice none 0 0], .int .i64 k])) ((w2.setCell ⟨g, 0, none⟩ (.bool false)).setCell ⟨g, 1, none⟩ (.slice none 0 0)) :=
  RetIV.of (RetInt.zero hb hg hc0 hc1)

set_option maxHeartbeats 4000000 in
theorem iparse_err_true (w : World) (s : ByteArray) (hs : s.size ≤ 9223372036854775807) (h0 : 0 < s.size) (h1 : bt s 0 = 45) (k : Int) (hk : k ≠ 0) (m : Nat) (hp0 : ∀ w, Calls Try.prog 59 #[.string (s.extract 1 s.size)] w (RetPV w m k)) :
    Calls Try.prog 34 #[.string s] w (RetIV w (0) k) := by
  have hp := hide hp0
  clear hp0
  have hk1 : (k == 0) = false := by simpa using hk
  have hk2 : (k != 0) = true := by simpa using hk
  clear hk
  replace h1 := hide h1
  replace h0 := hide h0
  obtain ⟨W, hW⟩ : ∃ W, W = (w.alloc (.cells #[.bool false, .slice none 0 0] 25)) := ⟨_, rfl⟩
  have b0 : Box W (w.heap.size) (.bool false) (.slice none 0 0) := by rw [hW]; exact (Box.new w _ _ rfl)
  have hwW : Below w.heap.size w W := by rw [hW]; exact ((Below.refl _ _).alloc (Nat.le_refl _) _)
  have hsz : W.heap.size = w.heap.size + 1 := by rw [hW]; simp
  replace hsz := hide hsz
  go_enter Try.func34, Try.ntmps34
  go_wp2_with fail
  rw [← hW]
  clear hW
  have hg : w.heap.size ≤ W.heap.size := by have := hsz.out; omega
  have c00 := b0.at0 b0.lt_size (Nat.le_refl _)
  have c01 := b0.at1 b0.lt_size (Nat.le_refl _)
  have f00 := b0.free0 b0.lt_size (Nat.le_refl _)
  have f01 := b0.free1 b0.lt_size (Nat.le_refl _)
  have l0 := b0.lt b0.lt_size (Nat.le_refl _)
  have hS0 : Below W.heap.size W W := Below.refl _ _
  have hT0 := hS0.mono hg
  replace hg := hide hg
  replace hwW := hide hwW
  replace b0 := hide b0
  refine (cut_yes _ s hs h0.out h1.out).mono ?_
  rintro e w' ⟨rfl, rfl⟩
  go_wp2_with fail
  refine (hp.out _).mono ?_
  rintro e w1 ⟨A1, c1, rfl, R1, hb1⟩
  have hS1 : Below W.heap.size W w1 := Below.then_ hS0 hb1
  have hT1 := hS1.mono hg.out
  replace hb1 := hide hb1
  replace R1 := hide R1
  clear R1
  go_wp2
  exact bodyPost_ret (v := .tuple #[.agg #[.bool false, .slice none 0 0], .int .i64 k]) (by simp [results, Try.results34, go_sem, c00 _ hS1, c01 _ hS1]) rfl (RetIV.zero (hwW.out.trans (hS1.mono hwW.out.size)) (by omega) (c00 _ hS1) (c01 _ hS1))

set_option maxHeartbeats 4000000 in
theorem iparse_minus_true (w : World) (s : ByteArray) (hs : s.size ≤ 9223372036854775807) (h0 : 0 < s.size) (h1 : bt s 0 = 45)  (hp0 : ∀ w, Calls Try.prog 59 #[.string (s.extract 1 s.size)] w (RetPV w 0 0)) :
    Calls Try.prog 34 #[.string s] w (RetIV w (0) 2) := by
  have hp := hide hp0
  clear hp0
  replace h1 := hide h1
  replace h0 := hide h0
  obtain ⟨W, hW⟩ : ∃ W, W = (w.alloc (.cells #[.bool false, .slice none 0 0] 25)) := ⟨_, rfl⟩
  have b0 : Box W (w.heap.size) (.bool false) (.slice none 0 0) := by rw [hW]; exact (Box.new w _ _ rfl)
  have hwW : Below w.heap.size w W := by rw [hW]; exact ((Below.refl _ _).alloc (Nat.le_refl _) _)
  have hsz : W.heap.size = w.heap.size + 1 := by rw [hW]; simp
  replace hsz := hide hsz
  go_enter Try.func34, Try.ntmps34
  go_wp2_with fail
  rw [← hW]
  clear hW
  have hg : w.heap.size ≤ W.heap.size := by have := hsz.out; omega
  have c00 := b0.at0 b0.lt_size (Nat.le_refl _)
  have c01 := b0.at1 b0.lt_size (Nat.le_refl _)
  have f00 := b0.free0 b0.lt_size (Nat.le_refl _)
  have f01 := b0.free1 b0.lt_size (Nat.le_refl _)
  have l0 := b0.lt b0.lt_size (Nat.le_refl _)
  have hS0 : Below W.heap.size W W := Below.refl _ _
  have hT0 := hS0.mono hg
  replace hg := hide hg
  replace hwW := hide hwW
  replace b0 := hide b0
  refine (cut_yes _ s hs h0.out h1.out).mono ?_
  rintro e w' ⟨rfl, rfl⟩
  go_wp2_with fail
  refine (hp.out _).mono ?_
  rintro e w1 ⟨A1, c1, rfl, R1, hb1⟩
  have hS1 : Below W.heap.size W w1 := Below.then_ hS0 hb1
  have hT1 := hS1.mono hg.out
  replace hb1 := hide hb1
  replace R1 := hide R1
  rw [dig_zero, List.length_nil]
  clear R1
  go_wp2
  exact bodyPost_ret (v := .tuple #[.agg #[.bool false, .slice none 0 0], .int .i64 2]) (by simp [results, Try.results34, go_sem, c00 _ hS1, c01 _ hS1]) rfl (RetIV.zero (hwW.out.trans (hS1.mono hwW.out.size)) (by omega) (c00 _ hS1) (c01 _ hS1))

set_option maxHeartbeats 4000000 in
theorem iparse_ok_true (w : World) (s : ByteArray) (hs : s.size ≤ 9223372036854775807) (h0 : 0 < s.size) (h1 : bt s 0 = 45) (m : Nat) (hm : m ≠ 0) (hp0 : ∀ w, Calls Try.prog 59 #[.string (s.extract 1 s.size)] w (RetPV w m 0)) :
    Calls Try.prog 34 #[.string s] w (RetIV w (iv true m) 0) := by
  have hp := hide hp0
  clear hp0
  obtain ⟨z, hz0⟩ : ∃ z, z = iv true m := ⟨_, rfl⟩
  rw [← hz0]
  replace hz0 := hide hz0
  have hl : 0 < (dig m).length := Nat.pos_of_ne_zero (mt dig_len_zero.1 hm)
  clear hm
  obtain ⟨nm, hnm⟩ : ∃ nm, nm = (dig m).length := ⟨_, rfl⟩
  rw [← hnm] at hl
  replace hnm := hide hnm
  replace h1 := hide h1
  replace h0 := hide h0
  obtain ⟨W, hW⟩ : ∃ W, W = (w.alloc (.cells #[.bool false, .slice none 0 0] 25)) := ⟨_, rfl⟩
  have b0 : Box W (w.heap.size) (.bool false) (.slice none 0 0) := by rw [hW]; exact (Box.new w _ _ rfl)
  have hwW : Below w.heap.size w W := by rw [hW]; exact ((Below.refl _ _).alloc (Nat.le_refl _) _)
  have hsz : W.heap.size = w.heap.size + 1 := by rw [hW]; simp
  replace hsz := hide hsz
  go_enter Try.func34, Try.ntmps34
  go_wp2_with fail
  rw [← hW]
  clear hW
  have hg : w.heap.size ≤ W.heap.size := by have := hsz.out; omega
  have c00 := b0.at0 b0.lt_size (Nat.le_refl _)
  have c01 := b0.at1 b0.lt_size (Nat.le_refl _)
  have f00 := b0.free0 b0.lt_size (Nat.le_refl _)
  have f01 := b0.free1 b0.lt_size (Nat.le_refl _)
  have l0 := b0.lt b0.lt_size (Nat.le_refl _)
  have hS0 : Below W.heap.size W W := Below.refl _ _
  have hT0 := hS0.mono hg
  replace hg := hide hg
  replace hwW := hide hwW
  replace b0 := hide b0
  refine (cut_yes _ s hs h0.out h1.out).mono ?_
  rintro e w' ⟨rfl, rfl⟩
  go_wp2_with fail
  refine (hp.out _).mono ?_
  rintro e w1 ⟨A1, c1, rfl, R1, hb1⟩
  have hS1 : Below W.heap.size W w1 := Below.then_ hS0 hb1
  have hT1 := hS1.mono hg.out
  replace hb1 := hide hb1
  replace R1 := hide R1
  rw [← hnm.out] at R1 ⊢
  go_wp2_with fail
  refine (signed_any _ _ (true) _ _ _ _ R1.out (Nat.le_refl _)).mono ?_
  rw [← hz0.out]
  rintro e w2 ⟨A2, c2, rfl, R2, hb2⟩
  have hS2 : Below W.heap.size W w2 := Below.then_ hS1 hb2
  have hT2 := hS2.mono hg.out
  replace hb2 := hide hb2
  replace R2 := hide R2
  go_wp2
  exact bodyPost_ret (v := .tuple #[.agg #[.bool (zneg z), .slice A2 (dig (zmag z)).length c2], .int .i64 0]) (by simp [results, Try.results34, go_sem, c00 _ hS2, c01 _ hS2]) rfl (RetIV.of (RetInt.box (hwW.out.trans (hS2.mono hwW.out.size)) (by omega) (c00 _ hS2) (c01 _ hS2) R2.out))

set_option maxHeartbeats 4000000 in
theorem iparse_err_false (w : World) (s : ByteArray) (hs : s.size ≤ 9223372036854775807) (h1 : s.size = 0 ∨ bt s 0 ≠ 45) (k : Int) (hk : k ≠ 0) (m : Nat) (hp0 : ∀ w, Calls Try.prog 59 #[.string s] w (RetPV w m k)) :
    Calls Try.prog 34 #[.string s] w (RetIV w (0) k) := by
  have hp := hide hp0
  clear hp0
  have hk1 : (k == 0) = false := by simpa using hk
  have hk2 : (k != 0) = true := by simpa using hk
  clear hk
  replace h1 := hide h1
  obtain ⟨W, hW⟩ : ∃ W, W = (w.alloc (.cells #[.bool false, .slice none 0 0] 25)) := ⟨_, rfl⟩
  have b0 : Box W (w.heap.size) (.bool false) (.slice none 0 0) := by rw [hW]; exact (Box.new w _ _ rfl)
  have hwW : Below w.heap.size w W := by rw [hW]; exact ((Below.refl _ _).alloc (Nat.le_refl _) _)
  have hsz : W.heap.size = w.heap.size + 1 := by rw [hW]; simp
  replace hsz := hide hsz
  go_enter Try.func34, Try.ntmps34
  go_wp2_with fail
  rw [← hW]
  clear hW
  have hg : w.heap.size ≤ W.heap.size := by have := hsz.out; omega
  have c00 := b0.at0 b0.lt_size (Nat.le_refl _)
  have c01 := b0.at1 b0.lt_size (Nat.le_refl _)
  have f00 := b0.free0 b0.lt_size (Nat.le_refl _)
  have f01 := b0.free1 b0.lt_size (Nat.le_refl _)
  have l0 := b0.lt b0.lt_size (Nat.le_refl _)
  have hS0 : Below W.heap.size W W := Below.refl _ _
  have hT0 := hS0.mono hg
  replace hg := hide hg
  replace hwW := hide hwW
  replace b0 := hide b0
  refine (cut_no _ s hs h1.out).mono ?_
  rintro e w' ⟨rfl, rfl⟩
  go_wp2_with fail
  refine (hp.out _).mono ?_
  rintro e w1 ⟨A1, c1, rfl, R1, hb1⟩
  have hS1 : Below W.heap.size W w1 := Below.then_ hS0 hb1
  have hT1 := hS1.mono hg.out
  replace hb1 := hide hb1
  replace R1 := hide R1
  clear R1
  go_wp2
  exact bodyPost_ret (v := .tuple #[.agg #[.bool false, .slice none 0 0], .int .i64 k]) (by simp [results, Try.results34, go_sem, c00 _ hS1, c01 _ hS1]) rfl (RetIV.zero (hwW.out.trans (hS1.mono hwW.out.size)) (by omega) (c00 _ hS1) (c01 _ hS1))

set_option maxHeartbeats 4000000 in
theorem iparse_ok_false (w : World) (s : ByteArray) (hs : s.size ≤ 9223372036854775807) (h1 : s.size = 0 ∨ bt s 0 ≠ 45) (m : Nat) (hp0 : ∀ w, Calls Try.prog 59 #[.string s] w (RetPV w m 0)) :
    Calls Try.prog 34 #[.string s] w (RetIV w (iv false m) 0) := by
  have hp := hide hp0
  clear hp0
  obtain ⟨z, hz0⟩ : ∃ z, z = iv false m := ⟨_, rfl⟩
  rw [← hz0]
  replace hz0 := hide hz0
  obtain ⟨nm, hnm⟩ : ∃ nm, nm = (dig m).length := ⟨_, rfl⟩
  replace hnm := hide hnm
  replace h1 := hide h1
  obtain ⟨W, hW⟩ : ∃ W, W = (w.alloc (.cells #[.bool false, .slice none 0 0] 25)) := ⟨_, rfl⟩
  have b0 : Box W (w.heap.size) (.bool false) (.slice none 0 0) := by rw [hW]; exact (Box.new w _ _ rfl)
  have hwW : Below w.heap.size w W := by rw [hW]; exact ((Below.refl _ _).alloc (Nat.le_refl _) _)
  have hsz : W.heap.size = w.heap.size + 1 := by rw [hW]; simp
  replace hsz := hide hsz
  go_enter Try.func34, Try.ntmps34
  go_wp2_with fail
  rw [← hW]
  clear hW
  have hg : w.heap.size ≤ W.heap.size := by have := hsz.out; omega
  have c00 := b0.at0 b0.lt_size (Nat.le_refl _)
  have c01 := b0.at1 b0.lt_size (Nat.le_refl _)
  have f00 := b0.free0 b0.lt_size (Nat.le_refl _)
  have f01 := b0.free1 b0.lt_size (Nat.le_refl _)
  have l0 := b0.lt b0.lt_size (Nat.le_refl _)
  have hS0 : Below W.heap.size W W := Below.refl _ _
  have hT0 := hS0.mono hg
  replace hg := hide hg
  replace hwW := hide hwW
  replace b0 := hide b0
  refine (cut_no _ s hs h1.out).mono ?_
  rintro e w' ⟨rfl, rfl⟩
  go_wp2_with fail
  refine (hp.out _).mono ?_
  rintro e w1 ⟨A1, c1, rfl, R1, hb1⟩
  have hS1 : Below W.heap.size W w1 := Below.then_ hS0 hb1
  have hT1 := hS1.mono hg.out
  replace hb1 := hide hb1
  replace R1 := hide R1
  rw [← hnm.out] at R1 ⊢
  go_wp2_with fail
  refine (signed_any _ _ (false) _ _ _ _ R1.out (Nat.le_refl _)).mono ?_
  rw [← hz0.out]
  rintro e w2 ⟨A2, c2, rfl, R2, hb2⟩
  have hS2 : Below W.heap.size W w2 := Below.then_ hS1 hb2
  have hT2 := hS2.mono hg.out
  replace hb2 := hide hb2
  replace R2 := hide R2
  go_wp2
  exact bodyPost_ret (v := .tuple #[.agg #[.bool (zneg z), .slice A2 (dig (zmag z)).length c2], .int .i64 0]) (by simp [results, Try.results34, go_sem, c00 _ hS2, c01 _ hS2]) rfl (RetIV.of (RetInt.box (hwW.out.trans (hS2.mono hwW.out.size)) (by omega) (c00 _ hS2) (c01 _ hS2) R2.out))

end Go.Proofs.Ytjbbapibpcgnhaa
