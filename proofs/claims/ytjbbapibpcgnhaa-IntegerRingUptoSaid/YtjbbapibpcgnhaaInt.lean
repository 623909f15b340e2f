/-
  What an integer is in memory: a sign and a magnitude, by value; what a call hands back.
-/
import Derived.Test.YtjbbapibpcgnhaaRef1
import Derived.Deep.RegionHeld3
import Derived.Lib.SmallJoins
namespace Go.Proofs.Ytjbbapibpcgnhaa
open Go.RowKit

/-- the integer with that sign and magnitude -/
def iv (s : Bool) (m : Nat) : Int := if s then -(m : Int) else (m : Int)
/-- its sign bit in normal form -/
def zneg (z : Int) : Bool := decide (z < 0)
/-- its magnitude -/
def zmag (z : Int) : Nat := z.natAbs
def sgn (z : Int) : Int := z.sign

theorem iv_false (m : Nat) : iv false m = (m : Int) := rfl
theorem iv_true (m : Nat) : iv true m = -(m : Int) := rfl
theorem iv_zero (s : Bool) : iv s 0 = 0 := by cases s <;> rfl
theorem iv_not (s : Bool) (m : Nat) : iv (!s) m = -iv s m := by cases s <;> simp [iv]
theorem zmag_iv (s : Bool) (m : Nat) : zmag (iv s m) = m := by cases s <;> simp [iv, zmag]
theorem zneg_iv (s : Bool) {m : Nat} (h : m ≠ 0) : zneg (iv s m) = s := by cases s <;> simp [iv, zneg] <;> omega
theorem zneg_zero : zneg 0 = false := rfl
theorem iv_eta (z : Int) : iv (zneg z) (zmag z) = z := by unfold iv zneg zmag; by_cases h : z < 0 <;> simp [h] <;> omega

/-- An integer was handed back, in normal form; of what was there nothing has turned. -/
def RetInt (w : World) (z : Int) (e : Ending) (w' : World) : Prop :=
  ∃ A c, e = .returned (.agg #[.bool (zneg z), .slice A (dig (zmag z)).length c]) ∧ Rd w' w'.heap.size A (dig (zmag z)).length c (dig (zmag z)) ∧ Below w.heap.size w w'

theorem Rd.upto {w w' : World} {Bd : Nat} {A : Option Addr} {n c : Nat} {xs : List Nat} (h : Rd w Bd A n c xs) (hb : Below w.heap.size w w') (hB : Bd ≤ w.heap.size) : Rd w' w'.heap.size A n c xs :=
  (h.below (Go.Joins.below_le hb hB)).more (Nat.le_trans hB hb.size)

theorem bcell {W w1 : World} {B : Nat} (hb : Below B W w1) : (∀ b o, b < B → w1.cell? ⟨b, o, none⟩ = W.cell? ⟨b, o, none⟩) ∧ (∀ b o, b < B → w1.frozen? ⟨b, o, none⟩ = W.frozen? ⟨b, o, none⟩) :=
  ⟨fun b o h => hb.cell (p := ⟨b, o, none⟩) h, fun b o h => hb.frozen (p := ⟨b, o, none⟩) h⟩

theorem RetInt.mk {w w' : World} {s : Bool} {A : Option Addr} {n c m : Nat} (h : Rd w' w'.heap.size A n c (dig m)) (hs : m = 0 → s = false) (hb : Below w.heap.size w w') :
    RetInt w (iv s m) (.returned (.agg #[.bool s, .slice A n c])) w' := by
  have hn := h.len
  subst hn
  have e : zneg (iv s m) = s := by
    by_cases h0 : m = 0
    · rw [h0, iv_zero, hs h0]; rfl
    · exact zneg_iv s h0
  refine ⟨A, c, by rw [e, zmag_iv], ?_, hb⟩
  rw [zmag_iv]
  exact h

set_option maxHeartbeats 1000000 in
/-- signed: the magnitude is in normal form -/
theorem signed_any (w : World) (Bd : Nat) (s : Bool) (A : Option Addr) (n c m : Nat) (h : Rd w Bd A n c (dig m)) (hB : Bd ≤ w.heap.size) :
    Calls Try.prog 42 #[.bool s, .slice A n c] w (RetInt w (iv s m)) := by
  have hl := h.len
  have H := hide h
  clear h
  by_cases h0 : m = 0
  · subst h0
    rw [dig_zero] at hl
    obtain rfl : n = 0 := hl.symm
    have hp := hide (RetInt.mk (w := w) (w' := w.alloc (.cells #[.bool false, .slice none 0 0] 25)) (s := false) (A := none) (n := 0) (c := 0) (m := 0) (by rw [dig_zero]; exact Rd.empty _ _ _ (by omega)) (fun _ => rfl) ((Below.refl _ _).alloc (Nat.le_refl _) _))
    rw [iv_zero] at hp ⊢
    clear hl hB
    go_enter Try.func42, Try.ntmps42
    go_wp2
    exact bodyPost_ret (v := .agg #[.bool false, .slice none 0 0]) (by simp [results, Try.results42, go_sem]) rfl hp.out
  · have hn : 0 < n := by have := mt dig_len_zero.1 h0; omega
    have hp := hide (RetInt.mk (w := w) (w' := w.alloc (.cells #[.bool s, .slice A n c] 25)) (s := s) ((H.out.alloc hB _).more (Nat.le_trans hB (by simp))) (fun h => absurd h h0) ((Below.refl _ _).alloc (Nat.le_refl _) _))
    clear hl hB h0
    go_enter Try.func42, Try.ntmps42
    go_wp2
    exact bodyPost_ret (v := .agg #[.bool s, .slice A n c]) (by simp [results, Try.results42, go_sem]) rfl hp.out

/-- a block of two cells that the call made, in a later world -/
theorem box_kept {w w2 : World} {a b : Value} {g : Nat} (hg : w.heap[g]? = some (.cells #[a, b] 25 (0, 0))) (hb : Below w.heap.size w w2) :
    w2.cell? ⟨g, 0, none⟩ = some a ∧ w2.cell? ⟨g, 1, none⟩ = some b ∧ w2.frozen? ⟨g, 0, none⟩ = false ∧ w2.frozen? ⟨g, 1, none⟩ = false ∧ g < w2.heap.size := by
  have hl : g < w.heap.size := (Array.getElem?_eq_some_iff.1 hg).1
  have hg2 : w2.heap[g]? = some (.cells #[a, b] 25 (0, 0)) := (hb.block g hl).trans hg
  refine ⟨?_, ?_, frozen_of_row w2 g 0 _ _ hg2, frozen_of_row w2 g 1 _ _ hg2, Nat.lt_of_lt_of_le hl hb.size⟩
  · rw [cell_of_row w2 g 0 _ _ _ hg2]; rfl
  · rw [cell_of_row w2 g 1 _ _ _ hg2]; rfl

/-- a store elsewhere: the cell holds no limb -/
theorem Rd.far {w : World} {Bd n c : Nat} {A : Option Addr} {xs : List Nat} (h : Rd w Bd A n c xs) {g o : Nat} {v u : Value} (hp : w.cell? ⟨g, o, none⟩ = some v) (hv : ∀ x, v ≠ .int .u32 x) : Rd (w.setCell ⟨g, o, none⟩ u) Bd A n c xs :=
  ⟨h.len, h.limbs, h.cap, h.big, h.cbig, fun hn => by
    obtain ⟨ad, e, hb, hc⟩ := h.cells hn
    refine ⟨ad, e, hb, fun j hj => ?_⟩
    have h1 := hc j hj
    rw [World.cell?_setCell_other, h1]
    intro e2
    rw [← e2, hp] at h1
    exact hv _ (Option.some.inj h1)⟩
theorem RetInt.box {w w2 : World} {z : Int} {A A' : Option Addr} {c n' c' g : Nat} {b : Bool} (hb : Below w.heap.size w w2) (hg : w.heap.size ≤ g) (hc0 : w2.cell? ⟨g, 0, none⟩ = some (.bool b)) (hc1 : w2.cell? ⟨g, 1, none⟩ = some (.slice A' n' c'))
    (R : Rd w2 w2.heap.size A (dig (zmag z)).length c (dig (zmag z))) :
    RetInt w z (.returned (.agg #[.bool (zneg z), .slice A (dig (zmag z)).length c])) ((w2.setCell ⟨g, 0, none⟩ (.bool (zneg z))).setCell ⟨g, 1, none⟩ (.slice A (dig (zmag z)).length c)) := by
  have h1 : (w2.setCell ⟨g, 0, none⟩ (.bool (zneg z))).cell? ⟨g, 1, none⟩ = some (.slice A' n' c') := (World.cell?_setCell_other _ _ _ _ (by simp)).trans hc1
  refine ⟨A, c, rfl, ?_, (hb.setCell hg _).setCell hg _⟩
  have := (R.far (u := .bool (zneg z)) hc0 (fun x h => by cases h)).far (u := .slice A (dig (zmag z)).length c) h1 (fun x h => by cases h)
  simpa using this

set_option maxHeartbeats 1000000 in
theorem imake_any (w : World) (Bd : Nat) (s : Bool) (A : Option Addr) (n c : Nat) (xs : List Nat) (h : Rd w Bd A n c xs) (hB : Bd ≤ w.heap.size) :
    Calls Try.prog 17 #[.bool s, .slice A n c] w (RetInt w (iv s (val xs))) := by
  have H := hide h
  clear h
  go_enter Try.func17, Try.ntmps17
  go_wp2_with fail
  refine (norm_any _ Bd A n c xs (H.out.alloc hB _) (by simp; omega)).mono ?_
  intro e w1 hr
  obtain ⟨A1, c1, rfl, R1, hb1⟩ := RetOwn.nat hr
  replace R1 := hide R1
  replace hb1 := hide hb1
  go_wp2_with fail
  refine (signed_any w1 w1.heap.size s A1 _ c1 (val xs) R1.out (Nat.le_refl _)).mono ?_
  rintro e w2 ⟨A2, c2, rfl, R2, hb2⟩
  obtain ⟨hc0, hc1, hf0, hf1, hz⟩ := box_kept (w := w.alloc (.cells #[.bool false, .slice none 0 0] 25)) (heap_alloc_new w _) (hb1.out.trans (hb2.mono hb1.out.size))
  replace hb2 := hide hb2
  replace R2 := hide R2
  clear hr
  go_wp2
  exact bodyPost_ret (v := .agg #[.bool (zneg (iv s (val xs))), .slice A2 (dig (zmag (iv s (val xs)))).length c2]) (by simp [results, Try.results17, go_sem, hc0, hc1]) rfl (RetInt.box (((Below.refl _ _).alloc (Nat.le_refl _) _).trans ((hb1.out.trans (hb2.out.mono hb1.out.size)).mono (by simp))) (Nat.le_refl _) hc0 hc1 R2.out)

end Go.Proofs.Ytjbbapibpcgnhaa
