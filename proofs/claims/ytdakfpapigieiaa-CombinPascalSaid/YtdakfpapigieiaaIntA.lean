/-
  Int, Int2, Int3.
-/
import Derived.Test.YtdakfpapigieiaaRefSum
import Derived.Deep.RegionHeld3
import Derived.Lib.SmallJoins
import Derived.Test.YtdakfpapigieiaaNatSum
namespace Go.Proofs.Ytdakfpapigieiaa
section
open Go.RowKit

/-- the integer with that sign and magnitude -/
def iv (s : Bool) (m : Nat) : Int := if s then -(m : Int) else (m : Int)
/-- its sign bit in normal form -/
def zneg (z : Int) : Bool := decide (z < 0)
/-- its magnitude -/
def zmag (z : Int) : Nat := z.natAbs
def sgn (z : Int) : Int := z.sign

theorem iv_false (m : Nat) : iv false m = (m : Int) := rfl
theorem iv_true (m : Nat) : iv true m = -(m : Int) := rfl
theorem iv_zero (s : Bool) : iv s 0 = 0 := by cases s <;> rfl
theorem iv_not (s : Bool) (m : Nat) : iv (!s) m = -iv s m := by cases s <;> simp [iv]
theorem zmag_iv (s : Bool) (m : Nat) : zmag (iv s m) = m := by cases s <;> simp [iv, zmag]
theorem zneg_iv (s : Bool) {m : Nat} (h : m ≠ 0) : zneg (iv s m) = s := by cases s <;> simp [iv, zneg] <;> omega
theorem zneg_zero : zneg 0 = false := rfl
theorem iv_eta (z : Int) : iv (zneg z) (zmag z) = z := by unfold iv zneg zmag; by_cases h : z < 0 <;> simp [h] <;> omega

/-- An integer was handed back, in normal form; of what was there nothing has turned. -/
def RetInt (w : World) (z : Int) (e : Ending) (w' : World) : Prop :=
  ∃ A c, e = .returned (.agg #[.bool (zneg z), .slice A (dig (zmag z)).length c]) ∧ Rd w' w'.heap.size A (dig (zmag z)).length c (dig (zmag z)) ∧ Below w.heap.size w w'

theorem Rd.upto {w w' : World} {Bd : Nat} {A : Option Addr} {n c : Nat} {xs : List Nat} (h : Rd w Bd A n c xs) (hb : Below w.heap.size w w') (hB : Bd ≤ w.heap.size) : Rd w' w'.heap.size A n c xs :=
  (h.below (Go.Joins.below_le hb hB)).more (Nat.le_trans hB hb.size)

theorem bcell {W w1 : World} {B : Nat} (hb : Below B W w1) : (∀ b o, b < B → w1.cell? ⟨b, o, none⟩ = W.cell? ⟨b, o, none⟩) ∧ (∀ b o, b < B → w1.frozen? ⟨b, o, none⟩ = W.frozen? ⟨b, o, none⟩) :=
  ⟨fun b o h => hb.cell (p := ⟨b, o, none⟩) h, fun b o h => hb.frozen (p := ⟨b, o, none⟩) h⟩

theorem RetInt.mk {w w' : World} {s : Bool} {A : Option Addr} {n c m : Nat} (h : Rd w' w'.heap.size A n c (dig m)) (hs : m = 0 → s = false) (hb : Below w.heap.size w w') :
    RetInt w (iv s m) (.returned (.agg #[.bool s, .slice A n c])) w' := by
  have hn := h.len
  subst hn
  have e : zneg (iv s m) = s := by
    by_cases h0 : m = 0
    · rw [h0, iv_zero, hs h0]; rfl
    · exact zneg_iv s h0
  refine ⟨A, c, by rw [e, zmag_iv], ?_, hb⟩
  rw [zmag_iv]
  exact h

/-- a store elsewhere: the cell holds no limb -/
theorem Rd.far {w : World} {Bd n c : Nat} {A : Option Addr} {xs : List Nat} (h : Rd w Bd A n c xs) {g o : Nat} {v u : Value} (hp : w.cell? ⟨g, o, none⟩ = some v) (hv : ∀ x, v ≠ .int .u32 x) : Rd (w.setCell ⟨g, o, none⟩ u) Bd A n c xs :=
  ⟨h.len, h.limbs, h.cap, h.big, h.cbig, fun hn => by
    obtain ⟨ad, e, hb, hc⟩ := h.cells hn
    refine ⟨ad, e, hb, fun j hj => ?_⟩
    have h1 := hc j hj
    rw [World.cell?_setCell_other, h1]
    intro e2
    rw [← e2, hp] at h1
    exact hv _ (Option.some.inj h1)⟩
theorem RetInt.box {w w2 : World} {z : Int} {A A' : Option Addr} {c n' c' g : Nat} {b : Bool} (hb : Below w.heap.size w w2) (hg : w.heap.size ≤ g) (hc0 : w2.cell? ⟨g, 0, none⟩ = some (.bool b)) (hc1 : w2.cell? ⟨g, 1, none⟩ = some (.slice A' n' c'))
    (R : Rd w2 w2.heap.size A (dig (zmag z)).length c (dig (zmag z))) :
    RetInt w z (.returned (.agg #[.bool (zneg z), .slice A (dig (zmag z)).length c])) ((w2.setCell ⟨g, 0, none⟩ (.bool (zneg z))).setCell ⟨g, 1, none⟩ (.slice A (dig (zmag z)).length c)) := by
  have h1 : (w2.setCell ⟨g, 0, none⟩ (.bool (zneg z))).cell? ⟨g, 1, none⟩ = some (.slice A' n' c') := (World.cell?_setCell_other _ _ _ _ (by simp)).trans hc1
  refine ⟨A, c, rfl, ?_, (hb.setCell hg _).setCell hg _⟩
  have := (R.far (u := .bool (zneg z)) hc0 (fun x h => by cases h)).far (u := .slice A (dig (zmag z)).length c) h1 (fun x h => by cases h)
  simpa using this

end

section
open Go.RowKit

theorem heap_alloc_at (w : World) (o : Obj) {g : Nat} (h : g = w.heap.size) : (w.alloc o).heap[g]? = some o := by
  subst h; exact heap_alloc_new w o
theorem below_al1 {w w2 : World} {o : Obj} (h : Below (w.heap.size + 1) (w.alloc o) w2) : Below w.heap.size w w2 :=
  ((Below.refl _ _).alloc (Nat.le_refl _) _).trans (h.mono (by omega))
theorem below_al2 {w w2 : World} {o o' : Obj} (h : Below (w.heap.size + 2) ((w.alloc o).alloc o') w2) : Below w.heap.size w w2 :=
  (((Below.refl _ _).alloc (Nat.le_refl _) _).alloc (by simp) _).trans (h.mono (by omega))

theorem Below.then_ {W w' w1 : World} (h : Below W.heap.size W w') (hb : Below w'.heap.size w' w1) : Below W.heap.size W w1 := h.trans (hb.mono h.size)
theorem Below.drw_ (W : World) : Below W.heap.size W W.drew := ⟨rfl, rfl, rfl, Nat.le_refl _, fun _ _ => rfl⟩
/-- what was readable when the call began is so now -/
theorem Rd.there {w W w' : World} {Bd n c : Nat} {A : Option Addr} {xs : List Nat} (h : Rd w Bd A n c xs) (hB : Bd ≤ w.heap.size) (hW : Below w.heap.size w W) (hS : Below W.heap.size W w') : Rd w' w'.heap.size A n c xs :=
  h.upto (hW.trans (hS.mono hW.size)) hB
theorem Rd.then_ {w w' : World} {n c : Nat} {A : Option Addr} {xs : List Nat} (h : Rd w w.heap.size A n c xs) (hS : Below w.heap.size w w') : Rd w' w'.heap.size A n c xs := h.upto hS (Nat.le_refl _)

/-- a value was handed back; of what was there nothing has turned -/
def RetB (w : World) (v : Value) (e : Ending) (w' : World) : Prop := e = .returned v ∧ Below w.heap.size w w'

theorem bl_eq_zero (n : Nat) : bl n = 0 ↔ n = 0 := by
  constructor
  · intro h
    rcases Nat.eq_zero_or_pos n with h0 | h0
    · exact h0
    · rw [bl_pos (by omega)] at h; omega
  · rintro rfl; exact bl_zero
theorem sgn_zero : sgn 0 = 0 := rfl
theorem sgn_iv (s : Bool) {m : Nat} (h : m ≠ 0) : sgn (iv s m) = if s then -1 else 1 := by
  unfold sgn
  cases s
  · rw [iv_false]; simp; omega
  · rw [iv_true]; simp; omega

theorem u64_neg {z : Int} (h0 : -9223372036854775808 ≤ z) (h1 : z < 0) : IntKind.u64.wrap (-(IntKind.u64.wrap z)) = (((-z).toNat : Nat) : Int) := by
  simp [IntKind.wrap, IntKind.bits, IntKind.signed]
  omega

end

section
open Go.RowKit

theorem iv_add_same (s : Bool) (x y : Nat) : iv s x + iv s y = iv s (x + y) := by cases s <;> simp [iv] <;> omega
theorem iv_add_more {s s' : Bool} (hs : ¬ s = s') {x y : Nat} (h : y ≤ x) : iv s x + iv s' y = iv s (x - y) := by cases s <;> cases s' <;> simp [iv] at * <;> omega
theorem iv_add_less {s s' : Bool} (hs : ¬ s = s') {x y : Nat} (h : x ≤ y) : iv s x + iv s' y = iv s' (y - x) := by cases s <;> cases s' <;> simp [iv] at * <;> omega
theorem iv_mul (s s' : Bool) (x y : Nat) : iv (!(s == s')) (x * y) = iv s x * iv s' y := by cases s <;> cases s' <;> simp [iv, Int.neg_mul, Int.mul_neg]
theorem iv_sub (s s' : Bool) (x y : Nat) : iv s x + iv (!s') y = iv s x - iv s' y := by rw [iv_not]; omega

end
end Go.Proofs.Ytdakfpapigieiaa
