/-
  DecMath, Dec, Dec2, Dec3.
-/
import Derived.Test.YtdlmfembnmomjaaGreatDoorRatB
import Derived.Test.YtdlmfembnmomjaaGreatDoorLaw3s
import Derived.Test.YtdlmfembnmomjaaGreatDoorPow
namespace Go.Proofs.YtdlmfembnmomjaaGreatDoor
section
open Go.RowKit

/-- whether the higher neighbor is chosen; neg: the number is below 0; odd: the lower neighbor is odd; c: how the rest compares with a half -/
def upd (m : Int) (neg odd : Bool) (c : Int) : Bool :=
  if m = 6 then false else if m = 7 then true else if m = 5 then neg else if m = 4 then !neg
  else if c = 0 then (if m = 2 then !neg else if m = 3 then neg else odd) else decide (0 < c)
def oddz (z : Int) : Bool := z % 2 == 1
/-- how the rest of x compares with a half -/
def hlf (x : Rat) : Int := sgn (x - (x.floor : Rat) - mkRat 1 2).num
/-- x rounded to an integer by the mode m -/
def rnd (m : Int) (x : Rat) : Int := if x = (x.floor : Rat) then x.floor else if upd m (decide (x < 0)) (oddz x.floor) (hlf x) then x.floor + 1 else x.floor

theorem sgq (q : Rat) : (sgn q.num = 1 ∧ 0 < q) ∨ (sgn q.num = 0 ∧ q = 0) ∨ (sgn q.num = -1 ∧ q < 0) := by
  rcases sgn_three q.num with ⟨h, h2⟩ | ⟨h, h2⟩ | ⟨h, h2⟩
  · refine Or.inr (Or.inr ⟨h, ?_⟩)
    have h3 := mt (Rat.num_nonneg (q := q)).2 (by omega)
    grind
  · exact Or.inr (Or.inl ⟨h, Rat.num_eq_zero.1 h2⟩)
  · have h3 := (Rat.num_nonneg (q := q)).1 (by omega)
    have h4 := mt (Rat.num_eq_zero (q := q)).2 (by omega)
    exact Or.inl ⟨h, by grind⟩
theorem half_eq : mkRat 1 2 = (1 / 2 : Rat) := by decide +kernel
theorem hlf_cases (x : Rat) : (hlf x = 1 ∧ (x.floor : Rat) + 1 / 2 < x) ∨ (hlf x = 0 ∧ x = (x.floor : Rat) + 1 / 2) ∨ (hlf x = -1 ∧ x < (x.floor : Rat) + 1 / 2) := by
  have h := sgq (x - (x.floor : Rat) - mkRat 1 2)
  unfold hlf
  rw [half_eq] at *
  rcases h with ⟨h, h2⟩ | ⟨h, h2⟩ | ⟨h, h2⟩
  · exact Or.inl ⟨h, by grind⟩
  · exact Or.inr (Or.inl ⟨h, by grind⟩)
  · exact Or.inr (Or.inr ⟨h, by grind⟩)
theorem fl_le (x : Rat) : (x.floor : Rat) ≤ x := Rat.floor_le x
theorem fl_lt (x : Rat) : x < (x.floor : Rat) + 1 := by
  have h := Rat.lt_floor_add_one x
  rw [Rat.intCast_add] at h
  exact h
theorem rnd_two (m : Int) (x : Rat) : rnd m x = x.floor ∨ (rnd m x = x.floor + 1 ∧ x ≠ (x.floor : Rat) ∧ upd m (decide (x < 0)) (oddz x.floor) (hlf x) = true) := by
  unfold rnd
  split
  · exact Or.inl rfl
  · split
    · rename_i h h2; exact Or.inr ⟨rfl, h, h2⟩
    · exact Or.inl rfl
theorem rnd_low {m : Int} {x : Rat} (h : rnd m x = x.floor) : x = (x.floor : Rat) ∨ upd m (decide (x < 0)) (oddz x.floor) (hlf x) = false := by
  by_cases h1 : x = (x.floor : Rat)
  · exact Or.inl h1
  · refine Or.inr ?_
    unfold rnd at h
    rw [if_neg h1] at h
    cases hu : upd m (decide (x < 0)) (oddz x.floor) (hlf x)
    · rfl
    · rw [hu, if_pos rfl] at h; omega
theorem rnd_int (m z : Int) : rnd m (z : Rat) = z := by
  unfold rnd
  rw [Rat.floor_intCast, if_pos rfl]
theorem neg_floor (x : Rat) : x < 0 ↔ x.floor < 0 := by
  have h := Rat.floor_lt_iff (a := x) (x := 0)
  exact h.symm

theorem rnd_apart (m : Int) (x : Rat) : -1 < (rnd m x : Rat) - x ∧ (rnd m x : Rat) - x < 1 := by
  have h1 := fl_le x
  have h2 := fl_lt x
  rcases rnd_two m x with h | ⟨h, h3, _⟩
  · rw [h]; grind
  · rw [h, Rat.intCast_add, Rat.intCast_one]; grind
theorem rnd_floor (x : Rat) : (rnd 6 x : Rat) ≤ x := by
  rcases rnd_two 6 x with h | ⟨_, _, h⟩
  · rw [h]; exact fl_le x
  · simp [upd] at h
theorem rnd_ceil (x : Rat) : x ≤ (rnd 7 x : Rat) := by
  have h2 := fl_lt x
  rcases rnd_two 7 x with h | ⟨h, _, _⟩
  · rcases rnd_low h with h3 | h3
    · rw [h]; grind
    · simp [upd] at h3
  · rw [h, Rat.intCast_add, Rat.intCast_one]; grind
theorem qabs_cases (x : Rat) : (0 ≤ x ∧ qabs x = x) ∨ (x < 0 ∧ qabs x = -x) := by
  unfold qabs
  by_cases h : x.num < 0
  · have h3 := mt (Rat.num_nonneg (q := x)).2 (by omega)
    exact Or.inr ⟨by grind, if_pos h⟩
  · exact Or.inl ⟨Rat.num_nonneg.1 (by omega), if_neg h⟩
theorem cast_le {a b : Int} (h : a ≤ b) : (a : Rat) ≤ (b : Rat) := Rat.intCast_le_intCast.2 h
theorem rnd_toward (x : Rat) : qabs (rnd 5 x : Rat) ≤ qabs x := by
  have h1 := fl_le x
  have h2 := fl_lt x
  have hn := neg_floor x
  rcases rnd_two 5 x with h | ⟨h, h3, h4⟩
  · rcases rnd_low h with h3 | h3
    · rw [h, ← h3]; grind
    · have h5 : ¬ x < 0 := by simpa [upd] using h3
      have h6 : 0 ≤ x.floor := by have := mt hn.2 h5; omega
      have h7 := cast_le h6
      rw [h]
      rcases qabs_cases x with h8 | h8 <;> rcases qabs_cases (x.floor : Rat) with h9 | h9 <;> grind
  · have h5 : x < 0 := by simpa [upd] using h4
    have h6 : x.floor + 1 ≤ 0 := by have := hn.1 h5; omega
    have h7 := cast_le h6
    rw [Rat.intCast_add, Rat.intCast_one] at h7
    rw [h, Rat.intCast_add, Rat.intCast_one]
    rcases qabs_cases x with h8 | h8 <;> rcases qabs_cases ((x.floor : Rat) + 1) with h9 | h9 <;> grind
theorem rnd_away (x : Rat) : qabs x ≤ qabs (rnd 4 x : Rat) := by
  have h1 := fl_le x
  have h2 := fl_lt x
  have hn := neg_floor x
  rcases rnd_two 4 x with h | ⟨h, h3, h4⟩
  · rcases rnd_low h with h3 | h3
    · rw [h, ← h3]; grind
    · have h5 : x < 0 := by simpa [upd] using h3
      rw [h]
      rcases qabs_cases x with h8 | h8 <;> rcases qabs_cases (x.floor : Rat) with h9 | h9 <;> grind
  · have h5 : ¬ x < 0 := by simpa [upd] using h4
    rw [h, Rat.intCast_add, Rat.intCast_one]
    rcases qabs_cases x with h8 | h8 <;> rcases qabs_cases ((x.floor : Rat) + 1) with h9 | h9 <;> grind
theorem rnd_half {m : Int} (hm : m = 1 ∨ m = 2 ∨ m = 3) (x : Rat) : -(1 / 2) ≤ (rnd m x : Rat) - x ∧ (rnd m x : Rat) - x ≤ 1 / 2 := by
  have h1 := fl_le x
  have h2 := fl_lt x
  rcases rnd_two m x with h | ⟨h, h3, h4⟩
  · rw [h]
    rcases rnd_low h with h3 | h3
    · grind
    · rcases hlf_cases x with ⟨h5, h6⟩ | ⟨h5, h6⟩ | ⟨h5, h6⟩
      · rcases hm with rfl | rfl | rfl <;> simp [upd, h5] at h3
      · grind
      · grind
  · rw [h, Rat.intCast_add, Rat.intCast_one]
    rcases hlf_cases x with ⟨h5, h6⟩ | ⟨h5, h6⟩ | ⟨h5, h6⟩
    · grind
    · grind
    · rcases hm with rfl | rfl | rfl <;> simp [upd, h5] at h4

theorem upd_mono {m : Int} {neg odd : Bool} {c d : Int} (h : c ≤ d) (hc : c = -1 ∨ c = 0 ∨ c = 1) (hd : d = -1 ∨ d = 0 ∨ d = 1) (hu : upd m neg odd c = true) : upd m neg odd d = true := by
  unfold upd at *
  split at hu
  · cases hu
  split at hu
  · rename_i h6 h7; rw [if_neg h6, if_pos h7]
  split at hu
  · rename_i h6 h7 h5; rw [if_neg h6, if_neg h7, if_pos h5]; exact hu
  split at hu
  · rename_i h6 h7 h5 h4; rw [if_neg h6, if_neg h7, if_neg h5, if_pos h4]; exact hu
  rename_i h6 h7 h5 h4
  rw [if_neg h6, if_neg h7, if_neg h5, if_neg h4]
  rcases hc with rfl | rfl | rfl <;> rcases hd with rfl | rfl | rfl <;> simp at h hu ⊢ <;> exact hu
theorem hlf_one (x : Rat) : hlf x = -1 ∨ hlf x = 0 ∨ hlf x = 1 := by
  rcases hlf_cases x with ⟨h, _⟩ | ⟨h, _⟩ | ⟨h, _⟩ <;> omega
theorem rnd_mono {x y : Rat} (m : Int) (h : x ≤ y) : rnd m x ≤ rnd m y := by
  have hf := Rat.floor_monotone h
  by_cases he : x.floor = y.floor
  · rcases rnd_two m x with h1 | ⟨h1, h2, h3⟩
    · rcases rnd_two m y with h4 | ⟨h4, _⟩ <;> omega
    · rcases rnd_two m y with h4 | ⟨h4, _⟩
      · exfalso
        have hx1 := fl_le x
        have hn : decide (x < 0) = decide (y < 0) := decide_eq_decide.2 (by rw [neg_floor, neg_floor, he])
        have hle : hlf x ≤ hlf y := by
          rcases hlf_cases x with ⟨a, b⟩ | ⟨a, b⟩ | ⟨a, b⟩ <;> rcases hlf_cases y with ⟨c, d⟩ | ⟨c, d⟩ | ⟨c, d⟩ <;> rw [a, c] <;> first | decide | (exfalso; rw [he] at b; grind)
        have hu := upd_mono hle (hlf_one x) (hlf_one y) h3
        rw [hn, he] at hu
        rcases rnd_low h4 with h5 | h5
        · rw [he] at h2 hx1; grind
        · rw [h5] at hu; cases hu
      · omega
  · rcases rnd_two m x with h1 | ⟨h1, _⟩ <;> rcases rnd_two m y with h4 | ⟨h4, _⟩ <;> omega

/-- the mode of the mirrored number -/
def mir (m : Int) : Int := if m = 6 then 7 else if m = 7 then 6 else m
theorem floor_neg {x : Rat} (h : x ≠ (x.floor : Rat)) : (-x).floor = -x.floor - 1 := by
  have h1 := fl_le x
  have h2 := fl_lt x
  have a : -x.floor - 1 ≤ (-x).floor := Rat.le_floor_iff.2 (by rw [Rat.intCast_sub, Rat.intCast_neg, Rat.intCast_one]; grind)
  have b : (-x).floor < -x.floor := Rat.floor_lt_iff.2 (by rw [Rat.intCast_neg]; grind)
  omega
theorem upd_neg {m : Int} (hm : 1 ≤ m ∧ m ≤ 7) {neg odd : Bool} {c : Int} (hc : c = -1 ∨ c = 0 ∨ c = 1) : upd (mir m) (!neg) (!odd) (-c) = !upd m neg odd c := by
  have h7 : m = 1 ∨ m = 2 ∨ m = 3 ∨ m = 4 ∨ m = 5 ∨ m = 6 ∨ m = 7 := by omega
  rcases h7 with rfl | rfl | rfl | rfl | rfl | rfl | rfl <;> rcases hc with rfl | rfl | rfl <;> cases neg <;> cases odd <;> decide
theorem rnd_neg {m : Int} (hm : 1 ≤ m ∧ m ≤ 7) (x : Rat) : rnd (mir m) (-x) = -rnd m x := by
  by_cases h : x = (x.floor : Rat)
  · rw [h, ← Rat.intCast_neg, rnd_int, rnd_int]
  · have hf := floor_neg h
    have h1 := fl_le x
    have h2 := fl_lt x
    have h' : ¬ -x = (((-x).floor : Int) : Rat) := by rw [hf, Rat.intCast_sub, Rat.intCast_neg, Rat.intCast_one]; grind
    have hn : decide (-x < 0) = !decide (x < 0) := by
      rw [← decide_not]
      refine decide_eq_decide.2 ?_
      rw [neg_floor, neg_floor, hf]; omega
    have ho : oddz ((-x).floor) = !oddz x.floor := by
      rw [hf]; unfold oddz
      rcases (show x.floor % 2 = 0 ∨ x.floor % 2 = 1 by omega) with e | e
      · rw [show (-x.floor - 1) % 2 = 1 by omega, e]; rfl
      · rw [show (-x.floor - 1) % 2 = 0 by omega, e]; rfl
    have hc : hlf (-x) = -hlf x := by
      rcases hlf_cases x with ⟨a, b⟩ | ⟨a, b⟩ | ⟨a, b⟩ <;> rcases hlf_cases (-x) with ⟨c, d⟩ | ⟨c, d⟩ | ⟨c, d⟩ <;> rw [a, c] <;> first | decide | (exfalso; rw [hf, Rat.intCast_sub, Rat.intCast_neg, Rat.intCast_one] at d; grind)
    have hu := upd_neg hm (neg := decide (x < 0)) (odd := oddz x.floor) (hlf_one x)
    unfold rnd
    rw [if_neg h, if_neg h', hn, ho, hc, hu, hf]
    cases upd m (decide (x < 0)) (oddz x.floor) (hlf x)
    · rw [if_pos (by rfl), if_neg (by simp)]; omega
    · rw [if_neg (by simp), if_pos rfl]; omega

/-- what DivMod and the halves compute -/
theorem rat_mk1 (z : Int) : mkRat z 1 = (z : Rat) := by
  have h2 := Rat.mkRat_self (z : Rat)
  rwa [Rat.num_intCast, Rat.den_intCast] at h2
theorem mk_int_iff (a : Int) {c : Nat} (hc : c ≠ 0) : mkRat a c = ((mkRat a c).floor : Rat) ↔ a - c * (a / c) = 0 := by
  rw [mk_floor a hc, ← rat_mk1, Rat.mkRat_eq_iff hc (by omega)]
  constructor
  · intro h
    rw [Int.mul_comm (a / c)] at h
    rw [← h]; simp
  · intro h
    have : a = c * (a / c) := by omega
    rw [Int.mul_comm (a / c)]
    rw [← this]; simp
theorem hlf_mk (a : Int) {c : Nat} (hc : c ≠ 0) : hlf (mkRat a c) = sgn (2 * (a - c * (a / c)) - c) := by
  unfold hlf
  rw [mk_floor a hc, ← rat_mk1, mk_sub hc (by omega), mk_sub (Nat.mul_ne_zero hc (by omega)) (by omega), sgn_mk (Nat.mul_ne_zero (Nat.mul_ne_zero hc (by omega)) (by omega))]
  congr 1
  have e1 : ((1 : Nat) : Int) = 1 := rfl
  have e2 : ((2 : Nat) : Int) = 2 := rfl
  simp only [Int.natCast_mul, e1, e2, Int.mul_one, Int.one_mul]
  rw [Int.mul_comm (a / c)]
  generalize (c : Int) * (a / c) = t
  omega
theorem ndiv_neg (a : Int) {c : Nat} (hc : c ≠ 0) : decide (mkRat a c < 0) = decide (a / c < 0) := by
  refine decide_eq_decide.2 ?_
  rw [neg_floor, mk_floor a hc]
end

section
open Go.RowKit

/-- what a block of three cells reads as -/
def BoxD (W : World) (g : Nat) (a b c : Value) : Prop := W.heap[g]? = some (.cells #[a, b, c] 29 (0, 0))
theorem boxD_kept_at {w w2 : World} {a b c : Value} {g B : Nat} (hg : BoxD w g a b c) (hB : g < B) (hB' : B ≤ w.heap.size) (hb : Below B w w2) :
    w2.cell? ⟨g, 0, none⟩ = some a ∧ w2.cell? ⟨g, 1, none⟩ = some b ∧ w2.cell? ⟨g, 2, none⟩ = some c ∧ w2.frozen? ⟨g, 0, none⟩ = false ∧ w2.frozen? ⟨g, 1, none⟩ = false ∧ w2.frozen? ⟨g, 2, none⟩ = false ∧ g < w2.heap.size := by
  have hg2 : w2.heap[g]? = some (.cells #[a, b, c] 29 (0, 0)) := (hb.block g hB).trans hg
  refine ⟨?_, ?_, ?_, frozen_of_row w2 g 0 _ _ hg2, frozen_of_row w2 g 1 _ _ hg2, frozen_of_row w2 g 2 _ _ hg2, Nat.lt_of_lt_of_le hB (Nat.le_trans hB' hb.size)⟩
  · rw [cell_of_row w2 g 0 _ _ _ hg2]; rfl
  · rw [cell_of_row w2 g 1 _ _ _ hg2]; rfl
  · rw [cell_of_row w2 g 2 _ _ _ hg2]; rfl
theorem BoxD.lt_size {W : World} {g : Nat} {a b c : Value} (h : BoxD W g a b c) : g < W.heap.size := (Array.getElem?_eq_some_iff.1 h).1
theorem BoxD.at0 {W : World} {g B : Nat} {a b c : Value} (h : BoxD W g a b c) (hB : g < B) (hB' : B ≤ W.heap.size) : ∀ w', Below B W w' → w'.cell? ⟨g, 0, none⟩ = some a := fun _ hb => (boxD_kept_at h hB hB' hb).1
theorem BoxD.at1 {W : World} {g B : Nat} {a b c : Value} (h : BoxD W g a b c) (hB : g < B) (hB' : B ≤ W.heap.size) : ∀ w', Below B W w' → w'.cell? ⟨g, 1, none⟩ = some b := fun _ hb => (boxD_kept_at h hB hB' hb).2.1
theorem BoxD.at2 {W : World} {g B : Nat} {a b c : Value} (h : BoxD W g a b c) (hB : g < B) (hB' : B ≤ W.heap.size) : ∀ w', Below B W w' → w'.cell? ⟨g, 2, none⟩ = some c := fun _ hb => (boxD_kept_at h hB hB' hb).2.2.1
theorem BoxD.free0 {W : World} {g B : Nat} {a b c : Value} (h : BoxD W g a b c) (hB : g < B) (hB' : B ≤ W.heap.size) : ∀ w', Below B W w' → w'.frozen? ⟨g, 0, none⟩ = false := fun _ hb => (boxD_kept_at h hB hB' hb).2.2.2.1
theorem BoxD.free1 {W : World} {g B : Nat} {a b c : Value} (h : BoxD W g a b c) (hB : g < B) (hB' : B ≤ W.heap.size) : ∀ w', Below B W w' → w'.frozen? ⟨g, 1, none⟩ = false := fun _ hb => (boxD_kept_at h hB hB' hb).2.2.2.2.1
theorem BoxD.free2 {W : World} {g B : Nat} {a b c : Value} (h : BoxD W g a b c) (hB : g < B) (hB' : B ≤ W.heap.size) : ∀ w', Below B W w' → w'.frozen? ⟨g, 2, none⟩ = false := fun _ hb => (boxD_kept_at h hB hB' hb).2.2.2.2.2.1
theorem BoxD.lt {W : World} {g B : Nat} {a b c : Value} (h : BoxD W g a b c) (hB : g < B) (hB' : B ≤ W.heap.size) : ∀ w', Below B W w' → g < w'.heap.size := fun _ hb => (boxD_kept_at h hB hB' hb).2.2.2.2.2.2
theorem BoxD.new (w : World) (a b c : Value) {g : Nat} (hg : g = w.heap.size) : BoxD (w.alloc (.cells #[a, b, c] 29)) g a b c := heap_alloc_at _ _ hg
theorem BoxD.keep {W W' : World} {g : Nat} {a b c : Value} (h : BoxD W g a b c) (hb : Below W.heap.size W W') : BoxD W' g a b c := (hb.block g h.lt_size).trans h
theorem BoxD.al {W : World} {g : Nat} {a b c : Value} (h : BoxD W g a b c) (o : Obj) : BoxD (W.alloc o) g a b c := h.keep ((Below.refl _ _).alloc (Nat.le_refl _) o)
theorem BoxD.set {W : World} {g : Nat} {a b c : Value} (h : BoxD W g a b c) (a' b' c' : Value) : BoxD (((W.setCell ⟨g, 0, none⟩ a').setCell ⟨g, 1, none⟩ b').setCell ⟨g, 2, none⟩ c') g a' b' c' :=
  heap_setCell_same _ g 2 _ _ c' (heap_setCell_same _ g 1 _ _ b' (heap_setCell_same W g 0 _ _ a' h))
theorem BoxD.other {W : World} {g g' o : Nat} {a b c : Value} (h : BoxD W g a b c) (hne : g ≠ g') (v : Value) : BoxD (W.setCell ⟨g', o, none⟩ v) g a b c := (Below.heap_setCell _ _ _ _ hne).trans h
theorem BoxD.but0 {W : World} {g g1 g2 : Nat} {a b c : Value} (h : BoxD W g a b c) (h1 : g ≠ g1) (h2 : g ≠ g2) : ∀ w', KeptBut g1 g2 W.heap.size W w' → w'.cell? ⟨g, 0, none⟩ = some a := fun w' hk => by
  rw [cell_of_row w' g 0 _ _ _ ((hk g h.lt_size h1 h2).trans h)]; rfl
theorem BoxD.but1 {W : World} {g g1 g2 : Nat} {a b c : Value} (h : BoxD W g a b c) (h1 : g ≠ g1) (h2 : g ≠ g2) : ∀ w', KeptBut g1 g2 W.heap.size W w' → w'.cell? ⟨g, 1, none⟩ = some b := fun w' hk => by
  rw [cell_of_row w' g 1 _ _ _ ((hk g h.lt_size h1 h2).trans h)]; rfl
theorem BoxD.but2 {W : World} {g g1 g2 : Nat} {a b c : Value} (h : BoxD W g a b c) (h1 : g ≠ g1) (h2 : g ≠ g2) : ∀ w', KeptBut g1 g2 W.heap.size W w' → w'.cell? ⟨g, 2, none⟩ = some c := fun w' hk => by
  rw [cell_of_row w' g 2 _ _ _ ((hk g h.lt_size h1 h2).trans h)]; rfl


/-- A decimal number was handed back, in normal form, beside an error. -/
def RetDec (w : World) (z p k : Int) (e : Ending) (w' : World) : Prop :=
  ∃ A c, e = .returned (.tuple #[.agg #[.bool (zneg z), .slice A (dig (zmag z)).length c, .int .i64 p], .int .i64 k]) ∧ Rd w' w'.heap.size A (dig (zmag z)).length c (dig (zmag z)) ∧ Below w.heap.size w w'
theorem farD {w2 : World} {g n1 d1 : Nat} {B1 : Option Addr} {b1 : Bool} {p1 : Int} (hc0 : w2.cell? ⟨g, 0, none⟩ = some (.bool b1)) (hc1 : w2.cell? ⟨g, 1, none⟩ = some (.slice B1 n1 d1)) (hc2 : w2.cell? ⟨g, 2, none⟩ = some (.int .i64 p1)) (a b c : Value) {A : Option Addr} {n k : Nat} {xs : List Nat} {Bd : Nat}
    (R : Rd w2 Bd A n k xs) : Rd (((w2.setCell ⟨g, 0, none⟩ a).setCell ⟨g, 1, none⟩ b).setCell ⟨g, 2, none⟩ c) Bd A n k xs := by
  have h1 : (w2.setCell ⟨g, 0, none⟩ a).cell? ⟨g, 1, none⟩ = some (.slice B1 n1 d1) := (World.cell?_setCell_other _ _ _ _ (by simp)).trans hc1
  have h2 : ((w2.setCell ⟨g, 0, none⟩ a).setCell ⟨g, 1, none⟩ b).cell? ⟨g, 2, none⟩ = some (.int .i64 p1) := ((World.cell?_setCell_other _ _ _ _ (by simp)).trans (World.cell?_setCell_other _ _ _ _ (by simp))).trans hc2
  exact ((R.far hc0 (fun x h => by cases h)).far h1 (fun x h => by cases h)).far h2 (fun x h => by cases h)
theorem RetDec.box {w w2 : World} {z p k p1 : Int} {A B1 : Option Addr} {c n1 d1 g : Nat} {b : Bool} (hb : Below w.heap.size w w2) (hg : w.heap.size ≤ g)
    (hc0 : w2.cell? ⟨g, 0, none⟩ = some (.bool b)) (hc1 : w2.cell? ⟨g, 1, none⟩ = some (.slice B1 n1 d1)) (hc2 : w2.cell? ⟨g, 2, none⟩ = some (.int .i64 p1))
    (R : Rd w2 w2.heap.size A (dig (zmag z)).length c (dig (zmag z))) :
    RetDec w z p k (.returned (.tuple #[.agg #[.bool (zneg z), .slice A (dig (zmag z)).length c, .int .i64 p], .int .i64 k])) (((w2.setCell ⟨g, 0, none⟩ (.bool (zneg z))).setCell ⟨g, 1, none⟩ (.slice A (dig (zmag z)).length c)).setCell ⟨g, 2, none⟩ (.int .i64 p)) :=
  ⟨A, c, rfl, by simpa using farD hc0 hc1 hc2 _ _ _ R, ((hb.setCell hg _).setCell hg _).setCell hg _⟩
theorem RetDec.zero {w w2 : World} {k p1 : Int} {B1 : Option Addr} {n1 d1 g : Nat} {b : Bool} (hb : Below w.heap.size w w2) (hg : w.heap.size ≤ g)
    (hc0 : w2.cell? ⟨g, 0, none⟩ = some (.bool b)) (hc1 : w2.cell? ⟨g, 1, none⟩ = some (.slice B1 n1 d1)) (hc2 : w2.cell? ⟨g, 2, none⟩ = some (.int .i64 p1)) :
    RetDec w 0 0 k (.returned (.tuple #[.agg #[.bool false, .slice none 0 0, .int .i64 0], .int .i64 k])) (((w2.setCell ⟨g, 0, none⟩ (.bool false)).setCell ⟨g, 1, none⟩ (.slice none 0 0)).setCell ⟨g, 2, none⟩ (.int .i64 0)) := by
  have e : dig (zmag 0) = [] := by rw [show zmag 0 = 0 from rfl, dig_zero]
  have h := RetDec.box (z := 0) (p := 0) (k := k) (A := none) (c := 0) hb hg hc0 hc1 hc2 (by rw [e]; exact Rd.empty _ _ _ (by omega))
  rw [e] at h
  exact h
/-- a literal of one limb -/
theorem Rd.limb1 {g x : Nat} (w : World) (hg : g = w.heap.size) (hx : x < 4294967296) {u : Int} (hu : u = (x : Int)) : Rd (w.alloc (Obj.cells #[Value.int IntKind.u32 u] 46)) (w.alloc (Obj.cells #[Value.int IntKind.u32 u] 46)).heap.size (some ⟨g, 0, none⟩) 1 1 [x] := by
  subst hu hg
  refine ⟨rfl, Limbs_cons hx Limbs_nil, by omega, by omega, by simp, fun _ => ⟨_, rfl, by simp, fun j hj => ?_⟩⟩
  obtain rfl : j = 0 := by omega
  rw [Addr.add_lit, cell_of_row _ w.heap.size _ _ _ (0, 0) (heap_alloc_new w _)]
  rfl
theorem odd_dig (z : Int) : (zmag z % 2 == 1) = oddz z := by
  unfold oddz zmag
  rcases (show z % 2 = 0 ∨ z % 2 = 1 by omega) with e | e
  · rw [e, show z.natAbs % 2 = 0 by omega]; rfl
  · rw [e, show z.natAbs % 2 = 1 by omega]; rfl
theorem val_mod2 {xs : List Nat} : val xs % 2 = lm xs 0 % 2 := by
  cases xs with
  | nil => rfl
  | cons x r => rw [val_cons]; show _ = x % 2; omega
theorem sz_int {z : Int} {i : Nat} (h : zmag z < pw i) (hi : 1 ≤ i) : (dig (zmag ((z : Rat)).num)).length ≤ i ∧ (dig ((z : Rat)).den).length ≤ i := by
  rw [Rat.num_intCast, Rat.den_intCast, dig_one]
  exact ⟨zl h, hi⟩
theorem flr_lt {q : Rat} {i : Nat} (h : (dig (zmag q.num)).length ≤ i ∧ (dig q.den).length ≤ i) : zmag q.floor < pw i := by
  obtain ⟨h1, _, _⟩ := sz_lt h
  refine Nat.lt_of_le_of_lt ?_ h1
  rw [Rat.floor_def]
  exact Int.natAbs_ediv_le_natAbs _ _
end

section
open Go.RowKit


theorem pown_any {w : World} {Bd : Nat} {A : Option Addr} {n c : Nat} {xs : List Nat} {k m : Nat} (h : Rd w Bd A n c xs) (hB : Bd ≤ w.heap.size) (hn : n ≤ 68719476736) (hk : k ≤ 512) (hm : val xs ^ k = m) :
    Calls Tryz.prog 71 #[.slice A n c, .int .i64 (k : Int)] w (fun e w' => ∃ A c, e = .returned (.tuple #[.slice A (dig m).length c, .bool true]) ∧ Rd w' w'.heap.size A (dig m).length c (dig m) ∧ Below w.heap.size w w') := by
  subst hm
  exact pow_any w Bd A n c xs h hB hn k hk

set_option maxHeartbeats 4000000 in
theorem isplaces_yes {w : World} {p : Int}  (h0 : 0 ≤ p) (h9 : p ≤ 9) :
    Calls Tryz.prog 28 #[.int .i64 p] w (RetB w (.bool true)) := by
  have e0 : decide (0 ≤ p) = true := decide_eq_true h0
  have e9 : decide (p ≤ 9) = true := decide_eq_true h9
  clear h0 h9
  have B := hide (Below.refl w.heap.size w)
  have U0 : Below w.heap.size w w := Below.refl _ _
  go_enter Tryz.func28, Tryz.ntmps28
  go_wp2_with fail
  go_wp2
  go_ret
  exact ⟨rfl, B.out⟩

set_option maxHeartbeats 4000000 in
theorem isplaces_lo {w : World} {p : Int}  (h0 : p < 0) :
    Calls Tryz.prog 28 #[.int .i64 p] w (RetB w (.bool false)) := by
  have e0 : decide (0 ≤ p) = false := decide_eq_false (by omega)
  clear h0
  have B := hide (Below.refl w.heap.size w)
  have U0 : Below w.heap.size w w := Below.refl _ _
  go_enter Tryz.func28, Tryz.ntmps28
  go_wp2_with fail
  go_wp2
  go_ret
  exact ⟨rfl, B.out⟩

set_option maxHeartbeats 4000000 in
theorem isplaces_hi {w : World} {p : Int}  (h0 : 0 ≤ p) (h9 : 9 < p) :
    Calls Tryz.prog 28 #[.int .i64 p] w (RetB w (.bool false)) := by
  have e0 : decide (0 ≤ p) = true := decide_eq_true h0
  have e9 : decide (p ≤ 9) = false := decide_eq_false (by omega)
  clear h0 h9
  have B := hide (Below.refl w.heap.size w)
  have U0 : Below w.heap.size w w := Below.refl _ _
  go_enter Tryz.func28, Tryz.ntmps28
  go_wp2_with fail
  go_wp2
  go_ret
  exact ⟨rfl, B.out⟩

theorem isplaces_no {w : World} {p : Int} (h : ¬ (0 ≤ p ∧ p ≤ 9)) : Calls Tryz.prog 28 #[.int .i64 p] w (RetB w (.bool false)) := by
  by_cases h0 : 0 ≤ p
  · exact isplaces_hi h0 (by omega)
  · exact isplaces_lo (by omega)

set_option maxHeartbeats 4000000 in
theorem ismode_yes {w : World} {m : Int}  (h0 : 1 ≤ m) (h9 : m ≤ 7) :
    Calls Tryz.prog 29 #[.int .i64 m] w (RetB w (.bool true)) := by
  have e0 : decide (1 ≤ m) = true := decide_eq_true h0
  have e9 : decide (m ≤ 7) = true := decide_eq_true h9
  clear h0 h9
  have B := hide (Below.refl w.heap.size w)
  have U0 : Below w.heap.size w w := Below.refl _ _
  go_enter Tryz.func29, Tryz.ntmps29
  go_wp2_with fail
  go_wp2
  go_ret
  exact ⟨rfl, B.out⟩

set_option maxHeartbeats 4000000 in
theorem ismode_lo {w : World} {m : Int}  (h0 : m < 1) :
    Calls Tryz.prog 29 #[.int .i64 m] w (RetB w (.bool false)) := by
  have e0 : decide (1 ≤ m) = false := decide_eq_false (by omega)
  clear h0
  have B := hide (Below.refl w.heap.size w)
  have U0 : Below w.heap.size w w := Below.refl _ _
  go_enter Tryz.func29, Tryz.ntmps29
  go_wp2_with fail
  go_wp2
  go_ret
  exact ⟨rfl, B.out⟩

set_option maxHeartbeats 4000000 in
theorem ismode_hi {w : World} {m : Int}  (h0 : 1 ≤ m) (h9 : 7 < m) :
    Calls Tryz.prog 29 #[.int .i64 m] w (RetB w (.bool false)) := by
  have e0 : decide (1 ≤ m) = true := decide_eq_true h0
  have e9 : decide (m ≤ 7) = false := decide_eq_false (by omega)
  clear h0 h9
  have B := hide (Below.refl w.heap.size w)
  have U0 : Below w.heap.size w w := Below.refl _ _
  go_enter Tryz.func29, Tryz.ntmps29
  go_wp2_with fail
  go_wp2
  go_ret
  exact ⟨rfl, B.out⟩

theorem ismode_no {w : World} {m : Int} (h : ¬ (1 ≤ m ∧ m ≤ 7)) : Calls Tryz.prog 29 #[.int .i64 m] w (RetB w (.bool false)) := by
  by_cases h0 : 1 ≤ m
  · exact ismode_hi h0 (by omega)
  · exact ismode_lo (by omega)

set_option maxHeartbeats 4000000 in
theorem rplaces_yes {w : World} {p : Int}  (h0 : 0 ≤ p) (h9 : p ≤ 9) :
    Calls Tryz.prog 39 #[.int .i64 p] w (RetB w (.bool true)) := by
  have e0 : decide (0 ≤ p) = true := decide_eq_true h0
  have e9 : decide (p ≤ 9) = true := decide_eq_true h9
  clear h0 h9
  have B := hide (Below.refl w.heap.size w)
  have U0 : Below w.heap.size w w := Below.refl _ _
  go_enter Tryz.func39, Tryz.ntmps39
  go_wp2_with fail
  go_wp2
  go_ret
  exact ⟨rfl, B.out⟩

set_option maxHeartbeats 4000000 in
theorem rplaces_lo {w : World} {p : Int}  (h0 : p < 0) :
    Calls Tryz.prog 39 #[.int .i64 p] w (RetB w (.bool false)) := by
  have e0 : decide (0 ≤ p) = false := decide_eq_false (by omega)
  clear h0
  have B := hide (Below.refl w.heap.size w)
  have U0 : Below w.heap.size w w := Below.refl _ _
  go_enter Tryz.func39, Tryz.ntmps39
  go_wp2_with fail
  go_wp2
  go_ret
  exact ⟨rfl, B.out⟩

set_option maxHeartbeats 4000000 in
theorem rplaces_hi {w : World} {p : Int}  (h0 : 0 ≤ p) (h9 : 9 < p) :
    Calls Tryz.prog 39 #[.int .i64 p] w (RetB w (.bool false)) := by
  have e0 : decide (0 ≤ p) = true := decide_eq_true h0
  have e9 : decide (p ≤ 9) = false := decide_eq_false (by omega)
  clear h0 h9
  have B := hide (Below.refl w.heap.size w)
  have U0 : Below w.heap.size w w := Below.refl _ _
  go_enter Tryz.func39, Tryz.ntmps39
  go_wp2_with fail
  go_wp2
  go_ret
  exact ⟨rfl, B.out⟩

theorem rplaces_no {w : World} {p : Int} (h : ¬ (0 ≤ p ∧ p ≤ 9)) : Calls Tryz.prog 39 #[.int .i64 p] w (RetB w (.bool false)) := by
  by_cases h0 : 0 ≤ p
  · exact rplaces_hi h0 (by omega)
  · exact rplaces_lo (by omega)

set_option maxHeartbeats 4000000 in
theorem rmode_yes {w : World} {m : Int}  (h0 : 1 ≤ m) (h9 : m ≤ 7) :
    Calls Tryz.prog 40 #[.int .i64 m] w (RetB w (.bool true)) := by
  have e0 : decide (1 ≤ m) = true := decide_eq_true h0
  have e9 : decide (m ≤ 7) = true := decide_eq_true h9
  clear h0 h9
  have B := hide (Below.refl w.heap.size w)
  have U0 : Below w.heap.size w w := Below.refl _ _
  go_enter Tryz.func40, Tryz.ntmps40
  go_wp2_with fail
  go_wp2
  go_ret
  exact ⟨rfl, B.out⟩

set_option maxHeartbeats 4000000 in
theorem rmode_lo {w : World} {m : Int}  (h0 : m < 1) :
    Calls Tryz.prog 40 #[.int .i64 m] w (RetB w (.bool false)) := by
  have e0 : decide (1 ≤ m) = false := decide_eq_false (by omega)
  clear h0
  have B := hide (Below.refl w.heap.size w)
  have U0 : Below w.heap.size w w := Below.refl _ _
  go_enter Tryz.func40, Tryz.ntmps40
  go_wp2_with fail
  go_wp2
  go_ret
  exact ⟨rfl, B.out⟩

set_option maxHeartbeats 4000000 in
theorem rmode_hi {w : World} {m : Int}  (h0 : 1 ≤ m) (h9 : 7 < m) :
    Calls Tryz.prog 40 #[.int .i64 m] w (RetB w (.bool false)) := by
  have e0 : decide (1 ≤ m) = true := decide_eq_true h0
  have e9 : decide (m ≤ 7) = false := decide_eq_false (by omega)
  clear h0 h9
  have B := hide (Below.refl w.heap.size w)
  have U0 : Below w.heap.size w w := Below.refl _ _
  go_enter Tryz.func40, Tryz.ntmps40
  go_wp2_with fail
  go_wp2
  go_ret
  exact ⟨rfl, B.out⟩

theorem rmode_no {w : World} {m : Int} (h : ¬ (1 ≤ m ∧ m ≤ 7)) : Calls Tryz.prog 40 #[.int .i64 m] w (RetB w (.bool false)) := by
  by_cases h0 : 1 ≤ m
  · exact rmode_hi h0 (by omega)
  · exact rmode_lo (by omega)

set_option maxHeartbeats 4000000 in
theorem scale_any {w : World} {p : Nat}  {m : Nat} (h9 : p ≤ 9) (hm : 10 ^ p = m) :
    Calls Tryz.prog 31 #[.int .i64 (p : Int)] w (RetNat w m) := by
  have e_m : val (dig 10) ^ p = m := by rw [val_dig]; exact hm
  replace e_m := hide e_m
  have g1 : (dig 10).length ≤ 68719476736 := by have := (dig_len_le 10 1).2 (by decide); omega
  replace g1 := hide g1
  clear hm
  replace h9 := hide h9
  have B := hide (Below.refl w.heap.size w)
  have U0 : Below w.heap.size w w := Below.refl _ _
  go_enter Tryz.func31, Tryz.ntmps31
  go_wp2_with fail
  refine (of_any _ 10 (by omega)).mono ?_
  rintro e w1 ⟨A_t, c_t, rfl, R_t, hb⟩
  have U1 : Below w.heap.size w w1 := Below.then_ U0 hb
  replace B := hide (Below.then_ B.out hb)
  replace R_t := hide R_t
  clear hb
  go_wp2_with fail
  refine (pown_any R_t.out (Nat.le_refl _) g1.out (by have := h9.out; omega) e_m.out).mono ?_
  rintro e w2 ⟨A_m, c_m, rfl, R_m, hb⟩
  replace R_t := hide (Rd.then_ R_t.out hb)
  have U2 : Below w.heap.size w w2 := Below.then_ U1 hb
  replace B := hide (Below.then_ B.out hb)
  replace R_m := hide R_m
  clear hb
  go_wp2
  go_ret
  exact ⟨A_m, c_m, rfl, R_m.out, B.out⟩

set_option maxHeartbeats 4000000 in
theorem isodd_0 {w : World} {Bd : Nat} {A_a : Option Addr} {n_a c_a : Nat} {x_a : List Nat} {s_a : Bool} (h_a : Rd w Bd A_a n_a c_a x_a) (g_a : n_a ≤ 10000000000) (hB : Bd ≤ w.heap.size) (hn : n_a = 0) :
    Calls Tryz.prog 77 #[.agg #[.bool s_a, .slice A_a n_a c_a]] w (RetB w (.bool false)) := by
  subst hn
  obtain ⟨W, hW⟩ : ∃ W, W = (w.alloc (.cells #[.bool s_a, .slice A_a 0 c_a] 25)) := ⟨_, rfl⟩
  have b_a : Box W (w.heap.size) (.bool s_a) (.slice A_a 0 c_a) := by rw [hW]; exact (Box.new w _ _ rfl)
  have hwW : Below w.heap.size w W := by rw [hW]; exact ((Below.refl _ _).alloc (Nat.le_refl _) _)
  have R_a := hide (Rd.upto h_a hwW hB)
  clear h_a
  have B := hide hwW
  clear hwW
  clear hB
  have U0 : Below W.heap.size W W := Below.refl _ _
  have c_a0 := b_a.at0 b_a.lt_size (Nat.le_refl _)
  have c_a1 := b_a.at1 b_a.lt_size (Nat.le_refl _)
  replace b_a := hide b_a
  go_enter Tryz.func77, Tryz.ntmps77
  go_wp2_with fail
  rw [← hW]
  clear hW
  go_wp2
  go_ret
  exact ⟨rfl, B.out⟩

set_option maxHeartbeats 4000000 in
theorem isodd_1 {w : World} {Bd : Nat} {A_a : Option Addr} {n_a c_a : Nat} {x_a : List Nat} {s_a : Bool} (h_a : Rd w Bd A_a n_a c_a x_a) (_g_a : n_a ≤ 10000000000) (hB : Bd ≤ w.heap.size) {b : Bool} (hn : 0 < n_a) (hb : (lm x_a 0 % 2 == 1) = b) :
    Calls Tryz.prog 77 #[.agg #[.bool s_a, .slice A_a n_a c_a]] w (RetB w (.bool b)) := by
  obtain ⟨aa, hA, haab, hca⟩ := h_a.at_ (k := 0) (by omega)
  subst hA
  have hcap := h_a.cap
  have hbig := h_a.big
  have hl := h_a.limbs 0
  have e1 : ((((lm x_a 0 : Nat) : Int) % 2) == 1) = b := by have h2 : ((lm x_a 0 : Nat) : Int) % 2 = ((lm x_a 0 % 2 : Nat) : Int) := by omega
                                                            rw [h2, ← hb]; rcases (show lm x_a 0 % 2 = 0 ∨ lm x_a 0 % 2 = 1 by omega) with e | e <;> rw [e] <;> rfl
  have hBB := hB
  obtain ⟨W, hW⟩ : ∃ W, W = (w.alloc (.cells #[.bool s_a, .slice (some aa) n_a c_a] 25)) := ⟨_, rfl⟩
  have b_a : Box W (w.heap.size) (.bool s_a) (.slice (some aa) n_a c_a) := by rw [hW]; exact (Box.new w _ _ rfl)
  have hwW : Below w.heap.size w W := by rw [hW]; exact ((Below.refl _ _).alloc (Nat.le_refl _) _)
  have R_a := hide (Rd.upto h_a hwW hB)
  clear h_a
  have B := hide hwW
  clear hwW
  clear hB
  have U0 : Below W.heap.size W W := Below.refl _ _
  have c_a0 := b_a.at0 b_a.lt_size (Nat.le_refl _)
  have c_a1 := b_a.at1 b_a.lt_size (Nat.le_refl _)
  replace b_a := hide b_a
  replace hca : W.cell? aa = some (.int .u32 (lm x_a 0 : Int)) := (B.out.cell (p := aa.add 0) (Nat.lt_of_lt_of_le (by rw [block_add]; exact haab) hBB)).trans hca
  rw [hW] at hca
  go_enter Tryz.func77, Tryz.ntmps77
  go_wp2_with fail
  rw [← hW]
  clear hW
  go_wp2
  go_ret
  exact ⟨rfl, B.out⟩

theorem isodd_any {w : World} {Bd : Nat} {A : Option Addr} {c : Nat} {z : Int} (h : Rd w Bd A (dig (zmag z)).length c (dig (zmag z))) (g : (dig (zmag z)).length ≤ 10000000000) (hB : Bd ≤ w.heap.size) :
    Calls Tryz.prog 77 #[.agg #[.bool (zneg z), .slice A (dig (zmag z)).length c]] w (RetB w (.bool (oddz z))) := by
  have e : (lm (dig (zmag z)) 0 % 2 == 1) = oddz z := by rw [← val_mod2, val_dig, odd_dig]
  by_cases hn : (dig (zmag z)).length = 0
  · rw [← e, show lm (dig (zmag z)) 0 = 0 by rw [List.length_eq_zero_iff.1 hn]; rfl]
    exact isodd_0 h g hB hn
  · exact isodd_1 h g hB (by omega) e
end

section
open Go.RowKit


set_option maxHeartbeats 4000000 in
theorem chooses_1l {w : World} {Bd : Nat} {A_a : Option Addr} {c_a : Nat} {z : Int} {k : Int} (h_a : Rd w Bd A_a (dig (zmag z)).length c_a (dig (zmag z))) (_g_a : (dig (zmag z)).length ≤ 10000000000) (hB : Bd ≤ w.heap.size) (hk : sgn z = k) :
    Calls Tryz.prog 36 #[.agg #[.bool (zneg z), .slice A_a (dig (zmag z)).length c_a], .int .i64 (-1), .int .i64 1] w (RetB w (.bool (false))) := by
  have e_k : sgn (iv (zneg z) (val (dig (zmag z)))) = k := by rw [ivz]; exact hk
  replace e_k := hide e_k
  clear hk
  obtain ⟨b, hb⟩ : ∃ b, decide (k < 0) = b := ⟨_, rfl⟩
  skip
  obtain ⟨W, hW⟩ : ∃ W, W = (w.alloc (.cells #[.bool (zneg z), .slice A_a (dig (zmag z)).length c_a] 25)) := ⟨_, rfl⟩
  have b_a : Box W (w.heap.size) (.bool (zneg z)) (.slice A_a (dig (zmag z)).length c_a) := by rw [hW]; exact (Box.new w _ _ rfl)
  have hwW : Below w.heap.size w W := by rw [hW]; exact ((Below.refl _ _).alloc (Nat.le_refl _) _)
  have R_a := hide (Rd.upto h_a hwW hB)
  clear h_a
  have B := hide hwW
  clear hwW
  clear hB
  have U0 : Below W.heap.size W W := Below.refl _ _
  have c_a0 := b_a.at0 b_a.lt_size (Nat.le_refl _)
  have c_a1 := b_a.at1 b_a.lt_size (Nat.le_refl _)
  replace b_a := hide b_a
  go_enter Tryz.func36, Tryz.ntmps36
  go_wp2_with fail
  rw [← hW]
  clear hW
  refine (isign_any _ _ _ _ _ _ _ R_a.out (Nat.le_refl _)).mono ?_
  rw [e_k.out]
  rintro e w1 ⟨rfl, hb⟩
  replace R_a := hide (Rd.then_ R_a.out hb)
  have U1 : Below W.heap.size W w1 := Below.then_ U0 hb
  replace B := hide (Below.then_ B.out hb)
  clear hb
  go_wp2
  go_ret
  exact ⟨rfl, B.out⟩

set_option maxHeartbeats 4000000 in
theorem chooses_1e {w : World} {Bd : Nat} {A_a : Option Addr} {c_a : Nat} {z : Int} {k : Int} (h_a : Rd w Bd A_a (dig (zmag z)).length c_a (dig (zmag z))) (g_a : (dig (zmag z)).length ≤ 10000000000) (hB : Bd ≤ w.heap.size) (hk : sgn z = k) :
    Calls Tryz.prog 36 #[.agg #[.bool (zneg z), .slice A_a (dig (zmag z)).length c_a], .int .i64 (0), .int .i64 1] w (RetB w (.bool (oddz z))) := by
  have e_k : sgn (iv (zneg z) (val (dig (zmag z)))) = k := by rw [ivz]; exact hk
  replace e_k := hide e_k
  clear hk
  obtain ⟨b, hb⟩ : ∃ b, decide (k < 0) = b := ⟨_, rfl⟩
  skip
  obtain ⟨W, hW⟩ : ∃ W, W = (w.alloc (.cells #[.bool (zneg z), .slice A_a (dig (zmag z)).length c_a] 25)) := ⟨_, rfl⟩
  have b_a : Box W (w.heap.size) (.bool (zneg z)) (.slice A_a (dig (zmag z)).length c_a) := by rw [hW]; exact (Box.new w _ _ rfl)
  have hwW : Below w.heap.size w W := by rw [hW]; exact ((Below.refl _ _).alloc (Nat.le_refl _) _)
  have R_a := hide (Rd.upto h_a hwW hB)
  clear h_a
  have B := hide hwW
  clear hwW
  clear hB
  have U0 : Below W.heap.size W W := Below.refl _ _
  have c_a0 := b_a.at0 b_a.lt_size (Nat.le_refl _)
  have c_a1 := b_a.at1 b_a.lt_size (Nat.le_refl _)
  replace b_a := hide b_a
  go_enter Tryz.func36, Tryz.ntmps36
  go_wp2_with fail
  rw [← hW]
  clear hW
  refine (isign_any _ _ _ _ _ _ _ R_a.out (Nat.le_refl _)).mono ?_
  rw [e_k.out]
  rintro e w1 ⟨rfl, hb⟩
  replace R_a := hide (Rd.then_ R_a.out hb)
  have U1 : Below W.heap.size W w1 := Below.then_ U0 hb
  replace B := hide (Below.then_ B.out hb)
  clear hb
  replace g_a := hide g_a
  go_wp2_with fail
  refine (isodd_any R_a.out g_a.out (Nat.le_refl _)).mono ?_
  rintro e w2 ⟨rfl, hb⟩
  replace R_a := hide (Rd.then_ R_a.out hb)
  have U2 : Below W.heap.size W w2 := Below.then_ U1 hb
  replace B := hide (Below.then_ B.out hb)
  clear hb
  go_wp2
  go_ret
  exact ⟨rfl, B.out⟩

set_option maxHeartbeats 4000000 in
theorem chooses_1g {w : World} {Bd : Nat} {A_a : Option Addr} {c_a : Nat} {z : Int} {k : Int} (h_a : Rd w Bd A_a (dig (zmag z)).length c_a (dig (zmag z))) (_g_a : (dig (zmag z)).length ≤ 10000000000) (hB : Bd ≤ w.heap.size) (hk : sgn z = k) :
    Calls Tryz.prog 36 #[.agg #[.bool (zneg z), .slice A_a (dig (zmag z)).length c_a], .int .i64 (1), .int .i64 1] w (RetB w (.bool (true))) := by
  have e_k : sgn (iv (zneg z) (val (dig (zmag z)))) = k := by rw [ivz]; exact hk
  replace e_k := hide e_k
  clear hk
  obtain ⟨b, hb⟩ : ∃ b, decide (k < 0) = b := ⟨_, rfl⟩
  skip
  obtain ⟨W, hW⟩ : ∃ W, W = (w.alloc (.cells #[.bool (zneg z), .slice A_a (dig (zmag z)).length c_a] 25)) := ⟨_, rfl⟩
  have b_a : Box W (w.heap.size) (.bool (zneg z)) (.slice A_a (dig (zmag z)).length c_a) := by rw [hW]; exact (Box.new w _ _ rfl)
  have hwW : Below w.heap.size w W := by rw [hW]; exact ((Below.refl _ _).alloc (Nat.le_refl _) _)
  have R_a := hide (Rd.upto h_a hwW hB)
  clear h_a
  have B := hide hwW
  clear hwW
  clear hB
  have U0 : Below W.heap.size W W := Below.refl _ _
  have c_a0 := b_a.at0 b_a.lt_size (Nat.le_refl _)
  have c_a1 := b_a.at1 b_a.lt_size (Nat.le_refl _)
  replace b_a := hide b_a
  go_enter Tryz.func36, Tryz.ntmps36
  go_wp2_with fail
  rw [← hW]
  clear hW
  refine (isign_any _ _ _ _ _ _ _ R_a.out (Nat.le_refl _)).mono ?_
  rw [e_k.out]
  rintro e w1 ⟨rfl, hb⟩
  replace R_a := hide (Rd.then_ R_a.out hb)
  have U1 : Below W.heap.size W w1 := Below.then_ U0 hb
  replace B := hide (Below.then_ B.out hb)
  clear hb
  go_wp2
  go_ret
  exact ⟨rfl, B.out⟩

set_option maxHeartbeats 4000000 in
theorem chooses_2l {w : World} {Bd : Nat} {A_a : Option Addr} {c_a : Nat} {z : Int} {k : Int} (h_a : Rd w Bd A_a (dig (zmag z)).length c_a (dig (zmag z))) (_g_a : (dig (zmag z)).length ≤ 10000000000) (hB : Bd ≤ w.heap.size) (hk : sgn z = k) :
    Calls Tryz.prog 36 #[.agg #[.bool (zneg z), .slice A_a (dig (zmag z)).length c_a], .int .i64 (-1), .int .i64 2] w (RetB w (.bool (false))) := by
  have e_k : sgn (iv (zneg z) (val (dig (zmag z)))) = k := by rw [ivz]; exact hk
  replace e_k := hide e_k
  clear hk
  obtain ⟨b, hb⟩ : ∃ b, decide (k < 0) = b := ⟨_, rfl⟩
  skip
  obtain ⟨W, hW⟩ : ∃ W, W = (w.alloc (.cells #[.bool (zneg z), .slice A_a (dig (zmag z)).length c_a] 25)) := ⟨_, rfl⟩
  have b_a : Box W (w.heap.size) (.bool (zneg z)) (.slice A_a (dig (zmag z)).length c_a) := by rw [hW]; exact (Box.new w _ _ rfl)
  have hwW : Below w.heap.size w W := by rw [hW]; exact ((Below.refl _ _).alloc (Nat.le_refl _) _)
  have R_a := hide (Rd.upto h_a hwW hB)
  clear h_a
  have B := hide hwW
  clear hwW
  clear hB
  have U0 : Below W.heap.size W W := Below.refl _ _
  have c_a0 := b_a.at0 b_a.lt_size (Nat.le_refl _)
  have c_a1 := b_a.at1 b_a.lt_size (Nat.le_refl _)
  replace b_a := hide b_a
  go_enter Tryz.func36, Tryz.ntmps36
  go_wp2_with fail
  rw [← hW]
  clear hW
  refine (isign_any _ _ _ _ _ _ _ R_a.out (Nat.le_refl _)).mono ?_
  rw [e_k.out]
  rintro e w1 ⟨rfl, hb⟩
  replace R_a := hide (Rd.then_ R_a.out hb)
  have U1 : Below W.heap.size W w1 := Below.then_ U0 hb
  replace B := hide (Below.then_ B.out hb)
  clear hb
  go_wp2
  go_ret
  exact ⟨rfl, B.out⟩

set_option maxHeartbeats 4000000 in
theorem chooses_2e {w : World} {Bd : Nat} {A_a : Option Addr} {c_a : Nat} {z : Int} {k : Int} (h_a : Rd w Bd A_a (dig (zmag z)).length c_a (dig (zmag z))) (_g_a : (dig (zmag z)).length ≤ 10000000000) (hB : Bd ≤ w.heap.size) (hk : sgn z = k) :
    Calls Tryz.prog 36 #[.agg #[.bool (zneg z), .slice A_a (dig (zmag z)).length c_a], .int .i64 (0), .int .i64 2] w (RetB w (.bool (!decide (k < 0)))) := by
  have e_k : sgn (iv (zneg z) (val (dig (zmag z)))) = k := by rw [ivz]; exact hk
  replace e_k := hide e_k
  clear hk
  obtain ⟨b, hb⟩ : ∃ b, decide (k < 0) = b := ⟨_, rfl⟩
  rw [hb]
  obtain ⟨W, hW⟩ : ∃ W, W = (w.alloc (.cells #[.bool (zneg z), .slice A_a (dig (zmag z)).length c_a] 25)) := ⟨_, rfl⟩
  have b_a : Box W (w.heap.size) (.bool (zneg z)) (.slice A_a (dig (zmag z)).length c_a) := by rw [hW]; exact (Box.new w _ _ rfl)
  have hwW : Below w.heap.size w W := by rw [hW]; exact ((Below.refl _ _).alloc (Nat.le_refl _) _)
  have R_a := hide (Rd.upto h_a hwW hB)
  clear h_a
  have B := hide hwW
  clear hwW
  clear hB
  have U0 : Below W.heap.size W W := Below.refl _ _
  have c_a0 := b_a.at0 b_a.lt_size (Nat.le_refl _)
  have c_a1 := b_a.at1 b_a.lt_size (Nat.le_refl _)
  replace b_a := hide b_a
  go_enter Tryz.func36, Tryz.ntmps36
  go_wp2_with fail
  rw [← hW]
  clear hW
  refine (isign_any _ _ _ _ _ _ _ R_a.out (Nat.le_refl _)).mono ?_
  rw [e_k.out]
  rintro e w1 ⟨rfl, hb⟩
  replace R_a := hide (Rd.then_ R_a.out hb)
  have U1 : Below W.heap.size W w1 := Below.then_ U0 hb
  replace B := hide (Below.then_ B.out hb)
  clear hb
  go_wp2
  go_ret
  exact ⟨rfl, B.out⟩

set_option maxHeartbeats 4000000 in
theorem chooses_2g {w : World} {Bd : Nat} {A_a : Option Addr} {c_a : Nat} {z : Int} {k : Int} (h_a : Rd w Bd A_a (dig (zmag z)).length c_a (dig (zmag z))) (_g_a : (dig (zmag z)).length ≤ 10000000000) (hB : Bd ≤ w.heap.size) (hk : sgn z = k) :
    Calls Tryz.prog 36 #[.agg #[.bool (zneg z), .slice A_a (dig (zmag z)).length c_a], .int .i64 (1), .int .i64 2] w (RetB w (.bool (true))) := by
  have e_k : sgn (iv (zneg z) (val (dig (zmag z)))) = k := by rw [ivz]; exact hk
  replace e_k := hide e_k
  clear hk
  obtain ⟨b, hb⟩ : ∃ b, decide (k < 0) = b := ⟨_, rfl⟩
  skip
  obtain ⟨W, hW⟩ : ∃ W, W = (w.alloc (.cells #[.bool (zneg z), .slice A_a (dig (zmag z)).length c_a] 25)) := ⟨_, rfl⟩
  have b_a : Box W (w.heap.size) (.bool (zneg z)) (.slice A_a (dig (zmag z)).length c_a) := by rw [hW]; exact (Box.new w _ _ rfl)
  have hwW : Below w.heap.size w W := by rw [hW]; exact ((Below.refl _ _).alloc (Nat.le_refl _) _)
  have R_a := hide (Rd.upto h_a hwW hB)
  clear h_a
  have B := hide hwW
  clear hwW
  clear hB
  have U0 : Below W.heap.size W W := Below.refl _ _
  have c_a0 := b_a.at0 b_a.lt_size (Nat.le_refl _)
  have c_a1 := b_a.at1 b_a.lt_size (Nat.le_refl _)
  replace b_a := hide b_a
  go_enter Tryz.func36, Tryz.ntmps36
  go_wp2_with fail
  rw [← hW]
  clear hW
  refine (isign_any _ _ _ _ _ _ _ R_a.out (Nat.le_refl _)).mono ?_
  rw [e_k.out]
  rintro e w1 ⟨rfl, hb⟩
  replace R_a := hide (Rd.then_ R_a.out hb)
  have U1 : Below W.heap.size W w1 := Below.then_ U0 hb
  replace B := hide (Below.then_ B.out hb)
  clear hb
  go_wp2
  go_ret
  exact ⟨rfl, B.out⟩

set_option maxHeartbeats 4000000 in
theorem chooses_3l {w : World} {Bd : Nat} {A_a : Option Addr} {c_a : Nat} {z : Int} {k : Int} (h_a : Rd w Bd A_a (dig (zmag z)).length c_a (dig (zmag z))) (_g_a : (dig (zmag z)).length ≤ 10000000000) (hB : Bd ≤ w.heap.size) (hk : sgn z = k) :
    Calls Tryz.prog 36 #[.agg #[.bool (zneg z), .slice A_a (dig (zmag z)).length c_a], .int .i64 (-1), .int .i64 3] w (RetB w (.bool (false))) := by
  have e_k : sgn (iv (zneg z) (val (dig (zmag z)))) = k := by rw [ivz]; exact hk
  replace e_k := hide e_k
  clear hk
  obtain ⟨b, hb⟩ : ∃ b, decide (k < 0) = b := ⟨_, rfl⟩
  skip
  obtain ⟨W, hW⟩ : ∃ W, W = (w.alloc (.cells #[.bool (zneg z), .slice A_a (dig (zmag z)).length c_a] 25)) := ⟨_, rfl⟩
  have b_a : Box W (w.heap.size) (.bool (zneg z)) (.slice A_a (dig (zmag z)).length c_a) := by rw [hW]; exact (Box.new w _ _ rfl)
  have hwW : Below w.heap.size w W := by rw [hW]; exact ((Below.refl _ _).alloc (Nat.le_refl _) _)
  have R_a := hide (Rd.upto h_a hwW hB)
  clear h_a
  have B := hide hwW
  clear hwW
  clear hB
  have U0 : Below W.heap.size W W := Below.refl _ _
  have c_a0 := b_a.at0 b_a.lt_size (Nat.le_refl _)
  have c_a1 := b_a.at1 b_a.lt_size (Nat.le_refl _)
  replace b_a := hide b_a
  go_enter Tryz.func36, Tryz.ntmps36
  go_wp2_with fail
  rw [← hW]
  clear hW
  refine (isign_any _ _ _ _ _ _ _ R_a.out (Nat.le_refl _)).mono ?_
  rw [e_k.out]
  rintro e w1 ⟨rfl, hb⟩
  replace R_a := hide (Rd.then_ R_a.out hb)
  have U1 : Below W.heap.size W w1 := Below.then_ U0 hb
  replace B := hide (Below.then_ B.out hb)
  clear hb
  go_wp2
  go_ret
  exact ⟨rfl, B.out⟩

set_option maxHeartbeats 4000000 in
theorem chooses_3e {w : World} {Bd : Nat} {A_a : Option Addr} {c_a : Nat} {z : Int} {k : Int} (h_a : Rd w Bd A_a (dig (zmag z)).length c_a (dig (zmag z))) (_g_a : (dig (zmag z)).length ≤ 10000000000) (hB : Bd ≤ w.heap.size) (hk : sgn z = k) :
    Calls Tryz.prog 36 #[.agg #[.bool (zneg z), .slice A_a (dig (zmag z)).length c_a], .int .i64 (0), .int .i64 3] w (RetB w (.bool (decide (k < 0)))) := by
  have e_k : sgn (iv (zneg z) (val (dig (zmag z)))) = k := by rw [ivz]; exact hk
  replace e_k := hide e_k
  clear hk
  obtain ⟨b, hb⟩ : ∃ b, decide (k < 0) = b := ⟨_, rfl⟩
  rw [hb]
  obtain ⟨W, hW⟩ : ∃ W, W = (w.alloc (.cells #[.bool (zneg z), .slice A_a (dig (zmag z)).length c_a] 25)) := ⟨_, rfl⟩
  have b_a : Box W (w.heap.size) (.bool (zneg z)) (.slice A_a (dig (zmag z)).length c_a) := by rw [hW]; exact (Box.new w _ _ rfl)
  have hwW : Below w.heap.size w W := by rw [hW]; exact ((Below.refl _ _).alloc (Nat.le_refl _) _)
  have R_a := hide (Rd.upto h_a hwW hB)
  clear h_a
  have B := hide hwW
  clear hwW
  clear hB
  have U0 : Below W.heap.size W W := Below.refl _ _
  have c_a0 := b_a.at0 b_a.lt_size (Nat.le_refl _)
  have c_a1 := b_a.at1 b_a.lt_size (Nat.le_refl _)
  replace b_a := hide b_a
  go_enter Tryz.func36, Tryz.ntmps36
  go_wp2_with fail
  rw [← hW]
  clear hW
  refine (isign_any _ _ _ _ _ _ _ R_a.out (Nat.le_refl _)).mono ?_
  rw [e_k.out]
  rintro e w1 ⟨rfl, hb⟩
  replace R_a := hide (Rd.then_ R_a.out hb)
  have U1 : Below W.heap.size W w1 := Below.then_ U0 hb
  replace B := hide (Below.then_ B.out hb)
  clear hb
  go_wp2
  go_ret
  exact ⟨rfl, B.out⟩

set_option maxHeartbeats 4000000 in
theorem chooses_3g {w : World} {Bd : Nat} {A_a : Option Addr} {c_a : Nat} {z : Int} {k : Int} (h_a : Rd w Bd A_a (dig (zmag z)).length c_a (dig (zmag z))) (_g_a : (dig (zmag z)).length ≤ 10000000000) (hB : Bd ≤ w.heap.size) (hk : sgn z = k) :
    Calls Tryz.prog 36 #[.agg #[.bool (zneg z), .slice A_a (dig (zmag z)).length c_a], .int .i64 (1), .int .i64 3] w (RetB w (.bool (true))) := by
  have e_k : sgn (iv (zneg z) (val (dig (zmag z)))) = k := by rw [ivz]; exact hk
  replace e_k := hide e_k
  clear hk
  obtain ⟨b, hb⟩ : ∃ b, decide (k < 0) = b := ⟨_, rfl⟩
  skip
  obtain ⟨W, hW⟩ : ∃ W, W = (w.alloc (.cells #[.bool (zneg z), .slice A_a (dig (zmag z)).length c_a] 25)) := ⟨_, rfl⟩
  have b_a : Box W (w.heap.size) (.bool (zneg z)) (.slice A_a (dig (zmag z)).length c_a) := by rw [hW]; exact (Box.new w _ _ rfl)
  have hwW : Below w.heap.size w W := by rw [hW]; exact ((Below.refl _ _).alloc (Nat.le_refl _) _)
  have R_a := hide (Rd.upto h_a hwW hB)
  clear h_a
  have B := hide hwW
  clear hwW
  clear hB
  have U0 : Below W.heap.size W W := Below.refl _ _
  have c_a0 := b_a.at0 b_a.lt_size (Nat.le_refl _)
  have c_a1 := b_a.at1 b_a.lt_size (Nat.le_refl _)
  replace b_a := hide b_a
  go_enter Tryz.func36, Tryz.ntmps36
  go_wp2_with fail
  rw [← hW]
  clear hW
  refine (isign_any _ _ _ _ _ _ _ R_a.out (Nat.le_refl _)).mono ?_
  rw [e_k.out]
  rintro e w1 ⟨rfl, hb⟩
  replace R_a := hide (Rd.then_ R_a.out hb)
  have U1 : Below W.heap.size W w1 := Below.then_ U0 hb
  replace B := hide (Below.then_ B.out hb)
  clear hb
  go_wp2
  go_ret
  exact ⟨rfl, B.out⟩

set_option maxHeartbeats 4000000 in
theorem chooses_4 {w : World} {Bd : Nat} {A_a : Option Addr} {c_a : Nat} {z : Int} {k : Int} (h_a : Rd w Bd A_a (dig (zmag z)).length c_a (dig (zmag z))) (_g_a : (dig (zmag z)).length ≤ 10000000000) (hB : Bd ≤ w.heap.size) {h : Int} (hk : sgn z = k) :
    Calls Tryz.prog 36 #[.agg #[.bool (zneg z), .slice A_a (dig (zmag z)).length c_a], .int .i64 h, .int .i64 4] w (RetB w (.bool (!decide (k < 0)))) := by
  have e_k : sgn (iv (zneg z) (val (dig (zmag z)))) = k := by rw [ivz]; exact hk
  replace e_k := hide e_k
  clear hk
  obtain ⟨b, hb⟩ : ∃ b, decide (k < 0) = b := ⟨_, rfl⟩
  rw [hb]
  obtain ⟨W, hW⟩ : ∃ W, W = (w.alloc (.cells #[.bool (zneg z), .slice A_a (dig (zmag z)).length c_a] 25)) := ⟨_, rfl⟩
  have b_a : Box W (w.heap.size) (.bool (zneg z)) (.slice A_a (dig (zmag z)).length c_a) := by rw [hW]; exact (Box.new w _ _ rfl)
  have hwW : Below w.heap.size w W := by rw [hW]; exact ((Below.refl _ _).alloc (Nat.le_refl _) _)
  have R_a := hide (Rd.upto h_a hwW hB)
  clear h_a
  have B := hide hwW
  clear hwW
  clear hB
  have U0 : Below W.heap.size W W := Below.refl _ _
  have c_a0 := b_a.at0 b_a.lt_size (Nat.le_refl _)
  have c_a1 := b_a.at1 b_a.lt_size (Nat.le_refl _)
  replace b_a := hide b_a
  go_enter Tryz.func36, Tryz.ntmps36
  go_wp2_with fail
  rw [← hW]
  clear hW
  refine (isign_any _ _ _ _ _ _ _ R_a.out (Nat.le_refl _)).mono ?_
  rw [e_k.out]
  rintro e w1 ⟨rfl, hb⟩
  replace R_a := hide (Rd.then_ R_a.out hb)
  have U1 : Below W.heap.size W w1 := Below.then_ U0 hb
  replace B := hide (Below.then_ B.out hb)
  clear hb
  go_wp2
  go_ret
  exact ⟨rfl, B.out⟩

set_option maxHeartbeats 4000000 in
theorem chooses_5 {w : World} {Bd : Nat} {A_a : Option Addr} {c_a : Nat} {z : Int} {k : Int} (h_a : Rd w Bd A_a (dig (zmag z)).length c_a (dig (zmag z))) (_g_a : (dig (zmag z)).length ≤ 10000000000) (hB : Bd ≤ w.heap.size) {h : Int} (hk : sgn z = k) :
    Calls Tryz.prog 36 #[.agg #[.bool (zneg z), .slice A_a (dig (zmag z)).length c_a], .int .i64 h, .int .i64 5] w (RetB w (.bool (decide (k < 0)))) := by
  have e_k : sgn (iv (zneg z) (val (dig (zmag z)))) = k := by rw [ivz]; exact hk
  replace e_k := hide e_k
  clear hk
  obtain ⟨b, hb⟩ : ∃ b, decide (k < 0) = b := ⟨_, rfl⟩
  rw [hb]
  obtain ⟨W, hW⟩ : ∃ W, W = (w.alloc (.cells #[.bool (zneg z), .slice A_a (dig (zmag z)).length c_a] 25)) := ⟨_, rfl⟩
  have b_a : Box W (w.heap.size) (.bool (zneg z)) (.slice A_a (dig (zmag z)).length c_a) := by rw [hW]; exact (Box.new w _ _ rfl)
  have hwW : Below w.heap.size w W := by rw [hW]; exact ((Below.refl _ _).alloc (Nat.le_refl _) _)
  have R_a := hide (Rd.upto h_a hwW hB)
  clear h_a
  have B := hide hwW
  clear hwW
  clear hB
  have U0 : Below W.heap.size W W := Below.refl _ _
  have c_a0 := b_a.at0 b_a.lt_size (Nat.le_refl _)
  have c_a1 := b_a.at1 b_a.lt_size (Nat.le_refl _)
  replace b_a := hide b_a
  go_enter Tryz.func36, Tryz.ntmps36
  go_wp2_with fail
  rw [← hW]
  clear hW
  refine (isign_any _ _ _ _ _ _ _ R_a.out (Nat.le_refl _)).mono ?_
  rw [e_k.out]
  rintro e w1 ⟨rfl, hb⟩
  replace R_a := hide (Rd.then_ R_a.out hb)
  have U1 : Below W.heap.size W w1 := Below.then_ U0 hb
  replace B := hide (Below.then_ B.out hb)
  clear hb
  go_wp2
  go_ret
  exact ⟨rfl, B.out⟩

set_option maxHeartbeats 4000000 in
theorem chooses_6 {w : World} {Bd : Nat} {A_a : Option Addr} {c_a : Nat} {z : Int} {k : Int} (h_a : Rd w Bd A_a (dig (zmag z)).length c_a (dig (zmag z))) (_g_a : (dig (zmag z)).length ≤ 10000000000) (hB : Bd ≤ w.heap.size) {h : Int} (hk : sgn z = k) :
    Calls Tryz.prog 36 #[.agg #[.bool (zneg z), .slice A_a (dig (zmag z)).length c_a], .int .i64 h, .int .i64 6] w (RetB w (.bool (false))) := by
  have e_k : sgn (iv (zneg z) (val (dig (zmag z)))) = k := by rw [ivz]; exact hk
  replace e_k := hide e_k
  clear hk
  obtain ⟨b, hb⟩ : ∃ b, decide (k < 0) = b := ⟨_, rfl⟩
  skip
  obtain ⟨W, hW⟩ : ∃ W, W = (w.alloc (.cells #[.bool (zneg z), .slice A_a (dig (zmag z)).length c_a] 25)) := ⟨_, rfl⟩
  have b_a : Box W (w.heap.size) (.bool (zneg z)) (.slice A_a (dig (zmag z)).length c_a) := by rw [hW]; exact (Box.new w _ _ rfl)
  have hwW : Below w.heap.size w W := by rw [hW]; exact ((Below.refl _ _).alloc (Nat.le_refl _) _)
  have R_a := hide (Rd.upto h_a hwW hB)
  clear h_a
  have B := hide hwW
  clear hwW
  clear hB
  have U0 : Below W.heap.size W W := Below.refl _ _
  have c_a0 := b_a.at0 b_a.lt_size (Nat.le_refl _)
  have c_a1 := b_a.at1 b_a.lt_size (Nat.le_refl _)
  replace b_a := hide b_a
  go_enter Tryz.func36, Tryz.ntmps36
  go_wp2_with fail
  rw [← hW]
  clear hW
  refine (isign_any _ _ _ _ _ _ _ R_a.out (Nat.le_refl _)).mono ?_
  rw [e_k.out]
  rintro e w1 ⟨rfl, hb⟩
  replace R_a := hide (Rd.then_ R_a.out hb)
  have U1 : Below W.heap.size W w1 := Below.then_ U0 hb
  replace B := hide (Below.then_ B.out hb)
  clear hb
  go_wp2
  go_ret
  exact ⟨rfl, B.out⟩

set_option maxHeartbeats 4000000 in
theorem chooses_7 {w : World} {Bd : Nat} {A_a : Option Addr} {c_a : Nat} {z : Int} {k : Int} (h_a : Rd w Bd A_a (dig (zmag z)).length c_a (dig (zmag z))) (_g_a : (dig (zmag z)).length ≤ 10000000000) (hB : Bd ≤ w.heap.size) {h : Int} (hk : sgn z = k) :
    Calls Tryz.prog 36 #[.agg #[.bool (zneg z), .slice A_a (dig (zmag z)).length c_a], .int .i64 h, .int .i64 7] w (RetB w (.bool (true))) := by
  have e_k : sgn (iv (zneg z) (val (dig (zmag z)))) = k := by rw [ivz]; exact hk
  replace e_k := hide e_k
  clear hk
  obtain ⟨b, hb⟩ : ∃ b, decide (k < 0) = b := ⟨_, rfl⟩
  skip
  obtain ⟨W, hW⟩ : ∃ W, W = (w.alloc (.cells #[.bool (zneg z), .slice A_a (dig (zmag z)).length c_a] 25)) := ⟨_, rfl⟩
  have b_a : Box W (w.heap.size) (.bool (zneg z)) (.slice A_a (dig (zmag z)).length c_a) := by rw [hW]; exact (Box.new w _ _ rfl)
  have hwW : Below w.heap.size w W := by rw [hW]; exact ((Below.refl _ _).alloc (Nat.le_refl _) _)
  have R_a := hide (Rd.upto h_a hwW hB)
  clear h_a
  have B := hide hwW
  clear hwW
  clear hB
  have U0 : Below W.heap.size W W := Below.refl _ _
  have c_a0 := b_a.at0 b_a.lt_size (Nat.le_refl _)
  have c_a1 := b_a.at1 b_a.lt_size (Nat.le_refl _)
  replace b_a := hide b_a
  go_enter Tryz.func36, Tryz.ntmps36
  go_wp2_with fail
  rw [← hW]
  clear hW
  refine (isign_any _ _ _ _ _ _ _ R_a.out (Nat.le_refl _)).mono ?_
  rw [e_k.out]
  rintro e w1 ⟨rfl, hb⟩
  replace R_a := hide (Rd.then_ R_a.out hb)
  have U1 : Below W.heap.size W w1 := Below.then_ U0 hb
  replace B := hide (Below.then_ B.out hb)
  clear hb
  go_wp2
  go_ret
  exact ⟨rfl, B.out⟩

theorem chooses_any {w : World} {Bd : Nat} {A : Option Addr} {c : Nat} {z h m : Int} (H : Rd w Bd A (dig (zmag z)).length c (dig (zmag z))) (g : (dig (zmag z)).length ≤ 10000000000) (hB : Bd ≤ w.heap.size) (h1 : 1 ≤ m) (h7 : m ≤ 7) (hh : h = -1 ∨ h = 0 ∨ h = 1) {b : Bool} (hb : upd m (decide (z < 0)) (oddz z) h = b) :
    Calls Tryz.prog 36 #[.agg #[.bool (zneg z), .slice A (dig (zmag z)).length c], .int .i64 h, .int .i64 m] w (RetB w (.bool b)) := by
  have hs : decide (z < 0) = decide (sgn z < 0) := decide_eq_decide.2 (by rcases sgn_three z with ⟨a, b⟩ | ⟨a, b⟩ | ⟨a, b⟩ <;> omega)
  rw [hs] at hb
  have hm : m = 1 ∨ m = 2 ∨ m = 3 ∨ m = 4 ∨ m = 5 ∨ m = 6 ∨ m = 7 := by omega
  rcases hm with rfl | rfl | rfl | rfl | rfl | rfl | rfl
  · rcases hh with rfl | rfl | rfl
    · subst hb; exact chooses_1l H g hB rfl
    · subst hb; exact chooses_1e H g hB rfl
    · subst hb; exact chooses_1g H g hB rfl
  · rcases hh with rfl | rfl | rfl
    · subst hb; exact chooses_2l H g hB rfl
    · subst hb; exact chooses_2e H g hB rfl
    · subst hb; exact chooses_2g H g hB rfl
  · rcases hh with rfl | rfl | rfl
    · subst hb; exact chooses_3l H g hB rfl
    · subst hb; exact chooses_3e H g hB rfl
    · subst hb; exact chooses_3g H g hB rfl
  · subst hb; exact chooses_4 H g hB rfl
  · subst hb; exact chooses_5 H g hB rfl
  · subst hb; exact chooses_6 H g hB rfl
  · subst hb; exact chooses_7 H g hB rfl
end
end Go.Proofs.YtdlmfembnmomjaaGreatDoor
